/- Our own text (GPlB, GRoomA). -/
import Derived.Test.YtnkpogjiiohapaaGreatDoorA25
import Derived.Test.YtnkpogjiiohapaaGreatDoorA19
set_option linter.unusedSimpArgs false
set_option linter.unusedVariables false

/-! GPlB: Plain: operations in whatever order, each with an Id of its own: the two documents say the same behind all of them. -/
namespace Go.Proofs.YtnkpogjiiohapaaGreatDoor
open Go.RowKit

/-- All that a document names comes of these Ids. -/
structure InR (R : List PObj) (I : List PId) : Prop where
  obj : ∀ x o, objOf R x = some o → x = (0, 0) ∨ x ∈ I
  slot : ∀ x o, objOf R x = some o → ∀ s ∈ o.ss, s.id = (0, 0) ∨ s.id ∈ I
  giver : ∀ x o, objOf R x = some o → ∀ s ∈ o.ss, ∀ h ∈ s.hs, h.giver ∈ I

theorem mem_modifyG {α : Type} {f : α → α} {x : α} : ∀ {l : List α} {k : Nat}, x ∈ l.modify k f → x ∈ l ∨ ∃ y ∈ l, x = f y
  | [], k, h => by simp at h
  | a :: l, 0, h => by
    simp only [List.modify_zero_cons, List.mem_cons] at h
    rcases h with rfl | h
    · exact .inr ⟨a, List.mem_cons_self, rfl⟩
    · exact .inl (List.mem_cons_of_mem _ h)
  | a :: l, k + 1, h => by
    simp only [List.modify_succ_cons, List.mem_cons] at h
    rcases h with rfl | h
    · exact .inl List.mem_cons_self
    · rcases mem_modifyG h with h | ⟨y, hy, e⟩
      · exact .inl (List.mem_cons_of_mem _ h)
      · exact .inr ⟨y, List.mem_cons_of_mem _ hy, e⟩
theorem new_giver {old : List PId} {hs : List PHeld} {kind : Int} {y h : PHeld} (hm : h ∈ newHelds old hs kind y) : h ∈ hs ∨ h = y := by
  unfold newHelds at hm
  rcases List.mem_append.1 hm with hm | hm
  · exact .inl (List.mem_filter.1 hm).1
  · split at hm
    · exact .inr (by simpa using hm)
    · cases hm
theorem laid_memG {l : List PSlot} {b x : PId} {s : PSlot} (h : s ∈ laidP l b x) : s ∈ l ∨ s = pslot0 ⟨#[]⟩ x := by
  have hins : ∀ n, s ∈ pinsAt l n (pslot0 ⟨#[]⟩ x) → s ∈ l ∨ s = pslot0 ⟨#[]⟩ x := fun n hm => by
    unfold pinsAt at hm
    rcases List.mem_append.1 hm with hm | hm
    · exact .inl (List.mem_of_mem_take hm)
    · rcases List.mem_cons.1 hm with rfl | hm
      · exact .inr rfl
      · exact .inl (List.mem_of_mem_drop hm)
  unfold laidP at h
  split at h
  · exact hins _ h
  · split at h
    · exact .inl h
    · exact hins _ h
/-- What a slot behind an operation is. -/
theorem does_slot {p : POp} {o : PObj} {s : PSlot} (h : s ∈ (doesAt p o).ss) : (s.id = p.id ∧ s.hs = []) ∨ ((s.id = (0, 0) ∨ ∃ s0 ∈ o.ss, s0.id = s.id ∧ ∀ x ∈ s.hs, x ∈ s0.hs ∨ x = p.held) ∧ ((∃ s0 ∈ o.ss, ∀ x ∈ s.hs, x ∈ s0.hs ∨ x = p.held) ∨ ∀ x ∈ s.hs, x = p.held)) := by
  unfold doesAt at h
  split at h
  · split at h
    · rcases laid_memG h with h | rfl
      · exact .inr ⟨.inr ⟨s, h, rfl, fun x hx => .inl hx⟩, .inl ⟨s, h, fun x hx => .inl hx⟩⟩
      · exact .inl ⟨rfl, rfl⟩
    · exact .inr ⟨.inr ⟨s, h, rfl, fun x hx => .inl hx⟩, .inl ⟨s, h, fun x hx => .inl hx⟩⟩
  · split at h
    · unfold valuedP at h
      simp only at h
      split at h
      · split at h
        · exact .inr ⟨.inr ⟨s, h, rfl, fun x hx => .inl hx⟩, .inl ⟨s, h, fun x hx => .inl hx⟩⟩
        · rcases List.mem_append.1 h with h | h
          · exact .inr ⟨.inr ⟨s, h, rfl, fun x hx => .inl hx⟩, .inl ⟨s, h, fun x hx => .inl hx⟩⟩
          · obtain rfl := List.mem_singleton.1 h
            refine .inr ⟨.inl rfl, .inr fun x hx => ?_⟩
            rcases new_giver hx with hx | hx
            · cases hx
            · exact hx
      · rcases mem_modifyG h with h | ⟨s0, h0, rfl⟩
        · exact .inr ⟨.inr ⟨s, h, rfl, fun x hx => .inl hx⟩, .inl ⟨s, h, fun x hx => .inl hx⟩⟩
        · exact .inr ⟨.inr ⟨s0, h0, rfl, fun x hx => new_giver hx⟩, .inl ⟨s0, h0, fun x hx => new_giver hx⟩⟩
    · exact .inr ⟨.inr ⟨s, h, rfl, fun x hx => .inl hx⟩, .inl ⟨s, h, fun x hx => .inl hx⟩⟩
theorem InR.does {R : List PObj} {I : List PId} (h : InR R I) (p : POp) : InR (doesP R p) (p.id :: I) := by
  by_cases hk : p.kind = 1
  · have hm : ∀ x o, objOf (doesP R p) x = some o → objOf R x = some o ∨ (x = p.id ∧ o.ss = []) := fun x o ho => by
      rw [make_obj hk] at ho
      cases hx : objOf R x with
      | some o' => rw [hx] at ho; exact .inl ho
      | none =>
        rw [hx] at ho
        simp only at ho
        split at ho
        · rename_i e
          cases ho
          exact .inr ⟨e, rfl⟩
        · cases ho
    refine ⟨fun x o ho => ?_, fun x o ho s hs => ?_, fun x o ho s hs y hy => ?_⟩
    · rcases hm x o ho with ho | ⟨rfl, _⟩
      · exact (h.obj x o ho).imp id (List.mem_cons_of_mem _)
      · exact .inr List.mem_cons_self
    · rcases hm x o ho with ho | ⟨_, e⟩
      · exact (h.slot x o ho s hs).imp id (List.mem_cons_of_mem _)
      · rw [e] at hs; cases hs
    · rcases hm x o ho with ho | ⟨_, e⟩
      · exact List.mem_cons_of_mem _ (h.giver x o ho s hs y hy)
      · rw [e] at hs; cases hs
  · have hm : ∀ x o, objOf (doesP R p) x = some o → ∃ o', objOf R x = some o' ∧ (o = o' ∨ o = doesAt p o') := fun x o ho => by
      rw [does_obj hk] at ho
      split at ho
      · cases hx : objOf R x with
        | none => rw [hx] at ho; cases ho
        | some o' => rw [hx] at ho; exact ⟨o', rfl, .inr (by simpa using ho.symm)⟩
      · exact ⟨o, ho, .inl rfl⟩
    refine ⟨fun x o ho => ?_, fun x o ho s hs => ?_, fun x o ho s hs y hy => ?_⟩
    · obtain ⟨o', ho', _⟩ := hm x o ho
      exact (h.obj x o' ho').imp id (List.mem_cons_of_mem _)
    · obtain ⟨o', ho', e | e⟩ := hm x o ho
      · subst e
        exact (h.slot x _ ho' s hs).imp id (List.mem_cons_of_mem _)
      · subst e
        rcases does_slot hs with ⟨e, _⟩ | ⟨e | ⟨s0, h0, e, _⟩, _⟩
        · exact .inr (e ▸ List.mem_cons_self)
        · exact .inl e
        · rw [← e]
          exact (h.slot x _ ho' s0 h0).imp id (List.mem_cons_of_mem _)
    · obtain ⟨o', ho', e | e⟩ := hm x o ho
      · subst e
        exact List.mem_cons_of_mem _ (h.giver x _ ho' s hs y hy)
      · subst e
        rcases does_slot hs with ⟨_, e⟩ | ⟨_, ⟨s0, h0, hx⟩ | hx⟩
        · rw [e] at hy; cases hy
        · rcases hx y hy with hy | rfl
          · exact List.mem_cons_of_mem _ (h.giver x _ ho' s0 h0 y hy)
          · exact List.mem_cons_self
        · rw [hx y hy]; exact List.mem_cons_self
theorem does_keepsG {R : List PObj} (p : POp) {x : PId} (h : ∃ o, objOf R x = some o) : ∃ o, objOf (doesP R p) x = some o := by
  obtain ⟨o, h⟩ := h
  by_cases hk : p.kind = 1
  · rw [make_obj hk, h]; exact ⟨o, rfl⟩
  · rw [does_obj hk, h]
    split
    · exact ⟨_, rfl⟩
    · exact ⟨_, rfl⟩
theorem does_makes {R : List PObj} {p : POp} (hk : p.kind = 1) : ∃ o, objOf (doesP R p) p.id = some o := by
  rw [make_obj hk]
  cases objOf R p.id with
  | some o => exact ⟨o, rfl⟩
  | none => exact ⟨_, if_pos rfl⟩

/-- Operations each of which is new; M: the objects that are there. -/
def OpsOk : List PId → List PId → List POp → Prop
  | _, _, [] => True
  | I, M, p :: S => (p.kind = 1 ∨ p.kind = 2 ∨ p.kind = 3 ∨ p.kind = 4) ∧ p.id ≠ (0, 0) ∧ p.id ∉ I ∧ (p.kind = 3 ∨ p.kind = 4 → p.key ≠ ⟨#[]⟩ → p.element = (0, 0)) ∧ (p.kind = 3 → p.obj ∈ M) ∧ OpsOk (p.id :: I) (if p.kind = 1 then p.id :: M else M) S

theorem Agree.all : ∀ (S : List POp) (ns : Nat → Int) (R : List PObj) (D D' : QDoc) (I M : List PId), Agree R D → QNd D → InR R I → (∀ x ∈ M, ∃ o, objOf R x = some o) → OpsOk I M S → DoTo D ((List.range S.length).map fun i => qopOf (S.getD i ⟨(0, 0), 0, false, (0, 0), ⟨#[]⟩, (0, 0), (0, 0), 0, (0, 0), []⟩) (ns i)) D' → Agree (S.foldl doesP R) D' ∧ QNd D'
  | [], ns, R, D, D', I, M, h, hn, _, _, _, hd => by
    have e : D' = D := hd
    exact ⟨e ▸ h, e ▸ hn⟩
  | p :: S, ns, R, D, D', I, M, h, hn, hI, hM, hok, hd => by
    rw [List.length_cons, List.range_succ_eq_map, List.map_cons, List.map_map] at hd
    obtain ⟨D1, h1, h2⟩ := hd
    simp only [List.getD_cons_zero] at h1
    have hf : Fresh R p := ⟨hok.1, fun _ => by
        cases ho : objOf R p.id with
        | none => rfl
        | some o => rcases hI.obj _ _ ho with e | e
                    · exact absurd e hok.2.1
                    · exact absurd e hok.2.2.1,
      fun _ => ⟨hok.2.1, fun x o ho hm => by
        obtain ⟨s, hs, e⟩ := List.mem_map.1 hm
        rcases hI.slot x o ho s hs with e' | e'
        · exact hok.2.1 (e.symm.trans e')
        · exact hok.2.2.1 (e ▸ e')⟩, hok.2.2.2.1, fun _ x o ho s hs y hy e => hok.2.2.1 (e ▸ hI.giver x o ho s hs y hy), fun hk => hM _ (hok.2.2.2.2.1 hk)⟩
    refine Agree.all S (fun i => ns (i + 1)) (doesP R p) D1 D' (p.id :: I) (if p.kind = 1 then p.id :: M else M) (h.any hn hf h1) (hn.step h1) (hI.does p) (fun x hx => ?_) hok.2.2.2.2.2 ?_
    · split at hx
      · rename_i hk
        rcases List.mem_cons.1 hx with rfl | hx
        · exact does_makes hk
        · exact does_keepsG p (hM x hx)
      · exact does_keepsG p (hM x hx)
    · simpa [Function.comp_def] using h2

end Go.Proofs.YtnkpogjiiohapaaGreatDoor

/-! GRoomA: The program's room in general: its copies, its links, what waits on them. -/
namespace Go.Proofs.YtnkpogjiiohapaaGreatDoor
open Go.RowKit

/-- A room, plainly: of each copy its greatest counter, how many it has of each, its operations (those that it has forgotten, those that it keeps), what waits with it, what it knows that others have; of each link what waits on it. -/
structure RoomS where
  gt : Nat → Int
  has : Nat → Nat → Int
  ops : Nat → List MOp
  gone : Nat → List MOp
  kept : Nat → List MOp
  early : Nat → List (PId × MOp)
  nw : Nat → Nat → Nat → Int
  ms : Nat → Nat → List Msg
/-- What it is made of. -/
structure RoomX where
  gC : Nat
  cC : Nat
  bl : Nat
  lm : List (PId × Nat)
  rbs : Nat → Nat
  Fc : Nat → Nat → Prop
  q : Nat → RQ
  gl : Nat → Nat → Nat
  gc : Nat → Nat → Nat
  vals : Nat → Nat → List Value
  sn : Nat → Nat → Nat
  rn : Nat → Nat → Nat
def ptrV (k : Nat) : Value := .pointer (some ⟨k, 0, none⟩)
theorem upd_self {α : Type} (f : Nat → α) (c : Nat) : upd f c (f c) = f := by
  funext i
  unfold upd
  split
  · rename_i e; rw [e]
  · rfl
/-- What the forgotten operations make of the root. -/
def GoneD (gone : List MOp) (D0 : BDoc) : Prop := Agree rootP D0.1 ∧ QNd D0.1 ∧ (∀ p ∈ D0.1.1, p.2.ks = []) ∧ D0.2 = gone.map (·.op)

/-- THE ROOM. -/
structure RoomM (w : World) (r : Nat) (F I : Nat → Prop) (N sp : Nat) (s : RoomS) (x : RoomX) : Prop where
  blk : w.heap[r]? = some (.cells #[.slice (some ⟨x.gC, 0, none⟩) N x.cC, .map (some x.bl)] 119 (0, 0))
  row : w.ownsRow 0 92 1 (.slice (some ⟨x.gC, 0, none⟩) N x.cC) N ((List.range N).flatMap fun c => ptrC (x.rbs c))
  hN : N ≤ 4
  reps : ∀ c, c < N → RepM w (x.rbs c) (x.Fc c) I N sp c (s.gt c) (s.has c) (s.kept c) (s.early c) (x.q c)
  ag : ∀ c, c < N → GoneD (s.gone c) (x.q c).D0
  spl : ∀ c, c < N → s.ops c = s.gone c ++ s.kept c
  nk : ∀ c d, c < N → d < N → c ≠ d → ∃ g, lookI (d : Int) (x.q c).ns = some g ∧ ∀ i, i < N → rowOf ((x.q c).nv g) i = s.nw c d i
  nj : ∀ c, c < N → (∀ d d' g, lookI d (x.q c).ns = some g → lookI d' (x.q c).ns = some g → d = d') ∧ (∀ p ∈ (x.q c).ns, ∃ d : Nat, d < N ∧ d ≠ c ∧ p.1 = (d : Int)) ∧ ((x.q c).ns.map (·.1)).Nodup
  lmap : ∃ es clk, isMap idV ptrV w x.bl x.lm es clk
  look : ∀ c d, c < N → d < N → c ≠ d → lookI ((c : Int), (d : Int)) x.lm = some (x.gl c d)
  nolk : ∀ a b : Int, (¬ ∃ c d : Nat, c < N ∧ d < N ∧ c ≠ d ∧ a = c ∧ b = d) → lookI (a, b) x.lm = none
  link : ∀ c d, c < N → d < N → c ≠ d → isLink w (x.gl c d) (x.gc c d) (x.vals c d) false (x.sn c d) (x.rn c d)
  mss : ∀ c d, c < N → d < N → c ≠ d → All2 (msgV w I) (s.ms c d) (x.vals c d)
  inj : ∀ c d c' d', c < N → d < N → c ≠ d → c' < N → d' < N → c' ≠ d' → x.gc c d = x.gc c' d' → c = c' ∧ d = d'
  sub : ∀ c, c < N → ∀ k, x.Fc c k → F k
  dis : ∀ c c', c < N → c' < N → c ≠ c' → ∀ k, x.Fc c k → ¬ x.Fc c' k
  nr : ∀ c, c < N → ¬ x.Fc c r
  nC : ∀ c, c < N → ¬ x.Fc c x.gC
  nb : ∀ c, c < N → ¬ x.Fc c x.bl
  nl : ∀ e, e < N → ∀ c d, c < N → d < N → c ≠ d → ¬ x.Fc e (x.gl c d) ∧ ¬ x.Fc e (x.gc c d)
  fr : F r
  fC : F x.gC
  fb : F x.bl
  fl : ∀ c d, c < N → d < N → c ≠ d → F (x.gl c d) ∧ F (x.gc c d)
  lt : ∀ k, F k → k < w.heap.size
  nI : ∀ k, I k → ¬ F k
  iI : ∀ k, I k → k < w.heap.size

theorem flatP (f : Nat → Nat) (n k : Nat) (hk : k < n) : ((List.range n).flatMap fun c => ptrC (f c))[k]? = some (.pointer (some ⟨f k, 0, none⟩)) := by
  have : ((List.range n).flatMap fun c => ptrC (f c)) = (List.range n).map fun c => Value.pointer (some ⟨f c, 0, none⟩) := by
    unfold ptrC
    exact List.map_eq_flatMap.symm
  rw [this]
  simp [hk]
theorem All2.imp {α β : Type} {R R' : α → β → Prop} (h : ∀ a b, R a b → R' a b) : ∀ {l : List α} {m : List β}, All2 R l m → All2 R' l m
  | [], [], _ => trivial
  | [], _ :: _, h2 => h2.elim
  | _ :: _, [], h2 => h2.elim
  | _ :: _, _ :: _, h2 => ⟨h _ _ h2.1, All2.imp h h2.2⟩
theorem isLink.keepB {w w' : World} {gl gc : Nat} {l : List Value} {shut : Bool} {s r : Nat} (h : isLink w gl gc l shut s r) (h1 : w'.heap[gl]? = w.heap[gl]?) (h2 : w'.heap[gc]? = w.heap[gc]?) : isLink w' gl gc l shut s r :=
  ⟨h1.trans h.blk, h2.trans h.ch, h.len⟩

section
theorem RoomM.keepF {w w' : World} {r : Nat} {F I : Nat → Prop} {N sp : Nat} {s : RoomS} {x : RoomX} (h : RoomM w r F I N sp s x) (hs : w.heap.size ≤ w'.heap.size) (hk : ∀ k, F k → w'.heap[k]? = w.heap[k]?) (hi : ∀ k, I k → w'.heap[k]? = w.heap[k]?) : RoomM w' r F I N sp s x := by
  obtain ⟨es, clk, hm⟩ := h.lmap
  exact ⟨by rw [hk _ h.fr]; exact h.blk, row_blk h.row (fun g hg => by cases hg; exact hk _ h.fC), h.hN, fun c hc => (h.reps c hc).keepF hs (fun k hF => hk k (h.sub c hc k hF)) hi, h.ag, h.spl, h.nk, h.nj, ⟨es, clk, hm.blockK (hk _ h.fb)⟩, h.look, h.nolk, fun c d hc hd hcd => (h.link c d hc hd hcd).keepB (hk _ (h.fl c d hc hd hcd).1) (hk _ (h.fl c d hc hd hcd).2), fun c d hc hd hcd => (h.mss c d hc hd hcd).imp fun m u hm => hm.keepI hi hs (fun _ y => y), h.inj, h.sub, h.dis, h.nr, h.nC, h.nb, h.nl, h.fr, h.fC, h.fb, h.fl, fun k hF => Nat.lt_of_lt_of_le (h.lt k hF) hs, h.nI, fun k hF => Nat.lt_of_lt_of_le (h.iI k hF) hs⟩
theorem RoomM.keep {w w' : World} {r : Nat} {F I : Nat → Prop} {N sp : Nat} {s : RoomS} {x : RoomX} (h : RoomM w r F I N sp s x) (hb : Below w.heap.size w w') : RoomM w' r F I N sp s x := h.keepF hb.size (fun k hk => hb.block k (h.lt k hk)) (fun k hk => hb.block k (h.iI k hk))
theorem RoomM.cell {w : World} {r : Nat} {F I : Nat → Prop} {N sp : Nat} {s : RoomS} {x : RoomX} (h : RoomM w r F I N sp s x) {c : Nat} (hc : c < N) : w.cell? ⟨x.gC, c, none⟩ = some (.pointer (some ⟨x.rbs c, 0, none⟩)) := by
  have h1 := World.ownsRow.cellAt h.row c (by omega)
  rw [h1]; exact flatP x.rbs N c hc
theorem RoomM.cap {w : World} {r : Nat} {F I : Nat → Prop} {N sp : Nat} {s : RoomS} {x : RoomX} (h : RoomM w r F I N sp s x) : N ≤ x.cC ∧ x.cC ≤ maxLen := by
  obtain ⟨a, c, e, h1, h2, _⟩ := owns_form h.row
  cases e
  exact ⟨h1, h2⟩
/-- More stays. -/
theorem RoomM.moreI {w : World} {r : Nat} {F I : Nat → Prop} {N sp : Nat} {s : RoomS} {x : RoomX} (h : RoomM w r F I N sp s x) {I' : Nat → Prop} (hI : ∀ k, I k → I' k) (h1 : ∀ k, I' k → k < w.heap.size) (h2 : ∀ k, I' k → ¬ F k) : RoomM w r F I' N sp s x :=
  ⟨h.blk, h.row, h.hN, fun c hc => (h.reps c hc).moreI hI h1 fun k hk hF => h2 k hk (h.sub c hc k hF), h.ag, h.spl, h.nk, h.nj, h.lmap, h.look, h.nolk, h.link, fun c d hc hd hcd => (h.mss c d hc hd hcd).imp fun m u hm => hm.keepI (fun _ _ => rfl) (Nat.le_refl _) hI, h.inj, h.sub, h.dis, h.nr, h.nC, h.nb, h.nl, h.fr, h.fC, h.fb, h.fl, h.lt, h2, h1⟩

/-- ONE COPY IS ANOTHER. -/
theorem RoomM.copyToG {w w' : World} {r : Nat} {F I : Nat → Prop} {N sp : Nat} {s : RoomS} {x : RoomX} (h : RoomM w r F I N sp s x) {c : Nat} (hc : c < N) {F' I' : Nat → Prop} {gt' : Int} {has' : Nat → Int} {ops' gone' kept' : List MOp} {early' : List (PId × MOp)} {nw' : Nat → Nat → Int} {q' : RQ} (hr : RepM w' (x.rbs c) F' I' N sp c gt' has' kept' early' q') (hk : Keeps (x.Fc c) F' w w') (hI : ∀ k, I k → I' k) (hI2 : ∀ k, I' k → I k ∨ w.heap.size ≤ k) (hq0 : GoneD gone' q'.D0) (hsp : ops' = gone' ++ kept') (hqn : q'.ns = (x.q c).ns) (hqv : ∀ d, d < N → c ≠ d → ∀ g, lookI (d : Int) (x.q c).ns = some g → ∀ i, i < N → rowOf (q'.nv g) i = nw' d i) :
    ∃ x', RoomM w' r (fun k => F k ∨ F' k) I' N sp { s with gt := upd s.gt c gt', has := upd s.has c has', ops := upd s.ops c ops', gone := upd s.gone c gone', kept := upd s.kept c kept', early := upd s.early c early', nw := upd s.nw c nw' } x' ∧ Keeps F (fun k => F k ∨ F' k) w w' ∧ x'.rbs = x.rbs ∧ x'.gl = x.gl ∧ x'.gc = x.gc ∧ x'.vals = x.vals ∧ x'.q = upd x.q c q' := by
  have hb : ∀ k, k < w.heap.size → ¬ x.Fc c k → w'.heap[k]? = w.heap[k]? := hk.other
  have hi : ∀ k, I k → w'.heap[k]? = w.heap[k]? := fun k hI => hb k (h.iI k hI) fun hF => h.nI k hI (h.sub c hc k hF)
  obtain ⟨es, clk, hm⟩ := h.lmap
  have hFn : ∀ e, e < N → ∀ k, (if e = c then F' else x.Fc e) k → x.Fc e k ∨ w.heap.size ≤ k := fun e he k hF => by
    by_cases ec : e = c
    · subst ec
      simp only [if_true] at hF
      exact hk.sub k hF
    · simp only [ec, if_false] at hF
      exact .inl hF
  refine ⟨{ x with Fc := fun e => if e = c then F' else x.Fc e, q := upd x.q c q' }, ⟨?_, row_blk h.row (fun g hg => by cases hg; exact hb x.gC (h.lt _ h.fC) (h.nC c hc)), h.hN, ?_, ?_, ?_, ?_, ?_, ⟨es, clk, hm.blockK (hb _ (h.lt _ h.fb) (h.nb c hc))⟩, h.look, h.nolk, fun a b ha hb' hab => (h.link a b ha hb' hab).keepB (hb _ (h.lt _ (h.fl a b ha hb' hab).1) (h.nl c hc a b ha hb' hab).1) (hb _ (h.lt _ (h.fl a b ha hb' hab).2) (h.nl c hc a b ha hb' hab).2), fun a b ha hb' hab => (h.mss a b ha hb' hab).imp fun m u hm => hm.keepI hi hk.size hI, h.inj, ?_, ?_, ?_, ?_, ?_, ?_, .inl h.fr, .inl h.fC, .inl h.fb, fun a b ha hb' hab => ⟨.inl (h.fl a b ha hb' hab).1, .inl (h.fl a b ha hb' hab).2⟩, ?_, ?_, hr.iI⟩, ?_, rfl, rfl, rfl, rfl, rfl⟩
  · rw [hb r (h.lt _ h.fr) (h.nr c hc)]; exact h.blk
  · intro e he
    by_cases ec : e = c
    · subst ec
      simp only [upd_same, if_true]
      exact hr
    · simp only [upd_ne _ _ ec, ec, if_false]
      refine ((h.reps e he).keepF hk.size (fun k hF => hb k ((h.reps e he).lt k hF) (h.dis e c he hc ec k hF)) hi).moreI hI hr.iI fun k hk' hF => ?_
      rcases hI2 k hk' with h1 | h1
      · exact h.nI k h1 (h.sub e he k hF)
      · have := (h.reps e he).lt k hF; omega
  · intro e he
    by_cases ec : e = c
    · subst ec
      simp only [upd_same]
      exact hq0
    · simp only [upd_ne _ _ ec]
      exact h.ag e he
  · intro e he
    by_cases ec : e = c
    · subst ec
      simp only [upd_same]
      exact hsp
    · simp only [upd_ne _ _ ec]
      exact h.spl e he
  · intro e f he hf hef
    by_cases ec : e = c
    · subst ec
      simp only [upd_same, hqn]
      obtain ⟨g, hg, _⟩ := h.nk e f he hf hef
      exact ⟨g, hg, hqv f hf hef g hg⟩
    · simp only [upd_ne _ _ ec]
      exact h.nk e f he hf hef
  · intro e he
    by_cases ec : e = c
    · subst ec
      simp only [upd_same, hqn]
      exact h.nj e he
    · simp only [upd_ne _ _ ec]
      exact h.nj e he
  · intro e he k hF
    rcases hFn e he k hF with h1 | h1
    · exact .inl (h.sub e he k h1)
    · by_cases ec : e = c
      · subst ec
        simp only [if_true] at hF
        exact .inr hF
      · simp only [ec, if_false] at hF
        exact .inl (h.sub e he k hF)
  · intro c1 c2 h1 h2 hne k hF1 hF2
    rcases hFn c1 h1 k hF1 with a1 | a1
    · rcases hFn c2 h2 k hF2 with a2 | a2
      · exact h.dis c1 c2 h1 h2 hne k a1 a2
      · have := (h.reps c1 h1).lt k a1; omega
    · rcases hFn c2 h2 k hF2 with a2 | a2
      · have := (h.reps c2 h2).lt k a2; omega
      · by_cases e1 : c1 = c
        · have e2 : ¬ c2 = c := fun e => hne (e1.trans e.symm)
          simp only [e2, if_false] at hF2
          have := (h.reps c2 h2).lt k hF2; omega
        · simp only [e1, if_false] at hF1
          have := (h.reps c1 h1).lt k hF1; omega
  · intro e he hF
    rcases hFn e he r hF with h1 | h1
    · exact h.nr e he h1
    · have := h.lt _ h.fr; omega
  · intro e he hF
    rcases hFn e he _ hF with h1 | h1
    · exact h.nC e he h1
    · have := h.lt _ h.fC
      simp only at h1
      omega
  · intro e he hF
    rcases hFn e he _ hF with h1 | h1
    · exact h.nb e he h1
    · have := h.lt _ h.fb
      simp only at h1
      omega
  · intro e he a b ha hb' hab
    refine ⟨fun hF => ?_, fun hF => ?_⟩
    · rcases hFn e he _ hF with h1 | h1
      · exact (h.nl e he a b ha hb' hab).1 h1
      · have := h.lt _ (h.fl a b ha hb' hab).1
        simp only at h1
        omega
    · rcases hFn e he _ hF with h1 | h1
      · exact (h.nl e he a b ha hb' hab).2 h1
      · have := h.lt _ (h.fl a b ha hb' hab).2
        simp only at h1
        omega
  · intro k hk'
    rcases hk' with hk' | hk'
    · exact Nat.lt_of_lt_of_le (h.lt k hk') hk.size
    · exact hr.lt k hk'
  · intro k hI' hF
    rcases hF with hF | hF
    · rcases hI2 k hI' with h1 | h1
      · exact h.nI k h1 hF
      · have := h.lt k hF; omega
    · exact hr.nI k hI' hF
  · exact ⟨hk.os, hk.tape, hk.output, hk.size, fun k hl hF => hb k hl fun h1 => hF (h.sub c hc k h1), fun k hk' => hk'.elim .inl fun h1 => (hk.sub k h1).imp (h.sub c hc k) id⟩

/-- The same, where nothing is forgotten and nothing is kept in mind. -/
theorem RoomM.copyTo {w w' : World} {r : Nat} {F I : Nat → Prop} {N sp : Nat} {s : RoomS} {x : RoomX} (h : RoomM w r F I N sp s x) {c : Nat} (hc : c < N) {F' I' : Nat → Prop} {gt' : Int} {has' : Nat → Int} {ops' kept' : List MOp} {early' : List (PId × MOp)} {q' : RQ} (hr : RepM w' (x.rbs c) F' I' N sp c gt' has' kept' early' q') (hk : Keeps (x.Fc c) F' w w') (hI : ∀ k, I k → I' k) (hI2 : ∀ k, I' k → I k ∨ w.heap.size ≤ k) (hs : sameQ (x.q c) q') (hsp : ops' = s.gone c ++ kept') :
    ∃ x', RoomM w' r (fun k => F k ∨ F' k) I' N sp { s with gt := upd s.gt c gt', has := upd s.has c has', ops := upd s.ops c ops', kept := upd s.kept c kept', early := upd s.early c early' } x' ∧ Keeps F (fun k => F k ∨ F' k) w w' ∧ x'.rbs = x.rbs ∧ x'.gl = x.gl ∧ x'.gc = x.gc ∧ x'.vals = x.vals ∧ x'.q = upd x.q c q' := by
  have hx := h.copyToG hc hr hk hI hI2 (gone' := s.gone c) (nw' := s.nw c) (by rw [hs.1]; exact h.ag c hc) hsp hs.2.1 (fun d hd hcd g hg i hi => by
    obtain ⟨g', hg', hv⟩ := h.nk c d hc hd hcd
    rw [hg] at hg'
    cases hg'
    rw [hs.2.2]
    exact hv i hi)
  rw [upd_self, upd_self] at hx
  exact hx

/-- ON ONE LINK OTHER MESSAGES WAIT. -/
theorem RoomM.linkTo {w w' : World} {r : Nat} {F I : Nat → Prop} {N sp : Nat} {s : RoomS} {x : RoomX} (h : RoomM w r F I N sp s x) {c d : Nat} (hc : c < N) (hd : d < N) (hcd : c ≠ d) {l : List Value} {ms : List Msg} {sn rn : Nat} (hl : isLink w' (x.gl c d) (x.gc c d) l false sn rn) (ht : Turned (fun k => k = x.gc c d) w w') (hm : All2 (msgV w I) ms l) :
    RoomM w' r F I N sp { s with ms := upd s.ms c (upd (s.ms c) d ms) } { x with vals := upd x.vals c (upd (x.vals c) d l), sn := upd x.sn c (upd (x.sn c) d sn), rn := upd x.rn c (upd (x.rn c) d rn) } := by
  have hch := (h.link c d hc hd hcd).ch
  have hFg := (h.fl c d hc hd hcd).2
  have hk : ∀ k, F k → k ≠ x.gc c d → w'.heap[k]? = w.heap[k]? := fun k hF hn => ht.other k (h.lt k hF) hn
  have hi : ∀ k, I k → w'.heap[k]? = w.heap[k]? := fun k hI => ht.other k (h.iI k hI) fun e => h.nI k hI (e ▸ hFg)
  have hcell : ∀ (k : Nat) (cs : Array Value) (t : TypeId) (f : Nat × Nat), w.heap[k]? = some (.cells cs t f) → k ≠ x.gc c d := fun k cs t f hk e => by rw [e, hch] at hk; cases hk
  obtain ⟨es, clk, hmp⟩ := h.lmap
  have hmap : x.bl ≠ x.gc c d := fun e => by have := hmp.blk; rw [e, hch] at this; cases this
  have hgC : x.gC ≠ x.gc c d := fun e => by
    obtain ⟨cur, hcur⟩ := own_type h.row (g := x.gC) rfl
    exact hcell _ _ _ _ hcur e
  refine ⟨by rw [hk _ h.fr (hcell _ _ _ _ h.blk)]; exact h.blk, row_blk h.row (fun g hg => by cases hg; exact hk _ h.fC hgC), h.hN, fun e he => (h.reps e he).keepF ht.size (fun k hF => hk k (h.sub e he k hF) fun e' => (h.nl e he c d hc hd hcd).2 (e' ▸ hF)) hi, h.ag, h.spl, h.nk, h.nj, ⟨es, clk, hmp.blockK (hk _ h.fb hmap)⟩, h.look, h.nolk, ?_, ?_, h.inj, h.sub, h.dis, h.nr, h.nC, h.nb, h.nl, h.fr, h.fC, h.fb, h.fl, fun k hF => Nat.lt_of_lt_of_le (h.lt k hF) ht.size, h.nI, fun k hF => Nat.lt_of_lt_of_le (h.iI k hF) ht.size⟩
  · intro a b ha hb hab
    by_cases e : a = c ∧ b = d
    · obtain ⟨rfl, rfl⟩ := e
      simp only [upd_same]
      exact hl
    · have hne : x.gc a b ≠ x.gc c d := fun e' => e (h.inj a b c d ha hb hab hc hd hcd e')
      have hkeep := (h.link a b ha hb hab).keepB (hk _ (h.fl a b ha hb hab).1 (hcell _ _ _ _ (h.link a b ha hb hab).blk)) (hk _ (h.fl a b ha hb hab).2 hne)
      by_cases e1 : a = c
      · subst e1
        have e2 : b ≠ d := fun e2 => e ⟨rfl, e2⟩
        simp only [upd_same, upd_ne _ _ e2]
        exact hkeep
      · simp only [upd_ne _ _ e1]
        exact hkeep
  · intro a b ha hb hab
    have hkp : ∀ {ms : List Msg} {l : List Value}, All2 (msgV w I) ms l → All2 (msgV w' I) ms l := fun hh => hh.imp fun m u hm => hm.keepI hi ht.size (fun _ y => y)
    by_cases e1 : a = c
    · subst e1
      by_cases e2 : b = d
      · subst e2
        simp only [upd_same]
        exact hkp hm
      · simp only [upd_same, upd_ne _ _ e2]
        exact hkp (h.mss a b ha hb hab)
    · simp only [upd_ne _ _ e1]
      exact hkp (h.mss a b ha hb hab)
end

end Go.Proofs.YtnkpogjiiohapaaGreatDoor
