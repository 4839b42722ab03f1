/- Our own text (GRoomA, GRoomB). -/
import Derived.Test.YtnkpogjiiohapaaGreatDoorA27
import Derived.Test.YtnkpogjiiohapaaGreatDoorA28
import Derived.Test.YtnkpogjiiohapaaGreatDoorA20
set_option linter.unusedSimpArgs false
set_option linter.unusedVariables false

/-! GRoomA: The program's room in general: its copies, its links, what waits on them. -/
namespace Go.Proofs.YtnkpogjiiohapaaGreatDoor
open Go.RowKit

/-- A room, plainly: of each copy its greatest counter, how many it has of each, its operations, what waits with it; of each link what waits on it. -/
structure RoomS where
  gt : Nat → Int
  has : Nat → Nat → Int
  ops : Nat → List MOp
  early : Nat → List (PId × MOp)
  ms : Nat → Nat → List Msg
/-- What it is made of. -/
structure RoomX where
  gC : Nat
  cC : Nat
  bl : Nat
  lm : List (PId × Nat)
  rbs : Nat → Nat
  Fc : Nat → Nat → Prop
  q : Nat → RQ
  gl : Nat → Nat → Nat
  gc : Nat → Nat → Nat
  vals : Nat → Nat → List Value
  sn : Nat → Nat → Nat
  rn : Nat → Nat → Nat
def ptrV (k : Nat) : Value := .pointer (some ⟨k, 0, none⟩)

/-- THE ROOM. -/
structure RoomM (w : World) (r : Nat) (F I : Nat → Prop) (N sp : Nat) (s : RoomS) (x : RoomX) : Prop where
  blk : w.heap[r]? = some (.cells #[.slice (some ⟨x.gC, 0, none⟩) N x.cC, .map (some x.bl)] 119 (0, 0))
  row : w.ownsRow 0 92 1 (.slice (some ⟨x.gC, 0, none⟩) N x.cC) N ((List.range N).flatMap fun c => ptrC (x.rbs c))
  hN : N ≤ 4
  reps : ∀ c, c < N → RepM w (x.rbs c) (x.Fc c) I N sp c (s.gt c) (s.has c) (s.ops c) (s.early c) (x.q c)
  ag : ∀ c, c < N → Agree rootP (x.q c).D0 ∧ QNd (x.q c).D0 ∧ ∀ p ∈ (x.q c).D0.1, p.2.ks = []
  nk : ∀ c d, c < N → d < N → c ≠ d → ∃ g, lookI (d : Int) (x.q c).ns = some g
  lmap : ∃ es clk, isMap idV ptrV w x.bl x.lm es clk
  look : ∀ c d, c < N → d < N → c ≠ d → lookI ((c : Int), (d : Int)) x.lm = some (x.gl c d)
  nolk : ∀ a b : Int, (¬ ∃ c d : Nat, c < N ∧ d < N ∧ c ≠ d ∧ a = c ∧ b = d) → lookI (a, b) x.lm = none
  link : ∀ c d, c < N → d < N → c ≠ d → isLink w (x.gl c d) (x.gc c d) (x.vals c d) false (x.sn c d) (x.rn c d)
  mss : ∀ c d, c < N → d < N → c ≠ d → All2 (msgV w I) (s.ms c d) (x.vals c d)
  inj : ∀ c d c' d', c < N → d < N → c ≠ d → c' < N → d' < N → c' ≠ d' → x.gc c d = x.gc c' d' → c = c' ∧ d = d'
  sub : ∀ c, c < N → ∀ k, x.Fc c k → F k
  dis : ∀ c c', c < N → c' < N → c ≠ c' → ∀ k, x.Fc c k → ¬ x.Fc c' k
  nr : ∀ c, c < N → ¬ x.Fc c r
  nC : ∀ c, c < N → ¬ x.Fc c x.gC
  nb : ∀ c, c < N → ¬ x.Fc c x.bl
  nl : ∀ e, e < N → ∀ c d, c < N → d < N → c ≠ d → ¬ x.Fc e (x.gl c d) ∧ ¬ x.Fc e (x.gc c d)
  fr : F r
  fC : F x.gC
  fb : F x.bl
  fl : ∀ c d, c < N → d < N → c ≠ d → F (x.gl c d) ∧ F (x.gc c d)
  lt : ∀ k, F k → k < w.heap.size
  nI : ∀ k, I k → ¬ F k
  iI : ∀ k, I k → k < w.heap.size

theorem flatP (f : Nat → Nat) (n k : Nat) (hk : k < n) : ((List.range n).flatMap fun c => ptrC (f c))[k]? = some (.pointer (some ⟨f k, 0, none⟩)) := by
  have : ((List.range n).flatMap fun c => ptrC (f c)) = (List.range n).map fun c => Value.pointer (some ⟨f c, 0, none⟩) := by
    unfold ptrC
    exact List.map_eq_flatMap.symm
  rw [this]
  simp [hk]
theorem All2.imp {α β : Type} {R R' : α → β → Prop} (h : ∀ a b, R a b → R' a b) : ∀ {l : List α} {m : List β}, All2 R l m → All2 R' l m
  | [], [], _ => trivial
  | [], _ :: _, h2 => h2.elim
  | _ :: _, [], h2 => h2.elim
  | _ :: _, _ :: _, h2 => ⟨h _ _ h2.1, All2.imp h h2.2⟩
theorem isLink.keepB {w w' : World} {gl gc : Nat} {l : List Value} {shut : Bool} {s r : Nat} (h : isLink w gl gc l shut s r) (h1 : w'.heap[gl]? = w.heap[gl]?) (h2 : w'.heap[gc]? = w.heap[gc]?) : isLink w' gl gc l shut s r :=
  ⟨h1.trans h.blk, h2.trans h.ch, h.len⟩

section
theorem RoomM.keepF {w w' : World} {r : Nat} {F I : Nat → Prop} {N sp : Nat} {s : RoomS} {x : RoomX} (h : RoomM w r F I N sp s x) (hs : w.heap.size ≤ w'.heap.size) (hk : ∀ k, F k → w'.heap[k]? = w.heap[k]?) (hi : ∀ k, I k → w'.heap[k]? = w.heap[k]?) : RoomM w' r F I N sp s x := by
  obtain ⟨es, clk, hm⟩ := h.lmap
  exact ⟨by rw [hk _ h.fr]; exact h.blk, row_blk h.row (fun g hg => by cases hg; exact hk _ h.fC), h.hN, fun c hc => (h.reps c hc).keepF hs (fun k hF => hk k (h.sub c hc k hF)) hi, h.ag, h.nk, ⟨es, clk, hm.blockK (hk _ h.fb)⟩, h.look, h.nolk, fun c d hc hd hcd => (h.link c d hc hd hcd).keepB (hk _ (h.fl c d hc hd hcd).1) (hk _ (h.fl c d hc hd hcd).2), fun c d hc hd hcd => (h.mss c d hc hd hcd).imp fun m u hm => hm.keepI hi hs (fun _ y => y), h.inj, h.sub, h.dis, h.nr, h.nC, h.nb, h.nl, h.fr, h.fC, h.fb, h.fl, fun k hF => Nat.lt_of_lt_of_le (h.lt k hF) hs, h.nI, fun k hF => Nat.lt_of_lt_of_le (h.iI k hF) hs⟩
theorem RoomM.keep {w w' : World} {r : Nat} {F I : Nat → Prop} {N sp : Nat} {s : RoomS} {x : RoomX} (h : RoomM w r F I N sp s x) (hb : Below w.heap.size w w') : RoomM w' r F I N sp s x := h.keepF hb.size (fun k hk => hb.block k (h.lt k hk)) (fun k hk => hb.block k (h.iI k hk))
theorem RoomM.cell {w : World} {r : Nat} {F I : Nat → Prop} {N sp : Nat} {s : RoomS} {x : RoomX} (h : RoomM w r F I N sp s x) {c : Nat} (hc : c < N) : w.cell? ⟨x.gC, c, none⟩ = some (.pointer (some ⟨x.rbs c, 0, none⟩)) := by
  have h1 := World.ownsRow.cellAt h.row c (by omega)
  rw [h1]; exact flatP x.rbs N c hc
theorem RoomM.cap {w : World} {r : Nat} {F I : Nat → Prop} {N sp : Nat} {s : RoomS} {x : RoomX} (h : RoomM w r F I N sp s x) : N ≤ x.cC ∧ x.cC ≤ maxLen := by
  obtain ⟨a, c, e, h1, h2, _⟩ := owns_form h.row
  cases e
  exact ⟨h1, h2⟩
/-- More stays. -/
theorem RoomM.moreI {w : World} {r : Nat} {F I : Nat → Prop} {N sp : Nat} {s : RoomS} {x : RoomX} (h : RoomM w r F I N sp s x) {I' : Nat → Prop} (hI : ∀ k, I k → I' k) (h1 : ∀ k, I' k → k < w.heap.size) (h2 : ∀ k, I' k → ¬ F k) : RoomM w r F I' N sp s x :=
  ⟨h.blk, h.row, h.hN, fun c hc => (h.reps c hc).moreI hI h1 fun k hk hF => h2 k hk (h.sub c hc k hF), h.ag, h.nk, h.lmap, h.look, h.nolk, h.link, fun c d hc hd hcd => (h.mss c d hc hd hcd).imp fun m u hm => hm.keepI (fun _ _ => rfl) (Nat.le_refl _) hI, h.inj, h.sub, h.dis, h.nr, h.nC, h.nb, h.nl, h.fr, h.fC, h.fb, h.fl, h.lt, h2, h1⟩

/-- ONE COPY IS ANOTHER. -/
theorem RoomM.copyTo {w w' : World} {r : Nat} {F I : Nat → Prop} {N sp : Nat} {s : RoomS} {x : RoomX} (h : RoomM w r F I N sp s x) {c : Nat} (hc : c < N) {F' I' : Nat → Prop} {gt' : Int} {has' : Nat → Int} {ops' : List MOp} {early' : List (PId × MOp)} {q' : RQ} (hr : RepM w' (x.rbs c) F' I' N sp c gt' has' ops' early' q') (hk : Keeps (x.Fc c) F' w w') (hI : ∀ k, I k → I' k) (hI2 : ∀ k, I' k → I k ∨ w.heap.size ≤ k) (hq0 : q'.D0 = (x.q c).D0) (hqn : q'.ns = (x.q c).ns) :
    ∃ x', RoomM w' r (fun k => F k ∨ F' k) I' N sp { s with gt := upd s.gt c gt', has := upd s.has c has', ops := upd s.ops c ops', early := upd s.early c early' } x' ∧ Keeps F (fun k => F k ∨ F' k) w w' ∧ x'.rbs = x.rbs ∧ x'.gl = x.gl ∧ x'.gc = x.gc ∧ x'.vals = x.vals ∧ x'.q = upd x.q c q' := by
  have hb : ∀ k, k < w.heap.size → ¬ x.Fc c k → w'.heap[k]? = w.heap[k]? := hk.other
  have hi : ∀ k, I k → w'.heap[k]? = w.heap[k]? := fun k hI => hb k (h.iI k hI) fun hF => h.nI k hI (h.sub c hc k hF)
  obtain ⟨es, clk, hm⟩ := h.lmap
  have hFn : ∀ e, e < N → ∀ k, (if e = c then F' else x.Fc e) k → x.Fc e k ∨ w.heap.size ≤ k := fun e he k hF => by
    by_cases ec : e = c
    · subst ec
      simp only [if_true] at hF
      exact hk.sub k hF
    · simp only [ec, if_false] at hF
      exact .inl hF
  refine ⟨{ x with Fc := fun e => if e = c then F' else x.Fc e, q := upd x.q c q' }, ⟨?_, row_blk h.row (fun g hg => by cases hg; exact hb x.gC (h.lt _ h.fC) (h.nC c hc)), h.hN, ?_, ?_, ?_, ⟨es, clk, hm.blockK (hb _ (h.lt _ h.fb) (h.nb c hc))⟩, h.look, h.nolk, fun a b ha hb' hab => (h.link a b ha hb' hab).keepB (hb _ (h.lt _ (h.fl a b ha hb' hab).1) (h.nl c hc a b ha hb' hab).1) (hb _ (h.lt _ (h.fl a b ha hb' hab).2) (h.nl c hc a b ha hb' hab).2), fun a b ha hb' hab => (h.mss a b ha hb' hab).imp fun m u hm => hm.keepI hi hk.size hI, h.inj, ?_, ?_, ?_, ?_, ?_, ?_, .inl h.fr, .inl h.fC, .inl h.fb, fun a b ha hb' hab => ⟨.inl (h.fl a b ha hb' hab).1, .inl (h.fl a b ha hb' hab).2⟩, ?_, ?_, hr.iI⟩, ?_, rfl, rfl, rfl, rfl, rfl⟩
  · rw [hb r (h.lt _ h.fr) (h.nr c hc)]; exact h.blk
  · intro e he
    by_cases ec : e = c
    · subst ec
      simp only [upd_same, if_true]
      exact hr
    · simp only [upd_ne _ _ ec, ec, if_false]
      refine ((h.reps e he).keepF hk.size (fun k hF => hb k ((h.reps e he).lt k hF) (h.dis e c he hc ec k hF)) hi).moreI hI hr.iI fun k hk' hF => ?_
      rcases hI2 k hk' with h1 | h1
      · exact h.nI k h1 (h.sub e he k hF)
      · have := (h.reps e he).lt k hF; omega
  · intro e he
    by_cases ec : e = c
    · subst ec
      simp only [upd_same, hq0]
      exact h.ag e he
    · simp only [upd_ne _ _ ec]
      exact h.ag e he
  · intro e f he hf hef
    by_cases ec : e = c
    · subst ec
      simp only [upd_same, hqn]
      exact h.nk e f he hf hef
    · simp only [upd_ne _ _ ec]
      exact h.nk e f he hf hef
  · intro e he k hF
    rcases hFn e he k hF with h1 | h1
    · exact .inl (h.sub e he k h1)
    · by_cases ec : e = c
      · subst ec
        simp only [if_true] at hF
        exact .inr hF
      · simp only [ec, if_false] at hF
        exact .inl (h.sub e he k hF)
  · intro c1 c2 h1 h2 hne k hF1 hF2
    rcases hFn c1 h1 k hF1 with a1 | a1
    · rcases hFn c2 h2 k hF2 with a2 | a2
      · exact h.dis c1 c2 h1 h2 hne k a1 a2
      · have := (h.reps c1 h1).lt k a1; omega
    · rcases hFn c2 h2 k hF2 with a2 | a2
      · have := (h.reps c2 h2).lt k a2; omega
      · by_cases e1 : c1 = c
        · have e2 : ¬ c2 = c := fun e => hne (e1.trans e.symm)
          simp only [e2, if_false] at hF2
          have := (h.reps c2 h2).lt k hF2; omega
        · simp only [e1, if_false] at hF1
          have := (h.reps c1 h1).lt k hF1; omega
  · intro e he hF
    rcases hFn e he r hF with h1 | h1
    · exact h.nr e he h1
    · have := h.lt _ h.fr; omega
  · intro e he hF
    rcases hFn e he _ hF with h1 | h1
    · exact h.nC e he h1
    · have := h.lt _ h.fC
      simp only at h1
      omega
  · intro e he hF
    rcases hFn e he _ hF with h1 | h1
    · exact h.nb e he h1
    · have := h.lt _ h.fb
      simp only at h1
      omega
  · intro e he a b ha hb' hab
    refine ⟨fun hF => ?_, fun hF => ?_⟩
    · rcases hFn e he _ hF with h1 | h1
      · exact (h.nl e he a b ha hb' hab).1 h1
      · have := h.lt _ (h.fl a b ha hb' hab).1
        simp only at h1
        omega
    · rcases hFn e he _ hF with h1 | h1
      · exact (h.nl e he a b ha hb' hab).2 h1
      · have := h.lt _ (h.fl a b ha hb' hab).2
        simp only at h1
        omega
  · intro k hk'
    rcases hk' with hk' | hk'
    · exact Nat.lt_of_lt_of_le (h.lt k hk') hk.size
    · exact hr.lt k hk'
  · intro k hI' hF
    rcases hF with hF | hF
    · rcases hI2 k hI' with h1 | h1
      · exact h.nI k h1 hF
      · have := h.lt k hF; omega
    · exact hr.nI k hI' hF
  · exact ⟨hk.os, hk.tape, hk.output, hk.size, fun k hl hF => hb k hl fun h1 => hF (h.sub c hc k h1), fun k hk' => hk'.elim .inl fun h1 => (hk.sub k h1).imp (h.sub c hc k) id⟩

/-- ON ONE LINK OTHER MESSAGES WAIT. -/
theorem RoomM.linkTo {w w' : World} {r : Nat} {F I : Nat → Prop} {N sp : Nat} {s : RoomS} {x : RoomX} (h : RoomM w r F I N sp s x) {c d : Nat} (hc : c < N) (hd : d < N) (hcd : c ≠ d) {l : List Value} {ms : List Msg} {sn rn : Nat} (hl : isLink w' (x.gl c d) (x.gc c d) l false sn rn) (ht : Turned (fun k => k = x.gc c d) w w') (hm : All2 (msgV w I) ms l) :
    RoomM w' r F I N sp { s with ms := upd s.ms c (upd (s.ms c) d ms) } { x with vals := upd x.vals c (upd (x.vals c) d l), sn := upd x.sn c (upd (x.sn c) d sn), rn := upd x.rn c (upd (x.rn c) d rn) } := by
  have hch := (h.link c d hc hd hcd).ch
  have hFg := (h.fl c d hc hd hcd).2
  have hk : ∀ k, F k → k ≠ x.gc c d → w'.heap[k]? = w.heap[k]? := fun k hF hn => ht.other k (h.lt k hF) hn
  have hi : ∀ k, I k → w'.heap[k]? = w.heap[k]? := fun k hI => ht.other k (h.iI k hI) fun e => h.nI k hI (e ▸ hFg)
  have hcell : ∀ (k : Nat) (cs : Array Value) (t : TypeId) (f : Nat × Nat), w.heap[k]? = some (.cells cs t f) → k ≠ x.gc c d := fun k cs t f hk e => by rw [e, hch] at hk; cases hk
  obtain ⟨es, clk, hmp⟩ := h.lmap
  have hmap : x.bl ≠ x.gc c d := fun e => by have := hmp.blk; rw [e, hch] at this; cases this
  have hgC : x.gC ≠ x.gc c d := fun e => by
    obtain ⟨cur, hcur⟩ := own_type h.row (g := x.gC) rfl
    exact hcell _ _ _ _ hcur e
  refine ⟨by rw [hk _ h.fr (hcell _ _ _ _ h.blk)]; exact h.blk, row_blk h.row (fun g hg => by cases hg; exact hk _ h.fC hgC), h.hN, fun e he => (h.reps e he).keepF ht.size (fun k hF => hk k (h.sub e he k hF) fun e' => (h.nl e he c d hc hd hcd).2 (e' ▸ hF)) hi, h.ag, h.nk, ⟨es, clk, hmp.blockK (hk _ h.fb hmap)⟩, h.look, h.nolk, ?_, ?_, h.inj, h.sub, h.dis, h.nr, h.nC, h.nb, h.nl, h.fr, h.fC, h.fb, h.fl, fun k hF => Nat.lt_of_lt_of_le (h.lt k hF) ht.size, h.nI, fun k hF => Nat.lt_of_lt_of_le (h.iI k hF) ht.size⟩
  · intro a b ha hb hab
    by_cases e : a = c ∧ b = d
    · obtain ⟨rfl, rfl⟩ := e
      simp only [upd_same]
      exact hl
    · have hne : x.gc a b ≠ x.gc c d := fun e' => e (h.inj a b c d ha hb hab hc hd hcd e')
      have hkeep := (h.link a b ha hb hab).keepB (hk _ (h.fl a b ha hb hab).1 (hcell _ _ _ _ (h.link a b ha hb hab).blk)) (hk _ (h.fl a b ha hb hab).2 hne)
      by_cases e1 : a = c
      · subst e1
        have e2 : b ≠ d := fun e2 => e ⟨rfl, e2⟩
        simp only [upd_same, upd_ne _ _ e2]
        exact hkeep
      · simp only [upd_ne _ _ e1]
        exact hkeep
  · intro a b ha hb hab
    have hkp : ∀ {ms : List Msg} {l : List Value}, All2 (msgV w I) ms l → All2 (msgV w' I) ms l := fun hh => hh.imp fun m u hm => hm.keepI hi ht.size (fun _ y => y)
    by_cases e1 : a = c
    · subst e1
      by_cases e2 : b = d
      · subst e2
        simp only [upd_same]
        exact hkp hm
      · simp only [upd_same, upd_ne _ _ e2]
        exact hkp (h.mss a b ha hb hab)
    · simp only [upd_ne _ _ e1]
      exact hkp (h.mss a b ha hb hab)
end

end Go.Proofs.YtnkpogjiiohapaaGreatDoor

/-! GRoomB: The program's room in general: its copies and links are found; Heard, Ask. -/
namespace Go.Proofs.YtnkpogjiiohapaaGreatDoor
open Go.RowKit
attribute [local go_sem ↓] Go.wp_at_zero Go.wp_at_succ

section
set_option maxRecDepth 1000000 in
set_option maxHeartbeats 1000000 in
theorem inCopy_any {w : World} {r : Nat} {F I : Nat → Prop} {N sp : Nat} {s : RoomS} {x : RoomX} (h : RoomM w r F I N sp s x) (c : Nat) (hc : c < N) :
    Calls Tryz.prog 44 #[.pointer (some ⟨r, 0, none⟩), .int .i64 c] w fun e w' => e = .returned (.tuple #[.pointer (some ⟨x.rbs c, 0, none⟩), .int .i64 0]) ∧ w' = w := by
  have c0 := (blk2 h.blk).1
  have c1 := h.cell hc
  have hcap := h.cap
  have hN := h.hN
  unfold maxLen at hcap
  have hc0 : (0 : Int) ≤ (c : Int) := Int.natCast_nonneg _
  have hc1 : (c : Int) < (N : Int) := by omega
  clear h
  go_enter Tryz.func44, Tryz.ntmps44
  go_wp2
  go_ret2
  exact ⟨rfl, rfl⟩

theorem RoomM.find {w : World} {r : Nat} {F I : Nat → Prop} {N sp : Nat} {s : RoomS} {x : RoomX} (h : RoomM w r F I N sp s x) {c d : Nat} (hc : c < N) (hd : d < N) (hcd : c ≠ d) (b : Bool) (W : World) (hb : Below w.heap.size w W) : (Instr.lookup 117 (.map (some x.bl)) (.agg #[.int .i64 c, .int .i64 d]) b).run Tryz.prog W = .ok (if b then .tuple #[.pointer (some ⟨x.gl c d, 0, none⟩), .bool true] else .pointer (some ⟨x.gl c d, 0, none⟩)) W := by
  obtain ⟨es, clk, hm⟩ := h.lmap
  have := run_lookI endsKey (hm.keep hb) Tryz.underlying117 (show (zeroValue 110).run Tryz.prog W = .ok (.pointer none) W by kernel_rfl) ((c : Int), (d : Int)) b
  rw [h.look c d hc hd hcd] at this
  cases b with
  | true => exact this
  | false => exact this

set_option maxRecDepth 1000000 in
set_option maxHeartbeats 1000000 in
theorem onLink_any {w : World} {r : Nat} {F I : Nat → Prop} {N sp : Nat} {s : RoomS} {x : RoomX} (h : RoomM w r F I N sp s x) {c d : Nat} (hc : c < N) (hd : d < N) (hcd : c ≠ d) :
    Calls Tryz.prog 51 #[.pointer (some ⟨r, 0, none⟩), .int .i64 c, .int .i64 d] w fun e w' => e = .returned (.tuple #[.pointer (some ⟨x.gl c d, 0, none⟩), .int .i64 0]) ∧ w' = w := by
  have c0 := (blk2 h.blk).2
  have hl := h.find hc hd hcd true w (Below.refl _ _)
  simp only [if_true] at hl
  clear h hc hd hcd
  go_enter Tryz.func51, Tryz.ntmps51
  go_wp2
  go_ret2
  exact ⟨rfl, rfl⟩

set_option maxRecDepth 1000000 in
set_option maxHeartbeats 1000000 in
theorem onUsedLink_any {w : World} {r : Nat} {F I : Nat → Prop} {N sp : Nat} {s : RoomS} {x : RoomX} (h : RoomM w r F I N sp s x) {c d : Nat} (hc : c < N) (hd : d < N) (hcd : c ≠ d) :
    Calls Tryz.prog 74 #[.pointer (some ⟨r, 0, none⟩), .int .i64 c, .int .i64 d] w fun e w' => e = .returned (if s.ms c d = [] then .tuple #[.pointer none, .int .i64 12] else .tuple #[.pointer (some ⟨x.gl c d, 0, none⟩), .int .i64 0]) ∧ w' = w := by
  have HOL := hid (onLink_any h hc hd hcd)
  have HWA := hid (waiting_q (h.link c d hc hd hcd))
  have hlen := (h.mss c d hc hd hcd).len
  clear h
  by_cases hm : s.ms c d = []
  · rw [if_pos hm]
    rw [hm] at hlen
    rw [← hlen] at HWA
    clear hlen hm
    go_enter Tryz.func74, Tryz.ntmps74
    go_wp2_with fail
    refine HOL.out.mono ?_
    rintro e w1 ⟨rfl, rfl⟩
    go_wp2_with fail
    refine HWA.out.mono ?_
    rintro e w2 ⟨rfl, rfl⟩
    go_wp2
    go_ret2
    exact ⟨rfl, rfl⟩
  · rw [if_neg hm]
    have hz : ¬ (x.vals c d).length = 0 := by
      rw [← hlen]
      exact fun e => hm (List.eq_nil_of_length_eq_zero e)
    clear hlen hm
    go_enter Tryz.func74, Tryz.ntmps74
    go_wp2_with fail
    refine HOL.out.mono ?_
    rintro e w1 ⟨rfl, rfl⟩
    go_wp2_with fail
    refine HWA.out.mono ?_
    rintro e w2 ⟨rfl, rfl⟩
    go_wp2
    go_ret2
    exact ⟨rfl, rfl⟩

set_option maxRecDepth 1000000 in
set_option maxHeartbeats 1000000 in
/-- HEARD. -/
theorem heard_any {w : World} {r : Nat} {F I : Nat → Prop} {N sp : Nat} {s : RoomS} {x : RoomX} (h : RoomM w r F I N sp s x) (c : Nat) (hc : c < N) :
    Calls Tryz.prog 25 #[.pointer (some ⟨r, 0, none⟩), .int .i64 c] w fun e w' => ∃ u, e = .returned (.tuple #[u, .int .i64 0]) ∧ ownInts w.heap.size w' u (hasL N (s.has c)) ∧ Below w.heap.size w w' := by
  have HIC := hid (inCopy_any h c hc)
  obtain ⟨c0, c1, c2, c3, c4, c5⟩ := (h.reps c hc).cells
  have HCL := hid (cloneInts_q (h.reps c hc).ints (by rw [hasL_len]; have := h.hN; omega))
  rw [hasL_len] at HCL
  clear h c0 c1 c3 c4 c5
  go_enter Tryz.func25, Tryz.ntmps25
  go_wp2_with fail
  refine HIC.out.mono ?_
  rintro e w1 ⟨rfl, rfl⟩
  go_wp2_with fail
  refine HCL.out.mono ?_
  rintro e w2 ⟨u, rfl, hu, hb⟩
  have HX := hid (And.intro hu hb); clear hu hb
  go_wp2
  go_ret2
  exact ⟨u, rfl, HX.out.1, HX.out.2⟩
end

theorem keeps_link {F : Nat → Prop} {w W w' : World} {g : Nat} (hb : Below w.heap.size w W) (ht : Turned (fun k => k = g) W w') (hg : F g) : Keeps F F w w' :=
  ⟨ht.os.trans hb.os, ht.tape.trans hb.tape, ht.output.trans hb.output, Nat.le_trans hb.size ht.size, fun k hk hF => (ht.other k (Nat.lt_of_lt_of_le hk hb.size) fun e => hF (e ▸ hg)).trans (hb.block k hk), fun k hk => .inl hk⟩
/-- A question is asked. -/
def askS (N : Nat) (s : RoomS) (c d : Nat) : RoomS := if (s.ms c d).length = 12 then s else { s with ms := upd s.ms c (upd (s.ms c) d (s.ms c d ++ [.inl (hasL N (s.has c))])) }
/-- What a call leaves of a room. -/
def RoomTo (r N sp : Nat) (F I : Nat → Prop) (w w' : World) (s' : RoomS) : Prop := ∃ F' I' x', RoomM w' r F' I' N sp s' x' ∧ Keeps F F' w w' ∧ ∀ k, I k → I' k ∧ w'.heap[k]? = w.heap[k]?

theorem RoomM.same {w w' : World} {r : Nat} {F I : Nat → Prop} {N sp : Nat} {s : RoomS} {x : RoomX} (h : RoomM w r F I N sp s x) (hb : Below w.heap.size w w') : RoomTo r N sp F I w w' s :=
  ⟨F, I, x, h.keep hb, Keeps.of_below hb, fun k hk => ⟨hk, hb.block k (h.iI k hk)⟩⟩
theorem ownInts.msg {B : Nat} {w : World} {u : Value} {l : List Int} (h : ownInts B w u l) (h0 : 0 < l.length) (h9 : l.length ≤ 1000) : ∃ g c, u = .slice (some ⟨g, 0, none⟩) l.length c ∧ B ≤ g ∧ g < w.heap.size ∧ isKn w g c l.length (rowOf l) := by
  obtain ⟨g, c, rfl, h1, h2, h3, h4, h5⟩ := h.kn h0 h9
  refine ⟨g, c, rfl, h3, h4, ⟨fun i hi => ?_, h1, h2, h4⟩⟩
  rw [h5 i hi]
  simp [rowOf, hi]

set_option maxRecDepth 1000000 in
set_option maxHeartbeats 2000000 in
/-- ASK. -/
theorem ask_any {w : World} {r : Nat} {F I : Nat → Prop} {N sp : Nat} {s : RoomS} {x : RoomX} (h : RoomM w r F I N sp s x) {c d : Nat} (hc : c < N) (hd : d < N) (hcd : c ≠ d) :
    Calls Tryz.prog 27 #[.pointer (some ⟨r, 0, none⟩), .int .i64 c, .int .i64 d] w fun e w' => e = .returned (.int .i64 (if (s.ms c d).length = 12 then 8 else 0)) ∧ RoomTo r N sp F I w w' (askS N s c d) := by
  have HOL := hid (onLink_any h hc hd hcd)
  have HRF := hid (refusal_q (h.link c d hc hd hcd))
  have hlen := (h.mss c d hc hd hcd).len
  have HQ := hid (fun W (hb : Below w.heap.size w W) => question_any ((h.keep hb).reps c hc))
  have c0 := (blk2 h.blk).1
  have c1 := h.cell hc
  have hcap := h.cap
  have hN := h.hN
  unfold maxLen at hcap
  have hc0 : (0 : Int) ≤ (c : Int) := Int.natCast_nonneg _
  have hc1 : (c : Int) < (N : Int) := by omega
  have HH := hid h
  clear h
  unfold askS
  simp only [Bool.false_eq_true, if_false] at HRF
  rw [← hlen] at HRF
  by_cases hf : (s.ms c d).length = 12
  · rw [if_pos hf] at HRF ⊢
    rw [if_pos hf]
    clear hf hlen
    go_enter Tryz.func27, Tryz.ntmps27
    go_wp2_with fail
    refine HOL.out.mono ?_
    rintro e w1 ⟨rfl, rfl⟩
    go_wp2_with fail
    refine HRF.out.mono ?_
    rintro e w2 ⟨rfl, hb⟩
    have HB := hid hb; clear hb
    go_wp2
    go_ret
    exact ⟨rfl, HH.out.same HB.out⟩
  · rw [if_neg hf] at HRF ⊢
    rw [if_neg hf]
    have HF := hid (And.intro hf hlen)
    clear hf hlen
    go_enter Tryz.func27, Tryz.ntmps27
    go_wp2_with fail
    refine HOL.out.mono ?_
    rintro e w1 ⟨rfl, rfl⟩
    go_wp2_with fail
    refine HRF.out.mono ?_
    rintro e w2 ⟨rfl, hb⟩
    replace c0 := keep hb c0
    replace c1 := keep hb c1
    have HB := hid hb; clear hb
    go_wp2_with fail
    refine (HQ.out _ HB.out).mono ?_
    rintro e w3 ⟨u, rfl, hu, hb3⟩
    obtain ⟨g, cg, hue, hg1, hg2, hkn⟩ := hu.msg (by rw [hasL_len]; omega) (by rw [hasL_len]; omega)
    rw [hasL_len] at hue
    subst hue
    have HB3 := hid (HB.out.trans (hb3.mono HB.out.size))
    have HU := hid (And.intro hg1 (And.intro hg2 (And.intro hkn hb3))); clear hu hb3 hkn hg1 hg2
    have HBA := hid (HB3.out.alloc HB3.out.size (.cells #[.iface 115 (.slice (some ⟨g, 0, none⟩) N cg)] 147))
    have HSD := hid (send_q (off := 0) (cap := 1) (n := 1) (g := w3.heap.size) ((HH.out.keep HBA.out).link c d hc hd hcd) (fun _ => .iface 115 (.slice (some ⟨g, 0, none⟩) N cg)) (by omega) (fun j hj => by
      obtain rfl : j = 0 := by omega
      exact (blk1 (blk_new w3 _))))
    go_wp2_with fail
    refine HSD.out.mono ?_
    rintro e w4 ⟨rfl, sn, hl4, hT4⟩
    have HX := hid (And.intro hl4 hT4); clear hl4 hT4
    go_wp2
    go_ret
    obtain ⟨hg1, hg2, hkn, hb3⟩ := HU.out
    have hz := HB.out.size
    have hM2 := HH.out.keep HBA.out
    have hI' := hM2.moreI (I' := fun k => I k ∨ k = g) (fun k hk => .inl hk) (fun k hk => by
      rcases hk with hk | rfl
      · exact hM2.iI k hk
      · simp only [World.size_alloc]; omega) (fun k hk hF => by
      rcases hk with hk | rfl
      · exact HH.out.nI k hk hF
      · have := HH.out.lt _ hF; omega)
    have hl := HX.out.1
    rw [show sentTo false (x.vals c d) ((List.range 1).map fun _ => Value.iface 115 (.slice (some ⟨g, 0, none⟩) N cg)) = x.vals c d ++ [.iface 115 (.slice (some ⟨g, 0, none⟩) N cg)] by
      have h1 : ¬ (x.vals c d).length = 12 := by rw [← HF.out.2]; exact HF.out.1
      simp [sentTo, h1, List.range_succ]] at hl
    have hmsg : msgV (w3.alloc (.cells #[.iface 115 (.slice (some ⟨g, 0, none⟩) N cg)] 147)) (fun k => I k ∨ k = g) (.inl (hasL N (s.has c))) (.iface 115 (.slice (some ⟨g, 0, none⟩) N cg)) := by
      refine ⟨g, cg, by rw [hasL_len], ?_, .inr rfl⟩
      exact hkn.keep ((Below.refl w3.heap.size w3).alloc (Nat.le_refl _) _)
    have hR := hI'.linkTo hc hd hcd hl HX.out.2 (All2.snoc hmsg (hI'.mss c d hc hd hcd))
    refine ⟨rfl, F, _, _, hR, keeps_link HBA.out HX.out.2 (HH.out.fl c d hc hd hcd).2, fun k hk => ⟨.inl hk, ?_⟩⟩
    exact (HX.out.2.other k (Nat.lt_of_lt_of_le (HH.out.iI k hk) HBA.out.size) fun e => HH.out.nI k hk (e ▸ (HH.out.fl c d hc hd hcd).2)).trans (HBA.out.block k (HH.out.iI k hk))

end Go.Proofs.YtnkpogjiiohapaaGreatDoor
