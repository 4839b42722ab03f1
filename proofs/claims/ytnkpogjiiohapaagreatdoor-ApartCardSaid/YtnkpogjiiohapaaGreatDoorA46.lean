/- Our own text (GValA, ALawB, ALawC, ALawE). -/
import Derived.Test.YtnkpogjiiohapaaGreatDoorA33
import Derived.Test.YtnkpogjiiohapaaGreatDoorA45
set_option linter.unusedSimpArgs false
set_option linter.unusedVariables false

/-! GValA: The program's room in general: Values. -/
namespace Go.Proofs.YtnkpogjiiohapaaGreatDoor
open Go.RowKit
attribute [local go_sem ↓] Go.wp_at_zero Go.wp_at_succ

/-- What Values answers. -/
def ValsD (s : RoomS) (x : RoomX) (c : Nat) (x1 x2 : Int) (key : ByteArray) (w : World) (e : Ending) (w' : World) : Prop := Below w.heap.size w w' ∧
      ((∃ m, keyedP (ROf (s.ops c)) (x1, x2) key = .error m ∧ e = .returned (.tuple #[.slice none 0 0, .int .i64 m])) ∨
      (∃ o u, ∃ vs : List (PId × PVal), objOf (ROf (s.ops c)) (x1, x2) = some o ∧ o.list = false ∧ keyOk key = true ∧ e = .returned (.tuple #[u, .int .i64 0]) ∧ vs.Perm (atPl (x.q c).D.1 (x.q c).D.2 (x1, x2) key (0, 0)).vs ∧ Asc (vs.map (·.1)) ∧ ownVals w.heap.size w' u (vs.map (·.2))))

set_option maxRecDepth 1000000 in
set_option maxHeartbeats 4000000 in
/-- VALUES. -/
theorem gValues {w : World} {r : Nat} {F I : Nat → Prop} {N sp : Nat} {M : Nat → List MOp} {s : RoomS} {x : RoomX} (h : RoomD w r F I N sp M s x) {c : Nat} (hc : c < N) (x1 x2 : Int) (key : ByteArray) (hks : key.size ≤ maxLen) :
    Calls Tryz.prog 24 #[.pointer (some ⟨r, 0, none⟩), .int .i64 c, .agg #[.int .i64 x1, .int .i64 x2], .string key] w fun e w' => ValsD s x c x1 x2 key w e w' := by
  have HB := hid ((Below.refl w.heap.size w).alloc (Nat.le_refl _) (.cells #[.int .i64 x1, .int .i64 x2] 36))
  have HA := hid (atKey_any (h.keep HB.out) c hc x1 x2 key hks)
  have HD := hid (fun W (hb : Below w.heap.size w W) => document_any ((h.keep hb).m.reps c hc))
  have hvk := (h.wri hc).vals (x1, x2) key (0, 0)
  have HV := hid (fun W (hb : Below w.heap.size w W) => qvalues_any ((h.keep hb).m.reps c hc).hist.q x1 x2 0 0 key hvk.1 hvk.2)
  have HH := hid h; clear h hvk
  go_enter Tryz.func24, Tryz.ntmps24
  go_wp2_with fail
  refine HA.out.mono ?_
  rintro e w1 ⟨hb1, hat⟩
  have HB1 := hid (HB.out.trans (hb1.mono HB.out.size)); clear hb1
  have hz1 := HB1.out.size
  rcases hat with ⟨m, hm, hp, rfl⟩ | ⟨o, ho, hol, hko, hkd, rfl⟩
  · have HE := hid hp; clear hp
    rcases hm with rfl | rfl | rfl
    all_goals go_wp2
    all_goals go_ret2
    all_goals exact (show _ ∧ _ from ⟨HB1.out.alloc hz1 _, .inl ⟨_, HE.out, rfl⟩⟩)
  · have HPL := hid (And.intro ho (And.intro hol hko)); clear hkd ho hol hko
    have HBW := hid (HB1.out.alloc hz1 (.cells #[.int .i64 x1, .int .i64 x2, .string key, .int .i64 0, .int .i64 0] 97))
    have HX1 := hid (blk_new w1 (.cells #[.int .i64 x1, .int .i64 x2, .string key, .int .i64 0, .int .i64 0] 97))
    go_wp2_with fail
    go_region_held3 (fun W => W.cell? ⟨w1.heap.size, 0, none⟩ = some (.int .i64 x1) ∧ W.cell? ⟨w1.heap.size, 1, none⟩ = some (.int .i64 x2) ∧ W.cell? ⟨w1.heap.size, 2, none⟩ = some (.string key) ∧ W.cell? ⟨w1.heap.size, 3, none⟩ = some (.int .i64 0) ∧ W.cell? ⟨w1.heap.size, 4, none⟩ = some (.int .i64 0)) (first | exact blk5 HX1.out | exact blk5 HX3.out | exact blk5 HX2.out)
      (first
        | (go_at_call 48; refine (HD.out _ HBW.out.drew).mono ?_; rintro e w2 ⟨rfl, hb2⟩; have HX2 := hid (blk_keep HX1.out (Hid.out (below_drew_left hb2))); have HB2 := hid (HBW.out.drew.trans (hb2.mono HBW.out.size)); clear hb2)
        | (go_at_call 49; refine (HV.out w2 HB2.out).mono ?_; rintro e w3 ⟨u, vs', rfl, hp, ha, hu, hb3⟩; obtain ⟨ua, uc, rfl, _, _, _⟩ := owns_form hu; have HX3 := hid (blk_keep HX2.out hb3); have HB3 := hid (HB2.out.trans (hb3.mono HB2.out.size)); have HU3 := hid (And.intro hp (And.intro ha hu)); clear hu hb3 hp ha))
    all_goals (
      go_wp2
      go_ret2
      obtain ⟨hp, ha, hu⟩ := HU3.out
      refine (show _ ∧ _ from ⟨HB3.out, .inr ⟨o, .slice ua vs'.length uc, vs', HPL.out.1, HPL.out.2.1, HPL.out.2.2, rfl, hp, ha, ?_⟩⟩)
      rw [List.length_map] at hu
      exact owns_mono hu HB2.out.size)

end Go.Proofs.YtnkpogjiiohapaaGreatDoor

/-! ALawB: Plain: a key of more than one byte has no values, till one writes there. -/
namespace Go.Proofs.YtnkpogjiiohapaaGreatDoor
open Go.RowKit

def ShortR (R : List PObj) : Prop := ∀ o ∈ R, ∀ s ∈ o.ss, s.key.size ≤ 1
theorem laid_memA {l : List PSlot} {b x : PId} {s : PSlot} (h : s ∈ laidP l b x) : s ∈ l ∨ s = pslot0 ⟨#[]⟩ x := by
  have key : ∀ n, s ∈ pinsAt l n (pslot0 ⟨#[]⟩ x) → s ∈ l ∨ s = pslot0 ⟨#[]⟩ x := fun n hn => by
    unfold pinsAt at hn
    simp only [List.mem_append, List.mem_cons] at hn
    rcases hn with hn | hn | hn
    · exact .inl (List.mem_of_mem_take hn)
    · exact .inr hn
    · exact .inl (List.mem_of_mem_drop hn)
  unfold laidP at h
  split at h
  · exact key _ h
  · split at h
    · exact .inl h
    · exact key _ h
theorem valued_memA {l : List PSlot} {b : Bool} {key : ByteArray} {x : PId} {old : List PId} {kind : Int} {y : PHeld} {s : PSlot} (h : s ∈ valuedP l b key x old kind y) : (∃ s' ∈ l, s.key = s'.key) ∨ s.key = key := by
  unfold valuedP at h
  split at h
  · split at h
    · exact .inl ⟨s, h, rfl⟩
    · rcases List.mem_append.1 h with h | h
      · exact .inl ⟨s, h, rfl⟩
      · obtain rfl := List.mem_singleton.1 h
        exact .inr rfl
  · rcases mem_modifyG h with h | ⟨s', h1, rfl⟩
    · exact .inl ⟨s, h, rfl⟩
    · exact .inl ⟨s', h1, rfl⟩
theorem ShortR.does {R : List PObj} (h : ShortR R) {p : POp} (hp : p.key.size ≤ 1) : ShortR (doesP R p) := by
  intro o ho s hs
  unfold doesP at ho
  split at ho
  · rcases List.mem_append.1 ho with ho | ho
    · exact h o ho s hs
    · obtain rfl := List.mem_singleton.1 ho
      cases hs
  · split at ho
    · exact h o ho s hs
    · rcases mem_modifyG ho with ho | ⟨y, hy, rfl⟩
      · exact h o ho s hs
      · have key := h y hy
        unfold doesAt at hs
        split at hs
        · split at hs
          · rcases laid_memA hs with hs | rfl
            · exact key s hs
            · exact Nat.zero_le _
          · exact key s hs
        · split at hs
          · rcases valued_memA hs with ⟨s', h1, h2⟩ | h1
            · rw [h2]; exact key s' h1
            · rw [h1]; exact hp
          · exact key s hs
theorem ShortR.all : ∀ (S : List POp) {R : List PObj}, ShortR R → (∀ p ∈ S, p.key.size ≤ 1) → ShortR (S.foldl doesP R)
  | [], _, h, _ => h
  | p :: S, _, h, hp => ShortR.all S (h.does (hp p List.mem_cons_self)) fun q hq => hp q (List.mem_cons_of_mem _ hq)
theorem ShortR.none {R : List PObj} (h : ShortR R) {x : PId} {o : PObj} (ho : objOf R x = some o) {key : ByteArray} (hk : 1 < key.size) (y : PId) : heldsAt o key y = [] := by
  unfold heldsAt
  cases hf : o.ss.find? (pslotIs key y) with
  | none => rfl
  | some s =>
    have h1 := (slotIs_true.1 (List.find?_some hf)).1
    have h2 := h o (List.mem_of_find?_eq_some ho) s (List.mem_of_find?_eq_some hf)
    rw [h1] at h2
    omega
theorem ROf_snocA (ops : List MOp) (y : MOp) : ROf (ops ++ [y]) = doesP (ROf ops) (popOf y.op) := by
  unfold ROf
  rw [List.map_append, List.foldl_append]
  rfl
section
theorem RoomD.short {w : World} {r : Nat} {F I : Nat → Prop} {N sp : Nat} {M : Nat → List MOp} {s : RoomS} {x : RoomX} (h : RoomD w r F I N sp M s x) (hn : NiceQ N M) {c : Nat} (hc : c < N) : ShortR (ROf (s.ops c)) := by
  refine ShortR.all _ (fun o ho s hs => ?_) fun p hp => ?_
  · obtain rfl := List.mem_singleton.1 ho
    cases hs
  · obtain ⟨o, ho, rfl⟩ := List.mem_map.1 hp
    obtain ⟨e, he, hm⟩ := (h.ok.copy c hc).made ho
    exact hn.s e he o hm
theorem RoomD.only0 {w : World} {r : Nat} {F I : Nat → Prop} {N sp : Nat} {M : Nat → List MOp} {s : RoomS} {x : RoomX} (h : RoomD w r F I N sp M s x) {c : Nat} (hc : c < N) (hs : ShortR (ROf (s.ops c))) {o : PObj} (ho : objOf (ROf (s.ops c)) (0, 0) = some o) (hl : o.list = false) {key : ByteArray} (hk : 1 < key.size) : (atPl (x.q c).D.1 (x.q c).D.2 (0, 0) key (0, 0)).vs = [] := by
  have h1 := ((h.ag hc).atK ho hl (key := key) (fun e => by rw [e] at hk; exact absurd hk (by decide)) (0, 0)).2
  rw [hs.none ho hk, List.map_nil] at h1
  exact List.Perm.eq_nil h1
theorem RoomD.only1 {w : World} {r : Nat} {F I : Nat → Prop} {N sp : Nat} {M : Nat → List MOp} {s : RoomS} {x : RoomX} (h : RoomD w r F I N sp M s x) {c : Nat} (hc : c < N) {l : List MOp} {y : MOp} (hs : s.ops c = l ++ [y]) (hr : ShortR (ROf l)) {id : PId} {n : Int} {key : ByteArray} (hy : popOf y.op = ⟨id, 3, false, (0, 0), key, (0, 0), (0, 0), n, (0, 0), []⟩) {o0 : PObj} (ho0 : objOf (ROf l) (0, 0) = some o0) (hl0 : o0.list = false) {o : PObj} (ho : objOf (ROf (s.ops c)) (0, 0) = some o) (hl : o.list = false) (hk : 1 < key.size) : (atPl (x.q c).D.1 (x.q c).D.2 (0, 0) key (0, 0)).vs = [(id, (n, (0, 0)))] := by
  have hke : key ≠ ⟨#[]⟩ := fun e => by rw [e] at hk; exact absurd hk (by decide)
  have h1 := ((h.ag hc).atK ho hl (key := key) hke (0, 0)).2
  have hke' : key.toList.isEmpty = false := by
    cases he : key.toList.isEmpty
    · rfl
    · rw [isEmpty_size] at he
      have : key.size = 0 := by simpa using he
      omega
  have e : o = doesAt ⟨id, 3, false, (0, 0), key, (0, 0), (0, 0), n, (0, 0), []⟩ o0 := by
    rw [hs, ROf_snocA, hy, does_obj (show (3 : Int) ≠ 1 by decide), if_pos rfl, ho0] at ho
    exact (Option.some.inj ho).symm
  have hh : heldsAt o key (0, 0) = [⟨id, n, (0, 0)⟩] := by
    rw [e]
    unfold doesAt
    rw [if_neg (show ¬ (3 : Int) = 2 by decide), if_pos (show o0.list = key.toList.isEmpty by rw [hl0, hke']), hl0]
    show heldsAt ⟨o0.id, false, valuedP o0.ss false key (0, 0) [] 3 ⟨id, n, (0, 0)⟩⟩ key (0, 0) = _
    have hno : ∀ s ∈ o0.ss, pslotIs key (0, 0) s = false := fun s hs' => by
      cases hp : pslotIs key (0, 0) s
      · rfl
      · have h3 := (slotIs_true.1 hp).1
        have h4 := hr o0 (List.mem_of_find?_eq_some ho0) s hs'
        rw [h3] at h4
        omega
    rw [valued_none hno]
    unfold heldsAt
    rw [List.find?_append, List.find?_eq_none.2 (fun s hs' => by rw [hno s hs']; simp)]
    simp only [Option.none_or, List.find?_cons]
    rw [show pslotIs key (0, 0) ⟨key, (0, 0), newHelds [] [] 3 ⟨id, n, (0, 0)⟩⟩ = true from slotIs_true.2 ⟨rfl, rfl⟩]
    rfl
  rw [hh] at h1
  exact List.perm_singleton.1 h1
end

end Go.Proofs.YtnkpogjiiohapaaGreatDoor

/-! ALawC: quirekeep: what Apart keeps in mind. -/
namespace Go.Proofs.YtnkpogjiiohapaaGreatDoor
open Go.RowKit
attribute [local go_sem ↓] Go.wp_at_zero Go.wp_at_succ

def slI (p : Value × List Int) : List Value := [p.1]
/-- A room, and what its copies told, in lists of the law's own. -/
structure AInv (B : Nat) (Z : Nat → Prop) (tb : Nat) (w : World) (r N sp : Nat) (ls : PId) (M : Nat → List MOp) (s : RoomS) (vu vh : Value) (us : List ByteArray) (hs : List (Value × List Int)) : Prop where
  q : QInv Z tb w r N sp ls M s
  u : w.ownsRow 0 9 1 vu us.length (us.flatMap strC)
  h : w.ownsRow 0 24 1 vh hs.length (hs.flatMap slI)
  zu : ∀ g, vu.ownBlock = some g → Z g
  zh : ∀ g, vh.ownBlock = some g → Z g
  each : ∀ p ∈ hs, ownInts 0 w p.1 p.2 ∧ ∀ g, p.1.ownBlock = some g → Z g
  z0 : ∀ k, k < B → Z k
  gu : ∀ g, vu.ownBlock = some g → B ≤ g
  gh : ∀ g, vh.ownBlock = some g → B ≤ g
section
theorem AInv.start {B : Nat} {Z : Nat → Prop} {tb : Nat} {w : World} {r N sp : Nat} {ls : PId} {M : Nat → List MOp} {s : RoomS} (h : QInv Z tb w r N sp ls M s) (hz : ∀ k, k < B → Z k) : AInv B Z tb w r N sp ls M s (.slice none 0 0) (.slice none 0 0) [] [] :=
  ⟨h, World.ownsRow_nil _ _ _ _, World.ownsRow_nil _ _ _ _, fun g hg => (by cases hg), fun g hg => (by cases hg), fun p hp => (by cases hp), hz, fun g hg => (by cases hg), fun g hg => (by cases hg)⟩
theorem AInv.zept {B : Nat} {Z : Nat → Prop} {tb : Nat} {w : World} {r N sp : Nat} {ls : PId} {M : Nat → List MOp} {s : RoomS} {vu vh : Value} {us : List ByteArray} {hs : List (Value × List Int)} {M' : Nat → List MOp} {s' : RoomS} {w' : World} (h : AInv B Z tb w r N sp ls M s vu vh us hs) (hq : QInv Z tb w' r N sp ls M' s') (hz : Zept Z w w') : AInv B Z tb w' r N sp ls M' s' vu vh us hs :=
  ⟨hq, row_blk h.u fun g hg => hz.block g (h.zu g hg), row_blk h.h fun g hg => hz.block g (h.zh g hg), h.zu, h.zh, fun p hp => ⟨row_blk (h.each p hp).1 fun g hg => hz.block g ((h.each p hp).2 g hg), (h.each p hp).2⟩, h.z0, h.gu, h.gh⟩
theorem AInv.keep {B : Nat} {Z : Nat → Prop} {tb : Nat} {w : World} {r N sp : Nat} {ls : PId} {M : Nat → List MOp} {s : RoomS} {vu vh : Value} {us : List ByteArray} {hs : List (Value × List Int)} {w' : World} (h : AInv B Z tb w r N sp ls M s vu vh us hs) (hb : Below w.heap.size w w') : AInv B Z tb w' r N sp ls M s vu vh us hs := h.zept (h.q.keep hb) (Zept.of hb h.q.i.zlt)
theorem AInv.step {B : Nat} {Z : Nat → Prop} {tb : Nat} {w : World} {r N sp : Nat} {ls : PId} {M : Nat → List MOp} {s : RoomS} {vu vh : Value} {us : List ByteArray} {hs : List (Value × List Int)} {w' : World} {ch : Option Nat} (h : AInv B Z tb w r N sp ls M s vu vh us hs) (hs' : Stepd Z tb r N sp ls M s ch w w') : (∃ M' s', Went N M s ch M' s' ∧ AInv B Z tb w' r N sp ls M' s' vu vh us hs) ∧ Below B w w' := by
  obtain ⟨⟨M', s', hw, hq⟩, hz⟩ := hs'
  exact ⟨⟨M', s', hw, h.zept hq hz⟩, hz.below h.z0⟩
/-- What an append in a row of this type leaves. -/
def RowTurn (t : TypeId) (W w1 : World) : Prop := ∀ (g : Nat) (cur : Array Value) (ty : TypeId) (f : Nat × Nat), ty ≠ t → W.heap[g]? = some (.cells cur ty f) → w1.heap[g]? = W.heap[g]?
theorem rowturn_of {t : TypeId} {size n : Nat} {v : Value} {xs : List Value} {W w1 : World} (h : W.ownsRow 0 t size v n xs) (hg : W.grownBy w1 v.ownBlock) : RowTurn t W w1 := fun g cur ty f hne hc => by
  have hlt : g < W.heap.size := by
    rcases Nat.lt_or_ge g W.heap.size with h1 | h1
    · exact h1
    · rw [Array.getElem?_eq_none h1] at hc
      cases hc
  refine hg.block g hlt fun e => ?_
  obtain ⟨c2, k2⟩ := own_type h e.symm
  exact hne (cells_type hc k2)
theorem RowTurn.row {t e : TypeId} {W w1 : World} (h : RowTurn t W w1) (hne : e ≠ t) {B' size n : Nat} {v : Value} {xs : List Value} (ho : W.ownsRow B' e size v n xs) : w1.ownsRow B' e size v n xs := row_blk ho fun g hg => by
  obtain ⟨c, hc⟩ := own_type ho hg
  exact h g c e (0, 0) hne hc
/-- One text more. -/
theorem AInv.moreU {B : Nat} {Z : Nat → Prop} {tb : Nat} {w : World} {r N sp : Nat} {ls : PId} {M : Nat → List MOp} {s : RoomS} {vu vh : Value} {us : List ByteArray} {hs : List (Value × List Int)} {W w1 : World} {v1 : Value} {u : ByteArray} (h : AInv B Z tb w r N sp ls M s vu vh us hs) (hb : Below w.heap.size w W)
    (ho : w1.ownsRow 0 9 1 v1 (us.length + 1) ((us ++ [u]).flatMap strC)) (hg : W.grownBy w1 vu.ownBlock) (hn : newOr W vu v1) : (∃ Z', AInv B Z' tb w1 r N sp ls M s v1 vh (us ++ [u]) hs ∧ ∀ g, w.heap.size ≤ g → g < w1.heap.size → Z' g) ∧ Below B w w1 ∧ RowTurn 9 W w1 := by
  have hs' := hg.size
  have hsW := hb.size
  have hzl := h.q.i.zlt
  have hT : RowTurn 9 W w1 := rowturn_of (owns_keep h.u hb) hg
  have htab : vu.ownBlock ≠ some tb := fun e => by
    obtain ⟨cur, hc⟩ := own_type h.u e
    exact absurd (cells_type hc h.q.i.tab) (by decide)
  have hi := (h.q.i.more hb).turn (ob := vu.ownBlock) (fun g e => ⟨.inl (h.zu g e), fun e' => htab (by rw [e, e'])⟩) hs' (fun k hk hne => hg.block k hk hne)
  refine ⟨⟨_, ⟨⟨hi, h.q.l⟩, by rw [List.length_append]; exact ho, hT.row (by decide) (owns_keep h.h hb), fun g hg' => ?_, fun g hg' => .inl (.inl (h.zh g hg')), fun p hp => ⟨hT.row (by decide) (owns_keep (h.each p hp).1 hb), fun g hg' => .inl (.inl ((h.each p hp).2 g hg'))⟩, fun k hk => .inl (.inl (h.z0 k hk)), fun g hg' => ?_, h.gh⟩, fun g h1 h2 => ?_⟩, ⟨hg.os.trans hb.os, hg.tape.trans hb.tape, hg.output.trans hb.output, Nat.le_trans hsW hs', fun k hk => ?_⟩, hT⟩
  · rcases hn with hn | hn
    · exact .inl (.inl (h.zu g (hn ▸ hg')))
    · exact .inr ⟨hn g hg', (World.ownsRow.lt ho g hg').2⟩
  · rcases hn with hn | hn
    · exact h.gu g (hn ▸ hg')
    · have h9 := hn g hg'
      rcases Nat.eq_zero_or_pos B with h0 | h0
      · omega
      · have := hzl (B - 1) (h.z0 (B - 1) (by omega))
        omega
  · by_cases hgW : g < W.heap.size
    · exact .inl (.inr ⟨h1, hgW⟩)
    · exact .inr ⟨by omega, h2⟩
  · have hkz := hzl k (h.z0 k hk)
    rw [hg.block k (by omega) fun e => ?_, hb.block k hkz]
    have := h.gu k e.symm
    omega
/-- One copy's numbers more. -/
theorem AInv.moreH {B : Nat} {Z : Nat → Prop} {tb : Nat} {w : World} {r N sp : Nat} {ls : PId} {M : Nat → List MOp} {s : RoomS} {vu vh : Value} {us : List ByteArray} {hs : List (Value × List Int)} {W w1 : World} {v1 v : Value} {l : List Int} (h : AInv B Z tb w r N sp ls M s vu vh us hs) (hb : Below w.heap.size w W) (hv : ownInts 0 W v l) (hz : ∀ g, v.ownBlock = some g → Z g)
    (ho : w1.ownsRow 0 24 1 v1 (hs.length + 1) ((hs ++ [(v, l)]).flatMap slI)) (hg : W.grownBy w1 vh.ownBlock) (hn : newOr W vh v1) : (∃ Z', AInv B Z' tb w1 r N sp ls M s vu v1 us (hs ++ [(v, l)])) ∧ Below B w w1 ∧ RowTurn 24 W w1 := by
  have hs' := hg.size
  have hsW := hb.size
  have hzl := h.q.i.zlt
  have hT : RowTurn 24 W w1 := rowturn_of (owns_keep h.h hb) hg
  have htab : vh.ownBlock ≠ some tb := fun e => by
    obtain ⟨cur, hc⟩ := own_type h.h e
    exact absurd (cells_type hc h.q.i.tab) (by decide)
  have hi := (h.q.i.more hb).turn (ob := vh.ownBlock) (fun g e => ⟨.inl (h.zh g e), fun e' => htab (by rw [e, e'])⟩) hs' (fun k hk hne => hg.block k hk hne)
  refine ⟨⟨_, ⟨⟨hi, h.q.l⟩, hT.row (by decide) (owns_keep h.u hb), by rw [List.length_append]; exact ho, fun g hg' => .inl (.inl (h.zu g hg')), fun g hg' => ?_, fun p hp => ?_, fun k hk => .inl (.inl (h.z0 k hk)), h.gu, fun g hg' => ?_⟩⟩, ⟨hg.os.trans hb.os, hg.tape.trans hb.tape, hg.output.trans hb.output, Nat.le_trans hsW hs', fun k hk => ?_⟩, hT⟩
  · rcases hn with hn | hn
    · exact .inl (.inl (h.zh g (hn ▸ hg')))
    · exact .inr ⟨hn g hg', (World.ownsRow.lt ho g hg').2⟩
  · rcases List.mem_append.1 hp with hp | hp
    · exact ⟨hT.row (by decide) (owns_keep (h.each p hp).1 hb), fun g hg' => .inl (.inl ((h.each p hp).2 g hg'))⟩
    · obtain rfl := List.mem_singleton.1 hp
      exact ⟨hT.row (by decide) hv, fun g hg' => .inl (.inl (hz g hg'))⟩
  · rcases hn with hn | hn
    · exact h.gh g (hn ▸ hg')
    · have h9 := hn g hg'
      rcases Nat.eq_zero_or_pos B with h0 | h0
      · omega
      · have := hzl (B - 1) (h.z0 (B - 1) (by omega))
        omega
  · have hkz := hzl k (h.z0 k hk)
    rw [hg.block k (by omega) fun e => ?_, hb.block k hkz]
    have := h.gh k e.symm
    omega
/-- What is kept of copy j. -/
theorem AInv.cellU {B : Nat} {Z : Nat → Prop} {tb : Nat} {w : World} {r N sp : Nat} {ls : PId} {M : Nat → List MOp} {s : RoomS} {vh : Value} {us : List ByteArray} {hs : List (Value × List Int)} {g n cap : Nat} (h : AInv B Z tb w r N sp ls M s (.slice (some ⟨g, 0, none⟩) n cap) vh us hs) {j : Nat} (hj : j < us.length) : w.cell? ⟨g, j, none⟩ = some (.string us[j]) := by
  obtain ⟨a', cap', e, h1, h2, hf⟩ := owns_form h.u
  injection e with e1 e2 e3
  subst e2 e3
  have := owns_cell (f := strC) (fun _ => rfl) h.u rfl j hj 0 Nat.zero_lt_one
  rw [Nat.mul_one, Nat.add_zero] at this
  exact this
theorem AInv.cellH {B : Nat} {Z : Nat → Prop} {tb : Nat} {w : World} {r N sp : Nat} {ls : PId} {M : Nat → List MOp} {s : RoomS} {vu : Value} {us : List ByteArray} {hs : List (Value × List Int)} {g n cap : Nat} (h : AInv B Z tb w r N sp ls M s vu (.slice (some ⟨g, 0, none⟩) n cap) us hs) {j : Nat} (hj : j < hs.length) : w.cell? ⟨g, j, none⟩ = some hs[j].1 := by
  obtain ⟨a', cap', e, h1, h2, hf⟩ := owns_form h.h
  injection e with e1 e2 e3
  subst e2 e3
  have := owns_cell (f := slI) (fun _ => rfl) h.h rfl j hj 0 Nat.zero_lt_one
  rw [Nat.mul_one, Nat.add_zero] at this
  exact this
end

theorem app_txt {ops : Array Oper} {rest : List Oper} {o : Oper} {a : Act} {Q : Exit → Act → World → Prop} {w : World} (hgd : o.guard = none) (s x : Operand) (ho : o.op = .call { callee := .builtin .append, args := #[s, x], argTypes := #[43, 43] }) (v : Value) (ps : List ByteArray) (hs : a.eval s = v)
    (hown : w.ownsRow 0 9 1 v ps.length (ps.flatMap strC)) (g c : Nat) (p : ByteArray) (hx : a.eval x = .slice (some ⟨g, 0, none⟩) 1 c) (h0 : w.cell? ⟨g, 0, none⟩ = some (.string p)) (hlen : ps.length ≤ 1000)
    (h : ∀ v' w', w'.ownsRow 0 9 1 v' (ps.length + 1) ((ps ++ [p]).flatMap strC) → w.grownBy w' v.ownBlock → newOr w v v' → wpList Tryz.prog ops Q rest (a.put o.dst v') w') : wpList Tryz.prog ops Q (o :: rest) a w := by
  refine wpList_plain hgd fun _ hK => ?_
  obtain ⟨i, hi, hz, hsz, hby⟩ := info_parts (show (Tryz.prog.info? 9).map (fun i => (i.zero, i.size, i.bytes)) = some (some (.string ⟨#[]⟩), 1, 16) by kernel_rfl)
  obtain ⟨v', w', hr, h2, h3, h4⟩ := run_app_where (P := Tryz.prog) w 0 43 o.type 9 i (.string ⟨#[]⟩) 1 16 Tryz.underlying43 hi hz hsz hby rfl (by omega) v ps.length (ps.flatMap strC) hown ⟨g, 0, none⟩ 1 c [.string p] rfl
    (fun j u hu => by
      have e : (⟨g, 0, none⟩ : Addr).add j = ⟨g, j, none⟩ := by unfold Addr.add; split <;> simp_all
      rw [e]
      match j, hu with
      | 0, hu => simp at hu; rw [← hu]; exact h0) (fun u hu => by
      simp at hu
      subst hu
      rfl) (by unfold maxLen; omega) (by omega) (Nat.zero_le _)
  unfold Oper.wp execOp
  simp only [ho, resolve, invoke, builtin, Sem.run_bind, Sem.run_pure, Result.andThen_ok, List.map_toArray, List.map_cons, List.map_nil, hs, hx, hr]
  refine hK _ _ (h v' w' ?_ h3 h4)
  have e2 : (ps ++ [p]).flatMap strC = ps.flatMap strC ++ [.string p] := by simp [strC]
  rw [e2]
  exact h2
theorem app_hrd {ops : Array Oper} {rest : List Oper} {o : Oper} {a : Act} {Q : Exit → Act → World → Prop} {w : World} (hgd : o.guard = none) (s x : Operand) (ho : o.op = .call { callee := .builtin .append, args := #[s, x], argTypes := #[44, 44] }) (v : Value) (ps : List (Value × List Int)) (hs : a.eval s = v)
    (hown : w.ownsRow 0 24 1 v ps.length (ps.flatMap slI)) (g c : Nat) (p : Value × List Int) (hx : a.eval x = .slice (some ⟨g, 0, none⟩) 1 c) (h0 : w.cell? ⟨g, 0, none⟩ = some p.1) (w0 : p.1.oneCell' = true) (hlen : ps.length ≤ 1000)
    (h : ∀ v' w', w'.ownsRow 0 24 1 v' (ps.length + 1) ((ps ++ [p]).flatMap slI) → w.grownBy w' v.ownBlock → newOr w v v' → wpList Tryz.prog ops Q rest (a.put o.dst v') w') : wpList Tryz.prog ops Q (o :: rest) a w := by
  refine wpList_plain hgd fun _ hK => ?_
  obtain ⟨i, hi, hz, hsz, hby⟩ := info_parts (show (Tryz.prog.info? 24).map (fun i => (i.zero, i.size, i.bytes)) = some (some (.slice none 0 0), 1, 24) by kernel_rfl)
  obtain ⟨v', w', hr, h2, h3, h4⟩ := run_app_where (P := Tryz.prog) w 0 44 o.type 24 i (.slice none 0 0) 1 24 Tryz.underlying44 hi hz hsz hby rfl (by omega) v ps.length (ps.flatMap slI) hown ⟨g, 0, none⟩ 1 c [p.1] rfl
    (fun j u hu => by
      have e : (⟨g, 0, none⟩ : Addr).add j = ⟨g, j, none⟩ := by unfold Addr.add; split <;> simp_all
      rw [e]
      match j, hu with
      | 0, hu => simp at hu; rw [← hu]; exact h0) (fun u hu => by
      simp at hu
      subst hu
      exact w0) (by unfold maxLen; omega) (by omega) (Nat.zero_le _)
  unfold Oper.wp execOp
  simp only [ho, resolve, invoke, builtin, Sem.run_bind, Sem.run_pure, Result.andThen_ok, List.map_toArray, List.map_cons, List.map_nil, hs, hx, hr]
  refine hK _ _ (h v' w' ?_ h3 h4)
  have e2 : (ps ++ [p]).flatMap slI = ps.flatMap slI ++ [p.1] := by simp [slI]
  rw [e2]
  exact h2
/-- Which copy may be another, as a number. -/
def mayI : Option Nat → Int
  | none => -1
  | some k => k

end Go.Proofs.YtnkpogjiiohapaaGreatDoor

/-! ALawE: quirekeep: Apart's end. -/
namespace Go.Proofs.YtnkpogjiiohapaaGreatDoor
open Go.RowKit

def kO : ByteArray := ⟨#[111, 110, 108, 121]⟩
theorem kO_ok : keyOk kO = true := by decide
/-- What Values answers there. -/
def ValsA (r : Nat) (c : Int) (w1 : World) (R : Option Addr → Nat → Nat → Int → World → Prop) : Prop := ∀ W, Below w1.heap.size w1 W → Calls Tryz.prog 24 #[.pointer (some ⟨r, 0, none⟩), .int .i64 c, .agg #[.int .i64 0, .int .i64 0], .string kO] W fun e w' => Below W.heap.size W w' ∧ ∃ a n cap er, n ≤ cap ∧ cap ≤ maxLen ∧ e = .returned (.tuple #[.slice a n cap, .int .i64 er]) ∧ R a n cap er w'
/-- What Put leaves there. -/
def PutA (r tb N : Nat) (ls : PId) (raw : Int) (w1 : World) (m : Int) : Prop := isTab w1 tb N r ls ∧
  ((m = 8 ∧ ValsA r 1 w1 (fun _ _ _ _ _ => True) ∧ ValsA r 0 w1 (fun _ _ _ _ _ => True)) ∨
   (m = 0 ∧ ValsA r 1 w1 (fun a n _ er w' => er = 0 ∧ n = 1 ∧ ∃ g, a = some ⟨g, 0, none⟩ ∧ w'.cell? ⟨g, 0, none⟩ = some (.int .i64 raw)) ∧ ValsA r 0 w1 (fun _ n _ er _ => er = 0 ∧ n = 0)))
theorem doesAt_list (p : POp) (o : PObj) : (doesAt p o).list = o.list := by
  unfold doesAt
  split
  · split <;> rfl
  · split <;> rfl
theorem root_keep : ∀ (S : List POp) (R : List PObj), (∃ o, objOf R (0, 0) = some o ∧ o.list = false) → ∃ o, objOf (S.foldl doesP R) (0, 0) = some o ∧ o.list = false
  | [], _, h => h
  | p :: S, R, ⟨o, ho, hl⟩ => root_keep S (doesP R p) (by
      by_cases hk : p.kind = 1
      · exact ⟨o, by rw [make_obj hk, ho], hl⟩
      · rw [does_obj hk]
        by_cases hx : ((0, 0) : PId) = p.object
        · rw [if_pos hx, ho]
          exact ⟨doesAt p o, rfl, by rw [doesAt_list]; exact hl⟩
        · rw [if_neg hx]
          exact ⟨o, ho, hl⟩)
theorem root_map {ops : List MOp} {o : PObj} (h : objOf (ROf ops) (0, 0) = some o) : o.list = false := by
  obtain ⟨o', h1, h2⟩ := root_keep (ops.map fun o => popOf o.op) rootP ⟨⟨(0, 0), false, []⟩, rfl, rfl⟩
  have : objOf (ROf ops) (0, 0) = some o' := h1
  rw [h] at this
  cases this
  exact h2
theorem root_obj (ops : List MOp) : ∃ o, objOf (ROf ops) (0, 0) = some o := objOf_root _ _ ⟨⟨(0, 0), false, []⟩, rfl⟩
theorem vals_any {w : World} {r : Nat} {F I : Nat → Prop} {N sp : Nat} {M : Nat → List MOp} {s : RoomS} {x : RoomX} (h : RoomD w r F I N sp M s x) {c : Nat} (hc : c < N) : ValsA r c w (fun a n cap er w' => (∃ m, keyedP (ROf (s.ops c)) (0, 0) kO = .error m) ∨ (∃ o, ∃ vs : List (PId × PVal), objOf (ROf (s.ops c)) (0, 0) = some o ∧ o.list = false ∧ er = 0 ∧ n = vs.length ∧ vs.Perm (atPl (x.q c).D.1 (x.q c).D.2 (0, 0) kO (0, 0)).vs ∧ ∃ B, ownVals B w' (.slice a n cap) (vs.map (·.2)))) := fun W hb => by
  refine (gValues (h.keep hb) hc 0 0 kO (by decide)).mono ?_
  rintro e w' ⟨hb', ⟨m, hm, rfl⟩ | ⟨o, u, vs, ho, hl, _, rfl, hp, _, hu⟩⟩
  · exact ⟨hb', none, 0, 0, m, Nat.le_refl _, Nat.zero_le _, rfl, .inl ⟨m, hm⟩⟩
  · obtain ⟨a, cap, rfl, h1, h2, _⟩ := owns_form hu
    rw [List.length_map] at h1 hu
    refine ⟨hb', a, vs.length, cap, 0, h1, h2, by rw [List.length_map], .inr ⟨o, vs, ho, hl, rfl, rfl, hp, W.heap.size, ?_⟩⟩
    exact hu
theorem ValsA.imp {r : Nat} {c : Int} {w1 : World} {R R' : Option Addr → Nat → Nat → Int → World → Prop} (h : ValsA r c w1 R) (k : ∀ a n cap er w', R a n cap er w' → R' a n cap er w') : ValsA r c w1 R' := fun W hb => by
  refine (h W hb).mono ?_
  rintro e w' ⟨h1, a, n, cap, er, h2, h3, h4, h5⟩
  exact ⟨h1, a, n, cap, er, h2, h3, h4, k _ _ _ _ _ h5⟩
/-- PUT, AT LAST. -/
theorem put_end {B : Nat} {Z : Nat → Prop} {tb : Nat} {w : World} {r N sp : Nat} {ls : PId} {M : Nat → List MOp} {s : RoomS} (h : invS Z tb w r N sp ls M s) (hz : ∀ k, k < B → Z k) (h2 : 2 ≤ N) (raw : Int) :
    Calls Tryz.prog 23 #[.pointer (some ⟨r, 0, none⟩), .int .i64 1, .agg #[.int .i64 0, .int .i64 0], .string kO, .int .i64 raw] w fun e w1 => Below B w w1 ∧ ∃ m, e = .returned (.int .i64 m) ∧ PutA r tb N ls raw w1 m := by
  obtain ⟨F, I, x, hr⟩ := h
  have hmap : ∀ c, c < N → ∀ o, objOf (ROf (s.ops c)) (0, 0) = some o → o.list = false → ∀ m, keyedP (ROf (s.ops c)) (0, 0) kO ≠ .error m := fun c _ o ho hl m => by
    rw [keyed_of ho hl, kO_ok]
    simp
  have hkeep : ∀ {w1 : World} {F' : Nat → Prop}, Keeps F F' w w1 → Below B w w1 ∧ isTab w1 tb N r ls := fun {w1 F'} hk => by
    refine ⟨⟨hk.os, hk.tape, hk.output, hk.size, fun k hkB => hk.other k (hr.zlt k (hz k hkB)) fun hF => hr.far k hF (hz k hkB)⟩, ?_⟩
    exact (hk.other tb (hr.zlt tb hr.ztb) fun hF => hr.far tb hF hr.ztb).trans hr.tab
  refine (gPut hr.d (c := 1) (by omega) 0 0 raw kO (by decide)).mono ?_
  rintro e w1 (⟨m, hm, rfl, F', I', x', hd, _, hk, _⟩ | ⟨o, ss, ho, hl, _, hp, _, rfl, hlt, t, v, F', I', x', hd, _, hk, _⟩)
  · obtain ⟨hb, ht⟩ := hkeep hk
    refine ⟨hb, m, rfl, ht, ?_⟩
    rcases hm with hm | ⟨rfl, _⟩
    · exfalso
      obtain ⟨o, ho⟩ := root_obj (s.ops 1)
      have hl : o.list = false := root_map ho
      exact hmap 1 (by omega) o ho hl m hm
    · exact .inl ⟨rfl, (vals_any hd (c := 1) (by omega)).imp fun _ _ _ _ _ _ => trivial, (vals_any hd (c := 0) (by omega)).imp fun _ _ _ _ _ _ => trivial⟩
  · obtain ⟨hb, ht⟩ := hkeep hk
    refine ⟨hb, 0, rfl, ht, .inr ⟨rfl, ?_, ?_⟩⟩
    · have hsh := hr.d.short hr.nice (c := 1) (by omega)
      have h0 := hr.d.only0 (c := 1) (by omega) hsh ho hl (key := kO) (by decide)
      rw [h0, List.map_nil] at hp
      obtain rfl := List.Perm.eq_nil hp
      refine (vals_any hd (c := 1) (by omega)).imp fun a n cap er w' hv => ?_
      have hops : (wroteS s 1 (.inr (.inr (.inl ((0, 0), kO, (0, 0), (raw, (0, 0)), [])))) t v).ops 1 = s.ops 1 ++ [newOp 1 (s.gt 1) (s.has 1) (.inr (.inr (.inl ((0, 0), kO, (0, 0), (raw, (0, 0)), [])))) t v] := by unfold wroteS copyS; simp only [upd_same]
      rcases hv with ⟨m, hm⟩ | ⟨o', vs, ho', hl', rfl, rfl, hpv, B', hu⟩
      · exfalso
        obtain ⟨o', ho'⟩ := root_obj ((wroteS s 1 (.inr (.inr (.inl ((0, 0), kO, (0, 0), (raw, (0, 0)), [])))) t v).ops 1)
        rw [keyed_of ho' (root_map ho'), kO_ok] at hm
        simp at hm
      · have h1 := hd.only1 (c := 1) (by omega) hops hsh (id := (s.gt 1 + 1, ((1 : Nat) : Int))) (n := raw) (key := kO) rfl ho hl ho' hl' (by decide)
        rw [h1] at hpv
        obtain rfl := List.perm_singleton.1 hpv
        refine ⟨rfl, rfl, ?_⟩
        obtain ⟨a', cap', e, _, _, hf⟩ := owns_form hu
        injection e with e1 _ e3
        subst e1 e3
        obtain ⟨g, rfl⟩ := hf 0 (by simp)
        refine ⟨g, rfl, ?_⟩
        exact owns_cell (f := valC) (fun _ => rfl) hu rfl 0 (by simp) 0 (by omega)
    · have hsh := hr.d.short hr.nice (c := 0) (by omega)
      have hops : (wroteS s 1 (.inr (.inr (.inl ((0, 0), kO, (0, 0), (raw, (0, 0)), ss)))) t v).ops 0 = s.ops 0 := by unfold wroteS copyS; simp only; exact upd_ne _ _ (by decide)
      refine (vals_any hd (c := 0) (by omega)).imp fun a n cap er w' hv => ?_
      rcases hv with ⟨m, hm⟩ | ⟨o', vs, ho', hl', rfl, rfl, hpv, B', hu⟩
      · exfalso
        rw [hops] at hm
        obtain ⟨o', ho'⟩ := root_obj (s.ops 0)
        rw [keyed_of ho' (root_map ho'), kO_ok] at hm
        simp at hm
      · have h1 := hd.only0 (c := 0) (by omega) (by rw [hops]; exact hsh) ho' hl' (key := kO) (by decide)
        rw [h1] at hpv
        rw [List.Perm.eq_nil hpv]
        exact ⟨rfl, rfl⟩

end Go.Proofs.YtnkpogjiiohapaaGreatDoor
