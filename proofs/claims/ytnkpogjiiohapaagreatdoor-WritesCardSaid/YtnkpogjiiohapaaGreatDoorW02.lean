/- Our own text (RefE, RefF, RefG, RefH). -/
import Derived.Deep.RegionLaw
import Derived.Test.YtnkpogjiiohapaaGreatDoorW01
set_option linter.unusedSimpArgs false
set_option linter.unusedVariables false

/-! RefE: Contracts of the reference's after and behind. -/
namespace Go.Proofs.YtnkpogjiiohapaaGreatDoor
open Go.RowKit

/-- What 'after' tells of some keys: no key is behind 'last'; or one that is, and ahead of which no such key stands. -/
def AfterSpec (last : ByteArray) (ks : List CSlot) (r : Int) : Prop :=
  (r = -1 ∧ ∀ j (hj : j < ks.length), keyLess last ks[j].key = false) ∨
  ∃ i, ∃ hi : i < ks.length, r = (i : Int) ∧ keyLess last ks[i].key = true ∧ ∀ j (hj : j < ks.length), keyLess last ks[j].key = true → keyLess ks[j].key ks[i].key = false

def AfterUpto (last : ByteArray) (ks : List CSlot) (k : Nat) (r : Int) : Prop :=
  (r = -1 ∧ ∀ j (hj : j < ks.length), j < k → keyLess last ks[j].key = false) ∨
  ∃ i, ∃ hi : i < ks.length, i < k ∧ r = (i : Int) ∧ keyLess last ks[i].key = true ∧ ∀ j (hj : j < ks.length), j < k → keyLess last ks[j].key = true → keyLess ks[j].key ks[i].key = false

theorem AfterUpto.all {last : ByteArray} {ks : List CSlot} {r : Int} (h : AfterUpto last ks ks.length r) : AfterSpec last ks r := by
  rcases h with ⟨h1, h2⟩ | ⟨i, hi, _, h1, h2, h3⟩
  · exact .inl ⟨h1, fun j hj => h2 j hj hj⟩
  · exact .inr ⟨i, hi, h1, h2, fun j hj => h3 j hj hj⟩
theorem less_irrefl (l : List UInt8) : Op.bytesLess l l = false := by
  induction l with
  | nil => rfl
  | cons a l ih => simp [Op.bytesLess, ih, UInt8.lt_iff_toNat_lt]
theorem AfterUpto.no {last : ByteArray} {ks : List CSlot} {k : Nat} {r : Int} (hk : k < ks.length) (h : AfterUpto last ks k r) (hn : keyLess last ks[k].key = false) : AfterUpto last ks (k + 1) r := by
  rcases h with ⟨h1, h2⟩ | ⟨i, hi, h0, h1, h2, h3⟩
  · refine .inl ⟨h1, fun j hj hjk => ?_⟩
    by_cases e : j = k
    · subst e; exact hn
    · exact h2 j hj (by omega)
  · refine .inr ⟨i, hi, by omega, h1, h2, fun j hj hjk hl => ?_⟩
    by_cases e : j = k
    · subst e; rw [hn] at hl; cases hl
    · exact h3 j hj (by omega) hl
theorem AfterUpto.first {last : ByteArray} {ks : List CSlot} {k : Nat} (hk : k < ks.length) (h : AfterUpto last ks k (-1)) (hn : keyLess last ks[k].key = true) : AfterUpto last ks (k + 1) k := by
  rcases h with ⟨_, h2⟩ | ⟨i, hi, h0, h1, _⟩
  · refine .inr ⟨k, hk, by omega, rfl, hn, fun j hj hjk hl => ?_⟩
    by_cases e : j = k
    · subst e; exact less_irrefl _
    · rw [h2 j hj (by omega)] at hl; cases hl
  · omega
theorem less_trans : ∀ (a b c : List UInt8), Op.bytesLess a b = true → Op.bytesLess b c = true → Op.bytesLess a c = true
  | _, _, [], _, h => by simp [Op.bytesLess] at h
  | [], _, _ :: _, _, _ => by simp [Op.bytesLess]
  | _ :: _, [], _ :: _, h, _ => by simp [Op.bytesLess] at h
  | x :: a, y :: b, z :: c, h1, h2 => by
    simp [Op.bytesLess, UInt8.lt_iff_toNat_lt] at h1 h2 ⊢
    rcases h1 with h1 | ⟨rfl, h1⟩
    · rcases h2 with h2 | ⟨rfl, h2⟩
      · left; omega
      · left; exact h1
    · rcases h2 with h2 | ⟨rfl, h2⟩
      · left; exact h2
      · right; exact ⟨rfl, less_trans a b c h1 h2⟩
theorem AfterUpto.better {last : ByteArray} {ks : List CSlot} {k m : Nat} (hk : k < ks.length) (hm : m < ks.length) (h : AfterUpto last ks k m) (hn : keyLess last ks[k].key = true) (hb : keyLess ks[k].key ks[m].key = true) : AfterUpto last ks (k + 1) k := by
  rcases h with ⟨h1, _⟩ | ⟨i, hi, h0, h1, h2, h3⟩
  · omega
  · have : m = i := by omega
    subst this
    refine .inr ⟨k, hk, by omega, rfl, hn, fun j hj hjk hl => ?_⟩
    by_cases e : j = k
    · subst e; exact less_irrefl _
    · have := h3 j hj (by omega) hl
      cases hc : keyLess ks[j].key ks[k].key
      · rfl
      · have := less_trans _ _ _ hc hb
        unfold keyLess at *; simp_all
theorem AfterUpto.worse {last : ByteArray} {ks : List CSlot} {k m : Nat} (hk : k < ks.length) (hm : m < ks.length) (h : AfterUpto last ks k m) (hb : keyLess ks[k].key ks[m].key = false) : AfterUpto last ks (k + 1) m := by
  rcases h with ⟨h1, _⟩ | ⟨i, hi, h0, h1, h2, h3⟩
  · omega
  · have : m = i := by omega
    subst this
    refine .inr ⟨m, hm, by omega, rfl, h2, fun j hj hjk hl => ?_⟩
    by_cases e : j = k
    · subst e; exact hb
    · exact h3 j hj (by omega) hl
theorem AfterUpto.shape {last : ByteArray} {ks : List CSlot} {k : Nat} {r : Int} (h : AfterUpto last ks k r) : r = -1 ∨ ∃ m : Nat, ∃ _ : m < ks.length, r = (m : Int) := by
  rcases h with ⟨h1, _⟩ | ⟨i, hi, _, h1, _⟩
  · exact .inl h1
  · exact .inr ⟨i, hi, h1⟩

theorem quiet_at {P : Program} {f : FuncId} {args : Array Value} {w : World} {N x : Nat} {v : Value}
    (h : Calls P f args (w.drewN (N + x)) fun e w' => e = .returned v ∧ ∃ m, w' = (w.drewN (N + x)).drewN m) : Calls P f args (w.drewN (N + x)) fun e w'' => e = .returned v ∧ ∃ m, w'' = w.drewN (N + m) :=
  h.mono fun _ _ ⟨he, m, hm⟩ => ⟨he, x + m, by rw [hm, World.drewN_drewN, Nat.add_assoc]⟩

set_option maxRecDepth 1000000 in
set_option maxHeartbeats 800000 in
theorem after_any (B pb po : Nat) (v : Value) (l : List CSlot) (last : ByteArray) (w : World) (hp : w.cell? ⟨pb, po + 3, none⟩ = some v) (h : isSlots B w v l)
    (hks : ∀ s ∈ l, s.key.size ≤ maxLen) (hla : last.size ≤ maxLen) :
    Calls Tryz.prog 176 #[.pointer (some ⟨pb, po, none⟩), .string last] w fun e w' =>
      ∃ r, e = .returned (.int .i64 r) ∧ AfterSpec last l r ∧ ∃ n, w' = w.drewN n := by
  obtain ⟨a, cap, rfl, hlc, hcm, hform⟩ := owns_form h.1
  unfold maxLen at hcm
  have HF := hid (hform); clear hform
  have HH := hid (h); clear h
  have HK := hid (hks); clear hks
  go_enter Tryz.func176, Tryz.ntmps176
  go_wp2
  go_loopw [5, 6] (fun b i wr => ∃ k : Nat, ∃ r : Int, k ≤ l.length ∧ i = .int .i64 k ∧ b = .int .i64 r ∧ AfterUpto last l k r ∧ ∃ n, wr = w.drewN n) (fun _ i _ => l.length - (intOf i).toNat)
  case atStart => exact ⟨0, -1, Nat.zero_le _, rfl, rfl, .inl ⟨rfl, fun _ _ h => absurd h (Nat.not_lt_zero _)⟩, 0, rfl⟩
  case round =>
    obtain ⟨k, r, hk, rfl, rfl, hn, n, rfl⟩ := hrel
    by_cases hlt : k < l.length
    · obtain ⟨g, rfl⟩ := HF.out k hlt
      obtain ⟨h0, h1, h2, h3⟩ := isSlots.cells HH.out rfl k hlt
      have hsz := HK.out l[k] (List.getElem_mem _)
      clear h1 h2 h3
      have HA := fun W => ahead_any last l[k].key W hla hsz
      cases hq : keyLess last l[k].key
      · go_wp2_with (go_at_call 193; refine (HA _).mono ?_; rintro e w' ⟨rfl, n', rfl⟩)
        go_roundw
        case rel => exact ⟨k + 1, r, by omega, by go_num, rfl, hn.no hlt hq, _, rfl⟩
        case measure => simp [intOf]; omega
      · rcases hn.shape with rfl | ⟨m, hm, rfl⟩
        · go_wp2_with (go_at_call 193; refine (HA _).mono ?_; rintro e w' ⟨rfl, n', rfl⟩)
          go_roundw
          case rel => exact ⟨k + 1, k, by omega, by go_num, rfl, hn.first hlt hq, _, rfl⟩
          case measure => simp [intOf]; omega
        · obtain ⟨m0, m1, m2, m3⟩ := isSlots.cells HH.out rfl m hm
          have hsm := HK.out l[m] (List.getElem_mem _)
          clear m1 m2 m3
          have HB := fun W => ahead_any l[k].key l[m].key W hsz hsm
          have hm0 : ¬ (m : Int) < 0 := by omega
          go_wp2_with (go_at_call 193; refine (HA _).mono ?_; rintro e w' ⟨rfl, n', rfl⟩)
          go_quiet ((go_at_call 193; exact quiet_at (HB _)))
          cases hb : keyLess l[k].key l[m].key
          · go_wp2
            go_roundw
            case rel => exact ⟨k + 1, m, by omega, by go_num, rfl, hn.worse hlt hm hb, _, rfl⟩
            case measure => simp [intOf]; omega
          · go_wp2
            go_roundw
            case rel => exact ⟨k + 1, k, by omega, by go_num, rfl, hn.better hlt hm hq hb, _, rfl⟩
            case measure => simp [intOf]; omega
    · go_wp2
      go_ret
      exact ⟨r, rfl, (by have : k = l.length := by omega
                         subst this; exact hn.all), _, rfl⟩
end Go.Proofs.YtnkpogjiiohapaaGreatDoor

/-! RefF: Laws for appending several elements, and what an update of an object's slots leaves; the contract of the reference's laid. -/
namespace Go.Proofs.YtnkpogjiiohapaaGreatDoor
open Go.RowKit

/-- What a slice that is appended yields. -/
def srcIs {α : Type} (w : World) (f : α → List Value) (x : Value) (l : List α) : Prop :=
  (x = .slice none 0 0 ∧ l = []) ∨ ∃ a c, x = .slice (some a) l.length c ∧ ∀ j u, (l.flatMap f)[j]? = some u → w.cell? (a.add j) = some u

theorem app_many {α : Type} (f : α → List Value) (size bytes : Nat) (t e : TypeId) (z : Value) (hinfo : (Tryz.prog.info? e).map (fun i => (i.zero, i.size, i.bytes)) = some (some z, size, bytes))
    (ht : Tryz.prog.underlying t = some (.slice e)) (hzs : z.cells.size = size) (hk : 0 < size) (hf : ∀ x, (f x).length = size)
    {ops : Array Oper} {rest : List Oper} {o : Oper} {a : Act} {Q : Exit → Act → World → Prop} {w : World} (hgd : o.guard = none) (s x : Operand)
    (ho : o.op = .call { callee := .builtin .append, args := #[s, x], argTypes := #[t, t] }) (B : Nat) (v : Value) (l l2 : List α) (hs : a.eval s = v)
    (hown : w.ownsRow B e size v l.length (l.flatMap f)) (xv : Value) (hx : a.eval x = xv) (hsrc : srcIs w f xv l2) (h1 : ∀ u ∈ l2.flatMap f, u.oneCell' = true)
    (hlen : (l.length + l2.length) * bytes ≤ 140737488355328) (hlen' : l.length + l2.length ≤ maxLen) (hB : B ≤ w.heap.size)
    (h : ∀ v' w', w'.ownsRow B e size v' (l.length + l2.length) ((l ++ l2).flatMap f) → w.grownBy w' v.ownBlock → wpList Tryz.prog ops Q rest (a.put o.dst v') w') : wpList Tryz.prog ops Q (o :: rest) a w := by
  obtain ⟨i, hi, hz, hsz, hby⟩ := info_parts hinfo
  rcases hsrc with ⟨rfl, rfl⟩ | ⟨ad, c, rfl, hc⟩
  · refine wpList_plain hgd fun _ hK => ?_
    have hr := run_append_owned_none (P := Tryz.prog) w B t o.type e i size ht hi v l.length _ hown
    unfold Oper.wp execOp
    simp only [ho, resolve, invoke, builtin, Sem.run_bind, Sem.run_pure, Result.andThen_ok, List.map_toArray, List.map_cons, List.map_nil, hs, hx, hr]
    exact hK _ _ (h v w (by simpa using hown) (World.grownBy.refl w _))
  · refine wpList_append_own (P := Tryz.prog) w hgd s x t ho B e i z size bytes ht hi hz hsz hby hzs hk v l.length (l.flatMap f) hs hown ad l2.length c (l2.flatMap f) hx (flat_len f size hf l2) hc h1 hlen' hlen hB ?_
    intro v' w' h2 h3 _
    exact h v' w' (by simpa using h2) h3

theorem slot_wf {B : Nat} {w : World} {v : Value} {l : List CSlot} (h : isSlots B w v l) : ∀ u ∈ l.flatMap slotC, u.oneCell' = true := by
  intro u hu
  obtain ⟨s, hs, hu⟩ := List.mem_flatMap.1 hu
  obtain ⟨a, c, hv, _⟩ := owns_form (h.2 s hs)
  simp [slotC] at hu
  rcases hu with rfl | rfl | rfl | rfl
  · rfl
  · rfl
  · rfl
  · rw [hv]; rfl

/-- An empty slot. -/
def slot0 (key : ByteArray) (x : PId) : CSlot := ⟨key, x, .slice none 0 0, []⟩

/-- A row of slots of the call's own; what the values say is asked apart. -/
def ownSlots (B : Nat) (w : World) (v : Value) (l : List CSlot) : Prop := w.ownsRow B 269 4 v l.length (l.flatMap slotC)
theorem ownSlots.alloc {B : Nat} {w : World} {v : Value} {l : List CSlot} (h : ownSlots B w v l) (o : Obj) : ownSlots B (w.alloc o) v l := World.ownsRow.alloc h o

theorem app_slots {ops : Array Oper} {rest : List Oper} {o : Oper} {a : Act} {Q : Exit → Act → World → Prop} {w : World} (hgd : o.guard = none) (s x : Operand)
    (ho : o.op = .call { callee := .builtin .append, args := #[s, x], argTypes := #[270, 270] }) (B : Nat) (v : Value) (l l2 : List CSlot) (hs : a.eval s = v)
    (hown : ownSlots B w v l) (xv : Value) (hx : a.eval x = xv) (hsrc : srcIs w slotC xv l2) (h1 : ∀ u ∈ l2.flatMap slotC, u.oneCell' = true) (hlen : l.length + l2.length < 10000000) (hB : B ≤ w.heap.size)
    (h : ∀ v' w', ownSlots B w' v' (l ++ l2) → w.grownBy w' v.ownBlock → wpList Tryz.prog ops Q rest (a.put o.dst v') w') : wpList Tryz.prog ops Q (o :: rest) a w :=
  app_many slotC 4 56 270 269 (.agg #[.string ⟨#[]⟩, .int .i64 0, .int .i64 0, .slice none 0 0]) (by kernel_rfl) Tryz.underlying270 rfl (by omega) (fun _ => rfl)
    hgd s x ho B v l l2 hs hown xv hx hsrc h1 (by omega) (by unfold maxLen; omega) hB (fun v' w' h2 h3 => h v' w' (by unfold ownSlots; simpa using h2) h3)

/-- A slice 'v[:at]' of a row. -/
theorem src_head {α : Type} {B : Nat} {w : World} {e : TypeId} {k : Nat} {f : α → List Value} {a : Option Addr} {n cap : Nat} {l : List α} (h : w.ownsRow B e k (.slice a n cap) n (l.flatMap f)) (hf : ∀ x, (f x).length = k) (hn : n = l.length)
    (at_ : Nat) (hat : at_ ≤ n) (c : Nat) (hc : at_ = 0 → a = none → c = 0) : srcIs w f (.slice a at_ c) (l.take at_) := by
  subst hn
  rcases h.2 with ⟨e1, e2⟩ | ⟨g, cap', cur, e1, hb, hg, h1, h2, h3, h4⟩
  · injection e1 with e1 e3 e4
    subst e1
    have : at_ = 0 := by omega
    subst this
    exact .inl ⟨by rw [hc rfl rfl], by simp⟩
  · injection e1 with e1 e3 e4
    subst e1; subst e4
    refine .inr ⟨⟨g, 0, none⟩, c, by rw [List.length_take, Nat.min_eq_left hat], fun j u hu => ?_⟩
    have hx : ((⟨g, 0, none⟩ : Addr).add j) = ⟨g, j, none⟩ := by unfold Addr.add; split <;> simp_all
    rw [hx]
    have hj : j < at_ * k := by
      have := (List.getElem?_eq_some_iff.1 hu).1
      rw [flat_len f k hf, List.length_take, Nat.min_eq_left hat] at this; exact this
    have hjl : j < l.length * k := Nat.lt_of_lt_of_le hj (Nat.mul_le_mul_right _ hat)
    rw [h.cellAt j hjl]
    have e : l.flatMap f = (l.take at_).flatMap f ++ (l.drop at_).flatMap f := by rw [← List.flatMap_append, List.take_append_drop]
    rw [e, List.getElem?_append_left (by rw [flat_len f k hf, List.length_take, Nat.min_eq_left hat]; exact hj)]
    exact hu

/-- A slice 'v[at:]' of a row. -/
theorem src_tail {α : Type} {B : Nat} {w : World} {e : TypeId} {k : Nat} {f : α → List Value} {a : Option Addr} {n cap : Nat} {l : List α} (h : w.ownsRow B e k (.slice a n cap) n (l.flatMap f)) (hf : ∀ x, (f x).length = k) (hn : n = l.length)
    (at_ : Nat) (hat : at_ ≤ n) (ax : Option Addr) (hax : ax = if cap = at_ then a else a.map (·.add (at_ * k))) : srcIs w f (.slice ax (n - at_) (cap - at_)) (l.drop at_) := by
  subst hn
  rcases h.2 with ⟨e1, e2⟩ | ⟨g, cap', cur, e1, hb, hg, h1, h2, h3, h4⟩
  · injection e1 with e1 e3 e4
    subst e1; subst e4
    have : at_ = 0 := by omega
    subst this
    simp at hax
    subst hax
    exact .inl ⟨by rw [e2], by simpa using e2⟩
  · injection e1 with e1 e3 e4
    subst e1; subst e4
    by_cases hca : cap = at_
    · rw [if_pos hca] at hax
      subst hax
      have : l.drop at_ = [] := List.drop_eq_nil_of_le (by omega)
      refine .inr ⟨⟨g, 0, none⟩, _, by rw [List.length_drop], fun j u hu => ?_⟩
      rw [this] at hu; simp at hu
    · rw [if_neg hca] at hax
      simp at hax
      subst hax
      refine .inr ⟨_, _, by rw [List.length_drop], fun j u hu => ?_⟩
      have hx : (((⟨g, 0, none⟩ : Addr).add (at_ * k)).add j) = ⟨g, at_ * k + j, none⟩ := by
        unfold Addr.add
        split <;> split <;> simp_all
      rw [hx]
      have hj : j < (l.length - at_) * k := by
        have := (List.getElem?_eq_some_iff.1 hu).1
        rw [flat_len f k hf, List.length_drop] at this; exact this
      have hjl : at_ * k + j < l.length * k := by rw [Nat.sub_mul] at hj; omega
      rw [h.cellAt _ hjl]
      have e : l.flatMap f = (l.take at_).flatMap f ++ (l.drop at_).flatMap f := by rw [← List.flatMap_append, List.take_append_drop]
      have el : ((l.take at_).flatMap f).length = at_ * k := by rw [flat_len f k hf, List.length_take, Nat.min_eq_left hat]
      rw [e, List.getElem?_append_right (by rw [el]; omega), el]
      rw [Nat.add_sub_cancel_left]; exact hu

end Go.Proofs.YtnkpogjiiohapaaGreatDoor

/-! RefG: The contract of the reference's laid: the object's slots are the old ones with one more behind the named one. -/
namespace Go.Proofs.YtnkpogjiiohapaaGreatDoor
open Go.RowKit

theorem run_idNe (a b c d : Int) (W : World) : (binOp .neq 36 (.agg #[.int .i64 a, .int .i64 b]) (.agg #[.int .i64 c, .int .i64 d])).run Tryz.prog W = .ok (.bool (!idEq a b c d)) W := by
  go_simp
  unfold idEq
  by_cases h1 : a = c <;> by_cases h2 : b = d <;> simp [h1, h2]

/-- The object at ⟨go, oo⟩ has other slots; nothing else that was there has turned, but its row of slots. -/
structure ObjUpd (B : Nat) (w w' : World) (go oo : Nat) (curO : Array Value) (v : Value) (l' : List CSlot) : Prop where
  ex : ∃ v', isSlots B w' v' l' ∧ w'.heap[go]? = some (.cells (curO.setIfInBounds (oo + 3) v') 272 (0, 0)) ∧ (v'.ownBlock = v.ownBlock ∨ ∀ k, v'.ownBlock = some k → w.heap.size ≤ k)
  os : w'.os = w.os
  tape : w'.tape = w.tape
  output : w'.output = w.output
  size : w.heap.size ≤ w'.heap.size
  other : ∀ k, k < w.heap.size → k ≠ go → some k ≠ v.ownBlock → w'.heap[k]? = w.heap[k]?

theorem set_same {c : Array Value} {i : Nat} {v : Value} (h : c[i]? = some v) : c.setIfInBounds i v = c := by
  apply Array.ext_getElem?
  intro j
  rw [Array.getElem?_setIfInBounds]
  split
  · rename_i e; subst e; split
    · exact h.symm
    · rename_i hn; rw [Array.getElem?_eq_none (by omega)]
  · rfl

theorem ObjUpd.same {B : Nat} {w w' : World} {go oo : Nat} {curO : Array Value} {v : Value} {l : List CSlot} (hgo : w.heap[go]? = some (.cells curO 272 (0, 0))) (hoo : curO[oo + 3]? = some v)
    (h : isSlots B w v l) (hb : Below w.heap.size w w') : ObjUpd B w w' go oo curO v l :=
  ⟨⟨v, h.keep hb, by rw [set_same hoo, hb.block go (Array.getElem?_eq_some_iff.1 hgo).1]; exact hgo, .inl rfl⟩, hb.os, hb.tape, hb.output, hb.size, fun k hk _ _ => hb.block k hk⟩

/-- New slots in new memory, stored. -/
theorem ObjUpd.stored {B : Nat} {w w1 : World} {go oo : Nat} {curO : Array Value} {v v' : Value} {l' : List CSlot} (hgo : w.heap[go]? = some (.cells curO 272 (0, 0)))
    (hb : Below w.heap.size w w1) (hB : B ≤ w.heap.size) (hs : ownSlots w.heap.size w1 v' l') (hh : ∀ s ∈ l', isHelds w1 s.vals s.hs) :
    ObjUpd B w (w1.setCell ⟨go, oo + 3, none⟩ v') go oo curO v l' := by
  have hlt : go < w.heap.size := (Array.getElem?_eq_some_iff.1 hgo).1
  have hgo1 : w1.heap[go]? = some (.cells curO 272 (0, 0)) := by rw [hb.block go hlt]; exact hgo
  have hoth : ∀ k, k ≠ go → (w1.setCell ⟨go, oo + 3, none⟩ v').heap[k]? = w1.heap[k]? := fun k hk => Below.heap_setCell _ _ _ _ hk
  refine ⟨⟨v', ⟨?_, ?_⟩, ?_, .inr fun k hk => (World.ownsRow.lt hs k hk).1⟩, hb.os, hb.tape, hb.output, by simpa [World.setCell] using hb.size, fun k hk h1 _ => by rw [hoth k h1, hb.block k hk]⟩
  · refine ⟨hs.1, ?_⟩
    rcases hs.2 with hn | ⟨g, cap, cur, rfl, h1, hg, rest⟩
    · exact .inl hn
    · exact .inr ⟨g, cap, cur, rfl, Nat.le_trans hB h1, by rw [hoth g (by omega)]; exact hg, rest⟩
  · intro s hs'
    have := hh s hs'
    refine ⟨this.1, ?_⟩
    rcases this.2 with hn | ⟨g, cap, cur, e, h1, hg, rest⟩
    · exact .inl hn
    · refine .inr ⟨g, cap, cur, e, h1, ?_, rest⟩
      have : g ≠ go := by
        intro e; subst e; rw [hgo1] at hg; injection hg with hg; injection hg with _ hg _
        exact absurd hg (by decide)
      rw [hoth g this]; exact hg
  · simp [World.setCell, Array.getElem?_modify, hgo1]

/-- A list with one more at a place. -/
def insAt (l : List CSlot) (n : Nat) (s : CSlot) : List CSlot := l.take n ++ s :: l.drop n
theorem insAt_eq (l : List CSlot) (n : Nat) (s : CSlot) : l.take n ++ [s] ++ l.drop n = insAt l n s := by simp [insAt]
theorem own_len {B : Nat} {w : World} {v : Value} {l l' : List CSlot} (h : ownSlots B w v l) (e : l = l') : ownSlots B w v l' := e ▸ h

def laidL (l : List CSlot) (b x : PId) : List CSlot :=
  if idEq b.1 b.2 0 0 then insAt l 0 (slot0 ⟨#[]⟩ x)
  else if firstI (slotIs ⟨#[]⟩ b) l < 0 then l
  else insAt l ((firstI (slotIs ⟨#[]⟩ b) l).toNat + 1) (slot0 ⟨#[]⟩ x)

theorem firstI_lt {α : Type} (p : α → Bool) (l : List α) : firstI p l < l.length := by
  unfold firstI
  split
  · rename_i i h; have := (List.findIdx?_eq_some_iff_getElem.1 h).1; omega
  · omega
theorem firstI_ge {α : Type} (p : α → Bool) (l : List α) : -1 ≤ firstI p l := by
  unfold firstI; split <;> omega

theorem slot0_cells {W : World} {x1 x2 : Int} : srcIs (W.alloc (.cells #[.string ⟨#[]⟩, .int .i64 x1, .int .i64 x2, .slice none 0 0] 269)) slotC (.slice (some ⟨W.heap.size, 0, none⟩) 1 1) [slot0 ⟨#[]⟩ (x1, x2)] := by
  refine .inr ⟨_, _, rfl, fun j u hu => ?_⟩
  have hx : ((⟨W.heap.size, 0, none⟩ : Addr).add j) = ⟨W.heap.size, j, none⟩ := by unfold Addr.add; split <;> simp_all
  rw [hx, World.cell?_alloc_at _ _ _ _ rfl]
  match j with
  | 0 => simpa [slotC, slot0] using hu
  | 1 => simpa [slotC, slot0] using hu
  | 2 => simpa [slotC, slot0] using hu
  | 3 => simpa [slotC, slot0] using hu
  | j + 4 => simp [slotC, slot0] at hu
theorem slot0_wf {key : ByteArray} {x : PId} : ∀ u ∈ [slot0 key x].flatMap slotC, u.oneCell' = true := by
  intro u hu; simp [slot0, slotC] at hu; rcases hu with rfl | rfl | rfl | rfl <;> rfl

theorem held_nil (w : World) : isHelds w (.slice none 0 0) [] := World.ownsRow_nil _ _ _ _

theorem ownSlots.below {B : Nat} {w0 w w' : World} {v : Value} {l : List CSlot} (h : ownSlots B w v l) (hb : Below B w0 w) (hB : B ≤ w.heap.size) (hg : w.grownBy w' v.ownBlock) : Below B w0 w' :=
  hb.grown hg hB fun k hk => (World.ownsRow.lt h k hk).1

theorem wf_take {l : List CSlot} (h : ∀ u ∈ l.flatMap slotC, u.oneCell' = true) (n : Nat) : ∀ u ∈ (l.take n).flatMap slotC, u.oneCell' = true := fun u hu => by
  obtain ⟨s, hs, hu⟩ := List.mem_flatMap.1 hu
  exact h u (List.mem_flatMap.2 ⟨s, List.mem_of_mem_take hs, hu⟩)
theorem wf_drop {l : List CSlot} (h : ∀ u ∈ l.flatMap slotC, u.oneCell' = true) (n : Nat) : ∀ u ∈ (l.drop n).flatMap slotC, u.oneCell' = true := fun u hu => by
  obtain ⟨s, hs, hu⟩ := List.mem_flatMap.1 hu
  exact h u (List.mem_flatMap.2 ⟨s, List.mem_of_mem_drop hs, hu⟩)

theorem owns_none {w : World} {base : Nat} {e : TypeId} {size : Nat} {n cap m : Nat} {xs : List Value} (h : w.ownsRow base e size (.slice none n cap) m xs) : cap = 0 := by
  rcases h.2 with ⟨e1, _⟩ | ⟨g, c, cur, e1, _⟩
  · injection e1
  · injection e1 with e1; cases e1

theorem isSlots.cell {B : Nat} {w : World} {v : Value} {l : List CSlot} (h : isSlots B w v l) : ownSlots B w v l := h.1
theorem helds_mid {w w' : World} {l : List CSlot} {x : PId} (h : ∀ s ∈ l, isHelds w s.vals s.hs) (hb : Below w.heap.size w w') (n m : Nat) : ∀ s ∈ (l.take n ++ [slot0 ⟨#[]⟩ x]) ++ l.drop m, isHelds w' s.vals s.hs := by
  intro s hs
  rw [List.mem_append, List.mem_append] at hs
  rcases hs with (hs | hs) | hs
  · exact (h s (List.mem_of_mem_take hs)).keep hb
  · simp at hs; subst hs; exact held_nil _
  · exact (h s (List.mem_of_mem_drop hs)).keep hb

set_option maxRecDepth 1000000 in
set_option maxHeartbeats 800000 in
theorem laid_zero (B go oo : Nat) (curO : Array Value) (v : Value) (l : List CSlot) (x1 x2 : Int) (w : World) (hgo : w.heap[go]? = some (.cells curO 272 (0, 0))) (hoo : curO[oo + 3]? = some v)
    (h : isSlots B w v l) (hl : l.length < 1000000) (hB : B ≤ w.heap.size) :
    Calls Tryz.prog 214 #[.pointer (some ⟨go, oo, none⟩), .agg #[.int .i64 0, .int .i64 0], .agg #[.int .i64 x1, .int .i64 x2]] w fun e w' =>
      e = .returned (.tuple #[]) ∧ ObjUpd B w w' go oo curO v (insAt l 0 (slot0 ⟨#[]⟩ (x1, x2))) := by
  obtain ⟨a, cap, rfl, hlc, hcm, hform⟩ := owns_form h.1
  unfold maxLen at hcm
  have hp : w.cell? ⟨go, oo + 3, none⟩ = some (.slice a l.length cap) := by simp [World.cell?, hgo, hoo]
  have hp0 := hid (hp)
  have hfz : Hid (w.frozen? ⟨go, oo + 3, none⟩ = false) := by simp [Hid, World.frozen?, hgo]
  have hgl : go < w.heap.size := World.block_lt_of_cell? w _ hp
  have hz1 : w.heap.size ≤ w.heap.size := Nat.le_refl _
  have HH := hid (h); clear h
  have HGO := hid (hgo); clear hgo
  have HOO := hid (hoo); clear hoo
  clear hform
  have hne := run_idNe
  have h00 : idEq 0 0 0 0 = true := rfl
  go_enter Tryz.func214, Tryz.ntmps214
  go_wp2_with (first
    | (at_builtin; refine app_slots rfl (.tmp 19) (.tmp 25) rfl w.heap.size (.slice none 0 0) [] (l.take (0)) rfl ?h1 (.slice a (0) cap) rfl ?h2 ?h3 ?h4 ?h5 ?_; (case h1 => exact World.ownsRow_nil _ _ _ _); (case h2 => exact src_head (HH.out.keep (((Below.refl w.heap.size w).alloc (Nat.le_refl _) _).alloc (by simp) _)).1 (fun _ => rfl) rfl (0) (by omega) cap (fun _ e => by have := HH.out.1; rw [e] at this; exact owns_none this)); (case h3 => exact wf_take (slot_wf HH.out) _); (case h4 => simp <;> omega); (case h5 => exact (((Below.refl w.heap.size w).alloc (Nat.le_refl _) _).alloc (by simp) _).size); intro v1 w1 hown1 hg1; have hb1 : Below w.heap.size w w1 := (((Below.refl w.heap.size w).alloc (Nat.le_refl _) _).alloc (by simp) _).grown hg1 (((Below.refl w.heap.size w).alloc (Nat.le_refl _) _).alloc (by simp) _).size (fun k hk => by cases hk); have hx1 : w1.cell? ⟨w.heap.size + 1, 0, none⟩ = some (.int .i64 x1) := hg1.cell (by simp [go_sem]) (by simp [Value.ownBlock]); have hx2 : w1.cell? ⟨w.heap.size + 1, 1, none⟩ = some (.int .i64 x2) := hg1.cell (by simp [go_sem]) (by simp [Value.ownBlock]); clear hg1; replace hp := keep hb1 hp0.out; replace hz1 := hb1.size; have HO1 := hid (hown1); clear hown1; have HB1 := hid (hb1); clear hb1)
    | (at_builtin; refine app_slots rfl (.tmp 27) (.tmp 30) rfl w.heap.size _ (l.take (0)) [slot0 ⟨#[]⟩ (x1, x2)] rfl ?h1 _ rfl ?h2 ?h3 ?h4 ?h5 ?_; (case h1 => exact HO1.out.alloc _); (case h2 => exact slot0_cells); (case h3 => exact slot0_wf); (case h4 => simp <;> omega); (case h5 => have := HB1.out.size; simp; omega); intro v2 w2 hown2 hg2; have hb2 : Below w.heap.size w w2 := ownSlots.below (HO1.out.alloc _) (HB1.out.alloc HB1.out.size _) (by have := HB1.out.size; simp; omega) hg2; clear hg2; replace hp := keep hb2 hp0.out; replace hz1 := hb2.size; have HO2 := hid (hown2); clear hown2; have HB2 := hid (hb2); clear hb2)
    | (at_builtin; refine app_slots rfl (.tmp 33) (.tmp 39) rfl w.heap.size _ (l.take (0) ++ [slot0 ⟨#[]⟩ (x1, x2)]) (l.drop (0)) rfl ?h1 _ rfl ?h2 ?h3 ?h4 ?h5 ?_; (case h1 => exact HO2.out); (case h2 => exact src_tail (HH.out.keep HB2.out).1 (fun _ => rfl) rfl (0) (by omega) _ (by split <;> simp [Addr.add])); (case h3 => exact wf_drop (slot_wf HH.out) _); (case h4 => simp <;> omega); (case h5 => exact HB2.out.size); intro v3 w3 hown3 hg3; replace hown3 := own_len hown3 (insAt_eq _ _ _); obtain ⟨a3, c3, hv3, _, _, _⟩ := owns_form hown3; generalize (insAt l 0 (slot0 ⟨#[]⟩ (x1, x2))).length = n3 at hv3; subst hv3; have hb3 : Below w.heap.size w w3 := ownSlots.below HO2.out HB2.out HB2.out.size hg3; clear hg3; replace hp := keep hb3 hp0.out; have hf3 : w3.frozen? ⟨go, oo + 3, none⟩ = false := (hb3.frozen (p := ⟨go, oo + 3, none⟩) hgl).trans hfz.out; have HO3 := hid (hown3); clear hown3; have HB3 := hid (hb3); clear hb3))
  go_end0
  exact ⟨rfl, ObjUpd.stored HGO.out HB3.out hB HO3.out (by rw [← insAt_eq]; exact helds_mid HH.out.2 HB3.out 0 0)⟩

set_option maxRecDepth 1000000 in
set_option maxHeartbeats 800000 in
theorem laid_some (B go oo : Nat) (curO : Array Value) (v : Value) (l : List CSlot) (b1 b2 x1 x2 : Int) (k : Nat) (w : World) (hgo : w.heap[go]? = some (.cells curO 272 (0, 0))) (hoo : curO[oo + 3]? = some v)
    (h : isSlots B w v l) (hl : l.length < 1000000) (hB : B ≤ w.heap.size) (hbz : idEq b1 b2 0 0 = false) (hk : firstI (slotIs ⟨#[]⟩ (b1, b2)) l = (k : Int)) :
    Calls Tryz.prog 214 #[.pointer (some ⟨go, oo, none⟩), .agg #[.int .i64 b1, .int .i64 b2], .agg #[.int .i64 x1, .int .i64 x2]] w fun e w' =>
      e = .returned (.tuple #[]) ∧ ObjUpd B w w' go oo curO v (insAt l (k + 1) (slot0 ⟨#[]⟩ (x1, x2))) := by
  have hkl : k < l.length := by have := firstI_lt (slotIs ⟨#[]⟩ (b1, b2)) l; omega
  obtain ⟨a, cap, rfl, hlc, hcm, hform⟩ := owns_form h.1
  unfold maxLen at hcm
  have hp : w.cell? ⟨go, oo + 3, none⟩ = some (.slice a l.length cap) := by simp [World.cell?, hgo, hoo]
  have hp0 := hid (hp)
  have hfz : Hid (w.frozen? ⟨go, oo + 3, none⟩ = false) := by simp [Hid, World.frozen?, hgo]
  have hgl : go < w.heap.size := World.block_lt_of_cell? w _ hp
  have hz1 : w.heap.size ≤ w.heap.size := Nat.le_refl _
  have HH := hid (h); clear h
  have HGO := hid (hgo); clear hgo
  have HOO := hid (hoo); clear hoo
  clear hform
  have hne := run_idNe
  go_enter Tryz.func214, Tryz.ntmps214
  go_wp2_with (first
    | (go_at_call 172; refine (slot_any B go oo (.slice a l.length cap) l ⟨#[]⟩ b1 b2 _ ?ha ?hb).mono ?_; (case ha => exact keep (((Below.refl w.heap.size w).alloc (Nat.le_refl _) _).alloc (by simp) _) hp0.out); (case hb => exact HH.out.keep (((Below.refl w.heap.size w).alloc (Nat.le_refl _) _).alloc (by simp) _)); rintro e w0 ⟨rfl, hb0⟩; have hbb : Below w.heap.size w w0 := (((Below.refl w.heap.size w).alloc (Nat.le_refl _) _).alloc (by simp) _).trans (hb0.mono (by simp; omega)); have HX1 := hid (keep (a := ⟨w.heap.size + 1, 0, none⟩) (v := .int .i64 x1) hb0 (by simp [go_sem])); have HX2 := hid (keep (a := ⟨w.heap.size + 1, 1, none⟩) (v := .int .i64 x2) hb0 (by simp [go_sem])); clear hb0; replace hp := keep hbb hp0.out; replace hz1 := hbb.size; have HB0 := hid (hbb); clear hbb)
    | (at_builtin; refine app_slots rfl (.tmp 19) (.tmp 25) rfl w.heap.size (.slice none 0 0) [] (l.take (k + 1)) rfl ?h1 (.slice a (k + 1) cap) rfl ?h2 ?h3 ?h4 ?h5 ?_; (case h1 => exact World.ownsRow_nil _ _ _ _); (case h2 => exact src_head (HH.out.keep (HB0.out)).1 (fun _ => rfl) rfl (k + 1) (by omega) cap (fun _ e => by have := HH.out.1; rw [e] at this; exact owns_none this)); (case h3 => exact wf_take (slot_wf HH.out) _); (case h4 => simp <;> omega); (case h5 => exact (HB0.out).size); intro v1 w1 hown1 hg1; have hb1 : Below w.heap.size w w1 := (HB0.out).grown hg1 (HB0.out).size (fun k hk => by cases hk); have hx1 : w1.cell? ⟨w.heap.size + 1, 0, none⟩ = some (.int .i64 x1) := hg1.cell HX1.out (by simp [Value.ownBlock]); have hx2 : w1.cell? ⟨w.heap.size + 1, 1, none⟩ = some (.int .i64 x2) := hg1.cell HX2.out (by simp [Value.ownBlock]); clear hg1; replace hp := keep hb1 hp0.out; replace hz1 := hb1.size; have HO1 := hid (hown1); clear hown1; have HB1 := hid (hb1); clear hb1)
    | (at_builtin; refine app_slots rfl (.tmp 27) (.tmp 30) rfl w.heap.size _ (l.take (k + 1)) [slot0 ⟨#[]⟩ (x1, x2)] rfl ?h1 _ rfl ?h2 ?h3 ?h4 ?h5 ?_; (case h1 => exact HO1.out.alloc _); (case h2 => exact slot0_cells); (case h3 => exact slot0_wf); (case h4 => simp <;> omega); (case h5 => have := HB1.out.size; simp; omega); intro v2 w2 hown2 hg2; have hb2 : Below w.heap.size w w2 := ownSlots.below (HO1.out.alloc _) (HB1.out.alloc HB1.out.size _) (by have := HB1.out.size; simp; omega) hg2; clear hg2; replace hp := keep hb2 hp0.out; replace hz1 := hb2.size; have HO2 := hid (hown2); clear hown2; have HB2 := hid (hb2); clear hb2)
    | (at_builtin; refine app_slots rfl (.tmp 33) (.tmp 39) rfl w.heap.size _ (l.take (k + 1) ++ [slot0 ⟨#[]⟩ (x1, x2)]) (l.drop (k + 1)) rfl ?h1 _ rfl ?h2 ?h3 ?h4 ?h5 ?_; (case h1 => exact HO2.out); (case h2 => exact src_tail (HH.out.keep HB2.out).1 (fun _ => rfl) rfl (k + 1) (by omega) _ (by first | rfl | (split <;> simp [Addr.add]) | simp_all)); (case h3 => exact wf_drop (slot_wf HH.out) _); (case h4 => simp <;> omega); (case h5 => exact HB2.out.size); intro v3 w3 hown3 hg3; replace hown3 := own_len hown3 (insAt_eq _ _ _); obtain ⟨a3, c3, hv3, _, _, _⟩ := owns_form hown3; generalize (insAt l (k + 1) (slot0 ⟨#[]⟩ (x1, x2))).length = n3 at hv3; subst hv3; have hb3 : Below w.heap.size w w3 := ownSlots.below HO2.out HB2.out HB2.out.size hg3; clear hg3; replace hp := keep hb3 hp0.out; have hf3 : w3.frozen? ⟨go, oo + 3, none⟩ = false := (hb3.frozen (p := ⟨go, oo + 3, none⟩) hgl).trans hfz.out; have HO3 := hid (hown3); clear hown3; have HB3 := hid (hb3); clear hb3))
  all_goals go_end0
  all_goals exact ⟨rfl, ObjUpd.stored HGO.out HB3.out hB HO3.out (by rw [← insAt_eq]; exact helds_mid HH.out.2 HB3.out (k + 1) (k + 1))⟩

set_option maxRecDepth 1000000 in
set_option maxHeartbeats 800000 in
theorem laid_none (B go oo : Nat) (curO : Array Value) (v : Value) (l : List CSlot) (b1 b2 x1 x2 : Int) (w : World) (hgo : w.heap[go]? = some (.cells curO 272 (0, 0))) (hoo : curO[oo + 3]? = some v)
    (h : isSlots B w v l) (hl : l.length < 1000000) (hbz : idEq b1 b2 0 0 = false) (hk : firstI (slotIs ⟨#[]⟩ (b1, b2)) l = -1) :
    Calls Tryz.prog 214 #[.pointer (some ⟨go, oo, none⟩), .agg #[.int .i64 b1, .int .i64 b2], .agg #[.int .i64 x1, .int .i64 x2]] w fun e w' =>
      e = .returned (.tuple #[]) ∧ ObjUpd B w w' go oo curO v l := by
  obtain ⟨a, cap, rfl, hlc, hcm, hform⟩ := owns_form h.1
  unfold maxLen at hcm
  have hp : w.cell? ⟨go, oo + 3, none⟩ = some (.slice a l.length cap) := by simp [World.cell?, hgo, hoo]
  have hp0 := hid (hp)
  have hfz : Hid (w.frozen? ⟨go, oo + 3, none⟩ = false) := by simp [Hid, World.frozen?, hgo]
  have hgl : go < w.heap.size := World.block_lt_of_cell? w _ hp
  have hz1 : w.heap.size ≤ w.heap.size := Nat.le_refl _
  have HH := hid (h); clear h
  have HGO := hid (hgo); clear hgo
  have HOO := hid (hoo); clear hoo
  clear hform
  have hne := run_idNe
  go_enter Tryz.func214, Tryz.ntmps214
  go_wp2_with (go_at_call 172; refine (slot_any B go oo (.slice a l.length cap) l ⟨#[]⟩ b1 b2 _ ?ha ?hb).mono ?_; (case ha => exact keep (((Below.refl w.heap.size w).alloc (Nat.le_refl _) _).alloc (by simp) _) hp0.out); (case hb => exact HH.out.keep (((Below.refl w.heap.size w).alloc (Nat.le_refl _) _).alloc (by simp) _)); rintro e w0 ⟨rfl, hb0⟩; have hbb : Below w.heap.size w w0 := (((Below.refl w.heap.size w).alloc (Nat.le_refl _) _).alloc (by simp) _).trans (hb0.mono (by simp; omega)); clear hb0; have HB0 := hid (hbb); clear hbb)
  refine bodyPost_ret (results_none rfl _ _ _) rfl ?_
  exact ⟨rfl, ObjUpd.same HGO.out HOO.out HH.out HB0.out⟩

end Go.Proofs.YtnkpogjiiohapaaGreatDoor

/-! RefH: The contract of the reference's valued where the slot is there: its values that are named go, the new one joins. -/
namespace Go.Proofs.YtnkpogjiiohapaaGreatDoor
open Go.RowKit

/-- A row of held values of the call's own. -/
def ownHelds (B : Nat) (w : World) (v : Value) (l : List PHeld) : Prop := w.ownsRow B 243 5 v l.length (l.flatMap heldC)
theorem ownHelds.alloc {B : Nat} {w : World} {v : Value} {l : List PHeld} (h : ownHelds B w v l) (o : Obj) : ownHelds B (w.alloc o) v l := World.ownsRow.alloc h o
theorem ownHelds.below {B : Nat} {w0 w w' : World} {v : Value} {l : List PHeld} (h : ownHelds B w v l) (hb : Below B w0 w) (hB : B ≤ w.heap.size) (hg : w.grownBy w' v.ownBlock) : Below B w0 w' :=
  hb.grown hg hB fun k hk => (World.ownsRow.lt h k hk).1
theorem ownHelds.keep {B : Nat} {w w' : World} {v : Value} {l : List PHeld} (h : ownHelds B w v l) (hb : Below w.heap.size w w') : ownHelds B w' v l := owns_keep h hb

theorem wf_held {y : PHeld} : ∀ u ∈ heldC y, u.oneCell' = true := by
  intro u hu; simp [heldC] at hu; rcases hu with rfl | rfl | rfl | rfl | rfl <;> rfl
theorem cells_held {w : World} {g : Nat} {y : PHeld} (h0 : w.cell? ⟨g, 0, none⟩ = some (.int .i64 y.giver.1)) (h1 : w.cell? ⟨g, 1, none⟩ = some (.int .i64 y.giver.2)) (h2 : w.cell? ⟨g, 2, none⟩ = some (.int .i64 y.num))
    (h3 : w.cell? ⟨g, 3, none⟩ = some (.int .i64 y.obj.1)) (h4 : w.cell? ⟨g, 4, none⟩ = some (.int .i64 y.obj.2)) :
    ∀ j u, (heldC y)[j]? = some u → w.cell? ⟨g, j, none⟩ = some u := by
  intro j u hu
  match j with
  | 0 => simp [heldC] at hu; rw [← hu]; exact h0
  | 1 => simp [heldC] at hu; rw [← hu]; exact h1
  | 2 => simp [heldC] at hu; rw [← hu]; exact h2
  | 3 => simp [heldC] at hu; rw [← hu]; exact h3
  | 4 => simp [heldC] at hu; rw [← hu]; exact h4
  | j + 5 => simp [heldC] at hu

theorem app_held {ops : Array Oper} {rest : List Oper} {o : Oper} {a : Act} {Q : Exit → Act → World → Prop} {w : World} (hgd : o.guard = none) (s x : Operand)
    (ho : o.op = .call { callee := .builtin .append, args := #[s, x], argTypes := #[227, 227] }) (B : Nat) (v : Value) (l : List PHeld) (hs : a.eval s = v)
    (hown : ownHelds B w v l) (g c : Nat) (y : PHeld) (hx : a.eval x = .slice (some ⟨g, 0, none⟩) 1 c) (hnew : ∀ j u, (heldC y)[j]? = some u → w.cell? ⟨g, j, none⟩ = some u) (hlen : l.length < 1000000000) (hB : B ≤ w.heap.size)
    (h : ∀ v' w', ownHelds B w' v' (l ++ [y]) → w.grownBy w' v.ownBlock → wpList Tryz.prog ops Q rest (a.put o.dst v') w') : wpList Tryz.prog ops Q (o :: rest) a w :=
  app_one heldC 5 40 227 243 (.agg #[.int .i64 0, .int .i64 0, .int .i64 0, .int .i64 0, .int .i64 0]) (by kernel_rfl) Tryz.underlying227 rfl (by omega) (fun _ => rfl) hgd s x ho B v l hs hown g c y hx
    hnew wf_held (by omega) (by unfold maxLen; omega) hB (fun v' w' h2 h3 => h v' w' (by unfold ownHelds; simpa using h2) h3)

/-- The values that are not named. -/
def unnamed (old : List PId) (hs : List PHeld) : List PHeld := hs.filter fun h => !decide (h.giver ∈ old)
theorem unnamed_yes {old : List PId} {hs : List PHeld} {j : Nat} (h : j < hs.length) (hp : decide (hs[j].giver ∈ old) = false) : unnamed old (hs.take (j + 1)) = unnamed old (hs.take j) ++ [hs[j]] := by
  unfold unnamed; rw [List.take_succ_eq_append_getElem h, List.filter_append, List.filter_cons]; rw [hp]; rfl
theorem unnamed_no {old : List PId} {hs : List PHeld} {j : Nat} (h : j < hs.length) (hp : decide (hs[j].giver ∈ old) = true) : unnamed old (hs.take (j + 1)) = unnamed old (hs.take j) := by
  unfold unnamed; rw [List.take_succ_eq_append_getElem h, List.filter_append, List.filter_cons]; rw [hp]; simp
theorem unnamed_len (old : List PId) (hs : List PHeld) (k : Nat) : (unnamed old (hs.take k)).length ≤ k :=
  Nat.le_trans (List.length_filter_le _ _) (List.length_take_le _ _)

/-- One cell of a row of slots is stored: another row of values. -/
theorem flat_set {l : List CSlot} {k : Nat} (hk : k < l.length) (vv : Value) (hs : List PHeld) :
    (l.set k ⟨l[k].key, l[k].id, vv, hs⟩).flatMap slotC = (l.flatMap slotC).set (k * 4 + 3) vv := by
  induction l generalizing k with
  | nil => simp at hk
  | cons s l ih =>
    cases k with
    | zero => simp [slotC, List.flatMap_cons]
    | succ k =>
      have := ih (k := k) (by simpa using hk)
      simp only [List.set_cons_succ, List.flatMap_cons, List.getElem_cons_succ]
      rw [this]
      have e : (k + 1) * 4 + 3 = (slotC s).length + (k * 4 + 3) := by simp [slotC]; omega
      rw [e, List.set_append_right _ _ (by omega)]
      congr 1
      congr 1
      omega

theorem own_store {B : Nat} {w : World} {g n cap : Nat} {l : List CSlot} (h : ownSlots B w (.slice (some ⟨g, 0, none⟩) n cap) l) (hn : n = l.length) {k : Nat} (hk : k < l.length) (vv : Value) (hs : List PHeld) :
    ownSlots B (w.setCell ⟨g, k * 4 + 3, none⟩ vv) (.slice (some ⟨g, 0, none⟩) n cap) (l.set k ⟨l[k].key, l[k].id, vv, hs⟩) := by
  subst hn
  have := World.ownsRow.stored h (k * 4 + 3) vv
  unfold ownSlots
  rw [flat_set hk, List.length_set]
  exact this.1

/-- The block of an owned row has the row's element type. -/
theorem own_block {w : World} {base : Nat} {e : TypeId} {size g n cap m : Nat} {xs : List Value} (h : w.ownsRow base e size (.slice (some ⟨g, 0, none⟩) n cap) m xs) : ∃ cur, w.heap[g]? = some (.cells cur e (0, 0)) := by
  rcases h.2 with ⟨e1, _⟩ | ⟨g', c, cur, e1, _, hg, _⟩
  · injection e1 with e1; cases e1
  · injection e1 with e1 _ _; injection e1 with e1; injection e1 with e1; subst e1; exact ⟨cur, hg⟩

theorem held_other {w : World} {v : Value} {l : List PHeld} (h : isHelds w v l) {g o : Nat} {e : TypeId} {cur : Array Value} (hg : w.heap[g]? = some (.cells cur e (0, 0))) (he : e ≠ 243) (u : Value) : isHelds (w.setCell ⟨g, o, none⟩ u) v l := by
  refine ⟨h.1, ?_⟩
  rcases h.2 with hn | ⟨g', cap, cur', e1, h1, hg', rest⟩
  · exact .inl hn
  · refine .inr ⟨g', cap, cur', e1, h1, ?_, rest⟩
    have : g' ≠ g := by
      intro e2; subst e2; rw [hg] at hg'; injection hg' with hg'; injection hg' with _ hg' _; exact he hg'
    rw [Below.heap_setCell _ _ _ _ this]; exact hg'

theorem ObjUpd.inplace {B : Nat} {w wf : World} {go oo g n cap : Nat} {curO : Array Value} {l : List CSlot} {k : Nat} {vv : Value} {hs' : List PHeld}
    (hgo : w.heap[go]? = some (.cells curO 272 (0, 0))) (hoo : curO[oo + 3]? = some (.slice (some ⟨g, 0, none⟩) n cap))
    (h : isSlots B w (.slice (some ⟨g, 0, none⟩) n cap) l) (hn : n = l.length) (hb : Below w.heap.size w wf) (hk : k < l.length) (hv : isHelds wf vv hs') :
    ObjUpd B w (wf.setCell ⟨g, k * 4 + 3, none⟩ vv) go oo curO (.slice (some ⟨g, 0, none⟩) n cap) (l.set k ⟨l[k].key, l[k].id, vv, hs'⟩) := by
  have hlt : go < w.heap.size := (Array.getElem?_eq_some_iff.1 hgo).1
  have hgo1 : wf.heap[go]? = some (.cells curO 272 (0, 0)) := by rw [hb.block go hlt]; exact hgo
  have hs1 := h.keep hb
  obtain ⟨cur, hg1⟩ := own_block hs1.1
  have hne : go ≠ g := by
    intro e; subst e; rw [hgo1] at hg1; injection hg1 with hg1; injection hg1 with _ hg1 _; exact absurd hg1 (by decide)
  have hoth : ∀ i, i ≠ g → (wf.setCell ⟨g, k * 4 + 3, none⟩ vv).heap[i]? = wf.heap[i]? := fun i hi => Below.heap_setCell _ _ _ _ hi
  refine ⟨⟨_, ⟨own_store hs1.1 hn hk vv hs', ?_⟩, ?_, .inl rfl⟩, hb.os, hb.tape, hb.output, by simpa [World.setCell] using hb.size, fun i hi h1 h2 => ?_⟩
  · intro s hs
    rcases List.mem_or_eq_of_mem_set hs with hs | rfl
    · exact held_other (hs1.2 s hs) hg1 (by decide) vv
    · exact held_other hv hg1 (by decide) vv
  · rw [hoth go hne, set_same hoo]; exact hgo1
  · rw [hoth i (fun e => h2 (by rw [e]; rfl)), hb.block i hi]

def newHelds (old : List PId) (hs : List PHeld) (kind : Int) (y : PHeld) : List PHeld := unnamed old hs ++ (if kind = 3 then [y] else [])

set_option maxRecDepth 1000000 in
set_option maxHeartbeats 1600000 in
theorem valued_old (B go oo : Nat) (curO : Array Value) (v : Value) (l : List CSlot) (k : Nat) (hk : k < l.length) (hs : List PHeld) (hhs : l[k].hs = hs) (hhl : hs.length < 1000000)
    (i1 i2 kind ob1 ob2 e1 e2 be1 be2 n v1 v2 : Int) (lst : Bool) (key : ByteArray) (vold : Value) (old : List PId) (w : World)
    (hgo : w.heap[go]? = some (.cells curO 272 (0, 0))) (hoo : curO[oo + 3]? = some v) (h : isSlots B w v l) (hB : B ≤ w.heap.size) (hold : isIds w vold old)
    (hfi : firstI (slotIs key (e1, e2)) l = (k : Int)) :
    Calls Tryz.prog 215 #[.pointer (some ⟨go, oo, none⟩), .agg #[.int .i64 i1, .int .i64 i2, .int .i64 kind, .bool lst, .int .i64 ob1, .int .i64 ob2, .string key, .int .i64 e1, .int .i64 e2, .int .i64 be1, .int .i64 be2, .int .i64 n, .int .i64 v1, .int .i64 v2, vold]] w fun e w' =>
      e = .returned (.tuple #[]) ∧ ∃ vv, ObjUpd B w w' go oo curO v (l.set k ⟨l[k].key, l[k].id, vv, newHelds old hs kind ⟨(i1, i2), n, (v1, v2)⟩⟩) := by
  obtain ⟨a, cap, rfl, hlc, hcm, hform⟩ := owns_form h.1
  unfold maxLen at hcm
  obtain ⟨g, rfl⟩ := hform k hk
  obtain ⟨ao, co, rfl, hoc, hom, _⟩ := owns_form hold
  obtain ⟨c0, c1, c2, c3⟩ := isSlots.cells h rfl k hk
  have hvk := h.2 l[k] (List.getElem_mem _)
  obtain ⟨va, vc, hv, hvl, hvm, hvform⟩ := owns_form hvk
  unfold maxLen at hvm
  rw [hv, hhs] at c3
  rw [hv, hhs] at hvk
  rw [hhs] at hvl hvform
  have hp : w.cell? ⟨go, oo + 3, none⟩ = some (.slice (some ⟨g, 0, none⟩) l.length cap) := by simp [World.cell?, hgo, hoo]
  clear c0 c1 c2 hform
  have HP0 := hid hp
  have HC3 := hid c3
  have HH := hid h; clear h
  have HGO := hid hgo; clear hgo
  have HOO := hid hoo; clear hoo
  have HOLD := hid hold; clear hold
  have HVK := hid hvk; clear hvk
  have HV := hid hv; clear hv
  have HVF := hid hvform; clear hvform
  have HHS := hid hhs; clear hhs
  have hgl : go < w.heap.size := World.block_lt_of_cell? w _ hp
  have hgs : g < w.heap.size := World.block_lt_of_cell? w _ c3
  go_enter Tryz.func215, Tryz.ntmps215
  go_wp2_with (go_at_call 172; go_must (refine (slot_any B go oo (.slice (some ⟨g, 0, none⟩) l.length cap) l key e1 e2 _ ?ha ?hb).mono ?_; (case ha => exact keep ((Below.refl w.heap.size w).alloc (Nat.le_refl _) _) HP0.out); (case hb => exact HH.out.keep ((Below.refl w.heap.size w).alloc (Nat.le_refl _) _)); rintro e w1 ⟨rfl, hb0⟩; have hbb : Below w.heap.size w w1 := ((Below.refl w.heap.size w).alloc (Nat.le_refl _) _).trans (hb0.mono (by simp)); have P0 := hid (keep (a := ⟨w.heap.size, 0, none⟩) (v := .int .i64 i1) hb0 (by simp [go_sem])); have P1 := hid (keep (a := ⟨w.heap.size, 1, none⟩) (v := .int .i64 i2) hb0 (by simp [go_sem])); have P2 := hid (keep (a := ⟨w.heap.size, 2, none⟩) (v := .int .i64 kind) hb0 (by simp [go_sem])); have P11 := hid (keep (a := ⟨w.heap.size, 11, none⟩) (v := .int .i64 n) hb0 (by simp [go_sem])); have P12 := hid (keep (a := ⟨w.heap.size, 12, none⟩) (v := .int .i64 v1) hb0 (by simp [go_sem])); have P13 := hid (keep (a := ⟨w.heap.size, 13, none⟩) (v := .int .i64 v2) hb0 (by simp [go_sem])); have P14 := hid (keep (a := ⟨w.heap.size, 14, none⟩) (v := .slice ao old.length co) hb0 (by simp [go_sem])); clear hb0; replace hp := keep hbb HP0.out; replace c3 := keep hbb HC3.out; have HB1 := hid (hbb); clear hbb))
  have hz0 := HB1.out.size
  have FIN : Hid (∀ wf vv, Below w1.heap.size w1 wf → isHelds wf vv (newHelds old hs kind ⟨(i1, i2), n, (v1, v2)⟩) → ObjUpd B w (wf.setCell ⟨g, k * 4 + 3, none⟩ vv) go oo curO (.slice (some ⟨g, 0, none⟩) l.length cap) (l.set k ⟨l[k].key, l[k].id, vv, newHelds old hs kind ⟨(i1, i2), n, (v1, v2)⟩⟩)) :=
    fun wf vv hb hh => ObjUpd.inplace HGO.out HOO.out HH.out rfl (HB1.out.trans (hb.mono hz0)) hk hh
  have FZ : Hid (∀ wf, Below w1.heap.size w1 wf → wf.frozen? ⟨g, k * 4 + 3, none⟩ = false) := fun wf hb =>
    ((HB1.out.trans (hb.mono hz0)).frozen (p := ⟨g, k * 4 + 3, none⟩) hgs).trans (World.ownsRow.frozenAt HH.out.1 _)
  replace HOLD := hid (HOLD.out.keep HB1.out)
  replace HVK := hid (HVK.out.keep HB1.out)
  clear hz0
  go_loopw [5, 6] (fun u i wr => ∃ j : Nat, j ≤ hs.length ∧ i = .int .i64 j ∧ ownHelds w1.heap.size wr u (unnamed old (hs.take j)) ∧ Below w1.heap.size w1 wr) (fun _ i _ => hs.length - (intOf i).toNat)
  case atStart => exact ⟨0, Nat.zero_le _, rfl, World.ownsRow_nil _ _ _ _, Below.refl _ _⟩
  case round =>
    obtain ⟨j, hj, rfl, hown, hbel⟩ := hrel
    have HP1 := hid hp; have HC1 := hid c3
    replace hp := keep hbel HP1.out
    replace c3 := keep hbel HC1.out
    have p14 := keep hbel P14.out
    have hwl : w.heap.size < wr.heap.size := World.block_lt_of_cell? wr _ p14
    have hz1 := hbel.size
    have hz0 := HB1.out.size
    have hul := unnamed_len old hs j
    by_cases hlt : j < hs.length
    · obtain ⟨gv, hgv⟩ := HVF.out j hlt
      subst hgv
      obtain ⟨d0, d1, d2, d3, d4⟩ := isHelds.cells HVK.out rfl j hlt
      replace d0 := keep hbel d0
      replace d1 := keep hbel d1
      replace d2 := keep hbel d2
      replace d3 := keep hbel d3
      replace d4 := keep hbel d4
      have hgvl : gv < wr.heap.size := World.block_lt_of_cell? wr _ d0
      have HO := hid hown; clear hown
      have HBEL := hid hbel; clear hbel
      cases hq : decide (hs[j].giver ∈ old)
      · have HQ := hid hq; clear hq
        go_wp2_with (first
          | (go_at_call 237; refine (named_any (.slice ao old.length co) old hs[j].giver.1 hs[j].giver.2 _ ?ha).mono ?_; (case ha => exact (HOLD.out.keep HBEL.out).keep ((Below.refl wr.heap.size wr).alloc (Nat.le_refl _) _)); rintro e w2 ⟨he, hb2⟩; rw [show decide ((hs[j].giver.1, hs[j].giver.2) ∈ old) = false from HQ.out] at he; subst he; have x0 := keep (a := ⟨wr.heap.size, 0, none⟩) (v := .int .i64 hs[j].giver.1) hb2 (by simp [go_sem]); have x1 := keep (a := ⟨wr.heap.size, 1, none⟩) (v := .int .i64 hs[j].giver.2) hb2 (by simp [go_sem]); have x2 := keep (a := ⟨wr.heap.size, 2, none⟩) (v := .int .i64 hs[j].num) hb2 (by simp [go_sem]); have x3 := keep (a := ⟨wr.heap.size, 3, none⟩) (v := .int .i64 hs[j].obj.1) hb2 (by simp [go_sem]); have x4 := keep (a := ⟨wr.heap.size, 4, none⟩) (v := .int .i64 hs[j].obj.2) hb2 (by simp [go_sem]); have hbb : Below wr.heap.size wr w2 := ((Below.refl wr.heap.size wr).alloc (Nat.le_refl _) _).trans (hb2.mono (by simp)); clear hb2; have hz2 := hbb.size; have HB2 := hid hbb; clear hbb)
          | (at_builtin; refine app_held rfl (.tmp 74) (.tmp 76) rfl w1.heap.size _ (unnamed old (hs.take j)) rfl ?h1 w2.heap.size 1 hs[j] rfl ?h2 ?h4 ?h5 ?_; (case h1 => exact (HO.out.keep HB2.out).alloc _); (case h2 => exact cells_held (by simp [go_sem]) (by simp [go_sem]) (by simp [go_sem]) (by simp [go_sem]) (by simp [go_sem])); (case h4 => omega); (case h5 => simp; omega); intro v' w3 hown3 hg3; have HG := hid hg3; clear hg3; have HN := hid hown3; clear hown3))
        go_roundw
        case rel => exact ⟨j + 1, by omega, by go_num, by rw [unnamed_yes hlt HQ.out]; exact HN.out, ownHelds.below ((HO.out.keep HB2.out).alloc _) ((HBEL.out.trans (HB2.out.mono hz1)).alloc (by omega) _) (by simp; omega) HG.out⟩
        case measure => simp [intOf]; omega
      · have HQ := hid hq; clear hq
        go_wp2_with (go_at_call 237; refine (named_any (.slice ao old.length co) old hs[j].giver.1 hs[j].giver.2 _ ?ha).mono ?_; (case ha => exact (HOLD.out.keep HBEL.out).keep ((Below.refl wr.heap.size wr).alloc (Nat.le_refl _) _)); rintro e w2 ⟨he, hb2⟩; rw [show decide ((hs[j].giver.1, hs[j].giver.2) ∈ old) = true from HQ.out] at he; subst he; have hbb : Below wr.heap.size wr w2 := ((Below.refl wr.heap.size wr).alloc (Nat.le_refl _) _).trans (hb2.mono (by simp)); clear hb2; have HB2 := hid hbb; clear hbb)
        go_roundw
        case rel => exact ⟨j + 1, by omega, by go_num, by rw [unnamed_no hlt HQ.out]; exact HO.out.keep HB2.out, HBEL.out.trans (HB2.out.mono hz1)⟩
        case measure => simp [intOf]; omega
    · have p0 := keep hbel P0.out
      have p1 := keep hbel P1.out
      have p2 := keep hbel P2.out
      have p11 := keep hbel P11.out
      have p12 := keep hbel P12.out
      have p13 := keep hbel P13.out
      rw [List.take_of_length_le (by omega)] at hown hul
      have HBEL := hid hbel; clear hbel
      by_cases hk3 : kind = 3
      · have HO := hid hown; clear hown
        subst hk3
        go_wp2_with (at_builtin; go_must (refine app_held rfl (.tmp 81) (.tmp 87) rfl w1.heap.size _ (unnamed old hs) rfl ?h1 wr.heap.size 1 ⟨(i1, i2), n, (v1, v2)⟩ rfl ?h2 ?h4 ?h5 ?_; (case h1 => exact HO.out.alloc _); (case h2 => exact cells_held (by simp [go_sem]) (by simp [go_sem]) (by simp [go_sem]) (by simp [go_sem]) (by simp [go_sem])); (case h4 => omega); (case h5 => simp; omega); intro v' w3 hown3 hg3; have hb3 : Below w1.heap.size w1 w3 := ownHelds.below (HO.out.alloc _) (HBEL.out.alloc hz1 _) (by simp; omega) hg3; clear hg3; obtain ⟨a3, c3', hv3, _, _, _⟩ := owns_form hown3; generalize (unnamed old hs ++ [(⟨(i1, i2), n, (v1, v2)⟩ : PHeld)]).length = n3 at hv3; subst hv3; replace hp := keep hb3 HP1.out; replace c3 := keep hb3 HC1.out; have hfz : w3.frozen? ⟨g, k * 4 + 3, none⟩ = false := FZ.out w3 hb3; have HB3 := hid hb3; clear hb3; have HN := hid hown3; clear hown3))
        go_end0
        exact ⟨rfl, _, FIN.out _ _ HB3.out (by have := HN.out; unfold newHelds; rw [if_pos rfl]; exact owns_mono this (Nat.zero_le _))⟩
      · have hfz : wr.frozen? ⟨g, k * 4 + 3, none⟩ = false := FZ.out wr HBEL.out
        obtain ⟨a3, c3', hv3, _, _, _⟩ := owns_form hown
        generalize (unnamed old hs).length = n3 at hv3
        subst hv3
        have HO := hid hown; clear hown
        go_wp2
        go_end0
        exact ⟨rfl, _, FIN.out _ _ HBEL.out (by have := HO.out; unfold newHelds; rw [if_neg hk3, List.append_nil]; exact owns_mono this (Nat.zero_le _))⟩

end Go.Proofs.YtnkpogjiiohapaaGreatDoor
