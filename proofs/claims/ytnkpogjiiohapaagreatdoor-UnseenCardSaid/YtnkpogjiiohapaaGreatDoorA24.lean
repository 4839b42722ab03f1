/- Our own text (GAnsA). -/
import Derived.Sort.CutIn
import Derived.Stop.RegionWithIn
import Derived.Test.YtnkpogjiiohapaaGreatDoorA23
set_option linter.unusedSimpArgs false
set_option linter.unusedVariables false

/-! GAnsA: One copy of the program's room in general: answer. -/
namespace Go.Proofs.YtnkpogjiiohapaaGreatDoor
open Go.RowKit
attribute [local go_sem] Oper.semAt_some

/-- The places of a part. -/
def partOf (pls : List PId) (k : Nat) : List PId := (pls.drop (8 * k)).take 8
/-- How many operations come in a part. -/
def cutIn (ls : List MOp) (part : List PId) : Nat := (ls.takeWhile fun o => decide (plOf o ∈ part)).length
/-- What is left behind some parts, and where the messages lie. -/
def ansTo (ls : List MOp) (pls : List PId) (ks : List Nat) : Nat × List (Nat × Nat) := ks.foldl (fun s k => (s.1 + cutIn (ls.drop s.1) (partOf pls k), s.2 ++ [(s.1, cutIn (ls.drop s.1) (partOf pls k))])) (0, [])
theorem ans_snoc (ls : List MOp) (pls : List PId) (ks : List Nat) (k : Nat) : ansTo ls pls (ks ++ [k]) = ((ansTo ls pls ks).1 + cutIn (ls.drop (ansTo ls pls ks).1) (partOf pls k), (ansTo ls pls ks).2 ++ [((ansTo ls pls ks).1, cutIn (ls.drop (ansTo ls pls ks).1) (partOf pls k))]) := by
  unfold ansTo
  rw [List.foldl_append]
  rfl
theorem takeWhile_le {α : Type} (p : α → Bool) : ∀ l : List α, (l.takeWhile p).length ≤ l.length
  | [] => Nat.le_refl _
  | x :: l => by
    unfold List.takeWhile
    split
    · have := takeWhile_le p l
      simp only [List.length_cons]
      omega
    · simp
theorem takeWhile_at {α : Type} (p : α → Bool) : ∀ (l : List α) (j : Nat) (hj : j < (l.takeWhile p).length), p (l[j]'(Nat.lt_of_lt_of_le hj (takeWhile_le p l))) = true
  | [], j, hj => by simp at hj
  | x :: l, j, hj => by
    cases hx : p x with
    | false => simp [List.takeWhile, hx] at hj
    | true =>
      match j with
      | 0 => exact hx
      | j + 1 =>
        have hj' : j < (l.takeWhile p).length := by simpa [List.takeWhile, hx] using hj
        exact takeWhile_at p l j hj'
theorem takeWhile_end {α : Type} (p : α → Bool) : ∀ (l : List α) (hl : (l.takeWhile p).length < l.length), p l[(l.takeWhile p).length] = false
  | [], hl => by simp at hl
  | x :: l, hl => by
    cases hx : p x with
    | false => simp [List.takeWhile, hx]
    | true =>
      have hl' : (l.takeWhile p).length < l.length := by simpa [List.takeWhile, hx] using hl
      have := takeWhile_end p l hl'
      simpa [List.takeWhile, hx] using this
theorem cut_le (ls : List MOp) (part : List PId) : cutIn ls part ≤ ls.length := takeWhile_le _ _
def ansStep (ls : List MOp) (pls : List PId) (s : Nat × List (Nat × Nat)) (k : Nat) : Nat × List (Nat × Nat) := (s.1 + cutIn (ls.drop s.1) (partOf pls k), s.2 ++ [(s.1, cutIn (ls.drop s.1) (partOf pls k))])
theorem step_le (ls : List MOp) (pls : List PId) : ∀ (ks : List Nat) (s : Nat × List (Nat × Nat)), s.1 ≤ ls.length → (ks.foldl (ansStep ls pls) s).1 ≤ ls.length
  | [], s, h => h
  | k :: ks, s, h => by
    refine step_le ls pls ks (ansStep ls pls s k) ?_
    have := cut_le (ls.drop s.1) (partOf pls k)
    rw [List.length_drop] at this
    unfold ansStep
    simp only
    omega
theorem ans_le (ls : List MOp) (pls : List PId) (ks : List Nat) : (ansTo ls pls ks).1 ≤ ls.length := step_le ls pls ks (0, []) (Nat.zero_le _)
theorem step_len (ls : List MOp) (pls : List PId) : ∀ (ks : List Nat) (s : Nat × List (Nat × Nat)), (ks.foldl (ansStep ls pls) s).2.length = s.2.length + ks.length
  | [], s => rfl
  | k :: ks, s => by
    have := step_len ls pls ks (ansStep ls pls s k)
    simp only [List.foldl_cons, List.length_cons]
    rw [this]
    unfold ansStep
    simp only [List.length_append, List.length_cons, List.length_nil]
    omega
theorem ans_len (ls : List MOp) (pls : List PId) (ks : List Nat) : (ansTo ls pls ks).2.length = ks.length := by
  show (ks.foldl (ansStep ls pls) (0, [])).2.length = _
  rw [step_len]
  simp

def All2 {α β : Type} (R : α → β → Prop) : List α → List β → Prop
  | [], [] => True
  | a :: l, b :: m => R a b ∧ All2 R l m
  | _, _ => False
theorem All2.snoc {α β : Type} {R : α → β → Prop} {a : α} {b : β} (h : R a b) : ∀ {l : List α} {m : List β}, All2 R l m → All2 R (l ++ [a]) (m ++ [b])
  | [], [], _ => ⟨h, trivial⟩
  | [], _ :: _, h2 => h2.elim
  | _ :: _, [], h2 => h2.elim
  | _ :: _, _ :: _, h2 => ⟨h2.1, All2.snoc h h2.2⟩
theorem All2.len {α β : Type} {R : α → β → Prop} : ∀ {l : List α} {m : List β}, All2 R l m → l.length = m.length
  | [], [], _ => rfl
  | [], _ :: _, h => h.elim
  | _ :: _, [], h => h.elim
  | _ :: _, _ :: _, h => by simp [All2.len h.2]
/-- A message: operations that lie in a row. -/
def BatV (av : Option Addr) (b : Nat × Nat) (u : Value) : Prop := ∃ a c, u = .iface 382 (.slice a b.2 c) ∧ b.2 ≤ c ∧ c ≤ maxLen ∧ (0 < b.2 → ∃ p, av = some p ∧ a = some ⟨p.block, b.1 * 4, none⟩)
/-- Where what is left begins. -/
def LeftA (av : Option Addr) (cv d : Nat) (a : Option Addr) : Prop := (av = none ∧ a = none) ∨ ∃ p o, av = some p ∧ a = some ⟨p.block, o, none⟩ ∧ (0 < cv - d → o = d * 4)

/-- Between two parts. -/
structure AnsI (w : World) (B6 : Nat) (S : Nat → Prop) (W3 : World) (av : Option Addr) (cv : Nat) (ls : List MOp) (pls : List PId) (ks : List Nat) (W : World) : Prop where
  row : ∃ v vs, W.heap[w.heap.size]? = some (.cells #[v] 165 (0, 0)) ∧ W.ownsRow w.heap.size 147 1 v (ansTo ls pls ks).2.length vs ∧ All2 (BatV av) (ansTo ls pls ks).2 vs
  left : ∃ a, LeftA av cv (ansTo ls pls ks).1 a ∧ W.heap[B6]? = some (.cells #[.slice a (ls.length - (ansTo ls pls ks).1) (cv - (ansTo ls pls ks).1)] 202 (0, 0))
  kp : KpC S W3 W
  bel : Below w.heap.size w W
  few : ks.length ≤ 3
theorem grown_cells {W W' : World} {row : Option Nat} {B : Nat} (hg : W.grownBy W' row) (hr : ∀ r, row = some r → B ≤ r ∧ ∃ o : Obj, W.heap[r]? = some o ∧ o.isCells = false) {k : Nat} {c : Array Value} {t : TypeId} {f : Nat × Nat} (hk : W.heap[k]? = some (.cells c t f)) : W'.heap[k]? = some (.cells c t f) := by
  rw [hg.block k (blk_lt hk) (fun e => by
    obtain ⟨_, o, ho, hc⟩ := hr k e.symm
    rw [hk] at ho
    cases ho
    cases hc)]
  exact hk
theorem AnsI.grow {w : World} {B6 : Nat} {S : Nat → Prop} {W3 : World} {av : Option Addr} {cv : Nat} {ls : List MOp} {pls : List PId} {ks : List Nat} {W W' : World} {row : Option Nat} {B : Nat} (h : AnsI w B6 S W3 av cv ls pls ks W) (hS : ∀ k, S k → ∃ c t f, W3.heap[k]? = some (.cells c t f)) (hB : w.heap.size ≤ B) (hg : W.grownBy W' row) (hr : ∀ r, row = some r → B ≤ r ∧ ∃ o : Obj, W.heap[r]? = some o ∧ o.isCells = false) : AnsI w B6 S W3 av cv ls pls ks W' := by
  obtain ⟨v, vs, h1, h2, h5⟩ := h.row
  obtain ⟨al, h6, h7⟩ := h.left
  refine ⟨⟨v, vs, grown_cells hg hr h1, h2.kept hg ?_, h5⟩, ⟨al, h6, grown_cells hg hr h7⟩, fun k hk => ?_, ownFrom_below (β := Unit) (Nat.le_refl _) hB () W W' row h.bel hg hr, h.few⟩
  · cases hv : v.ownBlock with
    | none => exact .inl rfl
    | some g =>
      refine .inr fun e => ?_
      obtain ⟨cur, hc⟩ := own_type h2 hv
      obtain ⟨_, o, ho, hn⟩ := hr g e.symm
      rw [hc] at ho
      cases ho
      cases hn
  · obtain ⟨c, t, f, hc⟩ := hS k hk
    have h3 := h.kp k hk
    rw [hc] at h3
    rw [hc]
    exact grown_cells hg hr h3
theorem pls_at {B : Nat} {w : World} {ap : Option Addr} {cp : Nat} {pls : List PId} (h : ownPls B w (.slice ap pls.length cp) pls) {g : Nat} (ha : ap = some ⟨g, 0, none⟩) (k : Nat) : PlsAt w g (8 * k * 2) (partOf pls k) := fun i hi => by
  subst ha
  have hi' : 8 * k + i < pls.length := by
    unfold partOf at hi
    rw [List.length_take, List.length_drop] at hi
    omega
  have e : (partOf pls k)[i] = pls[8 * k + i] := by
    simp [partOf]
  have h0 := owns_cell (f := idC) (fun _ => rfl) h rfl (8 * k + i) hi' 0 (by omega)
  have h1 := owns_cell (f := idC) (fun _ => rfl) h rfl (8 * k + i) hi' 1 (by omega)
  rw [e]
  refine ⟨?_, ?_⟩
  · rw [show 8 * k * 2 + i * 2 = (8 * k + i) * 2 + 0 by omega, h0]; rfl
  · rw [show 8 * k * 2 + i * 2 + 1 = (8 * k + i) * 2 + 1 by omega, h1]; rfl
theorem part_len (pls : List PId) (k : Nat) : (partOf pls k).length = chunkLen pls.length (8 * k) := by
  unfold partOf chunkLen
  rw [List.length_take, List.length_drop]

/-- An append, by name: the walk is not to open it. -/
def appHid (f : Array TypeId → TypeId → Array Value → Sem Value) (ats : Array TypeId) (ty : TypeId) (args : Array Value) : Sem Go.Next := do pure (.value (← f ats ty args))
theorem builtin_hid (b : Builtin) (hb : b = .append) (ats : Array TypeId) (ty : TypeId) (cs : Array Bool) (args : Array Value) : builtin b ats ty cs args = appHid Builtin.append_ ats ty args := by
  subst hb
  rfl
attribute [local go_sem ↓] builtin_hid
theorem appHid_run {ats : Array TypeId} {ty : TypeId} {args : Array Value} {W w' : World} {v' : Value} (h : (Builtin.append_ ats ty args).run Tryz.prog W = .ok v' w') : (appHid Builtin.append_ ats ty args).run Tryz.prog W = .ok (.value v') w' := by
  unfold appHid
  rw [Sem.run_bind, h]
  rfl

theorem others_below {W W' : World} (h : Below W.heap.size W W') : KeepsOthers W W' := ⟨h.size, fun k o hk _ => (h.block k (Array.getElem?_eq_some_iff.1 hk).1).trans hk⟩

theorem enters_chunk (args : Array Value) (w : World) : (callFunc 283 args).run Tryz.prog w = .ok (.enter 283 args) w :=
  enters_of Tryz.func283 (by kernel_rfl) rfl args w

set_option maxRecDepth 1000000 in
set_option maxHeartbeats 4000000 in
/-- ANSWER. -/
theorem answer_in {w : World} {rb : Nat} {F I : Nat → Prop} {N sp c : Nat} {gt : Int} {has : Nat → Int} {ops : List MOp} {early : List (PId × MOp)} {q : RQ} (h : RepM w rb F I N sp c gt has ops early q) {gk ck : Nat} {known : Nat → Int} (hk : isKn w gk ck N known) (hhas : ∀ i, i < N → 0 ≤ known i ∧ has i ≤ 60) (hkn : ∀ i, i < N → known i ≤ 60) (hcp : ∀ x ∈ ops, 0 ≤ x.op.id.2 ∧ x.op.id.2 < N) (hnd : (ops.map plOf).Nodup) :
    CallsIn Fence.wide 4 Tryz.prog 275 #[.pointer (some ⟨rb, 0, none⟩), .slice (some ⟨gk, 0, none⟩) N ck] w fun e w' => ∃ v vs ls av cv bs, e = .returned v ∧ ownMOps w.heap.size w' (.slice av ls.length cv) ls ∧ ls.Perm (ops.filter (isBey known)) ∧ AscP ls ∧ bs = (ansTo ls (beyTo known has N) (List.range (min (chunks (beyTo known has N).length) 3))).2 ∧ w'.ownsRow w.heap.size 147 1 v bs.length vs ∧ All2 (BatV av) bs vs ∧ Below w.heap.size w w' := by
  have hro : Fence.wide.round = none := rfl
  have h1 : 1 ≤ 4 := by omega
  have hN4 := h.hN
  obtain ⟨c0, c1, c2, c3, c4, c5⟩ := h.cells
  clear c0 c1 c2 c4 c5
  obtain ⟨i0, hi, hz0, hz1, hz2⟩ := info_parts (P := Tryz.prog) (e := 147) (z := .nilIface) (size := 1) (bytes := 16) (by kernel_rfl)
  have HBE := hid (fun W (hb : Below w.heap.size w W) => histBeyond_any (h.keep hb).hist (hk.keep hb) hN4 hcp hnd)
  have HBL := hid (show (beyTo known has N).length ≤ 240 by have := beyTo_len hhas N (Nat.le_refl _); omega)
  have HPL := hid (fun W (hb : Below w.heap.size w W) => beyond_any (h.keep hb) (hk.keep hb) hhas hkn)
  refine callsIn_of_wp_marks Tryz.func275 rfl trivial ?_ hro
  simp only [Tryz.ntmps275, List.size_toArray, List.length_cons, List.length_nil, Nat.reduceAdd, Nat.reduceSub, Array.replicate_succ, Array.replicate_zero, List.push_toArray, List.append_toArray, List.nil_append, List.cons_append]
  have hrl : rb < w.heap.size := h.lt _ h.fr
  have hn3 := World.new_ne w ⟨rb, 3, none⟩ c3
  have HB1 := hid ((Below.refl w.heap.size w).alloc (Nat.le_refl _) (.cells #[.slice none 0 0] 165))
  have HH := hid h
  clear h hk hhas hkn hcp hnd
  gi_wp2_with (first
    | (refine ⟨trivial, ?_⟩; gi_at_call 276; refine (callsIn_wide.2 (HBE.out _ HB1.out)).mono ?_; rintro e w1 ⟨vl, ls, rfl, ho1, hp1, ha1, hb1⟩; obtain ⟨av, cv, rfl, hlv, hcv, hfv⟩ := owns_form ho1; have HL := hid (And.intro ho1 (And.intro hp1 (And.intro ha1 hfv))); have HB2 := hid (HB1.out.trans (hb1.mono HB1.out.size)); have HA1 := hid hb1; have HB3 := hid (HB2.out.alloc HB2.out.size (.cells #[.slice av ls.length cv] 202)); clear ho1 hp1 ha1 hb1 hfv)
    | (refine ⟨trivial, ?_⟩; gi_at_call 278; refine (callsIn_wide.2 (HPL.out _ HB3.out)).mono ?_; rintro e w2 ⟨vp, rfl, ho2, hb2⟩; obtain ⟨ap, cp, rfl, hlp, hcp, hfp⟩ := owns_form ho2; have HP := hid (And.intro ho2 (And.intro hb2 hfp)); have HB4 := hid (HB3.out.trans (hb2.mono HB3.out.size)); clear ho2 hb2 hfp)
    | (refine ⟨trivial, ?_⟩; gi_at_call 277; refine (chunk_in Fence.wide _ trivial rfl _ _ _ _).mono ?_; rintro e w3 ⟨rfl, rfl⟩)
    | fail)
  obtain ⟨pls, hpls⟩ : ∃ pls, pls = beyTo known has N := ⟨_, rfl⟩
  have hpl : pls.length ≤ 240 := by rw [hpls]; exact HBL.out
  rw [← hpls] at HP hlp ⊢
  have HPE := hid hpls; clear hpls
  obtain ⟨W3, hW3⟩ : ∃ W3, (w2.alloc (.cells #[.slice ap pls.length cp] 378)).alloc (.cells #[.int .i64 8] 3) = W3 := ⟨_, rfl⟩
  have hz3 : W3.heap.size = w2.heap.size + 2 := by rw [← hW3]; simp
  have HB5 := hid (show Below w2.heap.size w2 W3 by rw [← hW3]; exact ((Below.refl _ w2).alloc (Nat.le_refl _) _).alloc (by simp) _)
  have HX5 := hid (show W3.heap[w2.heap.size]? = some (.cells #[.slice ap pls.length cp] 378 (0, 0)) by rw [← hW3, alloc_old_r _ _ (by simp)]; exact blk_new w2 _)
  have HX6 := hid (show W3.heap[w2.heap.size + 1]? = some (.cells #[.int .i64 8] 3 (0, 0)) by
    rw [← hW3]
    have := blk_new (w2.alloc (.cells #[.slice ap pls.length cp] 378)) (.cells #[.int .i64 8] 3)
    rwa [show (w2.alloc (.cells #[.slice ap pls.length cp] 378)).heap.size = w2.heap.size + 1 by simp] at this)
  rw [hW3]
  clear hW3
  have hz1' := hz1
  have hz2' := hz2
  have hz1 := HB2.out.size
  have hz2 := HP.out.2.1.size
  simp only [World.size_alloc] at hz2
  have HB6 := hid (HB4.out.trans (HB5.out.mono HB4.out.size))
  have HLS := hid (show ownMOps w.heap.size W3 (.slice av ls.length cv) ls from owns_keep (owns_keep (owns_keep (owns_mono HL.out.1 (by simp)) ((Below.refl w1.heap.size w1).alloc (Nat.le_refl _) (.cells #[.slice av ls.length cv] 202))) HP.out.2.1) HB5.out)
  have HPS := hid (show ownPls 0 W3 (.slice ap pls.length cp) pls from owns_keep (owns_low HP.out.1) HB5.out)
  have HXL := hid (show W3.heap[w1.heap.size]? = some (.cells #[.slice av ls.length cv] 202 (0, 0)) from blk_keep (blk_keep (blk_new w1 _) HP.out.2.1) HB5.out)
  have HXA := hid (show W3.heap[w.heap.size]? = some (.cells #[.slice none 0 0] 165 (0, 0)) from blk_keep (blk_keep (blk_keep (blk_keep (blk_new w _) HA1.out) ((Below.refl w1.heap.size w1).alloc (Nat.le_refl _) (.cells #[.slice av ls.length cv] 202))) HP.out.2.1) HB5.out)
  obtain ⟨gp, hgp⟩ : ∃ gp, 0 < pls.length → ap = some ⟨gp, 0, none⟩ := by
    by_cases hp0 : 0 < pls.length
    · obtain ⟨g, hg⟩ := HP.out.2.2 0 hp0
      exact ⟨g, fun _ => hg⟩
    · exact ⟨0, fun h => absurd h hp0⟩
  obtain ⟨S, hSd⟩ : ∃ S : Nat → Prop, S = fun k => k = w2.heap.size ∨ k = w2.heap.size + 1 ∨ (Value.slice ap pls.length cp).ownBlock = some k ∨ (Value.slice av ls.length cv).ownBlock = some k := ⟨_, rfl⟩
  have HSC := hid (show ∀ k, S k → ∃ c t f, W3.heap[k]? = some (.cells c t f) ∧ k < W3.heap.size from fun k hk => by
    rw [hSd] at hk
    rcases hk with rfl | rfl | hk | hk
    · exact ⟨_, _, _, HX5.out, blk_lt HX5.out⟩
    · exact ⟨_, _, _, HX6.out, blk_lt HX6.out⟩
    · obtain ⟨cur, hc⟩ := own_type HPS.out hk
      exact ⟨_, _, _, hc, blk_lt hc⟩
    · obtain ⟨cur, hc⟩ := own_type HLS.out hk
      exact ⟨_, _, _, hc, blk_lt hc⟩)
  have HS1 := hid (show S w2.heap.size ∧ S (w2.heap.size + 1) ∧ (∀ k, (Value.slice ap pls.length cp).ownBlock = some k → S k) ∧ (∀ k, (Value.slice av ls.length cv).ownBlock = some k → S k) ∧ ¬ S w.heap.size ∧ ¬ S w1.heap.size ∧ ∀ k c f, S k → W3.heap[k]? ≠ some (.cells c 147 f) by
    rw [hSd]
    refine ⟨.inl rfl, .inr (.inl rfl), fun k hk => .inr (.inr (.inl hk)), fun k hk => .inr (.inr (.inr hk)), ?_, ?_, ?_⟩
    · rintro (e | e | e | e)
      · omega
      · omega
      · obtain ⟨cur, hc⟩ := own_type HPS.out e
        exact absurd (cells_type hc HXA.out) (by decide)
      · obtain ⟨cur, hc⟩ := own_type HLS.out e
        exact absurd (cells_type hc HXA.out) (by decide)
    · rintro (e | e | e | e)
      · omega
      · omega
      · obtain ⟨cur, hc⟩ := own_type HPS.out e
        exact absurd (cells_type hc HXL.out) (by decide)
      · obtain ⟨cur, hc⟩ := own_type HLS.out e
        exact absurd (cells_type hc HXL.out) (by decide)
    · rintro k cc ff (rfl | rfl | hk | hk) hcon
      · exact absurd (cells_type hcon HX5.out) (by decide)
      · exact absurd (cells_type hcon HX6.out) (by decide)
      · obtain ⟨cur, hc⟩ := own_type HPS.out hk
        exact absurd (cells_type hcon hc) (by decide)
      · obtain ⟨cur, hc⟩ := own_type HLS.out hk
        exact absurd (cells_type hcon hc) (by decide))
  clear hSd
  have hcells : ∀ k, S k → ∃ c t f, W3.heap[k]? = some (.cells c t f) := fun k hk => by
    obtain ⟨c, t, f, h1, _⟩ := HSC.out k hk
    exact ⟨c, t, f, h1⟩
  refine wpIn_rangeFunc_ownG hro h1 (gf := 283) (lb := #[.pointer (some ⟨w2.heap.size, 0, none⟩), .pointer (some ⟨w2.heap.size + 1, 0, none⟩)]) rfl trivial enters_chunk
    (chunk_stops Fence.wide 3 trivial rfl (by omega) w2.heap.size (w2.heap.size + 1) gp pls.length cp (by omega) hlp hcp ap hgp S HS1.out.1 HS1.out.2.1 W3 (by simp [World.cell?, HX5.out]) (by simp [World.cell?, HX6.out])) (fun h k => h.trans k) ?hKb (Below.refl _ _) (fun _ => rfl)
    (fun (pre : List (ChunkOf pls.length)) W => AnsI w w1.heap.size S W3 av cv ls pls (pre.map fun x => x.1) W) (fun c (pre : List (ChunkOf pls.length)) W => c = .exit 0 ∧ ∃ (pre' : List (ChunkOf pls.length)) (x : ChunkOf pls.length), pre = pre' ++ [x] ∧ pre'.length = 3 ∧ AnsI w w1.heap.size S W3 av cv ls pls (pre'.map fun x => x.1) W)
    (by intro s A B row hs hg hr; exact AnsI.grow hs hcells (by omega) hg hr)
    (fun c s A B row hs hg hr => by
      obtain ⟨h1, pre', x, h2, h3, h4⟩ := hs
      exact ⟨h1, pre', x, h2, h3, h4.grow hcells (by omega) hg hr⟩)
    ?h0 (fun x => { tmps := #[.pointer (some ⟨rb, 0, none⟩), .slice (some ⟨gk, 0, none⟩) N ck, undef, undef, .slice none 0 0, .pointer (some ⟨w.heap.size, 0, none⟩), .pointer (some ⟨w1.heap.size, 0, none⟩), chunkV gp pls.length (8 * x.1), undef, .pointer (some ⟨rb, 0, none⟩), .pointer (some ⟨rb, 0, none⟩), .pointer (some ⟨rb, 3, none⟩), .pointer (some ⟨q.hb, 0, none⟩), .slice (some ⟨gk, 0, none⟩) N ck, .slice av ls.length cv, .pointer (some ⟨rb, 0, none⟩), .slice (some ⟨gk, 0, none⟩) N ck, .slice ap pls.length cp, .func (.func 283) #[] #[.pointer (some ⟨w2.heap.size, 0, none⟩), .pointer (some ⟨w2.heap.size + 1, 0, none⟩)], chunkV gp pls.length (8 * x.1), undef, undef, undef, undef, undef, undef, undef, undef, undef, undef, undef, undef, undef, undef, undef, undef, undef, undef, undef, undef, undef, undef, undef, undef, undef, undef, undef, undef, undef], defers := [] }) ?assign ?body ?done ?stop
  case hKb =>
    intro W l o o' hl ho hc hw k hk
    refine World.putObj_heap_other fun e => ?_
    obtain ⟨_, _, _, _, hlt⟩ := HSC.out k hk
    omega
  case h0 =>
    refine ⟨⟨_, [], HXA.out, World.ownsRow_nil _ _ _ _, trivial⟩, ⟨av, ?_, HXL.out⟩, fun _ _ => rfl, HB6.out, by simp⟩
    cases hav : av with
    | none => exact .inl ⟨rfl, rfl⟩
    | some p =>
      obtain ⟨g, hpg⟩ : ∃ g, p = ⟨g, 0, none⟩ := by
        rcases HLS.out.2 with ⟨e1, _⟩ | ⟨g, cap, cur, e1, _⟩
        · rw [hav] at e1; cases e1
        · rw [hav] at e1
          simp only [Value.slice.injEq, Option.some.injEq] at e1
          exact ⟨g, e1.1⟩
      subst hpg
      exact .inr ⟨_, 0, rfl, rfl, fun _ => by show 0 = 0 * 4; omega⟩
  case assign =>
    intro l x W K hK
    gi_wp2
    exact hK
  case body =>
    intro l pre x W hI hlt
    obtain ⟨v, vs, hv, hrow, hbat⟩ := hI.row
    obtain ⟨al, hal, hleft⟩ := hI.left
    have HSN := hid (ans_snoc ls pls (pre.map fun x => x.1) x.1)
    have HALE := hid (ans_le ls pls (pre.map fun x => x.1))
    have HALN := hid (ans_len ls pls (pre.map fun x => x.1))
    obtain ⟨d, hd⟩ : ∃ d, d = (ansTo ls pls (pre.map fun x => x.1)).1 := ⟨_, rfl⟩
    obtain ⟨bs, hbs⟩ : ∃ bs, bs = (ansTo ls pls (pre.map fun x => x.1)).2 := ⟨_, rfl⟩
    rw [← hd] at hleft hal HSN HALE
    rw [← hbs] at hrow hbat HSN HALN
    rw [List.length_map] at HALN
    clear hd hbs
    obtain ⟨a5, c5, rfl, hl5, hc5, hf5⟩ := owns_form hrow
    clear hf5
    unfold maxLen at hc5
    have b5 : W.cell? ⟨w.heap.size, 0, none⟩ = some (.slice a5 bs.length c5) := by simp [World.cell?, hv]
    have HI := hid (And.intro hI (And.intro hv hrow)); clear hv hrow
    have HBT := hid hbat; clear hbat
    by_cases h3 : pre.length = 3
    · have hb3 : bs.length = 3 := by have := HALN.out; omega
      rw [hb3] at b5
      gi_wp2
      exact ⟨KeepsFrom.refl _ _, rfl, pre, x, rfl, h3, HI.out.1⟩
    · have hb3 : ¬ bs.length = 3 := by have := HALN.out; omega
      have hb3' : ¬ (bs.length : Int) = 3 := by omega
      have hple : pre.length < 3 := by have := HI.out.1.few; rw [List.length_map] at this; omega
      have hp0 : 0 < pls.length := by have := x.2; unfold chunks at this; omega
      have HPA := hid (show PlsAt W gp (8 * x.1 * 2) (partOf pls x.1) from fun i hi => by
        obtain ⟨e1, e2⟩ := pls_at HPS.out (hgp hp0) x.1 i hi
        have hSg : S gp := HS1.out.2.2.1 gp (by rw [hgp hp0]; rfl)
        exact ⟨HI.out.1.kp.cell hSg e1, HI.out.1.kp.cell hSg e2⟩)
      obtain ⟨m8, hm8⟩ : ∃ m8, m8 = 8 * x.1 := ⟨_, rfl⟩
      have HPN := hid (part_len pls x.1)
      obtain ⟨part, hpart⟩ : ∃ part, part = partOf pls x.1 := ⟨_, rfl⟩
      rw [← hpart] at HPA HPN HSN
      rw [← hm8] at HPA HPN ⊢
      have hm8l : m8 ≤ 240 := by have := x.2; unfold chunks at this; omega
      have HX := hid (And.intro hpart hm8); clear hpart hm8
      have hpl8 : part.length ≤ 8 := by rw [HPN.out]; unfold chunkLen; omega
      have hdle := HALE.out
      unfold chunkV
      rw [← HPN.out]
      rcases hal with ⟨hav, rfl⟩ | ⟨p, o, hav, rfl, ho⟩
      · have hls : ls = [] ∧ cv = 0 := by
          rcases HLS.out.2 with ⟨e1, _⟩ | ⟨g, cap, cur, e1, _⟩
          · simp only [Value.slice.injEq] at e1
            exact ⟨List.eq_nil_of_length_eq_zero e1.2.1, e1.2.2⟩
          · rw [hav] at e1
            cases e1
        obtain ⟨rfl, rfl⟩ := hls
        subst hav
        obtain rfl : d = 0 := Nat.le_zero.1 hdle
        have hc0 : cutIn (([] : List MOp).drop 0) part = 0 := by simp [cutIn]
        rw [hc0] at HSN
        have b6 : W.cell? ⟨w1.heap.size, 0, none⟩ = some (.slice none 0 0) := by simp [World.cell?, hleft]
        have hbq : ((bs.length : Int) == 3) = false := by simpa using hb3'
        gi_upto_region 6 with fail
        gi_step
        gi_step
        gi_step
        gi_step
        gi_step
        gi_step
        gi_step
        gi_step
        gi_cut [8] from 20 (fun i wc => i = .int .i64 0 ∧ wc = W)
        case first =>
          gi_wp2
          gi_loopw [8] (fun i wr => i = .int .i64 0 ∧ wr = W) (fun _ _ => 0)
          case atStart => exact ⟨rfl, rfl⟩
          case round =>
            obtain ⟨rfl, rfl⟩ := hrel
            gi_wp2_with (first
              | (refine ⟨trivial, ?_⟩)
              | fail)
            gi_meet
            case rel => exact ⟨rfl, rfl⟩
        case rest =>
          obtain ⟨rfl, rfl⟩ := hcut
          have HRW := hid HI.out.2.2
          have HV5 := hid HI.out.2.1
          have HV6 := hid (show wc.heap[w1.heap.size]? = some (.cells #[.slice none 0 0] 202 (0, 0)) by simpa using hleft)
          have hbs4 : bs.length ≤ 3 := by have := HALN.out; omega
          have hwl : w.heap.size < wc.heap.size := blk_lt HV5.out
          have hw1l : w1.heap.size < wc.heap.size := blk_lt HV6.out
          have hne : w1.heap.size ≠ w.heap.size := by
            have := HA1.out.size
            simp only [World.size_alloc] at this
            omega
          have hne1 : wc.heap.size ≠ w.heap.size := by omega
          have hne2 : wc.heap.size ≠ w1.heap.size := by omega
          have HBA := hid (show Below wc.heap.size wc (wc.alloc (.cells #[.iface 382 (.slice none 0 0)] 147)).drew from ((Below.refl wc.heap.size wc).alloc (Nat.le_refl _) _).drew)
          obtain ⟨v', w6, hrun, hown6, hgrow6, _⟩ := run_append_own (P := Tryz.prog) (wc.alloc (.cells #[.iface 382 (.slice none 0 0)] 147)).drew w.heap.size 165 165 147 i0 .nilIface 1 16 Tryz.underlying165 hi hz0 hz1' hz2' rfl (by decide) (.slice a5 bs.length c5) bs.length vs (owns_keep HRW.out HBA.out) ⟨wc.heap.size, 0, none⟩ 1 1 [.iface 382 (.slice none 0 0)] rfl (by
            intro j u hj
            match j with
            | 0 => simp at hj; subst hj; simp [go_sem]
            | j + 1 => simp at hj) (by simp [Value.oneCell']) (by unfold maxLen; omega) (by omega) (Nat.le_trans (Nat.le_of_lt hwl) HBA.out.size)
          obtain ⟨g', cap', rfl⟩ := ownsRow_succ hown6
          have HTG := hid (Turned.of_grown (S := fun k => (Value.slice a5 bs.length c5).ownBlock = some k) hgrow6 (fun k hk => hk))
          have HN5 := hid (show (Value.slice a5 bs.length c5).ownBlock ≠ some w.heap.size from fun e => by
            obtain ⟨cur, hc⟩ := own_type HRW.out e
            exact absurd (cells_type hc HV5.out) (by decide))
          have HN6 := hid (show (Value.slice a5 bs.length c5).ownBlock ≠ some w1.heap.size from fun e => by
            obtain ⟨cur, hc⟩ := own_type HRW.out e
            exact absurd (cells_type hc HV6.out) (by decide))
          have HW5 := hid ((HTG.out.other w.heap.size (Nat.lt_of_lt_of_le hwl HBA.out.size) HN5.out).trans (blk_keep HV5.out HBA.out))
          have HW6 := hid ((HTG.out.other w1.heap.size (Nat.lt_of_lt_of_le hw1l HBA.out.size) HN6.out).trans (blk_keep HV6.out HBA.out))
          have f5 := blk_fz HW5.out 0
          have f6 := blk_fz HW6.out 0
          have g5 : w6.cell? ⟨w.heap.size, 0, none⟩ = some (.slice a5 bs.length c5) := by simp [World.cell?, HW5.out]
          have g6 : w6.cell? ⟨w1.heap.size, 0, none⟩ = some (.slice none 0 0) := by simp [World.cell?, HW6.out]
          have HO6 := hid (And.intro hown6 hgrow6)
          clear hown6 hgrow6
          have happ := appHid_run hrun
          clear hrun
          gi_step
          gi_step
          gi_cut [] from 38 (fun w7 => w7 = w6.setCell ⟨w.heap.size, 0, none⟩ (.slice (some ⟨g', 0, none⟩) (bs.length + 1) cap'))
          case first =>
            gi_region_with (fail)
            all_goals gi_wp2
            all_goals gi_meet
            all_goals rfl
          case rest =>
            subst hcut
            have HT7 := hid (show Turned (fun k => k = w.heap.size) w6 (w6.setCell ⟨w.heap.size, 0, none⟩ (.slice (some ⟨g', 0, none⟩) (bs.length + 1) cap')) from Turned.setC _ rfl)
            have HY5 := hid (show (w6.setCell ⟨w.heap.size, 0, none⟩ (.slice (some ⟨g', 0, none⟩) (bs.length + 1) cap')).heap[w.heap.size]? = some (.cells #[.slice (some ⟨g', 0, none⟩) (bs.length + 1) cap'] 165 (0, 0)) from setRow HW5.out)
            have HY6 := hid ((HT7.out.other w1.heap.size (blk_lt HW6.out) hne).trans HW6.out)
            have HRO := hid (row_other HO6.out.1 (g := w.heap.size) (o := 0) (fun e => by
              obtain ⟨cur, hc⟩ := own_type HO6.out.1 e
              exact absurd (cells_type hc HW5.out) (by decide)) (.slice (some ⟨g', 0, none⟩) (bs.length + 1) cap'))
            obtain ⟨w7, hw7⟩ : ∃ w7, w6.setCell ⟨w.heap.size, 0, none⟩ (.slice (some ⟨g', 0, none⟩) (bs.length + 1) cap') = w7 := ⟨_, rfl⟩
            rw [hw7] at HT7 HY5 HY6 HRO ⊢
            have HK7 := hid (show KeepsOthers w6 w7 by rw [← hw7]; exact KeepsOthers.setCell _ _ _)
            have HB7 := hid (show ∀ n, n ≤ w.heap.size → Below n w6 w7 by rw [← hw7]; exact fun n hn => (Below.refl n w6).setCell (p := ⟨w.heap.size, 0, none⟩) hn _)
            clear hw7 g5 g6 f5 f6 happ b5 b6
            have g6 : w7.cell? ⟨w1.heap.size, 0, none⟩ = some (.slice none 0 0) := by simp [World.cell?, HY6.out]
            have f6 := blk_fz HY6.out 0
            have hfin : KeepsFrom (w2.heap.size + 2) wc (w7.setCell ⟨w1.heap.size, 0, none⟩ (.slice none 0 0)) ∧ KpC S wc (w7.setCell ⟨w1.heap.size, 0, none⟩ (.slice none 0 0)) ∧ AnsI w w1.heap.size S W3 none 0 [] pls ((pre ++ [x]).map fun x => x.1) (w7.setCell ⟨w1.heap.size, 0, none⟩ (.slice none 0 0)) := by
              have hT8 : Turned (fun k => k = w1.heap.size) w7 (w7.setCell ⟨w1.heap.size, 0, none⟩ (.slice none 0 0)) := Turned.setC _ rfl
              have hO2 := others_below HBA.out
              have hO3 : KeepsOthers _ w6 := KeepsOthers.of_grownBy HO6.out.2 (fun j o hj ho => by
                obtain ⟨cur, hc⟩ := own_type (owns_keep HRW.out HBA.out) hj
                rw [hc] at ho
                cases ho
                rfl)
              have hkp : KpC S wc (w7.setCell ⟨w1.heap.size, 0, none⟩ (.slice none 0 0)) := fun k hk => by
                obtain ⟨cc, tt, ff, hc3, _⟩ := HSC.out k hk
                have hcW := (HI.out.1.kp k hk).trans hc3
                have e2 := HBA.out.block k (blk_lt hcW)
                have e3 := HTG.out.other k (blk_lt (e2.trans hcW)) (fun e => by
                  obtain ⟨cur, hc⟩ := own_type (owns_keep HRW.out HBA.out) e
                  rw [e2, HI.out.1.kp k hk] at hc
                  exact HS1.out.2.2.2.2.2.2 k _ _ hk hc)
                have e4 := HT7.out.other k (blk_lt (e3.trans (e2.trans hcW))) (fun e => HS1.out.2.2.2.2.1 (e ▸ hk))
                have e5 := hT8.other k (blk_lt (e4.trans (e3.trans (e2.trans hcW)))) (fun e => HS1.out.2.2.2.2.2.1 (e ▸ hk))
                exact e5.trans (e4.trans (e3.trans e2))
              refine ⟨((hO2.trans hO3).trans (HK7.out.trans (KeepsOthers.setCell _ _ _))).from _, hkp, ?_⟩
              rw [List.map_append]
              have hans := HSN.out
              refine ⟨?_, ?_, HI.out.1.kp.trans hkp, ?_, ?_⟩
              · rw [show [x].map (fun x => x.1) = [x.1] from rfl, hans]
                refine ⟨_, _, (hT8.other w.heap.size (blk_lt HY5.out) (Ne.symm hne)).trans HY5.out, ?_, All2.snoc (R := BatV none) (a := (0, 0)) (b := .iface 382 (.slice none 0 0)) ?_ HBT.out⟩
                · rw [List.length_append]
                  exact row_other HRO.out (fun e => by
                    obtain ⟨cur, hc⟩ := own_type HRO.out e
                    exact absurd (cells_type hc HY6.out) (by decide)) _
                · exact ⟨none, 0, rfl, Nat.le_refl _, Nat.zero_le _, fun h0 => absurd h0 (by decide)⟩
              · rw [show [x].map (fun x => x.1) = [x.1] from rfl, hans]
                exact ⟨none, .inl ⟨rfl, rfl⟩, setRow HY6.out⟩
              · have hb1 := HI.out.1.bel
                have hb2 := hb1.trans (HBA.out.mono hb1.size)
                have hb3 := hb2.grown HO6.out.2 hb2.size (fun k hk => (World.ownsRow.lt HI.out.2.2 k hk).1)
                have hb4 := hb3.trans (HB7.out _ (Nat.le_refl _))
                exact hb4.trans ((Below.refl _ w7).setCell (p := ⟨w1.heap.size, 0, none⟩) (by omega) _)
              · simp only [List.length_append, List.length_map, List.length_cons, List.length_nil]
                omega
            have HFIN := hid hfin
            clear hfin
            gi_wp2
            rw [hz3]
            exact HFIN.out
      · obtain ⟨g, hpg⟩ : ∃ g, p = ⟨g, 0, none⟩ := by
          rcases HLS.out.2 with ⟨e1, _⟩ | ⟨g, cap, cur, e1, _⟩
          · rw [hav] at e1; cases e1
          · rw [hav] at e1
            simp only [Value.slice.injEq, Option.some.injEq] at e1
            exact ⟨g, e1.1⟩
        subst hpg
        subst hav
        dsimp only at hleft ho
        have HO := hid ho; clear ho
        have b6 : W.cell? ⟨w1.heap.size, 0, none⟩ = some (.slice (some ⟨g, o, none⟩) (ls.length - d) (cv - d)) := by simp [World.cell?, hleft]
        have hcv' := hcv
        unfold maxLen at hcv'
        have hSl : S g := HS1.out.2.2.2.1 g rfl
        have HLC := hid (show ∀ j (hj : d + j < ls.length), W.cell? ⟨g, o + j * 4, none⟩ = some (.int .i64 ls[d + j].op.id.1) ∧ W.cell? ⟨g, o + j * 4 + 1, none⟩ = some (.int .i64 ls[d + j].op.id.2) ∧ W.cell? ⟨g, o + j * 4 + 2, none⟩ = some (.int .i64 ls[d + j].op.nth) ∧ W.cell? ⟨g, o + j * 4 + 3, none⟩ = some (.iface ls[d + j].t ls[d + j].v) from fun j hj => by
          obtain ⟨e0, e1, e2, e3⟩ := ownMOps.cells HLS.out (d + j) hj
          have ho := HO.out (by omega)
          rw [show (d + j) * 4 = o + j * 4 by omega] at e0 e1 e2 e3
          exact ⟨HI.out.1.kp.cell hSl e0, HI.out.1.kp.cell hSl e1, HI.out.1.kp.cell hSl e2, HI.out.1.kp.cell hSl e3⟩)
        obtain ⟨cut, hcut⟩ : ∃ cut, cut = cutIn (ls.drop d) part := ⟨_, rfl⟩
        rw [← hcut] at HSN
        have hcutl : d + cut ≤ ls.length := by
          have := cut_le (ls.drop d) part
          rw [List.length_drop] at this
          omega
        have HIN := hid (show ∀ j (hj : j < cut), plOf (ls[d + j]'(Nat.lt_of_lt_of_le (Nat.add_lt_add_left hj d) hcutl)) ∈ part from fun j hj => by
          rw [hcut] at hj
          have := takeWhile_at (fun o => decide (plOf o ∈ part)) (ls.drop d) j hj
          simp only [List.getElem_drop] at this
          exact of_decide_eq_true this)
        have HOUT := hid (show ∀ (hj : d + cut < ls.length), plOf ls[d + cut] ∉ part from fun hj => by
          have := takeWhile_end (fun o => decide (plOf o ∈ part)) (ls.drop d) (by rw [List.length_drop]; unfold cutIn at hcut; omega)
          simp only [List.getElem_drop] at this
          have e : ((ls.drop d).takeWhile fun o => decide (plOf o ∈ part)).length = cut := hcut.symm
          simp only [e] at this
          exact of_decide_eq_false this)
        clear hcut
        have hbq : ((bs.length : Int) == 3) = false := by simpa using hb3'
        gi_upto_region 6 with fail
        gi_step
        gi_step
        gi_step
        gi_step
        gi_step
        gi_step
        gi_step
        gi_step
        gi_cut [8] from 20 (fun i wc => i = .int .i64 (cut : Nat) ∧ Below W.heap.size W wc)
        case first =>
          gi_wp2
          gi_loopw [8] (fun i wr => ∃ j, j ≤ cut ∧ i = .int .i64 (j : Nat) ∧ Below W.heap.size W wr) (fun i _ => cut - (intOf i).toNat)
          case atStart => exact ⟨0, Nat.zero_le _, rfl, Below.refl _ _⟩
          case round =>
            obtain ⟨j, hjc, rfl, hbel⟩ := hrel
            replace b6 := keep hbel b6
            have hj0 : (0 : Int) ≤ (j : Int) := Int.natCast_nonneg _
            by_cases hjl : d + j < ls.length
            · obtain ⟨e0, e1, e2, e3⟩ := HLC.out j hjl
              replace e0 := keep hbel e0
              replace e1 := keep hbel e1
              replace e2 := keep hbel e2
              replace e3 := keep hbel e3
              have hjn : (j : Int) < ((ls.length - d : Nat) : Int) := by omega
              have HB := hid hbel; clear hbel
              have HMI := hid (show decide ((ls[d + j].op.id.2, ls[d + j].op.nth) ∈ part) = decide (j < cut) by
                by_cases hjt : j < cut
                · rw [decide_eq_true hjt]
                  exact decide_eq_true (HIN.out j hjt)
                · have hje : j = cut := by omega
                  rw [decide_eq_false hjt]
                  subst hje
                  exact decide_eq_false (HOUT.out hjl))
              obtain ⟨y, hoe⟩ : ∃ y, y = ls[d + j] := ⟨_, rfl⟩
              rw [← hoe] at e0 e1 e2 e3 HMI
              clear hoe
              have HC := hid (fun W' (hb : Below W.heap.size W W') => containsPl_q (HPA.out.keep hb) y.op.id.2 y.op.nth (by omega) (by omega) (Nat.le_refl _) (by omega))
              rw [HMI.out] at HC
              by_cases hjt : j < cut
              · rw [decide_eq_true hjt] at HC
                gi_wp2_with (first
                  | (refine ⟨trivial, ?_⟩; gi_at_call 280; refine (CallsIn.inRound l (callsIn_wide.2 (placeOf_q _ _ _ _ _ _))).mono ?_; rintro e w4 ⟨rfl, hb4⟩; have HB4' := hid (HB.out.trans (hb4.mono HB.out.size)); clear hb4)
                  | (refine ⟨trivial, ?_⟩; gi_at_call 279; refine (CallsIn.inRound l (callsIn_wide.2 (HC.out _ HB4'.out))).mono ?_; rintro e w5 ⟨rfl, hb5⟩; have HB5' := hid (HB4'.out.trans (hb5.mono HB4'.out.size)); clear hb5)
                  | fail)
                go_roundw
                case rel => exact ⟨j + 1, by omega, by go_num, HB5'.out⟩
                case measure => simp [intOf]; omega
              · rw [decide_eq_false hjt] at HC
                have HJE := hid (show j = cut by omega)
                clear hjt
                gi_wp2_with (first
                  | (refine ⟨trivial, ?_⟩; gi_at_call 280; refine (CallsIn.inRound l (callsIn_wide.2 (placeOf_q _ _ _ _ _ _))).mono ?_; rintro e w4 ⟨rfl, hb4⟩; have HB4' := hid (HB.out.trans (hb4.mono HB.out.size)); clear hb4)
                  | (refine ⟨trivial, ?_⟩; gi_at_call 279; refine (CallsIn.inRound l (callsIn_wide.2 (HC.out _ HB4'.out))).mono ?_; rintro e w5 ⟨rfl, hb5⟩; have HB5' := hid (HB4'.out.trans (hb5.mono HB4'.out.size)); clear hb5)
                  | fail)
                gi_meet
                case rel => exact ⟨by rw [HJE.out], HB5'.out⟩
            · have hjn : ¬ (j : Int) < ((ls.length - d : Nat) : Int) := by omega
              have HJE := hid (show j = cut by omega)
              have HB5' := hid hbel; clear hbel
              gi_wp2_with (first
                | (refine ⟨trivial, ?_⟩)
                | fail)
              gi_meet
              case rel => exact ⟨by rw [HJE.out], HB5'.out⟩
        case rest =>
          obtain ⟨rfl, hbel⟩ := hcut
          have HRW := hid (owns_keep HI.out.2.2 hbel)
          have HV5 := hid (blk_keep HI.out.2.1 hbel)
          have HV6 := hid (blk_keep hleft hbel)
          have hbs4 : bs.length ≤ 3 := by have := HALN.out; omega
          replace b5 := keep hbel b5
          replace b6 := keep hbel b6
          have hwl : w.heap.size < wc.heap.size := blk_lt HV5.out
          have hw1l : w1.heap.size < wc.heap.size := blk_lt HV6.out
          have hne : w1.heap.size ≠ w.heap.size := by
            have := HA1.out.size
            simp only [World.size_alloc] at this
            omega
          have hne1 : wc.heap.size ≠ w.heap.size := by omega
          have hne2 : wc.heap.size ≠ w1.heap.size := by omega
          have HBA := hid (show Below wc.heap.size wc (wc.alloc (.cells #[.iface 382 (.slice (some ⟨g, o, none⟩) cut (cv - d))] 147)).drew from ((Below.refl wc.heap.size wc).alloc (Nat.le_refl _) _).drew)
          obtain ⟨v', w6, hrun, hown6, hgrow6, _⟩ := run_append_own (P := Tryz.prog) (wc.alloc (.cells #[.iface 382 (.slice (some ⟨g, o, none⟩) cut (cv - d))] 147)).drew w.heap.size 165 165 147 i0 .nilIface 1 16 Tryz.underlying165 hi hz0 hz1' hz2' rfl (by decide) (.slice a5 bs.length c5) bs.length vs (owns_keep HRW.out HBA.out) ⟨wc.heap.size, 0, none⟩ 1 1 [.iface 382 (.slice (some ⟨g, o, none⟩) cut (cv - d))] rfl (by
            intro j u hj
            match j with
            | 0 => simp at hj; subst hj; simp [go_sem]
            | j + 1 => simp at hj) (by simp [Value.oneCell']) (by unfold maxLen; omega) (by omega) (Nat.le_trans (Nat.le_of_lt hwl) HBA.out.size)
          obtain ⟨g', cap', rfl⟩ := ownsRow_succ hown6
          have HTG := hid (Turned.of_grown (S := fun k => (Value.slice a5 bs.length c5).ownBlock = some k) hgrow6 (fun k hk => hk))
          have HN5 := hid (show (Value.slice a5 bs.length c5).ownBlock ≠ some w.heap.size from fun e => by
            obtain ⟨cur, hc⟩ := own_type HRW.out e
            exact absurd (cells_type hc HV5.out) (by decide))
          have HN6 := hid (show (Value.slice a5 bs.length c5).ownBlock ≠ some w1.heap.size from fun e => by
            obtain ⟨cur, hc⟩ := own_type HRW.out e
            exact absurd (cells_type hc HV6.out) (by decide))
          have HW5 := hid ((HTG.out.other w.heap.size (Nat.lt_of_lt_of_le hwl HBA.out.size) HN5.out).trans (blk_keep HV5.out HBA.out))
          have HW6 := hid ((HTG.out.other w1.heap.size (Nat.lt_of_lt_of_le hw1l HBA.out.size) HN6.out).trans (blk_keep HV6.out HBA.out))
          have f5 := blk_fz HW5.out 0
          have f6 := blk_fz HW6.out 0
          have g5 : w6.cell? ⟨w.heap.size, 0, none⟩ = some (.slice a5 bs.length c5) := by simp [World.cell?, HW5.out]
          have g6 : w6.cell? ⟨w1.heap.size, 0, none⟩ = some (.slice (some ⟨g, o, none⟩) (ls.length - d) (cv - d)) := by simp [World.cell?, HW6.out]
          have HO6 := hid (And.intro hown6 hgrow6)
          have HBL := hid hbel
          clear hown6 hgrow6 hbel
          have hd0 : (0 : Int) ≤ (cut : Int) := Int.natCast_nonneg _
          have hd1 : cut ≤ ls.length - d := by omega
          have hd2 : ls.length - d ≤ cv - d := by omega
          have happ := appHid_run hrun
          clear hrun
          gi_step
          gi_step
          gi_cut [] from 38 (fun w7 => w7 = w6.setCell ⟨w.heap.size, 0, none⟩ (.slice (some ⟨g', 0, none⟩) (bs.length + 1) cap'))
          case first =>
            gi_region_with (fail)
            all_goals gi_wp2
            all_goals gi_meet
            all_goals rfl
          case rest =>
            subst hcut
            have HT7 := hid (show Turned (fun k => k = w.heap.size) w6 (w6.setCell ⟨w.heap.size, 0, none⟩ (.slice (some ⟨g', 0, none⟩) (bs.length + 1) cap')) from Turned.setC _ rfl)
            have HY5 := hid (show (w6.setCell ⟨w.heap.size, 0, none⟩ (.slice (some ⟨g', 0, none⟩) (bs.length + 1) cap')).heap[w.heap.size]? = some (.cells #[.slice (some ⟨g', 0, none⟩) (bs.length + 1) cap'] 165 (0, 0)) from setRow HW5.out)
            have HY6 := hid ((HT7.out.other w1.heap.size (blk_lt HW6.out) hne).trans HW6.out)
            have HRO := hid (row_other HO6.out.1 (g := w.heap.size) (o := 0) (fun e => by
              obtain ⟨cur, hc⟩ := own_type HO6.out.1 e
              exact absurd (cells_type hc HW5.out) (by decide)) (.slice (some ⟨g', 0, none⟩) (bs.length + 1) cap'))
            obtain ⟨w7, hw7⟩ : ∃ w7, w6.setCell ⟨w.heap.size, 0, none⟩ (.slice (some ⟨g', 0, none⟩) (bs.length + 1) cap') = w7 := ⟨_, rfl⟩
            rw [hw7] at HT7 HY5 HY6 HRO ⊢
            have HK7 := hid (show KeepsOthers w6 w7 by rw [← hw7]; exact KeepsOthers.setCell _ _ _)
            have HB7 := hid (show ∀ n, n ≤ w.heap.size → Below n w6 w7 by rw [← hw7]; exact fun n hn => (Below.refl n w6).setCell (p := ⟨w.heap.size, 0, none⟩) hn _)
            clear hw7 g5 g6 f5 f6 happ b5 b6
            have g6 : w7.cell? ⟨w1.heap.size, 0, none⟩ = some (.slice (some ⟨g, o, none⟩) (ls.length - d) (cv - d)) := by simp [World.cell?, HY6.out]
            have f6 := blk_fz HY6.out 0
            have hfin : ∀ a8, LeftA (some ⟨g, 0, none⟩) cv (d + cut) a8 → KeepsFrom (w2.heap.size + 2) W (w7.setCell ⟨w1.heap.size, 0, none⟩ (.slice a8 (ls.length - d - cut) (cv - d - cut))) ∧ KpC S W (w7.setCell ⟨w1.heap.size, 0, none⟩ (.slice a8 (ls.length - d - cut) (cv - d - cut))) ∧ AnsI w w1.heap.size S W3 (some ⟨g, 0, none⟩) cv ls pls ((pre ++ [x]).map fun x => x.1) (w7.setCell ⟨w1.heap.size, 0, none⟩ (.slice a8 (ls.length - d - cut) (cv - d - cut))) := by
              intro a8 hL8
              have hT8 : Turned (fun k => k = w1.heap.size) w7 (w7.setCell ⟨w1.heap.size, 0, none⟩ (.slice a8 (ls.length - d - cut) (cv - d - cut))) := Turned.setC _ rfl
              have hO1 := others_below HBL.out
              have hO2 := others_below HBA.out
              have hO3 : KeepsOthers _ w6 := KeepsOthers.of_grownBy HO6.out.2 (fun j o hj ho => by
                obtain ⟨cur, hc⟩ := own_type (owns_keep HRW.out HBA.out) hj
                rw [hc] at ho
                cases ho
                rfl)
              have hkp : KpC S W (w7.setCell ⟨w1.heap.size, 0, none⟩ (.slice a8 (ls.length - d - cut) (cv - d - cut))) := fun k hk => by
                obtain ⟨cc, tt, ff, hc3, _⟩ := HSC.out k hk
                have hcW := (HI.out.1.kp k hk).trans hc3
                have e1 := HBL.out.block k (blk_lt hcW)
                have e2 := HBA.out.block k (blk_lt (e1.trans hcW))
                have e3 := HTG.out.other k (blk_lt (e2.trans (e1.trans hcW))) (fun e => by
                  obtain ⟨cur, hc⟩ := own_type (owns_keep HRW.out HBA.out) e
                  rw [e2, e1, HI.out.1.kp k hk] at hc
                  exact HS1.out.2.2.2.2.2.2 k _ _ hk hc)
                have e4 := HT7.out.other k (blk_lt (e3.trans (e2.trans (e1.trans hcW)))) (fun e => HS1.out.2.2.2.2.1 (e ▸ hk))
                have e5 := hT8.other k (blk_lt (e4.trans (e3.trans (e2.trans (e1.trans hcW))))) (fun e => HS1.out.2.2.2.2.2.1 (e ▸ hk))
                exact e5.trans (e4.trans (e3.trans (e2.trans e1)))
              refine ⟨(((hO1.trans hO2).trans hO3).trans (HK7.out.trans (KeepsOthers.setCell _ _ _))).from _, hkp, ?_⟩
              rw [List.map_append]
              have hans := HSN.out
              have hzw := HI.out.1.bel.size
              refine ⟨?_, ?_, HI.out.1.kp.trans hkp, ?_, ?_⟩
              · rw [show [x].map (fun x => x.1) = [x.1] from rfl, hans]
                refine ⟨_, _, (hT8.other w.heap.size (blk_lt HY5.out) (Ne.symm hne)).trans HY5.out, ?_, All2.snoc (R := BatV (some ⟨g, 0, none⟩)) (a := (d, cut)) (b := .iface 382 (.slice (some ⟨g, o, none⟩) cut (cv - d))) ?_ HBT.out⟩
                · rw [List.length_append]
                  exact row_other HRO.out (fun e => by
                    obtain ⟨cur, hc⟩ := own_type HRO.out e
                    exact absurd (cells_type hc HY6.out) (by decide)) _
                · refine ⟨some ⟨g, o, none⟩, cv - d, rfl, by show cut ≤ cv - d; omega, by omega, fun h0 => ⟨⟨g, 0, none⟩, rfl, ?_⟩⟩
                  have h0' : 0 < cut := h0
                  rw [HO.out (by omega)]
              · rw [show [x].map (fun x => x.1) = [x.1] from rfl, hans]
                refine ⟨a8, hL8, ?_⟩
                rw [show ls.length - (d + cut) = ls.length - d - cut by omega, show cv - (d + cut) = cv - d - cut by omega]
                exact setRow HY6.out
              · have hb1 := HI.out.1.bel.trans (HBL.out.mono hzw)
                have hb2 := hb1.trans (HBA.out.mono hb1.size)
                have hb3 := hb2.grown HO6.out.2 hb2.size (fun k hk => (World.ownsRow.lt HI.out.2.2 k hk).1)
                have hb4 := hb3.trans (HB7.out _ (Nat.le_refl _))
                exact hb4.trans ((Below.refl _ w7).setCell (p := ⟨w1.heap.size, 0, none⟩) (by omega) _)
              · simp only [List.length_append, List.length_map, List.length_cons, List.length_nil]
                omega
            have HFIN := hid hfin
            clear hfin
            gi_wp2
            · have e0 : cv - d - cut = 0 := by omega
              have hf := HFIN.out (some ⟨g, o, none⟩) (.inr ⟨_, o, rfl, rfl, fun h => by omega⟩)
              rw [e0] at hf
              exact hf
            · exact HFIN.out (some ⟨g, o + cut * 4, none⟩) (.inr ⟨_, _, rfl, rfl, fun h => by have := HO.out (by omega); omega⟩)
  case done =>
    rintro D xs W hD hS hI hK
    obtain ⟨v, vs, hv, hrow, hbat⟩ := hI.row
    have hc : W.cell? ⟨w.heap.size, 0, none⟩ = some v := by simp [World.cell?, hv]
    have hks : xs.map (fun x => x.1) = List.range (min (chunks pls.length) 3) := by
      have h1 := hI.few
      have h2 := hS
      rw [h2] at h1 ⊢
      rw [List.length_range] at h1
      rw [Nat.min_eq_left h1]
    rw [hks] at hrow hbat
    have HX := hid (And.intro hI (And.intro hrow hbat)); clear hrow hbat hS
    have hwD : w.heap.size ≤ D := by omega
    gi_wp2
    refine ⟨by simp, .inl ⟨_, _, rfl, run_takeDeferred hK, ?_⟩⟩
    refine ⟨_, results_tmp rfl _ _ _, v, vs, ls, av, cv, _, rfl, ?_, HL.out.2.1, HL.out.2.2.1, rfl, ?_, ?_, HX.out.1.bel.trans (below_put hwD hK)⟩
    · exact ownsRow_putObj (row_blk HLS.out fun g hg => HX.out.1.kp g (HS1.out.2.2.2.1 g hg)) _ hK rfl
    · rw [← HPE.out]
      exact ownsRow_putObj HX.out.2.1 _ hK rfl
    · rw [← HPE.out]
      exact HX.out.2.2
  case stop =>
    rintro D c pre W hD ⟨k, hk, hpre⟩ ⟨rfl, pre', x, rfl, h3, hI⟩ hK
    obtain ⟨v, vs, hv, hrow, hbat⟩ := hI.row
    have hc : W.cell? ⟨w.heap.size, 0, none⟩ = some v := by simp [World.cell?, hv]
    have hks : pre'.map (fun x => x.1) = List.range (min (chunks pls.length) 3) := by
      have h4 : k = 4 := by
        have := congrArg List.length hpre
        simp only [List.length_map, List.length_append, List.length_cons, List.length_nil, List.length_range] at this
        omega
      subst h4
      rw [Nat.min_eq_right (by omega)]
      rw [List.map_append] at hpre
      have := congrArg (List.take 3) hpre
      rw [List.take_append_of_le_length (by rw [List.length_map, h3]; exact Nat.le_refl _), List.take_of_length_le (by rw [List.length_map, h3]; exact Nat.le_refl _)] at this
      exact this
    rw [hks] at hrow hbat
    have HX := hid (And.intro hI (And.intro hrow hbat)); clear hrow hbat hpre
    have hwD : w.heap.size ≤ D := by omega
    gi_wp2
    refine ⟨by simp, .inl ⟨_, _, rfl, run_takeDeferred hK, ?_⟩⟩
    refine ⟨_, results_tmp rfl _ _ _, v, vs, ls, av, cv, _, rfl, ?_, HL.out.2.1, HL.out.2.2.1, rfl, ?_, ?_, HX.out.1.bel.trans (below_put hwD hK)⟩
    · exact ownsRow_putObj (row_blk HLS.out fun g hg => HX.out.1.kp g (HS1.out.2.2.2.1 g hg)) _ hK rfl
    · rw [← HPE.out]
      exact ownsRow_putObj HX.out.2.1 _ hK rfl
    · rw [← HPE.out]
      exact HX.out.2.2

/-- ANSWER. -/
theorem answer_any {w : World} {rb : Nat} {F I : Nat → Prop} {N sp c : Nat} {gt : Int} {has : Nat → Int} {ops : List MOp} {early : List (PId × MOp)} {q : RQ} (h : RepM w rb F I N sp c gt has ops early q) {gk ck : Nat} {known : Nat → Int} (hk : isKn w gk ck N known) (hhas : ∀ i, i < N → 0 ≤ known i ∧ has i ≤ 60) (hkn : ∀ i, i < N → known i ≤ 60) (hcp : ∀ x ∈ ops, 0 ≤ x.op.id.2 ∧ x.op.id.2 < N) (hnd : (ops.map plOf).Nodup) :
    Calls Tryz.prog 275 #[.pointer (some ⟨rb, 0, none⟩), .slice (some ⟨gk, 0, none⟩) N ck] w fun e w' => ∃ v vs ls av cv bs, e = .returned v ∧ ownMOps w.heap.size w' (.slice av ls.length cv) ls ∧ ls.Perm (ops.filter (isBey known)) ∧ AscP ls ∧ bs = (ansTo ls (beyTo known has N) (List.range (min (chunks (beyTo known has N).length) 3))).2 ∧ w'.ownsRow w.heap.size 147 1 v bs.length vs ∧ All2 (BatV av) bs vs ∧ Below w.heap.size w w' :=
  callsIn_wide.1 (answer_in h hk hhas hkn hcp hnd)

end Go.Proofs.YtnkpogjiiohapaaGreatDoor
