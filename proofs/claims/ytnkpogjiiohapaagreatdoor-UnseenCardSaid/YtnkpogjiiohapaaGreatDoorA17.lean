/- Our own text (GSortA, GHistG). -/
import Derived.Test.YtnkpogjiiohapaaGreatDoorShelfB
import Derived.Test.YtnkpogjiiohapaaGreatDoorA16
import Derived.Test.YtnkpogjiiohapaaGreatDoorA03
set_option linter.unusedSimpArgs false
set_option linter.unusedVariables false

/-! GSortA: slices.SortFunc at Ids, whatever their number: what the row holds behind it. -/
namespace Go.Proofs.YtnkpogjiiohapaaGreatDoor
open Go.RowKit Go.Sort Go.Shelf

theorem flatAt {α : Type} {f : α → List Value} {k : Nat} (hf : ∀ x, (f x).length = k) : ∀ (l : List α) (q : Nat) (hq : q < l.length) (j : Nat), j < k → (l.flatMap f)[q * k + j]? = (f l[q])[j]?
  | x :: l, 0, _, j, hj => by
    rw [List.flatMap_cons, List.getElem?_append_left (by rw [hf]; omega)]; simp
  | x :: l, q + 1, hq, j, hj => by
    have e : (q + 1) * k = q * k + k := by rw [Nat.add_mul, Nat.one_mul]
    rw [List.flatMap_cons, List.getElem?_append_right (by rw [hf]; omega), hf, show (q + 1) * k + j - k = q * k + j by omega]
    exact flatAt hf l q (by simpa using hq) j hj

theorem flatK_list {α : Type} [Inhabited α] (enc : α → List Value) (k : Nat) (hk : ∀ x, (enc x).length = k) (d : Array α) : (flatK enc k d).toList = d.toList.flatMap enc := by
  apply List.ext_getElem?
  intro t
  have hlen : (d.toList.flatMap enc).length = d.size * k := by rw [flat_len enc k hk]; simp
  by_cases ht : t < d.size * k
  · have hk0 : 0 < k := by
      rcases Nat.eq_zero_or_pos k with h | h
      · subst h; simp at ht
      · exact h
    have hq : t / k < d.size := Nat.div_lt_of_lt_mul (by rw [Nat.mul_comm]; exact ht)
    have h1 := get_flatK enc k d t ht
    have h2 := flatAt hk d.toList (t / k) (by simpa using hq) (t % k) (Nat.mod_lt _ hk0)
    rw [show t / k * k + t % k = t by rw [Nat.mul_comm]; exact Nat.div_add_mod t k] at h2
    rw [h2]
    have hs : t < (flatK enc k d).size := by simpa using ht
    rw [getElem!_pos _ t hs, getElem!_pos d (t / k) hq] at h1
    have hm : t % k < (enc d[t / k]).length := by rw [hk]; exact Nat.mod_lt _ hk0
    rw [getElem!_pos _ (t % k) hm] at h1
    simp only [Array.getElem?_toList, Array.getElem_toList]
    rw [Array.getElem?_eq_getElem hs, List.getElem?_eq_getElem hm, h1]
  · rw [List.getElem?_eq_none (by simpa using ht), List.getElem?_eq_none (by omega)]

/-- What a sort leaves of a row. -/
theorem sorted_owns {α : Type} [Inhabited α] (enc : α → List Value) (k : Nat) (hk : ∀ x, (enc x).length = k) {B : Nat} {t : TypeId} {w : World} {g cap : Nat} {l : List α} (h : w.ownsRow B t k (.slice (some ⟨g, 0, none⟩) l.length cap) l.length (l.flatMap enc)) (m : Nat) (d' : Array α) (hd : d'.size = l.length) (os : Array Obj) :
    (sortWorldK enc k w g 0 m d' os).ownsRow B t k (.slice (some ⟨g, 0, none⟩) l.length cap) l.length (d'.toList.flatMap enc) ∧ w.grownBy (sortWorldK enc k w g 0 m d' os) (some g) := by
  obtain ⟨hl, hv | ⟨g', c', cur, hv, hB, hg, h1, h2, h3, h4⟩⟩ := h
  · cases hv.1
  simp only [Value.slice.injEq, Option.some.injEq, Addr.mk.injEq, and_true, true_and] at hv
  obtain ⟨rfl, rfl⟩ := hv
  have hgl := blk_lt hg
  have hfl : (d'.toList.flatMap enc).length = l.length * k := by rw [flat_len enc k hk]; simp [hd]
  have hnew : (sortWorldK enc k w g 0 m d' os).heap[g]? = some (.cells (putCells id 0 (flatK enc k d') cur) t (0, 0)) := by
    unfold sortWorldK putRowK putRow
    rw [heap_grow_old _ _ (by simp [mapBlock, Sort.ahead]; exact hgl)]
    simp [mapBlock, Sort.ahead, Array.getElem?_modify, hg, onCells]
  have hoth : ∀ j, j < w.heap.size → j ≠ g → (sortWorldK enc k w g 0 m d' os).heap[j]? = w.heap[j]? := fun j hj hne => by
    unfold sortWorldK putRowK putRow
    rw [heap_grow_old _ _ (by simp [mapBlock, Sort.ahead]; exact hj)]
    simp [mapBlock, Sort.ahead, Array.getElem?_modify, Ne.symm hne]
  have hsz : w.heap.size ≤ (sortWorldK enc k w g 0 m d' os).heap.size := by
    unfold sortWorldK putRowK putRow grow
    simp [mapBlock, Sort.ahead]
  refine ⟨⟨hfl, .inr ⟨g, cap, _, rfl, hB, hnew, h1, h2, by simp [putCells, h3], ?_⟩⟩, ⟨rfl, rfl, rfl, hsz, fun j hj hne => hoth j hj (fun e => hne (by rw [e]))⟩⟩
  have hnk : l.length * k ≤ cap * k := Nat.mul_le_mul_right k h1
  apply List.ext_getElem?
  intro i
  by_cases hi : i < l.length * k
  · rw [List.getElem?_take, if_pos hi]
    have hs : i < (flatK enc k d').size := by simp [hd]; exact hi
    rw [← flatK_list enc k hk d']
    have hic : i < cur.size := by omega
    simp only [putCells, Array.getElem?_toList, Array.getElem?_mapIdx]
    rw [Array.getElem?_eq_getElem hic, Array.getElem?_eq_getElem hs]
    simp [hd, hi]
  · rw [List.getElem?_take, if_neg hi, List.getElem?_eq_none (by omega)]

theorem owns_holds {α : Type} [Inhabited α] (enc : α → List Value) (k : Nat) (hk : ∀ x, (enc x).length = k) {B : Nat} {t : TypeId} {w : World} {g cap : Nat} {l : List α} (h : w.ownsRow B t k (.slice (some ⟨g, 0, none⟩) l.length cap) l.length (l.flatMap enc)) : HoldsK enc k w g 0 l.toArray ∧ g < w.heap.size := by
  have hg : ∃ cur, w.heap[g]? = some (.cells cur t (0, 0)) := own_type h rfl
  obtain ⟨cur, hg⟩ := hg
  refine ⟨fun j hj => ⟨?_, ?_⟩, blk_lt hg⟩
  · have hj' : j < l.length * k := by simpa using hj
    have hc := World.ownsRow.cellAt h j hj'
    rw [Nat.zero_add]
    have e := flatK_list enc k hk l.toArray
    simp only [List.toList_toArray] at e
    rw [hc, ← e, getElem!_pos _ j hj]
    simp [hj']
  · exact blk_fz hg _

theorem ltF (x y : PId) : ltI x y = false ↔ ¬ (x.1 < y.1 ∨ (x.1 = y.1 ∧ x.2 < y.2)) := by
  rw [← ltI_iff]
  cases ltI x y <;> simp
theorem pid_eq {x y : PId} (h1 : ltI x y = false) (h2 : ltI y x = false) : x = y := by
  have a := (ltF x y).1 h1
  have b := (ltF y x).1 h2
  obtain ⟨x1, x2⟩ := x
  obtain ⟨y1, y2⟩ := y
  simp only [Prod.mk.injEq] at *
  omega
theorem swoI : SWO (ltOf cmpI) :=
  ⟨fun x => (ltF x x).2 (by omega), fun x y z h1 h2 => (ltI_iff x z).2 (by
    have a := (ltI_iff x y).1 h1
    have b := (ltI_iff y z).1 h2
    omega), fun x y z h1 h2 => (ltF x z).2 (by
    have a := (ltF x y).1 h1
    have b := (ltF y z).1 h2
    omega)⟩

/-- In the order of Ids. -/
def Asc (l : List PId) : Prop := l.Pairwise fun x y => ltI x y = true

theorem enters_compare (args : Array Value) (w : World) : (callFunc 139 args).run Tryz.prog w = .ok (.enter 139 args) w :=
  enters_of Tryz.func139 (by kernel_rfl) rfl args w

theorem asc_of {l : List PId} (hn : l.Nodup) (hs : ∀ i j (hi : i < l.length) (hj : j < l.length), i < j → ltI l[j] l[i] = false) : Asc l := by
  unfold Asc
  rw [List.pairwise_iff_getElem]
  intro i j hi hj hij
  cases h : ltI l[i] l[j] with
  | true => rfl
  | false =>
    exfalso
    have := pid_eq h (hs i j hi hj hij)
    have hp := List.pairwise_iff_getElem.1 hn i j hi hj hij
    exact hp this

set_option maxHeartbeats 1000000 in
/-- SORTED, WHATEVER THEIR NUMBER. -/
theorem sortIds_q {B : Nat} {w : World} {u : Value} {l : List PId} (h : ownIds B w u l) (hn : l.Nodup) (hl : l.length ≤ 10000) :
    Calls Tryz.prog 163 #[u, .func (.func 139) #[] #[]] w fun e w' => e = .returned (.tuple #[]) ∧ ∃ l', l'.Perm l ∧ Asc l' ∧ ownIds B w' u l' ∧ w.grownBy w' u.ownBlock := by
  by_cases h0 : l.length = 0
  · obtain ⟨a, c, rfl, _, _, _⟩ := owns_form h
    refine (sortFunc1 a l.length c _ (by omega) w).mono ?_
    rintro e w' ⟨rfl, hb⟩
    refine ⟨rfl, l, .refl _, ?_, owns_keep h hb, ⟨hb.os, hb.tape, hb.output, hb.size, fun k hk _ => hb.block k hk⟩⟩
    have : l = [] := List.eq_nil_of_length_eq_zero h0
    subst this
    exact List.Pairwise.nil
  · obtain ⟨a, c, rfl, hlc, hcm, hf⟩ := owns_form h
    obtain ⟨g, rfl⟩ := hf 0 (by omega)
    obtain ⟨hH, hgl⟩ := owns_holds idC 2 (fun _ => rfl) h
    have hcon := AnyQ.slices_SortFunc Tryz.sortIds 2 Tryz.isAgg36 Tryz.sizeOf36 idC (fun _ => rfl) (fun x v hv => by simp [idC] at hv; rcases hv with rfl | rfl <;> rfl) cmpI swoI 139 #[] g 0 c l.toArray w enters_compare (fun m os dk _ x y => compare_lays x.1 x.2 y.1 y.2 _) hH hgl (by simp; omega)
    change Calls Tryz.prog 163 _ _ _ at hcon
    simp only [List.size_toArray] at hcon
    refine hcon.mono ?_
    rintro e w' ⟨rfl, d', n, os, hp, hs, rfl⟩
    obtain ⟨hsz, _, hpm⟩ := hp
    simp at hsz
    obtain ⟨h1, h2⟩ := sorted_owns idC 2 (fun _ => rfl) h n d' hsz os
    have hperm : d'.toList.Perm l := by
      have e1 : (d'.extract 0 l.length).toList = d'.toList := by rw [← hsz]; simp
      have e2 : (l.toArray.extract 0 l.length).toList = l := by simp
      rwa [e1, e2] at hpm
    refine ⟨rfl, d'.toList, hperm, asc_of (hperm.nodup_iff.2 hn) (fun i j hi hj hij => ?_), ?_, h2⟩
    · have := hs i j (Nat.zero_le _) hij (by simpa [hsz] using hj)
      rw [getElem!_pos d' j (by simpa using hj), getElem!_pos d' i (by simpa using hi)] at this
      simpa [ltOf, ltI] using this
    · unfold ownIds
      rw [show d'.toList.length = l.length by simp [hsz]]
      exact h1

end Go.Proofs.YtnkpogjiiohapaaGreatDoor

/-! GHistG: A copy's history in general: operations that are put where the order of Ids has them. -/
namespace Go.Proofs.YtnkpogjiiohapaaGreatDoor
open Go.RowKit

def insO (x : MOp) : List MOp → List MOp
  | [] => [x]
  | o :: l => if ltI o.op.id x.op.id = true then o :: insO x l else x :: o :: l
def posO (x : MOp) : List MOp → Nat
  | [] => 0
  | o :: l => if ltI o.op.id x.op.id = true then posO x l + 1 else 0
def AscO (l : List MOp) : Prop := l.Pairwise fun a b => ltI a.op.id b.op.id = true

theorem ins_split (x : MOp) : ∀ l : List MOp, insO x l = l.take (posO x l) ++ x :: l.drop (posO x l)
  | [] => rfl
  | o :: l => by
    unfold insO posO
    split
    · rw [List.take_succ_cons, List.drop_succ_cons, List.cons_append, ← ins_split x l]
    · rfl
theorem pos_le (x : MOp) : ∀ l : List MOp, posO x l ≤ l.length
  | [] => Nat.le_refl _
  | o :: l => by
    unfold posO
    split
    · simpa using pos_le x l
    · exact Nat.zero_le _
theorem pos_lo (x : MOp) : ∀ (l : List MOp) (i : Nat) (hi : i < l.length), i < posO x l → ltI l[i].op.id x.op.id = true
  | o :: l, 0, _, h => by
    unfold posO at h
    split at h
    · rename_i e; exact e
    · omega
  | o :: l, i + 1, hi, h => by
    unfold posO at h
    split at h
    · exact pos_lo x l i (by simpa using hi) (by omega)
    · omega
theorem ltI_trans {a b c : PId} (h1 : ltI a b = true) (h2 : ltI b c = true) : ltI a c = true := by
  have x := (ltI_iff a b).1 h1
  have y := (ltI_iff b c).1 h2
  exact (ltI_iff a c).2 (by omega)
theorem ltI_irr (a : PId) : ltI a a = false := (ltF a a).2 (by omega)
theorem ltI_or {a b : PId} (h : a ≠ b) (hn : ¬ ltI a b = true) : ltI b a = true := by
  cases hb : ltI b a with
  | true => rfl
  | false => exact absurd (pid_eq (by simpa using hn) hb) h
theorem pos_hi (x : MOp) : ∀ (l : List MOp), AscO l → (∀ o ∈ l, o.op.id ≠ x.op.id) → ∀ (i : Nat) (hi : i < l.length), posO x l ≤ i → ltI x.op.id l[i].op.id = true
  | o :: l, ha, hn, i, hi, h => by
    unfold posO at h
    have ha' := List.pairwise_cons.1 ha
    split at h
    · obtain ⟨j, rfl⟩ : ∃ j, i = j + 1 := ⟨i - 1, by omega⟩
      exact pos_hi x l ha'.2 (fun o ho => hn o (List.mem_cons_of_mem _ ho)) j (by simpa using hi) (by omega)
    · rename_i e
      have h0 := ltI_or (hn o List.mem_cons_self) e
      match i, hi with
      | 0, _ => exact h0
      | i + 1, hi => exact ltI_trans h0 (ha'.1 _ (List.getElem_mem _))
theorem ins_perm (x : MOp) : ∀ l : List MOp, (insO x l).Perm (x :: l)
  | [] => .refl _
  | o :: l => by
    unfold insO
    split
    · exact ((ins_perm x l).cons o).trans (.swap _ _ _)
    · exact .refl _
theorem ins_asc (x : MOp) : ∀ (l : List MOp), AscO l → (∀ o ∈ l, o.op.id ≠ x.op.id) → AscO (insO x l)
  | [], _, _ => List.pairwise_singleton _ _
  | o :: l, ha, hn => by
    have ha' := List.pairwise_cons.1 ha
    unfold insO
    split
    · rename_i e
      refine List.pairwise_cons.2 ⟨fun b hb => ?_, ins_asc x l ha'.2 fun o ho => hn o (List.mem_cons_of_mem _ ho)⟩
      rcases List.mem_cons.1 ((ins_perm x l).mem_iff.1 hb) with rfl | hb
      · exact e
      · exact ha'.1 b hb
    · rename_i e
      have h0 := ltI_or (hn o List.mem_cons_self) e
      refine List.pairwise_cons.2 ⟨fun b hb => ?_, ha⟩
      rcases List.mem_cons.1 hb with rfl | hb
      · exact h0
      · exact ltI_trans h0 (ha'.1 b hb)
theorem ins_take {x : MOp} {l : List MOp} {k : Nat} (h : k ≤ posO x l) : (insO x l).take k = l.take k := by
  rw [ins_split, List.take_append_of_le_length (by rw [List.length_take]; have := pos_le x l; omega), List.take_take, show min k (posO x l) = k by omega]
theorem ins_len (x : MOp) (l : List MOp) : (insO x l).length = l.length + 1 := by have := (ins_perm x l).length_eq; simpa using this
theorem cmp_neg {a b : PId} (h : ltI a b = true) : cmpI a b < 0 := by simpa [ltI] using h
theorem cmp_pos {a b : PId} (h : ltI a b = true) : 0 < cmpI b a := by
  have := (ltI_iff a b).1 h
  unfold cmpI orZ cmpZ
  rcases this with h1 | ⟨h1, h2⟩
  · simp [show ¬ b.1 < a.1 by omega, h1]
  · simp [h1, show ¬ b.2 < a.2 by omega, h2]

/-- A HISTORY WHILE OPERATIONS COME: its first e operations are those that its states and its document were made of. -/
structure HistX (w : World) (hb sp su : Nat) (vo vr : Value) (ops : List MOp) (e : Nat) (rs : List RDoc) (d bo be : Nat) (F I : Nat → Prop) (D0 : BDoc) (D : QDoc) : Prop where
  blk : isHs w hb sp su vo vr d
  row : ownMOps 0 w vo ops
  chg : ∀ o ∈ ops, isChgI w I (.iface o.t o.v) o.op.chg
  mem : ownDocs 0 w vr (rs.map (·.d))
  sp1 : 1 ≤ sp
  sp2 : sp ≤ 50
  su1 : su < sp
  le : e ≤ ops.length
  len : ops.length ≤ 300
  docs : ∀ r ∈ rs, isQ w r.d r.b r.e r.D.1 r.D.2 ∧ QOwn r.b r.e (ofR F rs bo be) r.D.1 r.D.2 ∧ QNd r.D
  does : ∀ j (hj : j < rs.length), j * sp - su ≤ e → DoP D0 ((ops.map (·.op)).take (j * sp - su)) rs[j].D
  q : isQ w d bo be D.1 D.2
  own : QOwn bo be (ofR F rs bo be) D.1 D.2
  nd : QNd D
  maps : (mapsOf rs bo be).Nodup
  fh : F hb
  fo : ∀ k, vo.ownBlock = some k → F k
  fv : ∀ k, vr.ownBlock = some k → F k
  fr : ∀ r ∈ rs, F r.d ∧ F r.b ∧ F r.e
  fd : F d
  fbo : F bo
  fbe : F be
  lt : ∀ k, F k → k < w.heap.size
  nI : ∀ k, I k → ¬ F k
  iI : ∀ k, I k → k < w.heap.size

section
theorem HistG.x {w : World} {hb sp su : Nat} {vo vr : Value} {ops : List MOp} {e : Nat} {rs : List RDoc} {d bo be : Nat} {F I : Nat → Prop} {D0 : BDoc} {D : QDoc} (h : HistG w hb sp su vo vr ops e rs d bo be F I D0 D) : HistX w hb sp su vo vr ops e rs d bo be F I D0 D :=
  ⟨h.blk, h.row, h.chg, h.mem, h.sp1, h.sp2, h.su1, h.le, h.len, h.docs, fun j hj _ => h.does j hj, h.q, h.own, h.nd, h.maps, h.fh, h.fo, h.fv, h.fr, h.fd, h.fbo, h.fbe, h.lt, h.nI, h.iI⟩
theorem HistX.g {w : World} {hb sp su : Nat} {vo vr : Value} {ops : List MOp} {e : Nat} {rs : List RDoc} {d bo be : Nat} {F I : Nat → Prop} {D0 : BDoc} {D : QDoc} (h : HistX w hb sp su vo vr ops e rs d bo be F I D0 D) (hj : ∀ j, j < rs.length → j * sp - su ≤ e) (hd : DoP D0 ((ops.map (·.op)).take e) D) : HistG w hb sp su vo vr ops e rs d bo be F I D0 D :=
  ⟨h.blk, h.row, h.chg, h.mem, h.sp1, h.sp2, h.su1, h.le, h.len, h.docs, fun j hj' => h.does j hj' (hj j hj'), h.q, h.own, h.nd, hd, h.maps, h.fh, h.fo, h.fv, h.fr, h.fd, h.fbo, h.fbe, h.lt, h.nI, h.iI⟩
theorem HistX.keepF {w w' : World} {hb sp su : Nat} {vo vr : Value} {ops : List MOp} {e : Nat} {rs : List RDoc} {d bo be : Nat} {F I : Nat → Prop} {D0 : BDoc} {D : QDoc} (h : HistX w hb sp su vo vr ops e rs d bo be F I D0 D) (hs : w.heap.size ≤ w'.heap.size) (hk : ∀ k, F k → w'.heap[k]? = w.heap[k]?) (hi : ∀ k, I k → w'.heap[k]? = w.heap[k]?) : HistX w' hb sp su vo vr ops e rs d bo be F I D0 D := by
  refine ⟨?_, row_blk h.row fun g hg => hk g (h.fo g hg), fun o ho => (h.chg o ho).keepI hi (fun _ x => x), row_blk h.mem fun g hg => hk g (h.fv g hg), h.sp1, h.sp2, h.su1, h.le, h.len, fun r hr => ?_, h.does, ?_, h.own, h.nd, h.maps, h.fh, h.fo, h.fv, h.fr, h.fd, h.fbo, h.fbe, fun k hF => Nat.lt_of_lt_of_le (h.lt k hF) hs, h.nI, fun k hF => Nat.lt_of_lt_of_le (h.iI k hF) hs⟩
  · unfold isHs; rw [hk _ h.fh]; exact h.blk
  · obtain ⟨a, b, c⟩ := h.docs r hr
    obtain ⟨f1, f2, f3⟩ := h.fr r hr
    exact ⟨a.apart b (hk _ f1) (hk _ f2) (hk _ f3) fun k hR => hk k hR.1, b, c⟩
  · exact h.q.apart h.own (hk _ h.fd) (hk _ h.fbo) (hk _ h.fbe) fun k hR => hk k hR.1
theorem HistX.keep {w w' : World} {hb sp su : Nat} {vo vr : Value} {ops : List MOp} {e : Nat} {rs : List RDoc} {d bo be : Nat} {F I : Nat → Prop} {D0 : BDoc} {D : QDoc} (h : HistX w hb sp su vo vr ops e rs d bo be F I D0 D) (hb' : Below w.heap.size w w') : HistX w' hb sp su vo vr ops e rs d bo be F I D0 D := h.keepF hb'.size (fun k hk => hb'.block k (h.lt k hk)) (fun k hk => hb'.block k (h.iI k hk))

/-- ONE OPERATION HAS COME. -/
theorem HistX.insert {w w' : World} {hb sp su : Nat} {vo vr : Value} {ops : List MOp} {e : Nat} {rs : List RDoc} {d bo be : Nat} {F I : Nat → Prop} {D0 : BDoc} {D : QDoc} (h : HistX w hb sp su vo vr ops e rs d bo be F I D0 D) (hl : ops.length < 300) {vo' : Value} {x : MOp} (ht : Turned (fun k => k = hb ∨ vo.ownBlock = some k) w w') (hx : isHs w' hb sp su vo' vr d) (hr : ownMOps 0 w' vo' (insO x ops)) (hn : newOr w vo vo') (hc : isChgI w I (.iface x.t x.v) x.op.chg) :
    ∃ F', HistX w' hb sp su vo' vr (insO x ops) (min e (posO x ops)) rs d bo be F' I D0 D ∧ Keeps F F' w w' := by
  have hkept : ∀ {d bo be : Nat} {os : List (PId × CQObj)} {els : List (PId × CQEl)}, isQ w d bo be os els → isQ w' d bo be os els := fun hq => hq.kept ht fun k hk => by
    rcases hk with rfl | hk
    · exact ⟨_, _, _, h.blk, by decide⟩
    · obtain ⟨cur, hc⟩ := own_type h.row hk
      exact ⟨_, _, _, hc, by decide⟩
  have hlm : ∀ k ∈ mapsOf rs bo be, k < w.heap.size := fun k hk => by
    rcases mem_maps.1 hk with ⟨r, hr, rfl | rfl⟩ | rfl | rfl
    · exact h.lt _ (h.fr r hr).2.1
    · exact h.lt _ (h.fr r hr).2.2
    · exact h.lt _ h.fbo
    · exact h.lt _ h.fbe
  have hRR : ∀ k, ofR F rs bo be k → ofR (fun k => F k ∨ (w.heap.size ≤ k ∧ k < w'.heap.size)) rs bo be k := fun k hk => ⟨.inl hk.1, hk.2⟩
  have hnR : ∀ k, k ∈ mapsOf rs bo be → ¬ ofR (fun k => F k ∨ (w.heap.size ≤ k ∧ k < w'.heap.size)) rs bo be k := fun k hk hx => hx.2 hk
  have hnS : ∀ k, I k → ¬ (k = hb ∨ vo.ownBlock = some k) := fun k hk hS => by
    rcases hS with rfl | hS
    · exact h.nI _ hk h.fh
    · exact h.nI _ hk (h.fo _ hS)
  refine ⟨fun k => F k ∨ (w.heap.size ≤ k ∧ k < w'.heap.size), ⟨hx, hr, fun o ho => ?_, row_blk h.mem fun g hg => ?_, h.sp1, h.sp2, h.su1, ?_, by rw [ins_len]; omega, fun r hr => ?_, fun j hj hje => ?_, hkept h.q, h.own.mono hRR (hnR _ (mem_maps.2 (.inr (.inl rfl)))) (hnR _ (mem_maps.2 (.inr (.inr rfl)))), h.nd, h.maps, .inl h.fh, fun k hk => ?_, fun k hk => .inl (h.fv k hk), fun r hr => ⟨.inl (h.fr r hr).1, .inl (h.fr r hr).2.1, .inl (h.fr r hr).2.2⟩, .inl h.fd, .inl h.fbo, .inl h.fbe, fun k hk => hk.elim (fun hF => Nat.lt_of_lt_of_le (h.lt k hF) ht.size) (fun x => x.2), fun k hi hk => hk.elim (h.nI k hi) (fun x => by have := h.iI k hi; omega), fun k hi => Nat.lt_of_lt_of_le (h.iI k hi) ht.size⟩, ⟨ht.os, ht.tape, ht.output, ht.size, fun k hk hF => ht.other k hk fun hS => ?_, fun k hk => hk.imp id (·.1)⟩⟩
  · rcases List.mem_cons.1 ((ins_perm x ops).mem_iff.1 ho) with rfl | ho
    · exact hc.keepI (fun k hk => ht.other k (h.iI k hk) (hnS k hk)) (fun _ x => x)
    · exact (h.chg o ho).keepI (fun k hk => ht.other k (h.iI k hk) (hnS k hk)) (fun _ x => x)
  · obtain ⟨cur, hc⟩ := own_type h.mem hg
    refine ht.other g (blk_lt hc) fun hS => ?_
    rcases hS with rfl | hS
    · exact absurd (cells_type hc h.blk) (by decide)
    · obtain ⟨cur', hc'⟩ := own_type h.row hS
      exact absurd (cells_type hc hc') (by decide)
  · rw [ins_len]; have := h.le; omega
  · obtain ⟨a, b, c⟩ := h.docs r hr
    exact ⟨hkept a, b.mono hRR (hnR _ (mem_maps.2 (.inl ⟨r, hr, .inl rfl⟩))) (hnR _ (mem_maps.2 (.inl ⟨r, hr, .inr rfl⟩))), c⟩
  · have := h.does j hj (by omega)
    rw [← List.map_take] at this ⊢
    rw [ins_take (by omega)]
    exact this
  · rcases hn with e' | e'
    · rw [e'] at hk
      exact .inl (h.fo k hk)
    · refine .inr ⟨e' k hk, ?_⟩
      obtain ⟨cur, hc⟩ := own_type hr hk
      exact blk_lt hc
  · rcases hS with rfl | hS
    · exact hF h.fh
    · exact hF (h.fo _ hS)

theorem nodup_take_flat {rs : List RDoc} {bo be bo' be' L N : Nat} (h : (mapsOf rs bo be).Nodup) (hl : ∀ k ∈ mapsOf rs bo be, k < N) (h1 : N ≤ bo') (h2 : N ≤ be') (h3 : bo' ≠ be') : (mapsOf (rs.take L) bo' be').Nodup := by
  unfold mapsOf at h hl ⊢
  obtain ⟨m1, _, _⟩ := List.nodup_append.1 h
  have hsub : ((rs.take L).flatMap fun r => [r.b, r.e]).Sublist (rs.flatMap fun r => [r.b, r.e]) := by
    conv => rhs; rw [← List.take_append_drop L rs]
    rw [List.flatMap_append]
    exact List.sublist_append_left _ _
  refine List.nodup_append.2 ⟨hsub.nodup m1, by simp [h3], fun a ha b hb => ?_⟩
  have := hl a (List.mem_append_left _ (hsub.subset ha))
  simp at hb
  rcases hb with rfl | rfl <;> omega

/-- BACK TO A STATE. -/
theorem HistX.back {w w' : World} {hb sp su : Nat} {vo vr : Value} {ops : List MOp} {e : Nat} {rs : List RDoc} {d bo be : Nat} {F I : Nat → Prop} {D0 : BDoc} {D : QDoc} (h : HistX w hb sp su vo vr ops e rs d bo be F I D0 D) {vr' : Value} {L d' bo' be' : Nat} (hL : L < rs.length) (he : L * sp - su ≤ e) (ht : Turned (fun k => k = hb ∨ vr.ownBlock = some k) w w') (hx : isHs w' hb sp su vo vr' d') (hr : ownDocs 0 w' vr' ((rs.take (L + 1)).map (·.d))) (hv : vr'.ownBlock = vr.ownBlock) (hq : isQ w' d' bo' be' rs[L].D.1 rs[L].D.2) (h1 : w.heap.size ≤ d') (h2 : w.heap.size ≤ bo') (h3 : w.heap.size ≤ be') (h4 : bo' ≠ be') :
    ∃ F', HistG w' hb sp su vo vr' ops (L * sp - su) (rs.take (L + 1)) d' bo' be' F' I D0 rs[L].D ∧ Keeps F F' w w' := by
  have hkept : ∀ {d bo be : Nat} {os : List (PId × CQObj)} {els : List (PId × CQEl)}, isQ w d bo be os els → isQ w' d bo be os els := fun hq => hq.kept ht fun k hk => by
    rcases hk with rfl | hk
    · exact ⟨_, _, _, h.blk, by decide⟩
    · obtain ⟨cur, hc⟩ := own_type h.mem hk
      exact ⟨_, _, _, hc, by decide⟩
  have hlm : ∀ k ∈ mapsOf rs bo be, k < w.heap.size := fun k hk => by
    rcases mem_maps.1 hk with ⟨r, hr, rfl | rfl⟩ | rfl | rfl
    · exact h.lt _ (h.fr r hr).2.1
    · exact h.lt _ (h.fr r hr).2.2
    · exact h.lt _ h.fbo
    · exact h.lt _ h.fbe
  have hmt : ∀ r, r ∈ rs.take (L + 1) → r ∈ rs := fun r hr => List.mem_of_mem_take hr
  have hRR : ∀ k, ofR F rs bo be k → ofR (fun k => F k ∨ (w.heap.size ≤ k ∧ k < w'.heap.size)) (rs.take (L + 1)) bo' be' k := fun k hk => ⟨.inl hk.1, fun hx => by
    have := h.lt _ hk.1
    rcases mem_maps.1 hx with ⟨r, hr, e⟩ | rfl | rfl
    · exact hk.2 (mem_maps.2 (.inl ⟨r, hmt r hr, e⟩))
    · omega
    · omega⟩
  have hnR : ∀ k, k ∈ mapsOf (rs.take (L + 1)) bo' be' → ¬ ofR (fun k => F k ∨ (w.heap.size ≤ k ∧ k < w'.heap.size)) (rs.take (L + 1)) bo' be' k := fun k hk hx => hx.2 hk
  obtain ⟨_, _, hqo⟩ := hq.ho
  obtain ⟨_, _, hqe⟩ := hq.he
  have hb1 := hqo.lt
  have hb2 := hqe.lt
  have hb3 := hq.lt
  obtain ⟨qa, qb, qc⟩ := h.docs rs[L] (List.getElem_mem hL)
  have hle := h.le
  refine ⟨fun k => F k ∨ (w.heap.size ≤ k ∧ k < w'.heap.size), ⟨hx, row_blk h.row fun g hg => ?_, fun o ho => (h.chg o ho).keepI (fun k hk => ht.other k (h.iI k hk) fun hS => ?_) (fun _ x => x), hr, h.sp1, h.sp2, h.su1, by omega, h.len, fun r hr => ?_, fun j hj => ?_, hq, ?_, qc, h.does L hL he, nodup_take_flat h.maps hlm h2 h3 h4, .inl h.fh, fun k hk => .inl (h.fo k hk), fun k hk => .inl (h.fv k (hv ▸ hk)), fun r hr => ⟨.inl (h.fr r (hmt r hr)).1, .inl (h.fr r (hmt r hr)).2.1, .inl (h.fr r (hmt r hr)).2.2⟩, .inr ⟨h1, hb3⟩, .inr ⟨h2, hb1⟩, .inr ⟨h3, hb2⟩, fun k hk => hk.elim (fun hF => Nat.lt_of_lt_of_le (h.lt k hF) ht.size) (fun x => x.2), fun k hi hk => hk.elim (h.nI k hi) (fun x => by have := h.iI k hi; omega), fun k hi => Nat.lt_of_lt_of_le (h.iI k hi) ht.size⟩, ⟨ht.os, ht.tape, ht.output, ht.size, fun k hk hF => ht.other k hk fun hS => ?_, fun k hk => hk.imp id (·.1)⟩⟩
  · obtain ⟨cur, hc⟩ := own_type h.row hg
    refine ht.other g (blk_lt hc) fun hS => ?_
    rcases hS with rfl | hS
    · exact absurd (cells_type hc h.blk) (by decide)
    · obtain ⟨cur', hc'⟩ := own_type h.mem hS
      exact absurd (cells_type hc hc') (by decide)
  · rcases hS with rfl | hS
    · exact h.nI _ hk h.fh
    · exact h.nI _ hk (h.fv _ hS)
  · obtain ⟨a, b, c⟩ := h.docs r (hmt r hr)
    exact ⟨hkept a, b.mono hRR (hnR _ (mem_maps.2 (.inl ⟨r, hr, .inl rfl⟩))) (hnR _ (mem_maps.2 (.inl ⟨r, hr, .inr rfl⟩))), c⟩
  · rw [List.length_take] at hj
    have hjL : j * sp ≤ L * sp := Nat.mul_le_mul_right sp (by omega)
    rw [List.getElem_take]
    exact h.does j (by omega) (by omega)
  · exact ⟨h4, hnR _ (mem_maps.2 (.inr (.inl rfl))), hnR _ (mem_maps.2 (.inr (.inr rfl))), fun p hp b hb => hRR b (qb.kv p hp b hb), fun p hp k hk b hb => hRR b (qb.kk p hp k hk b hb), fun p hp b hb => hRR b (qb.vals p hp b hb)⟩
  · rcases hS with rfl | hS
    · exact hF h.fh
    · exact hF (h.fv _ hS)
end

end Go.Proofs.YtnkpogjiiohapaaGreatDoor
