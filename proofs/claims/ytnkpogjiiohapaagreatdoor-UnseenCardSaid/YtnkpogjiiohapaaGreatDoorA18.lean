/- Our own text (GHistH, GMapA). -/
import Derived.Test.YtnkpogjiiohapaaGreatDoorA17
import Derived.Test.YtnkpogjiiohapaaGreatDoorA01
set_option linter.unusedSimpArgs false
set_option linter.unusedVariables false

/-! GHistH: A copy's history in general: goBack, Add. -/
namespace Go.Proofs.YtnkpogjiiohapaaGreatDoor
open Go.RowKit
attribute [local go_sem ↓] Go.wp_at_zero Go.wp_at_succ

theorem back_nums {sp su e : Nat} (h1 : 1 ≤ sp) (hsu : su < sp) : ((su + e) / sp) * sp - su ≤ e ∧ (su + (((su + e) / sp) * sp - su)) / sp = (su + e) / sp := by
  have a := Nat.div_add_mod (su + e) sp
  have b := Nat.mod_lt (su + e) h1
  generalize (su + e) / sp = L at *
  generalize (su + e) % sp = t at *
  have c : sp * L = L * sp := Nat.mul_comm _ _
  refine ⟨by omega, ?_⟩
  by_cases h : su ≤ L * sp
  · rw [show su + (L * sp - su) = L * sp by omega, Nat.mul_div_cancel _ h1]
  · have hL : L = 0 := by
      rcases Nat.eq_zero_or_pos L with h0 | h0
      · exact h0
      · have := Nat.mul_le_mul_right sp h0; omega
    subst hL
    rw [show su + (0 * sp - su) = su by omega, Nat.div_eq_of_lt hsu]
theorem states_le {sp su n r j : Nat} (hr : r = (su + n) / sp + 1) (hj : j < r) : j * sp - su ≤ n := by
  have h1 : j ≤ (su + n) / sp := by omega
  have h2 := Nat.mul_le_mul_right sp h1
  have h3 := Nat.div_mul_le_self (su + n) sp
  omega

theorem goBack_any {w : World} {hb sp su : Nat} {vo vr : Value} {ops : List MOp} {e : Nat} {rs : List RDoc} {d bo be : Nat} {F I : Nat → Prop} {D0 : BDoc} {D : QDoc} (h : HistX w hb sp su vo vr ops e rs d bo be F I D0 D) (hL : (su + e) / sp < rs.length) :
    Calls Tryz.prog 190 #[.pointer (some ⟨hb, 0, none⟩), .int .i64 e] w fun r w' => ∃ vr' rs' d' bo' be' F' D', r = .returned (.int .i64 ((((su + e) / sp) * sp - su : Nat) : Int)) ∧ HistG w' hb sp su vo vr' ops (((su + e) / sp) * sp - su) rs' d' bo' be' F' I D0 D' ∧ rs'.length = (su + e) / sp + 1 ∧ Keeps F F' w w' := by
  obtain ⟨hn1, hn2⟩ := back_nums (e := e) h.sp1 h.su1
  have hle := h.le
  have hlen := h.len
  have hs2 := h.sp2
  have hsu := h.su1
  obtain ⟨qa, qb, qc⟩ := h.docs rs[(su + e) / sp] (List.getElem_mem hL)
  have hdl : (rs.map (·.d))[(su + e) / sp]? = some rs[(su + e) / sp].d := by rw [List.getElem?_map, List.getElem?_eq_getElem hL]; rfl
  have hlt : (rs.take ((su + e) / sp + 1)).length = (su + e) / sp + 1 := by rw [List.length_take]; omega
  rcases (show (su + e) / sp + 1 = rs.length ∨ (su + e) / sp + 1 < rs.length by omega) with hl | hl
  · refine (goBack_all h.blk h.mem e (by omega) h.sp1 h.sp2 (by omega) _ rfl (by rw [List.length_map]; exact hl) hdl qa).mono ?_
    rintro r w' ⟨d', bo', be', rfl, hx, hq, ⟨h1, h2, h3, h4⟩, ht⟩
    have ht' := ht.mono (S' := fun k => k = hb ∨ vr.ownBlock = some k) (fun k hk => .inl hk)
    have hmem : ownDocs 0 w' vr ((rs.take ((su + e) / sp + 1)).map (·.d)) := by
      rw [List.take_of_length_le (by omega)]
      exact row_blk h.mem fun g hg => by
        obtain ⟨cur, hc⟩ := own_type h.mem hg
        exact ht.other g (blk_lt hc) fun hS => by
          rw [hS] at hc
          exact absurd (cells_type hc h.blk) (by decide)
    obtain ⟨F', hG, hK⟩ := h.back hL hn1 ht' hx hmem rfl hq h1 h2 h3 h4
    exact ⟨vr, _, d', bo', be', F', _, rfl, hG, hlt, hK⟩
  · refine (goBack_some h.blk h.mem e (by omega) h.sp1 h.sp2 (by omega) _ rfl (by rw [List.length_map]; exact hl) hdl qa).mono ?_
    rintro r w' ⟨g, c, d', bo', be', hv, rfl, hx, hr, hq, ⟨h1, h2, h3, h4⟩, ht⟩
    rw [← List.map_take] at hr
    obtain ⟨F', hG, hK⟩ := h.back hL hn1 ht hx hr hv.symm hq h1 h2 h3 h4
    exact ⟨_, _, d', bo', be', F', _, rfl, hG, hlt, hK⟩

def insAll (ops xs : List MOp) : List MOp := xs.foldl (fun l x => insO x l) ops
theorem insAll_snoc {ops xs : List MOp} {k : Nat} (hk : k < xs.length) : insAll ops (xs.take (k + 1)) = insO xs[k] (insAll ops (xs.take k)) := by
  rw [List.take_succ_eq_append_getElem hk]
  unfold insAll
  rw [List.foldl_append]
  rfl
theorem insAll_perm : ∀ (xs ops : List MOp), (insAll ops xs).Perm (xs ++ ops)
  | [], ops => .refl _
  | x :: xs, ops => by
    have h1 := insAll_perm xs (insO x ops)
    have h2 := (ins_perm x ops).append_left xs
    exact (h1.trans h2).trans List.perm_middle
theorem insAll_len (ops xs : List MOp) : (insAll ops xs).length = ops.length + xs.length := by have := (insAll_perm xs ops).length_eq; rw [List.length_append] at this; omega
theorem insAll_asc : ∀ (xs ops : List MOp), AscO ops → ((xs ++ ops).map fun o => o.op.id).Nodup → AscO (insAll ops xs)
  | [], ops, h, _ => h
  | x :: xs, ops, h, hn => by
    simp only [List.cons_append, List.map_cons, List.nodup_cons] at hn
    refine insAll_asc xs (insO x ops) (ins_asc x ops h fun o ho e => hn.1 ?_) ?_
    · exact e ▸ List.mem_map.2 ⟨o, List.mem_append_right _ ho, rfl⟩
    · have hp : ((xs ++ insO x ops).map fun o => o.op.id).Perm ((x :: (xs ++ ops)).map fun o => o.op.id) := ((((ins_perm x ops).append_left xs).trans List.perm_middle).map _)
      exact hp.nodup_iff.2 (by simpa using hn)

set_option maxRecDepth 1000000 in
set_option maxHeartbeats 4000000 in
/-- ADD: whatever comes, wherever it belongs. -/
theorem histAdd_any {w : World} {hb sp su : Nat} {vo vr : Value} {ops : List MOp} {rs : List RDoc} {d bo be : Nat} {F I : Nat → Prop} {D0 : BDoc} {D : QDoc} (h : HistG w hb sp su vo vr ops ops.length rs d bo be F I D0 D) (hcnt : rs.length = (su + ops.length) / sp + 1) (ha : AscO ops) (xs : List MOp) (hnd : ((xs ++ ops).map fun o => o.op.id).Nodup) (hlen : ops.length + xs.length ≤ 300) (v : Value) (hv : ownMOps 0 w v xs) (hvF : ∀ k, v.ownBlock = some k → ¬ F k) (hc : ∀ x ∈ xs, isChgI w I (.iface x.t x.v) x.op.chg) :
    Calls Tryz.prog 170 #[.pointer (some ⟨hb, 0, none⟩), v] w fun e w' => (∃ r, e = .returned r) ∧ ∃ vo' vr' rs' d' bo' be' F' D', HistG w' hb sp su vo' vr' (insAll ops xs) (insAll ops xs).length rs' d' bo' be' F' I D0 D' ∧ rs'.length = (su + (insAll ops xs).length) / sp + 1 ∧ Keeps F F' w w' := by
  obtain ⟨ao, co, rfl, hlo, hco, hfo⟩ := owns_form h.row
  clear hfo
  obtain ⟨av, cv, rfl, hlv, hcv, hfv⟩ := owns_form hv
  unfold maxLen at hco hcv
  obtain ⟨c0, c1, c2, c3, c4⟩ := blk5 h.blk
  clear c0 c1 c3 c4
  have HH := hid (And.intro h (And.intro hcnt ha)); clear h hcnt ha
  have HV := hid (And.intro hv (And.intro hvF (And.intro hc hnd))); clear hv hvF hc hnd
  have HFV := hid hfv; clear hfv
  go_enter Tryz.func170, Tryz.ntmps170
  go_wp2_with fail
  go_loopw [5, 16] (fun e i wr => ∃ k en vo' F', k ≤ xs.length ∧ i = .int .i64 (k : Nat) ∧ e = .int .i64 (en : Nat) ∧ en ≤ ops.length ∧ HistX wr hb sp su vo' vr (insAll ops (xs.take k)) en rs d bo be F' I D0 D ∧ (insAll ops (xs.take k)).take en = ops.take en ∧ Keeps F F' w wr) (fun _ i _ => xs.length - (intOf i).toNat)
  case atStart => exact ⟨0, ops.length, _, F, Nat.zero_le _, rfl, rfl, Nat.le_refl _, HH.out.1.x, rfl, Keeps.of_below (Below.refl _ _)⟩
  case round =>
    obtain ⟨k, en, vo', F', hk, rfl, rfl, hen, hX, htk, hK⟩ := hrel
    have HX := hid (And.intro hX (And.intro htk hK)); clear hX htk hK
    have HVW := hid (show ownMOps 0 wr (.slice av xs.length cv) xs from row_blk HV.out.1 fun g hg => by
      obtain ⟨cur, hc⟩ := own_type HV.out.1 hg
      exact HX.out.2.2.other g (blk_lt hc) (HV.out.2.1 g hg))
    by_cases hlt : k < xs.length
    · obtain ⟨g, rfl⟩ := HFV.out 0 (by omega)
      obtain ⟨e0, e1, e2, e3⟩ := ownMOps.cells HVW.out k hlt
      have hk0 : (0 : Int) ≤ (k : Int) := Int.natCast_nonneg _
      have hk1 : (k : Int) < (xs.length : Int) := by omega
      have HB1 := hid ((Below.refl wr.heap.size wr).alloc (Nat.le_refl _) (.cells #[.int .i64 xs[k].op.id.1, .int .i64 xs[k].op.id.2, .int .i64 xs[k].op.nth, .iface xs[k].t xs[k].v] 210))
      have HX1 := hid (HX.out.1.keep HB1.out)
      have HLN := hid (show (insAll ops (xs.take k)).length = ops.length + k by rw [insAll_len, List.length_take]; omega)
      have HND := hid (show AscO (insAll ops (xs.take k)) ∧ ∀ o ∈ insAll ops (xs.take k), o.op.id ≠ xs[k].op.id from by
        have hnd := HV.out.2.2.2
        have hsub : (xs.take k ++ ops).Sublist (xs ++ ops) := List.Sublist.append (List.take_sublist _ _) (List.Sublist.refl _)
        refine ⟨insAll_asc _ _ HH.out.2.2 ((hsub.map _).nodup hnd), fun o ho e => ?_⟩
        have ho' := (insAll_perm _ _).mem_iff.1 ho
        have hsp : xs = xs.take k ++ xs[k] :: xs.drop (k + 1) := by
          rw [← List.drop_eq_getElem_cons hlt, List.take_append_drop]
        rw [hsp, List.append_assoc, List.map_append, List.nodup_append] at hnd
        obtain ⟨_, n2, n3⟩ := hnd
        rcases List.mem_append.1 ho' with ho' | ho'
        · exact n3 _ (List.mem_map.2 ⟨o, ho', rfl⟩) _ (List.mem_map.2 ⟨xs[k], List.mem_append_left _ List.mem_cons_self, rfl⟩) e
        · rw [List.cons_append, List.map_cons, List.nodup_cons] at n2
          exact n2.1 (List.mem_map.2 ⟨o, List.mem_append_right _ ho', e⟩))
      obtain ⟨p, hp⟩ : ∃ p, p = posO xs[k] (insAll ops (xs.take k)) := ⟨_, rfl⟩
      have hpl : p ≤ ops.length + k := by rw [hp, ← HLN.out]; exact pos_le _ _
      have HI := hid (histInsert_any HX1.out.blk HX1.out.row xs[k] p (by rw [HLN.out]; exact hpl) (fun i hi hip => cmp_neg (pos_lo _ _ i hi (hp ▸ hip))) (fun i hi hip => cmp_pos (pos_hi _ _ HND.out.1 HND.out.2 i hi (hp ▸ hip))) (by rw [HLN.out]; omega))
      have HP := hid hp; clear hp
      obtain ⟨mn, hmn⟩ : ∃ mn, mn = min en p := ⟨_, rfl⟩
      go_wp2_with fail
      refine HI.out.mono ?_
      rintro e w2 ⟨vo2, rfl, hx2, hr2, hn2, ht2⟩
      have HX2 := hid (show ∃ F2, HistX w2 hb sp su vo2 vr (insAll ops (xs.take (k + 1))) mn rs d bo be F2 I D0 D ∧ Keeps F' F2 (wr.alloc (.cells #[.int .i64 xs[k].op.id.1, .int .i64 xs[k].op.id.2, .int .i64 xs[k].op.nth, .iface xs[k].t xs[k].v] 210)) w2 from by
        rw [insAll_snoc hlt, hmn, HP.out]
        refine HX1.out.insert (by rw [HLN.out]; omega) ht2 hx2 (by rw [ins_split, ← HP.out]; exact hr2) hn2 ?_
        exact (HV.out.2.2.1 xs[k] (List.getElem_mem hlt)).keepI (fun j hj => (HB1.out.block j (HX.out.1.iI j hj)).trans (HX.out.2.2.other j (HH.out.1.iI j hj) (HH.out.1.nI j hj))) (fun _ x => x))
      clear hx2 hr2 hn2 ht2
      obtain ⟨F2, hX2, hK2⟩ := HX2.out
      clear HX2
      have HX2 := hid (And.intro hX2 (HX.out.2.2.trans (hK2.before HB1.out))); clear hX2 hK2
      have htk2 : (insAll ops (xs.take (k + 1))).take mn = ops.take mn := by
        rw [insAll_snoc hlt, ins_take (by rw [← HP.out]; omega)]
        have := congrArg (List.take mn) HX.out.2.1
        rwa [List.take_take, List.take_take, show min mn en = mn by omega] at this
      have HTK := hid htk2; clear htk2
      go_wp2
      rw [show min (en : Int) (p : Int) = ((mn : Nat) : Int) by omega]
      go_roundw
      case rel => exact ⟨k + 1, mn, vo2, F2, by omega, by go_num, rfl, by omega, HX2.out.1, HTK.out, HX2.out.2⟩
      case measure => simp [intOf]; omega
    · have hke : k = xs.length := by omega
      subst hke
      rw [List.take_length] at HX
      have HL := hid (insAll_len ops xs)
      by_cases heq : en < ops.length
      · have hL : (su + en) / sp < rs.length := by
          rw [HH.out.2.1]
          have := Nat.div_le_div_right (c := sp) (show su + en ≤ su + ops.length by omega)
          omega
        have HB := hid (goBack_any HX.out.1 hL)
        have HBN := hid (back_nums (e := en) HX.out.1.sp1 HX.out.1.su1)
        go_wp2_with fail
        refine HB.out.mono ?_
        rintro e w2 ⟨vr2, rs2, d2, bo2, be2, F2, D2, rfl, hG2, hl2, hK2⟩
        have HG2 := hid (histDo_any hG2 (by rw [hl2, HBN.out.2]))
        have HK2 := hid (HX.out.2.2.trans hK2)
        clear hG2 hl2 hK2
        go_wp2_with fail
        refine HG2.out.mono ?_
        rintro e w3 ⟨⟨r, rfl⟩, vr3, rs3, F3, D3, hG3, hl3, hK3⟩
        have HG3 := hid (And.intro hG3 (And.intro hl3 (HK2.out.trans hK3))); clear hG3 hl3 hK3
        go_wp2
        go_end0
        exact ⟨⟨_, rfl⟩, vo', vr3, rs3, d2, bo2, be2, F3, D3, HG3.out.1, HG3.out.2.1, HG3.out.2.2⟩
      · obtain rfl : en = ops.length := by omega
        have hG := HX.out.1.g (fun j hj => states_le HH.out.2.1 hj) (by
          rw [← List.map_take, HX.out.2.1]
          have := HH.out.1.did
          rwa [← List.map_take] at this)
        have HG2 := hid (histDo_any hG HH.out.2.1); clear hG
        go_wp2_with fail
        refine HG2.out.mono ?_
        rintro e w3 ⟨⟨r, rfl⟩, vr3, rs3, F3, D3, hG3, hl3, hK3⟩
        have HG3 := hid (And.intro hG3 (And.intro hl3 (HX.out.2.2.trans hK3))); clear hG3 hl3 hK3
        go_wp2
        go_end0
        exact ⟨⟨_, rfl⟩, vo', vr3, rs3, d, bo, be, F3, D3, HG3.out.1, HG3.out.2.1, HG3.out.2.2⟩

end Go.Proofs.YtnkpogjiiohapaaGreatDoor

/-! GMapA: Maps of the program: keys that are two numbers (places, ends), and numbers. -/
namespace Go.Proofs.YtnkpogjiiohapaaGreatDoor
open Go.RowKit

/-- What a type of two numbers must do. -/
structure TwoInts (t : TypeId) : Prop where
  eql : ∀ (x y : PId) (W : World), (Op.equal t (idV x) (idV y)).run Tryz.prog W = .ok (idEq x.1 x.2 y.1 y.2) W
  check : ∀ (b : Bool) (x : PId) (W : World), (Instr.checkKey b 10000 t (idV x)).run Tryz.prog W = .ok () W
  under : ∃ fs, Tryz.prog.underlying t = some (.struct fs)

theorem run_ask2 {t : TypeId} (T : TwoInts t) {ν : Type} (encV : ν → Value) (x : PId) (W : World) : ∀ (es : List MapEntry) (m : List (PId × ν)) (i : Nat), Ents idV encV es m →
    (Instr.findAsking t (idV x) es i).run Tryz.prog W = .ok ((hitI x m i).map fun r => (r.1, encV r.2)) W
  | [], [], i, _ => rfl
  | [], p :: m, i, h => by simp [Ents] at h
  | e :: es, [], i, h => by simp [Ents] at h
  | e :: es, p :: m, i, h => by
    unfold Ents at h
    simp only [List.map_cons, List.cons.injEq, Prod.mk.injEq] at h
    obtain ⟨⟨h1, h2⟩, h3⟩ := h
    rw [Instr.findAsking, h1]
    have := T.eql x p.1 W
    simp only [Sem.run_bind, this, Result.andThen_ok, idEq_eq]
    unfold hitI
    by_cases hx : x = p.1
    · simp [hx, h2]
    · simp only [hx, decide_false, if_false, Bool.false_eq_true]
      exact run_ask2 T encV x W es m (i + 1) h3
theorem TwoInts.key {t : TypeId} (T : TwoInts t) : KeyOf PId t idV := ⟨T.check, fun encV x W es m h => by
  obtain ⟨fs, hu⟩ := T.under
  unfold Instr.findKey
  rw [Sem.run_bind, run_underlying hu, Result.andThen_ok]
  cases es with
  | nil =>
    have : m = [] := by unfold Ents at h; simpa using h.symm
    subst this
    rfl
  | cons e es =>
    have hn : Instr.findNow (TypeDesc.struct fs) (idV x) (e :: es) 0 = none := rfl
    rw [hn]
    exact run_ask2 T encV x W _ m 0 h, sameBits_id⟩

theorem two_place : TwoInts 371 := by
  refine ⟨fun x y W => ?_, fun b x W => ?_, ⟨_, Tryz.underlying371⟩⟩
  · unfold idV
    show (Op.equalIn (9998 + 1 + 1) 371 _ _).run Tryz.prog W = _
    go_simp
    unfold idEq
    by_cases h1 : x.1 = y.1 <;> by_cases h2 : x.2 = y.2 <;> simp [h1, h2]
  · unfold idV
    have hi : ∀ (n : Nat) (a : Int), (Instr.checkKey b (n + 1) 3 (.int .i64 a)).run Tryz.prog W = .ok () W := fun n a => by
      rw [Instr.checkKey]
      go_simp
    show (Instr.checkKey b (9998 + 1 + 1) 371 _).run Tryz.prog W = _
    rw [Instr.checkKey]
    go_simp
theorem two_ends : TwoInts 164 := by
  refine ⟨fun x y W => ?_, fun b x W => ?_, ⟨_, Tryz.underlying164⟩⟩
  · unfold idV
    show (Op.equalIn (9998 + 1 + 1) 164 _ _).run Tryz.prog W = _
    go_simp
    unfold idEq
    by_cases h1 : x.1 = y.1 <;> by_cases h2 : x.2 = y.2 <;> simp [h1, h2]
  · unfold idV
    have hi : ∀ (n : Nat) (a : Int), (Instr.checkKey b (n + 1) 3 (.int .i64 a)).run Tryz.prog W = .ok () W := fun n a => by
      rw [Instr.checkKey]
      go_simp
    show (Instr.checkKey b (9998 + 1 + 1) 164 _).run Tryz.prog W = _
    rw [Instr.checkKey]
    go_simp
theorem placeKey : KeyOf PId 371 idV := two_place.key
theorem endsKey : KeyOf PId 164 idV := two_ends.key

def numV (n : Int) : Value := .int .i64 n
theorem run_checkNum (b : Bool) (x : Int) (W : World) : (Instr.checkKey b 10000 3 (numV x)).run Tryz.prog W = .ok () W := by
  unfold numV
  show (Instr.checkKey b (9999 + 1) 3 _).run Tryz.prog W = _
  rw [Instr.checkKey]
  go_simp
theorem now_num {ν : Type} (encV : ν → Value) (x : Int) : ∀ (es : List MapEntry) (m : List (Int × ν)) (i : Nat), Ents numV encV es m → Instr.findNow (.int .i64) (numV x) es i = some ((hitI x m i).map fun r => (r.1, encV r.2))
  | [], [], i, _ => rfl
  | [], p :: m, i, h => by simp [Ents] at h
  | e :: es, [], i, h => by simp [Ents] at h
  | e :: es, p :: m, i, h => by
    unfold Ents at h
    simp only [List.map_cons, List.cons.injEq, Prod.mk.injEq] at h
    obtain ⟨⟨h1, h2⟩, h3⟩ := h
    unfold Instr.findNow
    have hs : Instr.sameNow (.int .i64) (numV x) e.key = some (decide (x = p.1)) := by
      rw [h1]; show some (x == p.1) = _; congr 1
    rw [hs]
    unfold hitI
    by_cases hx : x = p.1
    · simp [hx, h2]
    · simp only [hx, decide_false, if_false]
      exact now_num encV x es m (i + 1) h3
theorem numKey : KeyOf Int 3 numV := ⟨run_checkNum, fun encV x W es m h => by
  unfold Instr.findKey
  rw [Sem.run_bind, run_underlying Tryz.underlying3, Result.andThen_ok, now_num encV x es m 0 h]
  rfl, fun x => by simp [numV, Instr.sameBits]⟩

end Go.Proofs.YtnkpogjiiohapaaGreatDoor
