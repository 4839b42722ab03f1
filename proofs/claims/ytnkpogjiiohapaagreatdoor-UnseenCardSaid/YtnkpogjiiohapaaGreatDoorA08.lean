/- Our own text (PSetB, PTakeA, PTakeB, PTakeC, PGiveA, PNewA). -/
import Derived.Test.YtnkpogjiiohapaaGreatDoorA07
set_option linter.unusedSimpArgs false
set_option linter.unusedVariables false

/-! PSetB: set at a key. -/
namespace Go.Proofs.YtnkpogjiiohapaaGreatDoor
open Go.RowKit

theorem blk4 {w : World} {g : Nat} {a b c d : Value} {t : TypeId} {f : Nat × Nat} (h : w.heap[g]? = some (.cells #[a, b, c, d] t f)) :
    w.cell? ⟨g, 0, none⟩ = some a ∧ w.cell? ⟨g, 1, none⟩ = some b ∧ w.cell? ⟨g, 2, none⟩ = some c ∧ w.cell? ⟨g, 3, none⟩ = some d := by simp [World.cell?, h]
theorem set4k {w : World} {g : Nat} {a b c d u : Value} {t : TypeId} (h : w.heap[g]? = some (.cells #[a, b, c, d] t (0, 0))) : (w.setCell ⟨g, 1, none⟩ u).heap[g]? = some (.cells #[a, u, c, d] t (0, 0)) := by
  have hl := blk_lt h
  obtain ⟨_, he⟩ := Array.getElem?_eq_some_iff.1 h
  simp [World.setCell, hl, Array.getElem_modify_self, he]
theorem isKeys.lt {w : World} {v : Option Nat} {ks : List (ByteArray × CKey)} (h : isKeys w v ks) (b : Nat) (hb : v = some b) : b < w.heap.size := by
  rcases h.1 with ⟨rfl, _⟩ | ⟨c, es, clk, rfl, hm⟩
  · cases hb
  · injection hb with hb; subst hb; exact hm.lt

set_option maxRecDepth 1000000 in
set_option maxHeartbeats 1600000 in
theorem set_key {w : World} {d bo be : Nat} {R : Nat → Prop} {os : List (PId × CQObj)} {els : List (PId × CQEl)} (h : isQ w d bo be os els) (ho : QOwn bo be R os els) (o1 o2 e1 e2 : Int) {key : ByteArray} (hkey : key ≠ ⟨#[]⟩) {ob : CQObj} (hob : lookI (o1, o2) os = some ob) (hnd : (ob.ks.map (·.1)).Nodup) {v : Option Nat} {vs : List (PId × PVal)} (hv : isVals w v vs) (hR : ∀ b, v = some b → R b) (hRn : ∀ k, w.heap.size ≤ k → R k) :
    Calls Tryz.prog 301 #[.pointer (some ⟨d, 0, none⟩), .agg #[.int .i64 o1, .int .i64 o2, .string key, .int .i64 e1, .int .i64 e2], .map v] w fun e w' => (∃ r, e = .returned r) ∧
      (∃ g ks', ks'.Perm ob.ks ∧ isQ w' d bo be (putI (o1, o2) { ob with kv := some g, ks := putI key ⟨v, vs⟩ ks' } os) els ∧ QOwn bo be R (putI (o1, o2) { ob with kv := some g, ks := putI key ⟨v, vs⟩ ks' } os) els) ∧ Turned (fun k => k = bo) w w' := by
  have hkn := key_ne hkey
  have HB1 := hid ((Below.refl w.heap.size w).alloc (Nat.le_refl _) (.cells #[.int .i64 o1, .int .i64 o2, .string key, .int .i64 e1, .int .i64 e2] 97))
  have HPB := hid (blk_new w (.cells #[.int .i64 o1, .int .i64 o2, .string key, .int .i64 e1, .int .i64 e2] 97))
  obtain ⟨ol, okv, oks, ⟨f1, f2⟩⟩ := ob
  have HND := hid hnd; clear hnd
  have HOB := hid hob; clear hob
  have HV := hid hv; clear hv
  have HH := hid h; clear h
  have HO := hid ho; clear ho
  have HRN := hid hRn; clear hRn
  simp only at HND
  obtain ⟨w1, hw1⟩ : ∃ w1, w1 = w.alloc (.cells #[.int .i64 o1, .int .i64 o2, .string key, .int .i64 e1, .int .i64 e2] 97) := ⟨_, rfl⟩
  rw [← hw1] at HB1 HPB
  go_enter Tryz.func301, Tryz.ntmps301
  go_wp2
  rw [← hw1]
  have hsz1 : w.heap.size < w1.heap.size := by rw [hw1]; simp
  clear hw1
  obtain ⟨p0, p1, p2, p3, p4⟩ := blk5 HPB.out
  have c1 := (HH.out.keep HB1.out).c0
  have hdl := HH.out.lt
  have hdl1 := (HH.out.keep HB1.out).lt
  have hz1 := HB1.out.size
  have l1 := (HH.out.keep HB1.out.drew).lookO o1 o2 false
  have l2 := (HH.out.keep (HB1.out.alloc hz1 (.cells #[.bool false, .map none, .int .i64 0, .int .i64 0] 170)).drew).lookO o1 o2 false
  rw [HOB.out] at l1 l2
  simp only [Option.map_some, Option.getD_some, Bool.false_eq_true, if_false, qobjV] at l1 l2
  go_cut [7] (fun p wc => p = .pointer (some ⟨w1.heap.size, 0, none⟩) ∧ wc = (w1.alloc (.cells #[.bool ol, .map okv, .int .i64 f1, .int .i64 f2] 170)).drew)
  case first =>
    go_region
    all_goals (go_wp2_with fail; go_meet)
    all_goals exact ⟨rfl, rfl⟩
  case rest =>
    obtain ⟨rfl, hwc⟩ := hcut
    have HBC := hid (show Below w1.heap.size w1 wc by rw [hwc]; exact ((Below.refl _ w1).alloc (Nat.le_refl _) _).drew)
    have HOX := hid (show wc.heap[w1.heap.size]? = some (.cells #[.bool ol, .map okv, .int .i64 f1, .int .i64 f2] 170 (0, 0)) by rw [hwc]; exact blk_new w1 _)
    have HBW := hid (HB1.out.trans (HBC.out.mono hz1))
    clear hwc p0 p1 p2 p3 p4 c1 l1 l2
    have HPC := hid (blk_keep HPB.out HBC.out)
    have hoxl := blk_lt HOX.out
    have hpcl := blk_lt HPC.out
    have HKS := hid ((HH.out.hk _ (look_mem HOB.out)))
    have HBM := hid (show Below w.heap.size w (wc.alloc (.map #[] 0)) from HBW.out.alloc HBW.out.size _)
    have HC := hid (copy_keys (isMap.fresh strV ckeyV wc) (HKS.out.keep HBM.out) (fun b hb => by have := HKS.out.lt b hb; omega) HND.out)
    have hmk := mk_map 168
    have HOM := hid (show (wc.alloc (.map #[] 0)).heap[w1.heap.size]? = _ from (alloc_old_r wc _ hoxl).trans HOX.out)
    have HPM := hid (show (wc.alloc (.map #[] 0)).heap[w.heap.size]? = _ from (alloc_old_r wc _ hpcl).trans HPC.out)
    obtain ⟨o0, o1', o2', o3⟩ := blk4 HOM.out
    go_wp2_with fail
    refine HC.out.mono ?_
    rintro e w3 ⟨⟨r, rfl⟩, ⟨m3, es3, clk3, hp3, hm3⟩, ht3⟩
    have HP3 := hid hp3; clear hp3
    have HM3 := hid hm3; clear hm3
    have HO3 := hid ((ht3.other w1.heap.size (by simp; omega) (by omega)).trans HOM.out)
    have HPL3 := hid ((ht3.other w.heap.size (by simp; omega) (by omega)).trans HPM.out)
    have HB3 := hid (HBM.out.trans (ht3.under (n := w.heap.size) (fun k hk => by omega) (by simp; omega))); clear ht3
    clear o0 o1' o2' o3
    obtain ⟨es4, clk4, hput, hm4⟩ := run_putI strKey HM3.out Tryz.underlying168 key ⟨v, vs⟩
    simp only [strV, ckeyV] at hput
    have HM4 := hid hm4; clear hm4
    have HB4 := hid (show Below w.heap.size w (putObj w3 wc.heap.size (.map es4 clk4)) from HB3.out.trans (Turned.under (Turned.put (S := fun k => k = wc.heap.size) _ rfl) (fun k hk => by omega) HB3.out.size))
    have HO4 := hid (show (putObj w3 wc.heap.size (.map es4 clk4)).heap[w1.heap.size]? = _ from (putObj_other (by omega)).trans HO3.out)
    have HPL4 := hid (show (putObj w3 wc.heap.size (.map es4 clk4)).heap[w.heap.size]? = _ from (putObj_other (by omega)).trans HPL3.out)
    obtain ⟨w4, hw4⟩ : ∃ w4, w4 = putObj w3 wc.heap.size (.map es4 clk4) := ⟨_, rfl⟩
    rw [← hw4] at hput HM4 HB4 HO4 HPL4
    obtain ⟨o0, o1', o2', o3⟩ := blk4 HO4.out
    have of := blk_fz HO4.out
    obtain ⟨p0, p1, p2, p3, p4⟩ := blk5 HPL3.out
    have h4l := blk_lt HO4.out
    clear hw4
    go_wp2
    obtain ⟨w5, hw5⟩ : ∃ w5, w5 = w4.setCell ⟨w1.heap.size, 1, none⟩ (.map (some wc.heap.size)) := ⟨_, rfl⟩
    rw [← hw5]
    have hoth : ∀ k, k ≠ w1.heap.size → w5.heap[k]? = w4.heap[k]? := fun k hk => by rw [hw5, Below.heap_setCell _ _ _ _ hk]
    have HO5 := hid (show w5.heap[w1.heap.size]? = some (.cells #[.bool ol, .map (some wc.heap.size), .int .i64 f1, .int .i64 f2] 170 (0, 0)) by rw [hw5]; exact set4k HO4.out)
    have HP5 := hid ((hoth _ (by omega)).trans HPL4.out)
    have HB5 := hid (show Below w.heap.size w w5 from ⟨by rw [hw5]; exact HB4.out.os, by rw [hw5]; exact HB4.out.tape, by rw [hw5]; exact HB4.out.output, by rw [hw5]; have := HB4.out.size; simpa [World.setCell] using this, fun k hk => by rw [hoth k (by omega), HB4.out.block k hk]⟩)
    have HM5 := hid (HM4.out.blockK (hoth wc.heap.size (by omega)))
    have HQ5 := hid (HH.out.keep HB5.out)
    clear hw5 hoth o0 o1' o2' o3 of p0 p1 p2 p3 p4 hput
    obtain ⟨p0, p1, p2, p3, p4⟩ := blk5 HP5.out
    obtain ⟨o0, o1', o2', o3⟩ := blk4 HO5.out
    have c1 := HQ5.out.c0
    have HDR := hid (show Below w5.heap.size w5 w5.drew from (Below.refl _ w5).drew)
    have hK5 : isKeys w5.drew (some wc.heap.size) (putI key ⟨v, vs⟩ m3) := by
      refine ⟨.inr ⟨_, _, _, rfl, HM5.out.keep HDR.out⟩, fun p hp => ?_⟩
      rcases put_mem hp with hp | rfl
      · exact (HKS.out.2 p (HP3.out.mem_iff.1 hp)).keep HB5.out.drew
      · exact HV.out.keep HB5.out.drew
    have hKR : ∀ k ∈ putI key ⟨v, vs⟩ m3, ∀ b, k.2.v = some b → R b := by
      intro k hk b hb
      rcases put_mem hk with hk | rfl
      · exact HO.out.kk _ (look_mem HOB.out) k (HP3.out.mem_iff.1 hk) b hb
      · exact hR b hb
    obtain ⟨es6, clk6, hrun2, hq2, hown2⟩ := (HQ5.out.keep HDR.out).putO HO.out (o1, o2) ⟨ol, some wc.heap.size, putI key ⟨v, vs⟩ m3, (f1, f2)⟩ hK5 (fun b hb => by injection hb with hb; subst hb; exact HRN.out _ (by omega)) hKR
    simp only [idV, qobjV] at hrun2
    have HX := hid (And.intro hq2 (And.intro hown2 ((Turned.of_below HB5.out.drew).trans (Turned.put (S := fun k => k = bo) (.map es6 clk6) rfl))))
    clear hq2 hown2 hK5 hKR
    go_wp2
    go_region
    all_goals (try go_wp2)
    all_goals go_end0
    all_goals exact ⟨⟨_, rfl⟩, ⟨_, m3, HP3.out, HX.out.1, HX.out.2.1⟩, HX.out.2.2⟩

end Go.Proofs.YtnkpogjiiohapaaGreatDoor

/-! PTakeA: set at any place; Take's do. -/
namespace Go.Proofs.YtnkpogjiiohapaaGreatDoor
open Go.RowKit

/-- No key, no Id is there twice. -/
structure QNd (D : QDoc) : Prop where
  o : (D.1.map (·.1)).Nodup
  e : (D.2.map (·.1)).Nodup
  ks : ∀ p ∈ D.1, (p.2.ks.map (·.1)).Nodup
  kv : ∀ p ∈ D.1, ∀ k ∈ p.2.ks, (k.2.vs.map (·.1)).Nodup
  ev : ∀ p ∈ D.2, (p.2.vs.map (·.1)).Nodup

/-- What set leaves. -/
def SetTo (D : QDoc) (o : PId) (key : ByteArray) (x : PId) (v : Option Nat) (vs : List (PId × PVal)) (D' : QDoc) : Prop :=
  (key = ⟨#[]⟩ ∧ ∃ el, lookI x D.2 = some el ∧ D' = (D.1, putI x { el with v := v, vs := vs } D.2)) ∨
  (key ≠ ⟨#[]⟩ ∧ ∃ ob g ks', lookI o D.1 = some ob ∧ ks'.Perm ob.ks ∧ D' = (putI o { ob with kv := some g, ks := putI key ⟨v, vs⟩ ks' } D.1, D.2))

theorem QNd.at {D : QDoc} (h : QNd D) (o : PId) (key : ByteArray) (x : PId) : ((atPl D.1 D.2 o key x).vs.map (·.1)).Nodup := by
  unfold atPl
  split
  · split
    · split
      · rename_i e he; exact h.ev _ (look_mem he)
      · simp
    · split
      · split
        · rename_i _ ob hob _ c hc; exact h.kv _ (look_mem hob) _ (look_mem hc)
        · simp
      · simp
  · simp

theorem set_q {w : World} {d bo be : Nat} {R : Nat → Prop} {D : QDoc} (h : isQ w d bo be D.1 D.2) (ho : QOwn bo be R D.1 D.2) (hn : QNd D) (o x : PId) (key : ByteArray) (hp : hasPl D.1 D.2 o key x = true) {v : Option Nat} {vs : List (PId × PVal)} (hv : isVals w v vs) (hR : ∀ b, v = some b → R b) (hRn : ∀ k, w.heap.size ≤ k → R k) :
    Calls Tryz.prog 301 #[.pointer (some ⟨d, 0, none⟩), .agg #[.int .i64 o.1, .int .i64 o.2, .string key, .int .i64 x.1, .int .i64 x.2], .map v] w fun e w' => (∃ r, e = .returned r) ∧
      (∃ D', SetTo D o key x v vs D' ∧ isQ w' d bo be D'.1 D'.2 ∧ QOwn bo be R D'.1 D'.2) ∧ Turned (fun k => k = bo ∨ k = be) w w' := by
  obtain ⟨o1, o2⟩ := o
  obtain ⟨e1, e2⟩ := x
  unfold hasPl at hp
  by_cases hk : key = ⟨#[]⟩
  · subst hk
    rw [if_pos rfl] at hp
    cases hel : lookI (e1, e2) D.2 with
    | none => rw [hel] at hp; cases hp
    | some el =>
      exact (set_el h ho o1 o2 e1 e2 hel hv hR).mono fun e w' hh => ⟨hh.1, ⟨(D.1, _), .inl ⟨rfl, el, hel, rfl⟩, hh.2.1, hh.2.2.1⟩, hh.2.2.2.mono fun k hk => .inr hk⟩
  · rw [if_neg hk] at hp
    cases hob : lookI (o1, o2) D.1 with
    | none => rw [hob] at hp; cases hp
    | some ob =>
      refine (set_key h ho o1 o2 e1 e2 hk hob (hn.ks _ (look_mem hob)) hv hR hRn).mono fun e w' hh => ⟨hh.1, ?_, hh.2.2.mono fun k hk => .inl hk⟩
      obtain ⟨g, ks', hp', hq, hw⟩ := hh.2.1
      exact ⟨(_, D.2), .inr ⟨hk, ob, g, ks', hob, hp', rfl⟩, hq, hw⟩

set_option maxRecDepth 1000000 in
set_option maxHeartbeats 1600000 in
theorem take_no {w : World} {d bo be : Nat} {os : List (PId × CQObj)} {els : List (PId × CQEl)} (h : isQ w d bo be os els) (o1 o2 e1 e2 i1 i2 : Int) (key : ByteArray) (s : Value) (hp : hasPl os els (o1, o2) key (e1, e2) = false) :
    Calls Tryz.prog 304 #[.agg #[.int .i64 o1, .int .i64 o2, .string key, .int .i64 e1, .int .i64 e2, s], .pointer (some ⟨d, 0, none⟩), .agg #[.int .i64 i1, .int .i64 i2]] w fun e w' => (∃ r, e = .returned r) ∧ Below w.heap.size w w' := by
  have HB0 := hid (((Below.refl w.heap.size w).alloc (Nat.le_refl _) (.cells #[.int .i64 o1, .int .i64 o2, .string key, .int .i64 e1, .int .i64 e2, s] 184)).alloc (by simp) (.cells #[.int .i64 i1, .int .i64 i2] 36))
  have HL := hid (hasPlace_q (h.keep HB0.out) o1 o2 e1 e2 key)
  rw [hp] at HL
  clear h hp
  go_enter Tryz.func304, Tryz.ntmps304
  go_wp2_with fail
  refine HL.out.mono ?_
  rintro e w1 ⟨rfl, hb1⟩
  have HB1 := hid (HB0.out.trans (hb1.mono HB0.out.size)); clear hb1
  go_wp2
  go_end0
  exact ⟨⟨_, rfl⟩, HB1.out⟩

end Go.Proofs.YtnkpogjiiohapaaGreatDoor

/-! PTakeB: Take's do at a place that there is. -/
namespace Go.Proofs.YtnkpogjiiohapaaGreatDoor
open Go.RowKit

theorem blk6 {w : World} {g : Nat} {a b c d e s : Value} {t : TypeId} {f : Nat × Nat} (h : w.heap[g]? = some (.cells #[a, b, c, d, e, s] t f)) :
    w.cell? ⟨g, 0, none⟩ = some a ∧ w.cell? ⟨g, 1, none⟩ = some b ∧ w.cell? ⟨g, 2, none⟩ = some c ∧ w.cell? ⟨g, 3, none⟩ = some d ∧ w.cell? ⟨g, 4, none⟩ = some e ∧ w.cell? ⟨g, 5, none⟩ = some s := by simp [World.cell?, h]

/-- What Take leaves. -/
def TakeTo (D : QDoc) (o : PId) (key : ByteArray) (x : PId) (gs : List PId) (D' : QDoc) : Prop :=
  if hasPl D.1 D.2 o key x then ∃ v vs, vs.Perm (lessI gs (atPl D.1 D.2 o key x).vs) ∧ SetTo D o key x (some v) vs D' else D' = D

set_option maxRecDepth 1000000 in
set_option maxHeartbeats 1600000 in
theorem take_yes {w : World} {d bo be : Nat} {R : Nat → Prop} {D : QDoc} (h : isQ w d bo be D.1 D.2) (ho : QOwn bo be R D.1 D.2) (hn : QNd D) (o1 o2 e1 e2 i1 i2 : Int) (key : ByteArray) {s : Value} {gs : List PId} (hs : isIds w s gs) (hp : hasPl D.1 D.2 (o1, o2) key (e1, e2) = true) (hRn : ∀ k, w.heap.size ≤ k → R k) :
    Calls Tryz.prog 304 #[.agg #[.int .i64 o1, .int .i64 o2, .string key, .int .i64 e1, .int .i64 e2, s], .pointer (some ⟨d, 0, none⟩), .agg #[.int .i64 i1, .int .i64 i2]] w fun e w' => (∃ r, e = .returned r) ∧
      (∃ D' v vs, vs.Perm (lessI gs (atPl D.1 D.2 (o1, o2) key (e1, e2)).vs) ∧ SetTo D (o1, o2) key (e1, e2) (some v) vs D' ∧ isQ w' d bo be D'.1 D'.2 ∧ QOwn bo be R D'.1 D'.2) ∧ Turned (fun k => k = bo ∨ k = be) w w' := by
  have HB0 := hid (((Below.refl w.heap.size w).alloc (Nat.le_refl _) (.cells #[.int .i64 o1, .int .i64 o2, .string key, .int .i64 e1, .int .i64 e2, s] 184)).alloc (by simp) (.cells #[.int .i64 i1, .int .i64 i2] 36))
  have HL := hid (hasPlace_q (h.keep HB0.out) o1 o2 e1 e2 key)
  rw [hp] at HL
  have HH := hid h; clear h
  have HO := hid ho; clear ho
  have HNQ := hid hn; clear hn
  have HS := hid hs; clear hs
  have HPL := hid hp; clear hp
  have HRN := hid hRn; clear hRn
  go_enter Tryz.func304, Tryz.ntmps304
  go_wp2_with fail
  refine HL.out.mono ?_
  rintro e w1 ⟨rfl, hb1⟩
  have HTB := hid (show w1.heap[w.heap.size]? = some (.cells #[.int .i64 o1, .int .i64 o2, .string key, .int .i64 e1, .int .i64 e2, s] 184 (0, 0)) by rw [hb1.block w.heap.size (by simp; omega)]; exact blk_alloc (blk_new _ _))
  have HB1 := hid (HB0.out.trans (hb1.mono HB0.out.size)); clear hb1
  have hz1 := HB1.out.size
  obtain ⟨t0, t1, t2, t3, t4, t5⟩ := blk6 HTB.out
  have HBD := hid HB1.out.drew
  have HTD := hid (show Below w1.heap.size w1 w1.drew from (Below.refl _ w1).drew)
  have HA := hid (at_q (HH.out.keep HBD.out) o1 o2 e1 e2 key)
  have HV := hid (HH.out.at (o1, o2) key (e1, e2))
  have HND := hid (HNQ.out.at (o1, o2) key (e1, e2))
  go_wp2_with fail
  go_region_with (first
    | (go_at_call 86; refine HA.out.mono ?_; rintro e w2 ⟨rfl, hb2⟩; have hb2' : Below w1.heap.size w1 w2 := HTD.out.trans hb2; replace t0 := keep hb2' t0; replace t1 := keep hb2' t1; replace t2 := keep hb2' t2; replace t3 := keep hb2' t3; replace t4 := keep hb2' t4; replace t5 := keep hb2' t5; have HT2 := hid (blk_keep HTB.out hb2'); have HB2 := hid (HB1.out.trans (hb2'.mono hz1)); clear hb2 hb2'; have hz2 := HB2.out.size; have HW := hid (without_q (HV.out.keep HB2.out) HND.out (HS.out.keep HB2.out)))
    | (go_at_call 300; refine HW.out.mono ?_; rintro e w3 ⟨⟨g, m3, es3, clk3, rfl, hg3, hp3, hm3⟩, hb3⟩; replace t0 := keep hb3 t0; replace t1 := keep hb3 t1; replace t2 := keep hb3 t2; replace t3 := keep hb3 t3; replace t4 := keep hb3 t4; replace t5 := keep hb3 t5; have HB3 := hid (HB2.out.trans (hb3.mono hz2)); have HP3 := hid hp3; have HV3 := hid (show isVals w3 (some g) m3 from .inr ⟨_, _, _, rfl, hm3⟩); clear hb3 hp3 hm3; have HST := hid (set_q (HH.out.keep HB3.out) HO.out HNQ.out (o1, o2) (e1, e2) key HPL.out HV3.out (fun b hb => HRN.out b (by injection hb with hb; omega)) (fun k hk => HRN.out k (Nat.le_trans HB3.out.size hk))))
    | (go_at_call 301; refine HST.out.mono ?_; rintro e w4 ⟨⟨r, rfl⟩, ⟨D', hst, hq4, ho4⟩, ht4⟩; have HX := hid (And.intro hst (And.intro hq4 (And.intro ho4 ((Turned.of_below HB3.out).trans ht4)))); clear hst hq4 ho4 ht4))
  all_goals (try go_wp2)
  all_goals go_end0
  all_goals exact ⟨⟨_, rfl⟩, ⟨_, _, _, HP3.out, HX.out.1, HX.out.2.1, HX.out.2.2.1⟩, HX.out.2.2.2⟩

end Go.Proofs.YtnkpogjiiohapaaGreatDoor

/-! PTakeC: Take's do whole; Give's do where nothing is done. -/
namespace Go.Proofs.YtnkpogjiiohapaaGreatDoor
open Go.RowKit

/-- TAKE: as the plain relation says. -/
theorem take_do {w : World} {d bo be : Nat} {R : Nat → Prop} {D : QDoc} (h : isQ w d bo be D.1 D.2) (ho : QOwn bo be R D.1 D.2) (hn : QNd D) (o x i : PId) (key : ByteArray) {s : Value} {gs : List PId} (hs : isIds w s gs) (hRn : ∀ k, w.heap.size ≤ k → R k) :
    Calls Tryz.prog 304 #[.agg #[.int .i64 o.1, .int .i64 o.2, .string key, .int .i64 x.1, .int .i64 x.2, s], .pointer (some ⟨d, 0, none⟩), .agg #[.int .i64 i.1, .int .i64 i.2]] w fun e w' => (∃ r, e = .returned r) ∧
      (∃ D', TakeTo D o key x gs D' ∧ isQ w' d bo be D'.1 D'.2 ∧ QOwn bo be R D'.1 D'.2) ∧ Turned (fun k => k = bo ∨ k = be) w w' := by
  obtain ⟨o1, o2⟩ := o
  obtain ⟨e1, e2⟩ := x
  obtain ⟨i1, i2⟩ := i
  cases hp : hasPl D.1 D.2 (o1, o2) key (e1, e2) with
  | false =>
    exact (take_no h o1 o2 e1 e2 i1 i2 key s hp).mono fun e w' hh => ⟨hh.1, ⟨D, by simp [TakeTo, hp], h.keep hh.2, ho⟩, Turned.of_below hh.2⟩
  | true =>
    refine (take_yes h ho hn o1 o2 e1 e2 i1 i2 key hs hp hRn).mono fun e w' hh => ⟨hh.1, ?_, hh.2.2⟩
    obtain ⟨D', v, vs, hp', hst, hq, hw⟩ := hh.2.1
    exact ⟨D', by unfold TakeTo; rw [if_pos hp]; exact ⟨v, vs, hp', hst⟩, hq, hw⟩

def giveOk (D : QDoc) (o : PId) (key : ByteArray) (x : PId) (vo : PId) : Bool := hasPl D.1 D.2 o key x && (lookI vo D.1).isSome
/-- What Give leaves. -/
def GiveTo (D : QDoc) (o : PId) (key : ByteArray) (x : PId) (val : PVal) (gs : List PId) (i : PId) (D' : QDoc) : Prop :=
  if giveOk D o key x val.2 then ∃ v vs, vs.Perm (lessI gs (atPl D.1 D.2 o key x).vs) ∧ SetTo D o key x (some v) (putI i val vs) D' else D' = D

theorem blk9 {w : World} {g : Nat} {a b c d e x y z s : Value} {t : TypeId} {f : Nat × Nat} (h : w.heap[g]? = some (.cells #[a, b, c, d, e, x, y, z, s] t f)) :
    w.cell? ⟨g, 0, none⟩ = some a ∧ w.cell? ⟨g, 1, none⟩ = some b ∧ w.cell? ⟨g, 2, none⟩ = some c ∧ w.cell? ⟨g, 3, none⟩ = some d ∧ w.cell? ⟨g, 4, none⟩ = some e ∧ w.cell? ⟨g, 5, none⟩ = some x ∧ w.cell? ⟨g, 6, none⟩ = some y ∧ w.cell? ⟨g, 7, none⟩ = some z ∧ w.cell? ⟨g, 8, none⟩ = some s := by simp [World.cell?, h]

set_option maxRecDepth 1000000 in
set_option maxHeartbeats 1600000 in
theorem give_no {w : World} {d bo be : Nat} {D : QDoc} (h : isQ w d bo be D.1 D.2) (o1 o2 e1 e2 v1 v2 v3 i1 i2 : Int) (key : ByteArray) (s : Value) (hp : giveOk D (o1, o2) key (e1, e2) (v2, v3) = false) :
    Calls Tryz.prog 299 #[.agg #[.int .i64 o1, .int .i64 o2, .string key, .int .i64 e1, .int .i64 e2, .int .i64 v1, .int .i64 v2, .int .i64 v3, s], .pointer (some ⟨d, 0, none⟩), .agg #[.int .i64 i1, .int .i64 i2]] w fun e w' => (∃ r, e = .returned r) ∧ Below w.heap.size w w' := by
  have HB0 := hid (((Below.refl w.heap.size w).alloc (Nat.le_refl _) (.cells #[.int .i64 o1, .int .i64 o2, .string key, .int .i64 e1, .int .i64 e2, .int .i64 v1, .int .i64 v2, .int .i64 v3, s] 182)).alloc (by simp) (.cells #[.int .i64 i1, .int .i64 i2] 36))
  have HL := hid (hasPlace_q (h.keep HB0.out) o1 o2 e1 e2 key)
  have HH := hid h; clear h
  go_enter Tryz.func299, Tryz.ntmps299
  unfold giveOk at hp
  cases hpl : hasPl D.1 D.2 (o1, o2) key (e1, e2) with
  | false =>
    rw [hpl] at HL
    clear hp hpl
    go_wp2_with fail
    refine HL.out.mono ?_
    rintro e w1 ⟨rfl, hb1⟩
    have HB1 := hid (HB0.out.trans (hb1.mono HB0.out.size)); clear hb1
    go_wp2
    exact bodyPost_ret (v := .tuple #[]) (by simp [results, Tryz.results299, go_sem]) rfl ⟨⟨_, rfl⟩, HB1.out⟩
  | true =>
    rw [hpl] at HL hp
    rw [Bool.true_and] at hp
    clear hpl
    go_wp2_with fail
    refine HL.out.mono ?_
    rintro e w1 ⟨rfl, hb1⟩
    have HTB := hid (show w1.heap[w.heap.size]? = some (.cells #[.int .i64 o1, .int .i64 o2, .string key, .int .i64 e1, .int .i64 e2, .int .i64 v1, .int .i64 v2, .int .i64 v3, s] 182 (0, 0)) by rw [hb1.block w.heap.size (by simp; omega)]; exact blk_alloc (blk_new _ _))
    have HB1 := hid (HB0.out.trans (hb1.mono HB0.out.size)); clear hb1
    obtain ⟨t0, t1, t2, t3, t4, t5, t6, t7, t8⟩ := blk9 HTB.out
    have HS := hid (has_q (HH.out.keep HB1.out) v2 v3)
    rw [hp] at HS
    clear hp
    go_wp2_with fail
    refine HS.out.mono ?_
    rintro e w2 ⟨rfl, hb2⟩
    have HB2 := hid (HB1.out.trans (hb2.mono HB1.out.size)); clear hb2
    go_wp2
    exact bodyPost_ret (v := .tuple #[]) (by simp [results, Tryz.results299, go_sem]) rfl ⟨⟨_, rfl⟩, HB2.out⟩

end Go.Proofs.YtnkpogjiiohapaaGreatDoor

/-! PGiveA: Give's do. -/
namespace Go.Proofs.YtnkpogjiiohapaaGreatDoor
open Go.RowKit

set_option maxRecDepth 1000000 in
set_option maxHeartbeats 3200000 in
theorem give_yes {w : World} {d bo be : Nat} {R : Nat → Prop} {D : QDoc} (h : isQ w d bo be D.1 D.2) (ho : QOwn bo be R D.1 D.2) (hn : QNd D) (o1 o2 e1 e2 v1 v2 v3 i1 i2 : Int) (key : ByteArray) {s : Value} {gs : List PId} (hs : isIds w s gs) (hp : giveOk D (o1, o2) key (e1, e2) (v2, v3) = true) (hRn : ∀ k, w.heap.size ≤ k → R k) :
    Calls Tryz.prog 299 #[.agg #[.int .i64 o1, .int .i64 o2, .string key, .int .i64 e1, .int .i64 e2, .int .i64 v1, .int .i64 v2, .int .i64 v3, s], .pointer (some ⟨d, 0, none⟩), .agg #[.int .i64 i1, .int .i64 i2]] w fun e w' => (∃ r, e = .returned r) ∧
      (∃ D' v vs, vs.Perm (lessI gs (atPl D.1 D.2 (o1, o2) key (e1, e2)).vs) ∧ SetTo D (o1, o2) key (e1, e2) (some v) (putI (i1, i2) (v1, v2, v3) vs) D' ∧ isQ w' d bo be D'.1 D'.2 ∧ QOwn bo be R D'.1 D'.2) ∧ Turned (fun k => k = bo ∨ k = be) w w' := by
  have HB0 := hid (((Below.refl w.heap.size w).alloc (Nat.le_refl _) (.cells #[.int .i64 o1, .int .i64 o2, .string key, .int .i64 e1, .int .i64 e2, .int .i64 v1, .int .i64 v2, .int .i64 v3, s] 182)).alloc (by simp) (.cells #[.int .i64 i1, .int .i64 i2] 36))
  have HL := hid (hasPlace_q (h.keep HB0.out) o1 o2 e1 e2 key)
  unfold giveOk at hp
  rw [Bool.and_eq_true] at hp
  rw [hp.1] at HL
  have HH := hid h; clear h
  have HO := hid ho; clear ho
  have HNQ := hid hn; clear hn
  have HIS := hid hs; clear hs
  have HPL := hid hp.1
  have HPS := hid hp.2; clear hp
  have HRN := hid hRn; clear hRn
  go_enter Tryz.func299, Tryz.ntmps299
  go_wp2_with fail
  refine HL.out.mono ?_
  rintro e w1 ⟨rfl, hb1⟩
  have HTB := hid (show w1.heap[w.heap.size]? = some (.cells #[.int .i64 o1, .int .i64 o2, .string key, .int .i64 e1, .int .i64 e2, .int .i64 v1, .int .i64 v2, .int .i64 v3, s] 182 (0, 0)) by rw [hb1.block w.heap.size (by simp; omega)]; exact blk_alloc (blk_new _ _))
  have HIB := hid (show w1.heap[w.heap.size + 1]? = some (.cells #[.int .i64 i1, .int .i64 i2] 36 (0, 0)) by rw [hb1.block (w.heap.size + 1) (by simp)]; exact (by simp : (w.alloc (.cells #[.int .i64 o1, .int .i64 o2, .string key, .int .i64 e1, .int .i64 e2, .int .i64 v1, .int .i64 v2, .int .i64 v3, s] 182)).heap.size = w.heap.size + 1) ▸ blk_new (w.alloc (.cells #[.int .i64 o1, .int .i64 o2, .string key, .int .i64 e1, .int .i64 e2, .int .i64 v1, .int .i64 v2, .int .i64 v3, s] 182)) _)
  have HB1 := hid (HB0.out.trans (hb1.mono HB0.out.size)); clear hb1
  obtain ⟨t0, t1, t2, t3, t4, t5, t6, t7, t8⟩ := blk9 HTB.out
  have HS := hid (has_q (HH.out.keep HB1.out) v2 v3)
  rw [HPS.out] at HS
  go_wp2_with fail
  refine HS.out.mono ?_
  rintro e w2 ⟨rfl, hb2⟩
  have HT2 := hid (blk_keep HTB.out hb2)
  have HI2 := hid (blk_keep HIB.out hb2)
  have HB2 := hid (HB1.out.trans (hb2.mono HB1.out.size)); clear hb2
  clear t0 t1 t2 t3 t4 t5 t6 t7 t8
  obtain ⟨t0, t1, t2, t3, t4, t5, t6, t7, t8⟩ := blk9 HT2.out
  have hz2 := HB2.out.size
  have hil2 := blk_lt HI2.out
  have HD2 := hid (show Below w2.heap.size w2 w2.drew from (Below.refl _ w2).drew)
  have HA := hid (at_q (HH.out.keep HB2.out.drew) o1 o2 e1 e2 key)
  have HV := hid (HH.out.at (o1, o2) key (e1, e2))
  have HND := hid (HNQ.out.at (o1, o2) key (e1, e2))
  go_wp2
  go_cut [6] (fun p wc => ∃ g m es clk, p = .map (some g) ∧ w2.heap.size ≤ g ∧ m.Perm (lessI gs (atPl D.1 D.2 (o1, o2) key (e1, e2)).vs) ∧ isMap idV valV wc g m es clk ∧ Below w2.heap.size w2 wc)
  case first =>
    go_region_with (first
      | (go_at_call 86; refine HA.out.mono ?_; rintro e w3 ⟨rfl, hb3⟩; have hb3' : Below w2.heap.size w2 w3 := HD2.out.trans hb3; replace t0 := keep hb3' t0; replace t1 := keep hb3' t1; replace t2 := keep hb3' t2; replace t3 := keep hb3' t3; replace t4 := keep hb3' t4; replace t8 := keep hb3' t8; have HB3 := hid (HB2.out.trans (hb3'.mono hz2)); have HC3 := hid hb3'; clear hb3 hb3'; have hz3 := HC3.out.size; have HW := hid (without_q (HV.out.keep HB3.out) HND.out (HIS.out.keep HB3.out)))
      | (go_at_call 300; refine HW.out.mono ?_; rintro e w4 ⟨⟨g, m4, es4, clk4, rfl, hg4, hp4, hm4⟩, hb4⟩; have HX := hid (And.intro hp4 (And.intro hm4 (HC3.out.trans (hb4.mono hz3)))); clear hp4 hm4 hb4))
    all_goals (go_wp2_with fail; go_meet)
    all_goals exact ⟨_, _, _, _, rfl, Nat.le_trans hz3 hg4, HX.out.1, HX.out.2.1, HX.out.2.2⟩
  case rest =>
    obtain ⟨g, m, es, clk, rfl, hg, hpm, hm, hbc⟩ := hcut
    have HPM := hid hpm; clear hpm
    have HM := hid hm; clear hm
    have HTC := hid (blk_keep HT2.out hbc)
    have HIC := hid (blk_keep HI2.out hbc)
    have HBC := hid (HB2.out.trans (hbc.mono hz2)); clear hbc
    clear t0 t1 t2 t3 t4 t5 t6 t7 t8
    obtain ⟨t0, t1, t2, t3, t4, t5, t6, t7, t8⟩ := blk9 HTC.out
    obtain ⟨a0, a1⟩ := blk2 HIC.out
    obtain ⟨es5, clk5, hput, hm5⟩ := run_putI idKey HM.out Tryz.underlying159 (i1, i2) (v1, v2, v3)
    simp only [idV, valV] at hput
    have HM5 := hid hm5; clear hm5
    have HB5 := hid (show Below w.heap.size w (putObj wc g (.map es5 clk5)) from HBC.out.trans (Turned.under (Turned.put (S := fun k => k = g) _ rfl) (fun k hk => by omega) HBC.out.size))
    have HT5 := hid (show (putObj wc g (.map es5 clk5)).heap[w.heap.size]? = _ from (putObj_other (by omega)).trans HTC.out)
    obtain ⟨w5, hw5⟩ : ∃ w5, w5 = putObj wc g (.map es5 clk5) := ⟨_, rfl⟩
    rw [← hw5] at hput HM5 HB5 HT5
    clear hw5
    obtain ⟨s0, s1, s2, s3, s4, s5, s6, s7, s8⟩ := blk9 HT5.out
    have HST := hid (set_q (HH.out.keep HB5.out) HO.out HNQ.out (o1, o2) (e1, e2) key HPL.out (show isVals w5 (some g) _ from .inr ⟨_, _, _, rfl, HM5.out⟩) (fun b hb => HRN.out b (by injection hb with hb; omega)) (fun k hk => HRN.out k (Nat.le_trans HB5.out.size hk)))
    go_wp2_with fail
    refine HST.out.mono ?_
    rintro e w6 ⟨⟨r, rfl⟩, ⟨D', hst, hq6, ho6⟩, ht6⟩
    have HX := hid (And.intro hst (And.intro hq6 (And.intro ho6 ((Turned.of_below HB5.out).trans ht6)))); clear hst hq6 ho6 ht6
    go_wp2
    go_end0
    exact ⟨⟨_, rfl⟩, ⟨_, _, _, HPM.out, HX.out.1, HX.out.2.1, HX.out.2.2.1⟩, HX.out.2.2.2⟩

/-- GIVE: as the plain relation says. -/
theorem give_do {w : World} {d bo be : Nat} {R : Nat → Prop} {D : QDoc} (h : isQ w d bo be D.1 D.2) (ho : QOwn bo be R D.1 D.2) (hn : QNd D) (o x i : PId) (val : PVal) (key : ByteArray) {s : Value} {gs : List PId} (hs : isIds w s gs) (hRn : ∀ k, w.heap.size ≤ k → R k) :
    Calls Tryz.prog 299 #[.agg #[.int .i64 o.1, .int .i64 o.2, .string key, .int .i64 x.1, .int .i64 x.2, .int .i64 val.1, .int .i64 val.2.1, .int .i64 val.2.2, s], .pointer (some ⟨d, 0, none⟩), .agg #[.int .i64 i.1, .int .i64 i.2]] w fun e w' => (∃ r, e = .returned r) ∧
      (∃ D', GiveTo D o key x val gs i D' ∧ isQ w' d bo be D'.1 D'.2 ∧ QOwn bo be R D'.1 D'.2) ∧ Turned (fun k => k = bo ∨ k = be) w w' := by
  obtain ⟨o1, o2⟩ := o
  obtain ⟨e1, e2⟩ := x
  obtain ⟨i1, i2⟩ := i
  obtain ⟨v1, v2, v3⟩ := val
  cases hp : giveOk D (o1, o2) key (e1, e2) (v2, v3) with
  | false =>
    exact (give_no h o1 o2 e1 e2 v1 v2 v3 i1 i2 key s hp).mono fun e w' hh => ⟨hh.1, ⟨D, by simp [GiveTo, hp], h.keep hh.2, ho⟩, Turned.of_below hh.2⟩
  | true =>
    refine (give_yes h ho hn o1 o2 e1 e2 v1 v2 v3 i1 i2 key hs hp hRn).mono fun e w' hh => ⟨hh.1, ?_, hh.2.2⟩
    obtain ⟨D', v, vs, hp', hst, hq, hw⟩ := hh.2.1
    exact ⟨D', by unfold GiveTo; rw [if_pos hp]; exact ⟨v, vs, hp', hst⟩, hq, hw⟩

end Go.Proofs.YtnkpogjiiohapaaGreatDoor

/-! PNewA: doc.New. -/
namespace Go.Proofs.YtnkpogjiiohapaaGreatDoor
open Go.RowKit

def rootQ : QDoc := ([((0, 0), ⟨false, none, [], (0, 0)⟩)], [])
set_option maxRecDepth 1000000 in
set_option maxHeartbeats 1600000 in
theorem docNew_q (w : World) :
    Calls Tryz.prog 161 #[] w fun e w' => (∃ d bo be, e = .returned (.pointer (some ⟨d, 0, none⟩)) ∧ isQ w' d bo be rootQ.1 rootQ.2 ∧ w.heap.size ≤ d ∧ w.heap.size ≤ bo ∧ w.heap.size ≤ be ∧ bo ≠ be) ∧ Below w.heap.size w w' := by
  have hmk := mk_map
  have HB0 := hid ((Below.refl w.heap.size w).alloc (Nat.le_refl _) (.map #[] 0))
  obtain ⟨es1, clk1, hput, hm1⟩ := run_putI idKey (isMap.fresh idV qobjV w) Tryz.underlying171 (0, 0) ⟨false, none, [], (0, 0)⟩
  simp only [idV, qobjV] at hput
  have HM1 := hid hm1; clear hm1
  have HB1 := hid (show Below w.heap.size w (putObj (w.alloc (.map #[] 0)) w.heap.size (.map es1 clk1)) from HB0.out.trans (Turned.under (Turned.put (S := fun k => k = w.heap.size) _ rfl) (fun k hk => by omega) (by simp)))
  obtain ⟨w1, hw1⟩ : ∃ w1, w1 = putObj (w.alloc (.map #[] 0)) w.heap.size (.map es1 clk1) := ⟨_, rfl⟩
  rw [← hw1] at hput HM1 HB1
  clear hw1
  have hl1 := HM1.out.lt
  have hz1 := HB1.out.size
  go_enter Tryz.func161, Tryz.ntmps161
  go_wp2
  go_ret
  have HBA := (Below.refl w1.heap.size w1).alloc (Nat.le_refl _) (.map #[] 0)
  have HBB := HBA.alloc (by simp) (.cells #[.map (some w.heap.size), .map (some w1.heap.size)] 174)
  refine ⟨⟨w1.heap.size + 1, w.heap.size, w1.heap.size, rfl, ⟨?_, ⟨_, _, HM1.out.keep HBB⟩, ⟨#[], 0, ?_⟩, ?_, fun p hp => by cases hp⟩, by omega, by omega, by omega, by omega⟩, HB1.out.trans (HBB.mono hz1)⟩
  · exact (by simp : (w1.alloc (.map #[] 0)).heap.size = w1.heap.size + 1) ▸ blk_new (w1.alloc (.map #[] 0)) _
  · exact (isMap.fresh idV qelV w1).keep ((Below.refl _ _).alloc (Nat.le_refl _) _)
  · intro p hp
    have : p = ((0, 0), ⟨false, none, [], (0, 0)⟩) := by simpa [rootQ, putI] using hp
    subst this
    exact ⟨.inl ⟨rfl, rfl⟩, fun k hk => by cases hk⟩

end Go.Proofs.YtnkpogjiiohapaaGreatDoor
