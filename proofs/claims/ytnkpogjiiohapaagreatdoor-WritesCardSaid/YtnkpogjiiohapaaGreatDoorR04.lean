/- Our own text (RefPlan, RefPut, RefCut, RefNest, RefIns, RefNestAt, PureK). -/
import Derived.Test.YtnkpogjiiohapaaGreatDoorR02
set_option linter.unusedSimpArgs false
set_option linter.unusedVariables false

/-! RefPlan: What each call that writes is to write, by the document that the copy shows: plain functions. D: the document; t: the greatest counter; own: how many the copy has made. -/
namespace Go.Proofs.YtnkpogjiiohapaaGreatDoor
open Go.RowKit

def opMake (t c : Int) (lst : Bool) : POp := ⟨(t, c), 1, lst, (0, 0), ⟨#[]⟩, (0, 0), (0, 0), 0, (0, 0), []⟩
def opLay (t c : Int) (x b : PId) : POp := ⟨(t, c), 2, false, x, ⟨#[]⟩, (0, 0), b, 0, (0, 0), []⟩
def opKey (kind t c : Int) (x : PId) (key : ByteArray) (n : Int) (ob : PId) (old : List PId) : POp := ⟨(t, c), kind, false, x, key, (0, 0), (0, 0), n, ob, old⟩
def opEl (kind t c : Int) (x y : PId) (n : Int) (ob : PId) (old : List PId) : POp := ⟨(t, c), kind, false, x, ⟨#[]⟩, y, (0, 0), n, ob, old⟩

def putPl (D : List PObj) (t : Int) (own : Nat) (c : Int) (x : PId) (key : ByteArray) (n : Int) : Except Int (List POp) :=
  match keyedP D x key with
  | .error m => .error m
  | .ok hs => if own < 60 then .ok [opKey 3 (t + 1) c x key n (0, 0) (hs.map (·.giver))] else .error 8
def nestPl (D : List PObj) (t : Int) (own : Nat) (c : Int) (x : PId) (key : ByteArray) (lst : Bool) : Except Int (List POp) :=
  match keyedP D x key with
  | .error m => .error m
  | .ok hs => if own < 59 then .ok [opMake (t + 1) c lst, opKey 3 (t + 2) c x key 0 (t + 1, c) (hs.map (·.giver))] else .error 8
def cutPl (D : List PObj) (t : Int) (own : Nat) (c : Int) (x : PId) (key : ByteArray) : Except Int (List POp) :=
  match keyedP D x key with
  | .error m => .error m
  | .ok hs => if hs.length = 0 then .error 6 else if own < 60 then .ok [opKey 4 (t + 1) c x key 0 (0, 0) (hs.map (·.giver))] else .error 8
def insertPl (D : List PObj) (t : Int) (own : Nat) (c : Int) (x : PId) (i n : Int) : Except Int (List POp) :=
  match elementsP D x with
  | .error m => .error m
  | .ok l => match behindP l i with
    | none => .error 7
    | some b => if own < 59 then .ok [opLay (t + 1) c x b, opEl 3 (t + 2) c x (t + 1, c) n (0, 0) []] else .error 8
def nestAtPl (D : List PObj) (t : Int) (own : Nat) (c : Int) (x : PId) (i : Int) (lst : Bool) : Except Int (List POp) :=
  match elementsP D x with
  | .error m => .error m
  | .ok l => match behindP l i with
    | none => .error 7
    | some b => if own < 58 then .ok [opMake (t + 1) c lst, opLay (t + 2) c x b, opEl 3 (t + 3) c x (t + 2, c) 0 (t + 1, c) []] else .error 8
/-- The values of the element with this index. -/
def givenAt (D : List PObj) (x y : PId) : List PId :=
  match objP D x true with
  | .error _ => []
  | .ok k => match D[k]? with | some o => (heldsAt o ⟨#[]⟩ y).map (·.giver) | none => []
def placedPl (D : List PObj) (t : Int) (own : Nat) (c : Int) (x : PId) (i : Int) (kind n : Int) : Except Int (List POp) :=
  match elementsP D x with
  | .error m => .error m
  | .ok l => if i < 0 ∨ (l.length : Int) ≤ i then .error 7 else if own < 60 then .ok [opEl kind (t + 1) c x (l.getD i.toNat (0, 0)) n (0, 0) (givenAt D x (l.getD i.toNat (0, 0)))] else .error 8

theorem two_ops (t : Int) : t + 1 + 1 = t + 2 := by omega
theorem three_ops (t : Int) : t + 1 + 1 + 1 = t + 3 := by omega

/-- Two operations, and the result written behind them. -/
theorem wrote_two {w w1 w2 wa w4 : World} {r N : Nat} {vO vC vL : Value} {vops vops1 vops2 : Nat → Value} {cops cops1 cops2 : Nat → List COp} {cp : Nat → Nat → Value} {has has1 has2 : Nat → Nat → Nat} {c : Nat} {S : List POp} {o1 o2 : COp}
    (hw : Writable w r N vO vC vL vops cops cp has c S) (hb : Below w.heap.size w w1) (h1 : Wrote w1 w2 r N vO vC vL vops cops cp has c S [o1] vops1 cops1 has1) (hba : Below w2.heap.size w2 wa)
    (h2 : Wrote wa w4 r N vO vC vL vops1 cops1 cp has1 c (S ++ [o1].map COp.p) [o2] vops2 cops2 has2) {g : Nat} {a b : Value} (hg : w4.heap[g]? = some (.cells #[a, b] 36 (0, 0))) (hgw : w.heap.size ≤ g) (n1 : o1.vold.ownBlock ≠ some g) (n2 : o2.vold.ownBlock ≠ some g) (u v : Value) :
    Wrote w ((w4.setCell ⟨g, 0, none⟩ u).setCell ⟨g, 1, none⟩ v) r N vO vC vL vops cops cp has c S [o1, o2] vops2 cops2 has2 := by
  refine Wrote.res hw (((h1.before hba).trans h2).after hb) hg hgw (fun o ho => ?_) u v
  simp at ho
  rcases ho with rfl | rfl
  · exact n1
  · exact n2

/-- Three operations, and the result written behind them. -/
theorem wrote_three {w w1 w2 wa w4 wb w6 : World} {r N : Nat} {vO vC vL : Value} {vops vops1 vops2 vops3 : Nat → Value} {cops cops1 cops2 cops3 : Nat → List COp} {cp : Nat → Nat → Value} {has has1 has2 has3 : Nat → Nat → Nat} {c : Nat} {S : List POp} {o1 o2 o3 : COp}
    (hw : Writable w r N vO vC vL vops cops cp has c S) (hb : Below w.heap.size w w1) (h1 : Wrote w1 w2 r N vO vC vL vops cops cp has c S [o1] vops1 cops1 has1) (hba : Below w2.heap.size w2 wa)
    (h2 : Wrote wa w4 r N vO vC vL vops1 cops1 cp has1 c (S ++ [o1].map COp.p) [o2] vops2 cops2 has2) (hbb : Below w4.heap.size w4 wb)
    (h3 : Wrote wb w6 r N vO vC vL vops2 cops2 cp has2 c (S ++ [o1].map COp.p ++ [o2].map COp.p) [o3] vops3 cops3 has3) {g : Nat} {a b : Value} (hg : w6.heap[g]? = some (.cells #[a, b] 36 (0, 0))) (hgw : w.heap.size ≤ g)
    (n1 : o1.vold.ownBlock ≠ some g) (n2 : o2.vold.ownBlock ≠ some g) (n3 : o3.vold.ownBlock ≠ some g) (u v : Value) :
    Wrote w ((w6.setCell ⟨g, 0, none⟩ u).setCell ⟨g, 1, none⟩ v) r N vO vC vL vops cops cp has c S [o1, o2, o3] vops3 cops3 has3 := by
  refine Wrote.res hw (((h1.before hba).trans ((h2.before hbb).trans h3)).after hb) hg hgw (fun o ho => ?_) u v
  simp at ho
  rcases ho with rfl | rfl | rfl
  · exact n1
  · exact n2
  · exact n3

end Go.Proofs.YtnkpogjiiohapaaGreatDoor

/-! RefPut: The contract of the reference's Put. -/
namespace Go.Proofs.YtnkpogjiiohapaaGreatDoor
open Go.RowKit

set_option maxRecDepth 1000000 in
set_option maxHeartbeats 1600000 in
theorem put_any {w : World} {r N : Nat} {vO vC vL : Value} {vops : Nat → Value} {cops : Nat → List COp} {cp : Nat → Nat → Value} {has : Nat → Nat → Nat} {c : Nat} {S : List POp} (h : Writable w r N vO vC vL vops cops cp has c S) (hb : topP S < 900000) (x1 x2 n : Int) (key : ByteArray) (hks : key.size ≤ maxLen) :
    Calls Tryz.prog 94 #[.pointer (some ⟨r, 0, none⟩), .int .i64 c, .agg #[.int .i64 x1, .int .i64 x2], .string key, .int .i64 n] w fun e w' =>
      (∃ m, putPl (S.foldl doesP rootP) (topP S) (cops c).length c (x1, x2) key n = .error m ∧ e = .returned (.int .i64 m) ∧ Below w.heap.size w w') ∨
      (∃ ps, putPl (S.foldl doesP rootP) (topP S) (cops c).length c (x1, x2) key n = .ok ps ∧ e = .returned (.int .i64 0) ∧ ∃ l vops' cops' has', l.map COp.p = ps ∧ Wrote w w' r N vO vC vL vops cops cp has c S l vops' cops' has') := by
  have HB0 := hid ((Below.refl w.heap.size w).alloc (Nat.le_refl _) (.cells #[.int .i64 x1, .int .i64 x2] 36))
  have HKY := hid (keyed_any (h.toShown.keep HB0.out) x1 x2 key hks)
  clear hks
  have HH := hid h; clear h
  generalize hDD : S.foldl doesP rootP = DD
  rw [hDD] at HKY
  clear hDD
  go_enter Tryz.func94, Tryz.ntmps94
  go_wp2_with fail
  refine HKY.out.mono ?_
  rintro e w1 ⟨hb1, ⟨m, hn, h1, rfl⟩ | ⟨v, hs, h1, hl, rfl, hh⟩⟩
  · have HX := hid (And.intro h1 hb1); clear h1 hb1
    have hn0 : ¬ m = 0 := by omega
    clear hn
    go_wp2
    go_ret
    exact .inl ⟨m, by unfold putPl; rw [HX.out.1], rfl, HB0.out.trans (HX.out.2.mono HB0.out.size)⟩
  · have H1 := hid h1; clear h1
    have b0 := keep (a := ⟨w.heap.size, 0, none⟩) (v := .int .i64 x1) hb1 (by simp [go_sem])
    have b1 := keep (a := ⟨w.heap.size, 1, none⟩) (v := .int .i64 x2) hb1 (by simp [go_sem])
    have hwl : w.heap.size < w1.heap.size := World.block_lt_of_cell? w1 _ b0
    have HB1 := hid (HB0.out.trans (hb1.mono HB0.out.size)); clear hb1
    have HHD := hid hh; clear hh
    have HW1 := hid (HH.out.keepB HB1.out)
    have HRM := hid (room_any HW1.out.room c HW1.out.hc 1 (by omega))
    go_wp2_with fail
    refine HRM.out.mono ?_
    rintro e w1' ⟨rfl, hw1⟩
    subst hw1
    by_cases hf : (cops c).length < 60
    · have hd : decide ((cops c).length + 1 ≤ 60) = true := decide_eq_true (by omega)
      rw [hd]
      clear hd
      obtain ⟨va, vc, hv, _, _, _⟩ := owns_form HHD.out
      have HV := hid hv
      subst hv
      have HD1 : Below w1'.heap.size w1' w1'.drew := (Below.refl _ w1').drew
      have HDR := hid HD1; clear HD1
      have HDRS := hid (show w.heap.size ≤ w1'.drew.heap.size from HB1.out.size)
      go_wp2
      go_region_with (first
        | (go_at_call 146; refine (by_any _ hs _ ?ha ?hb).mono ?_; (case ha => exact HHD.out.keep HDR.out); (case hb => omega); rintro e w2 ⟨u, rfl, hu, hb2⟩; obtain ⟨ua, uc, hue, _, _, _⟩ := owns_form hu; rw [List.length_map] at hue; subst hue; have hb2' : Below w1'.heap.size w1' w2 := HDR.out.trans hb2; replace b0 := keep hb2' b0; replace b1 := keep hb2' b1; have HW2 := hid (HW1.out.keepB hb2'); have HU := hid hu.ids; have HUN := hid (fun k hk => Nat.le_trans HDRS.out (World.ownsRow.lt hu k hk).1); clear hu; have HB2 := hid (HB1.out.trans (hb2'.mono HB1.out.size)); clear hb2 hb2')
        | (go_at_call 145; refine (add_wr HB2.out HW2.out hf rfl (by omega) 0 0 3 x1 x2 0 0 0 0 n 0 0 false key _ (hs.map (·.giver)) HU.out HUN.out).mono ?_; rintro e w3 ⟨rfl, vops', cops', has', had⟩; have HAD := hid had; clear had))
      all_goals (try go_wp2)
      all_goals go_ret
      all_goals exact .inr ⟨[opKey 3 (topP S + 1) c (x1, x2) key n (0, 0) (hs.map (·.giver))], by unfold putPl; rw [H1.out]; simp only [hf, if_true], rfl, _, vops', cops', has', rfl, HAD.out⟩
    · have hd : decide ((cops c).length + 1 ≤ 60) = false := decide_eq_false (by omega)
      rw [hd]
      clear hd
      go_wp2
      go_ret
      exact .inl ⟨8, by unfold putPl; rw [H1.out]; simp only [hf, if_false], rfl, HB1.out⟩

end Go.Proofs.YtnkpogjiiohapaaGreatDoor

/-! RefCut: The contract of the reference's Cut. -/
namespace Go.Proofs.YtnkpogjiiohapaaGreatDoor
open Go.RowKit

set_option maxRecDepth 1000000 in
set_option maxHeartbeats 1600000 in
theorem cut_any {w : World} {r N : Nat} {vO vC vL : Value} {vops : Nat → Value} {cops : Nat → List COp} {cp : Nat → Nat → Value} {has : Nat → Nat → Nat} {c : Nat} {S : List POp} (h : Writable w r N vO vC vL vops cops cp has c S) (hb : topP S < 900000) (x1 x2 : Int) (key : ByteArray) (hks : key.size ≤ maxLen) :
    Calls Tryz.prog 97 #[.pointer (some ⟨r, 0, none⟩), .int .i64 c, .agg #[.int .i64 x1, .int .i64 x2], .string key] w fun e w' =>
      (∃ m, cutPl (S.foldl doesP rootP) (topP S) (cops c).length c (x1, x2) key = .error m ∧ e = .returned (.int .i64 m) ∧ Below w.heap.size w w') ∨
      (∃ ps, cutPl (S.foldl doesP rootP) (topP S) (cops c).length c (x1, x2) key = .ok ps ∧ e = .returned (.int .i64 0) ∧ ∃ l vops' cops' has', l.map COp.p = ps ∧ Wrote w w' r N vO vC vL vops cops cp has c S l vops' cops' has') := by
  have HB0 := hid ((Below.refl w.heap.size w).alloc (Nat.le_refl _) (.cells #[.int .i64 x1, .int .i64 x2] 36))
  have HKY := hid (keyed_any (h.toShown.keep HB0.out) x1 x2 key hks)
  clear hks
  have HH := hid h; clear h
  generalize hDD : S.foldl doesP rootP = DD
  rw [hDD] at HKY
  clear hDD
  go_enter Tryz.func97, Tryz.ntmps97
  go_wp2_with fail
  refine HKY.out.mono ?_
  rintro e w1 ⟨hb1, ⟨m, hn, h1, rfl⟩ | ⟨v, hs, h1, hl, rfl, hh⟩⟩
  · have HX := hid (And.intro h1 hb1); clear h1 hb1
    have hn0 : ¬ m = 0 := by omega
    clear hn
    go_wp2
    go_ret
    exact .inl ⟨m, by unfold cutPl; rw [HX.out.1], rfl, HB0.out.trans (HX.out.2.mono HB0.out.size)⟩
  · have H1 := hid h1; clear h1
    have b0 := keep (a := ⟨w.heap.size, 0, none⟩) (v := .int .i64 x1) hb1 (by simp [go_sem])
    have b1 := keep (a := ⟨w.heap.size, 1, none⟩) (v := .int .i64 x2) hb1 (by simp [go_sem])
    have hwl : w.heap.size < w1.heap.size := World.block_lt_of_cell? w1 _ b0
    have HB1 := hid (HB0.out.trans (hb1.mono HB0.out.size)); clear hb1
    have HHD := hid hh; clear hh
    have HW1 := hid (HH.out.keepB HB1.out)
    have HRM := hid (room_any HW1.out.room c HW1.out.hc 1 (by omega))
    go_wp2_with fail
    refine HRM.out.mono ?_
    rintro e w1' ⟨rfl, hw1⟩
    subst hw1
    by_cases h0 : hs.length = 0
    · have e0 : hs = [] := List.eq_nil_of_length_eq_zero h0
      subst e0
      obtain ⟨va, vc, hv, _, _, _⟩ := owns_form HHD.out
      subst hv
      generalize decide ((cops c).length + 1 ≤ 60) = bb
      clear h0
      go_wp2
      go_ret
      exact .inl ⟨6, by unfold cutPl; rw [H1.out]; rfl, rfl, HB1.out⟩
    · have HNE := hid (show hs ≠ [] from fun e => h0 (by rw [e]; rfl))
      by_cases hf : (cops c).length < 60
      · have hd : decide ((cops c).length + 1 ≤ 60) = true := decide_eq_true (by omega)
        rw [hd]
        clear hd
        obtain ⟨va, vc, hv, _, _, _⟩ := owns_form HHD.out
        have HV := hid hv
        subst hv
        have HD1 : Below w1'.heap.size w1' w1'.drew := (Below.refl _ w1').drew
        have HDR := hid HD1; clear HD1
        have HDRS := hid (show w.heap.size ≤ w1'.drew.heap.size from HB1.out.size)
        go_wp2
        go_region_with (first
          | (go_at_call 146; refine (by_any _ hs _ ?ha ?hb).mono ?_; (case ha => exact HHD.out.keep HDR.out); (case hb => omega); rintro e w2 ⟨u, rfl, hu, hb2⟩; obtain ⟨ua, uc, hue, _, _, _⟩ := owns_form hu; rw [List.length_map] at hue; subst hue; have hb2' : Below w1'.heap.size w1' w2 := HDR.out.trans hb2; replace b0 := keep hb2' b0; replace b1 := keep hb2' b1; have HW2 := hid (HW1.out.keepB hb2'); have HU := hid hu.ids; have HUN := hid (fun k hk => Nat.le_trans HDRS.out (World.ownsRow.lt hu k hk).1); clear hu; have HB2 := hid (HB1.out.trans (hb2'.mono HB1.out.size)); clear hb2 hb2')
          | (go_at_call 145; refine (add_wr HB2.out HW2.out hf rfl (by omega) 0 0 4 x1 x2 0 0 0 0 0 0 0 false key _ (hs.map (·.giver)) HU.out HUN.out).mono ?_; rintro e w3 ⟨rfl, vops', cops', has', had⟩; have HAD := hid had; clear had))
        all_goals (try go_wp2)
        all_goals go_ret
        all_goals exact .inr ⟨[opKey 4 (topP S + 1) c (x1, x2) key 0 (0, 0) (hs.map (·.giver))], by unfold cutPl; rw [H1.out]; simp only [h0, hf, if_true, if_false], rfl, _, vops', cops', has', rfl, HAD.out⟩
      · have hd : decide ((cops c).length + 1 ≤ 60) = false := decide_eq_false (by omega)
        rw [hd]
        clear hd
        obtain ⟨va, vc, hv, _, _, _⟩ := owns_form HHD.out
        subst hv
        go_wp2
        go_ret
        exact .inl ⟨8, by unfold cutPl; rw [H1.out]; simp only [h0, hf, if_false], rfl, HB1.out⟩

end Go.Proofs.YtnkpogjiiohapaaGreatDoor

/-! RefNest: The contract of the reference's Nest. -/
namespace Go.Proofs.YtnkpogjiiohapaaGreatDoor
open Go.RowKit

set_option maxRecDepth 1000000 in
set_option maxHeartbeats 1600000 in
theorem nest_any {w : World} {r N : Nat} {vO vC vL : Value} {vops : Nat → Value} {cops : Nat → List COp} {cp : Nat → Nat → Value} {has : Nat → Nat → Nat} {c : Nat} {S : List POp} (h : Writable w r N vO vC vL vops cops cp has c S) (hb : topP S < 900000) (x1 x2 : Int) (key : ByteArray) (hks : key.size ≤ maxLen) (lst : Bool) :
    Calls Tryz.prog 95 #[.pointer (some ⟨r, 0, none⟩), .int .i64 c, .agg #[.int .i64 x1, .int .i64 x2], .string key, .bool lst] w fun e w' =>
      (∃ m, nestPl (S.foldl doesP rootP) (topP S) (cops c).length c (x1, x2) key lst = .error m ∧ e = .returned (.tuple #[.agg #[.int .i64 0, .int .i64 0], .int .i64 m]) ∧ Below w.heap.size w w') ∨
      (∃ ps, nestPl (S.foldl doesP rootP) (topP S) (cops c).length c (x1, x2) key lst = .ok ps ∧ e = .returned (.tuple #[.agg #[.int .i64 (topP S + 1), .int .i64 c], .int .i64 0]) ∧ ∃ l vops' cops' has', l.map COp.p = ps ∧ Wrote w w' r N vO vC vL vops cops cp has c S l vops' cops' has') := by
  have HB0 := hid (((Below.refl w.heap.size w).alloc (Nat.le_refl _) (.cells #[.int .i64 x1, .int .i64 x2] 36)).alloc (by simp) (.cells #[.int .i64 0, .int .i64 0] 36))
  have HKY := hid (keyed_any (h.toShown.keep HB0.out) x1 x2 key hks)
  clear hks
  have HH := hid h; clear h
  generalize hDD : S.foldl doesP rootP = DD
  rw [hDD] at HKY
  clear hDD
  go_enter Tryz.func95, Tryz.ntmps95
  go_wp2_with fail
  refine HKY.out.mono ?_
  rintro e w1 ⟨hb1, ⟨m, hn, h1, rfl⟩ | ⟨v, hs, h1, hl, rfl, hh⟩⟩
  · have HX := hid (And.intro h1 hb1); clear h1 hb1
    have hn0 : ¬ m = 0 := by omega
    clear hn
    have r0 := keep (a := ⟨w.heap.size + 1, 0, none⟩) (v := .int .i64 0) HX.out.2 (by simp [go_sem])
    have r1 := keep (a := ⟨w.heap.size + 1, 1, none⟩) (v := .int .i64 0) HX.out.2 (by simp [go_sem])
    have rf : ∀ j, w1.frozen? ⟨w.heap.size + 1, j, none⟩ = false := fun j => by rw [HX.out.2.frozen (p := ⟨w.heap.size + 1, j, none⟩) (by simp)]; simp [go_sem]
    go_wp2
    refine bodyPost_ret (v := .tuple #[.agg #[.int .i64 0, .int .i64 0], .int .i64 m]) (by simp [results, Tryz.results95, go_sem, r0, r1]) rfl ?_
    exact .inl ⟨m, by unfold nestPl; rw [HX.out.1], rfl, ((HB0.out.trans (HX.out.2.mono HB0.out.size)).setCell (by simp) _).setCell (by simp) _⟩
  · have H1 := hid h1; clear h1
    have b0 := keep (a := ⟨w.heap.size, 0, none⟩) (v := .int .i64 x1) hb1 (by simp [go_sem])
    have b1 := keep (a := ⟨w.heap.size, 1, none⟩) (v := .int .i64 x2) hb1 (by simp [go_sem])
    have HBL := hid (show w1.heap[w.heap.size]? = some (.cells #[.int .i64 x1, .int .i64 x2] 36 (0, 0)) by rw [hb1.block w.heap.size (by simp; omega)]; exact blk_alloc (blk_new _ _))
    have HBR := hid (show w1.heap[w.heap.size + 1]? = some (.cells #[.int .i64 0, .int .i64 0] 36 (0, 0)) by rw [hb1.block (w.heap.size + 1) (by simp)]; exact (by simp : (w.alloc (.cells #[.int .i64 x1, .int .i64 x2] 36)).heap.size = w.heap.size + 1) ▸ blk_new (w.alloc (.cells #[.int .i64 x1, .int .i64 x2] 36)) (.cells #[.int .i64 0, .int .i64 0] 36))
    have hwl : w.heap.size < w1.heap.size := World.block_lt_of_cell? w1 _ b0
    have HB1 := hid (HB0.out.trans (hb1.mono HB0.out.size)); clear hb1
    have HHD := hid hh; clear hh
    have HW1 := hid (HH.out.keepB HB1.out)
    have HRM := hid (room_any HW1.out.room c HW1.out.hc 2 (by omega))
    go_wp2_with fail
    refine HRM.out.mono ?_
    rintro e w1' ⟨rfl, hw1⟩
    subst hw1
    by_cases hf : (cops c).length < 59
    · have hd : decide ((cops c).length + 2 ≤ 60) = true := decide_eq_true (by omega)
      rw [hd]
      clear hd
      obtain ⟨va, vc, hv, _, _, _⟩ := owns_form HHD.out
      have HV := hid hv
      subst hv
      go_wp2_with fail
      refine (add_wr (Below.refl _ _) HW1.out (by omega) rfl (by omega) 0 0 1 0 0 0 0 0 0 0 0 0 lst ⟨#[]⟩ (.slice none 0 0) [] (ids_nil _) (fun k hk => by cases hk)).mono ?_
      rintro e w2 ⟨rfl, vops1, cops1, has1, hwr⟩
      have HL2 := hid (hwr.typed HW1.out HBL.out (by decide) (by decide) (by decide))
      have HR2 := hid (hwr.typed HW1.out HBR.out (by decide) (by decide) (by decide))
      have c0 := (blk2 HL2.out).1
      have c1 := (blk2 HL2.out).2
      have hwl2 := blk_lt HR2.out
      have HD2 := hid (show isHelds w2 (.slice va hs.length vc) hs from hwr.row HW1.out HHD.out (by decide) (by decide) (by decide))
      have HLEN := hid (show (cops1 c).length < 60 by have := hwr.len; simp at this; omega)
      have HTOP := hid (show topP (S ++ List.map COp.p [⟨⟨(topP S + 1, c), 1, lst, (0, 0), ⟨#[]⟩, (0, 0), (0, 0), 0, (0, 0), []⟩, .slice none 0 0⟩]) = topP S + 1 from topP_snoc _ _ rfl)
      have HWR := hid hwr; clear hwr b0 b1
      go_wp2
      obtain ⟨wa, hwa⟩ : ∃ wa, wa = w2.alloc (.cells #[.int .i64 (topP S + 1), .int .i64 c] 36) := ⟨_, rfl⟩
      rw [← hwa]
      have hba : Below w2.heap.size w2 wa := by rw [hwa]; exact (Below.refl _ w2).alloc (Nat.le_refl _) _
      have HOA := hid (show wa.heap[w2.heap.size]? = some (.cells #[.int .i64 (topP S + 1), .int .i64 c] 36 (0, 0)) by rw [hwa]; exact blk_new w2 _)
      have HWA := hid (HWR.out.wr.keepB hba)
      replace HD2 := hid (HD2.out.keep hba)
      replace c0 := keep hba c0
      replace c1 := keep hba c1
      have o0 := (blk2 HOA.out).1
      have o1 := (blk2 HOA.out).2
      have HBA := hid hba; clear hba hwa
      have HDR := hid (show Below wa.heap.size wa wa.drew from (Below.refl _ wa).drew)
      go_region_with (first
        | (go_at_call 146; refine (by_any _ hs _ ?ha ?hb).mono ?_; (case ha => exact HD2.out.keep HDR.out); (case hb => omega); rintro e w3 ⟨u, rfl, hu, hb2⟩; obtain ⟨ua, uc, hue, _, _, _⟩ := owns_form hu; rw [List.length_map] at hue; subst hue; have hb2' : Below wa.heap.size wa w3 := HDR.out.trans hb2; replace c0 := keep hb2' c0; replace c1 := keep hb2' c1; replace o0 := keep hb2' o0; replace o1 := keep hb2' o1; have HW2 := hid (HWA.out.keepB hb2'); have HU := hid hu.ids; have HUN := hid (fun k hk => (World.ownsRow.lt hu k hk).1); clear hu; have HB2 := hid hb2'; clear hb2 hb2')
        | (go_at_call 145; refine (add_wr HB2.out HW2.out HLEN.out HTOP.out (by omega) 0 0 3 x1 x2 0 0 0 0 0 (topP S + 1) c false key _ (hs.map (·.giver)) HU.out HUN.out).mono ?_; rintro e w4 ⟨rfl, vops2, cops2, has2, hwr2⟩; have HWR2 := hid hwr2; clear hwr2))
      all_goals (have HO4 := hid (HWR2.out.typed HWA.out HOA.out (by decide) (by decide) (by decide)); have HR4 := hid (HWR2.out.typed HWA.out (blk_keep HR2.out HBA.out) (by decide) (by decide) (by decide)))
      all_goals (have p0 := (blk2 HO4.out).1; have p1 := (blk2 HO4.out).2; have s0 := (blk2 HR4.out).1; have s1 := (blk2 HR4.out).2; have sf := blk_fz HR4.out; clear c0 c1 o0 o1)
      all_goals go_wp2
      all_goals (refine bodyPost_ret (v := .tuple #[.agg #[.int .i64 (topP S + 1), .int .i64 c], .int .i64 0]) (by simp [results, Tryz.results95, go_sem, s0, s1]) rfl ?_)
      all_goals (have hlt2 := blk_lt (blk_keep HR2.out HBA.out))
      all_goals exact .inr ⟨[opMake (topP S + 1) c lst, opKey 3 (topP S + 2) c (x1, x2) key 0 (topP S + 1, c) (hs.map (·.giver))], by unfold nestPl; rw [H1.out]; simp only [hf, if_true], rfl,
        [⟨opMake (topP S + 1) c lst, .slice none 0 0⟩, ⟨opKey 3 (topP S + 1 + 1) c (x1, x2) key 0 (topP S + 1, c) (hs.map (·.giver)), .slice ua hs.length uc⟩], vops2, cops2, has2, by rw [← two_ops (topP S)]; rfl,
        wrote_two HH.out HB1.out HWR.out HBA.out HWR2.out HR4.out (by omega) (fun e => by cases e) (fun e => by have h1 : wa.heap.size ≤ _ := HUN.out _ e; omega) _ _⟩
    · have hd : decide ((cops c).length + 2 ≤ 60) = false := decide_eq_false (by omega)
      rw [hd]
      clear hd
      have r0 := (blk2 HBR.out).1
      have r1 := (blk2 HBR.out).2
      have rf := blk_fz HBR.out
      go_wp2
      refine bodyPost_ret (v := .tuple #[.agg #[.int .i64 0, .int .i64 0], .int .i64 8]) (by simp [results, Tryz.results95, go_sem, r0, r1]) rfl ?_
      exact .inl ⟨8, by unfold nestPl; rw [H1.out]; simp only [hf, if_false], rfl, (HB1.out.setCell (by simp) _).setCell (by simp) _⟩

end Go.Proofs.YtnkpogjiiohapaaGreatDoor

/-! RefIns: The contract of the reference's Insert. -/
namespace Go.Proofs.YtnkpogjiiohapaaGreatDoor
open Go.RowKit

theorem behind_len {l : List PId} {i : Int} {b : PId} (h : behindP l i = some b) : 0 ≤ i ∧ i ≤ l.length := by
  unfold behindP at h
  split at h
  · cases h
  · omega

set_option maxRecDepth 1000000 in
set_option maxHeartbeats 1600000 in
theorem insert_any {w : World} {r N : Nat} {vO vC vL : Value} {vops : Nat → Value} {cops : Nat → List COp} {cp : Nat → Nat → Value} {has : Nat → Nat → Nat} {c : Nat} {S : List POp} (h : Writable w r N vO vC vL vops cops cp has c S) (hb : topP S < 900000) (x1 x2 i n : Int) :
    Calls Tryz.prog 98 #[.pointer (some ⟨r, 0, none⟩), .int .i64 c, .agg #[.int .i64 x1, .int .i64 x2], .int .i64 i, .int .i64 n] w fun e w' =>
      (∃ m, insertPl (S.foldl doesP rootP) (topP S) (cops c).length c (x1, x2) i n = .error m ∧ e = .returned (.tuple #[.agg #[.int .i64 0, .int .i64 0], .int .i64 m]) ∧ Below w.heap.size w w') ∨
      (∃ ps, insertPl (S.foldl doesP rootP) (topP S) (cops c).length c (x1, x2) i n = .ok ps ∧ e = .returned (.tuple #[.agg #[.int .i64 (topP S + 1), .int .i64 c], .int .i64 0]) ∧ ∃ l vops' cops' has', l.map COp.p = ps ∧ Wrote w w' r N vO vC vL vops cops cp has c S l vops' cops' has') := by
  have HB0 := hid (((Below.refl w.heap.size w).alloc (Nat.le_refl _) (.cells #[.int .i64 x1, .int .i64 x2] 36)).alloc (by simp) (.cells #[.int .i64 0, .int .i64 0] 36))
  have HOB := hid (object_p (h.toShown.keep HB0.out) x1 x2 true)
  have HH := hid h; clear h
  generalize hDD : S.foldl doesP rootP = DD
  rw [hDD] at HOB
  clear hDD
  go_enter Tryz.func98, Tryz.ntmps98
  go_wp2_with fail
  refine HOB.out.mono ?_
  rintro e w1 (⟨m, h1, hn, rfl, hb1⟩ | ⟨k, d, go, cap, os, h1, rfl, hat⟩)
  · have HX := hid (And.intro h1 hb1); clear h1 hb1
    have hn0 : ¬ m = 0 := by omega
    clear hn
    have r0 := keep (a := ⟨w.heap.size + 1, 0, none⟩) (v := .int .i64 0) HX.out.2 (by simp [go_sem])
    have r1 := keep (a := ⟨w.heap.size + 1, 1, none⟩) (v := .int .i64 0) HX.out.2 (by simp [go_sem])
    have rf : ∀ j, w1.frozen? ⟨w.heap.size + 1, j, none⟩ = false := fun j => by rw [HX.out.2.frozen (p := ⟨w.heap.size + 1, j, none⟩) (by simp)]; simp [go_sem]
    go_wp2
    refine bodyPost_ret (v := .tuple #[.agg #[.int .i64 0, .int .i64 0], .int .i64 m]) (by simp [results, Tryz.results98, go_sem, r0, r1]) rfl ?_
    exact .inl ⟨m, by unfold insertPl elementsP; rw [HX.out.1], rfl, ((HB0.out.trans (HX.out.2.mono HB0.out.size)).setCell (by simp) _).setCell (by simp) _⟩
  · have H1 := hid h1; clear h1
    have hb1 := hat.below
    have HBL := hid (show w1.heap[w.heap.size]? = some (.cells #[.int .i64 x1, .int .i64 x2] 36 (0, 0)) by rw [hb1.block w.heap.size (by simp; omega)]; exact blk_alloc (blk_new _ _))
    have HBR := hid (show w1.heap[w.heap.size + 1]? = some (.cells #[.int .i64 0, .int .i64 0] 36 (0, 0)) by rw [hb1.block (w.heap.size + 1) (by simp)]; exact (by simp : (w.alloc (.cells #[.int .i64 x1, .int .i64 x2] 36)).heap.size = w.heap.size + 1) ▸ blk_new (w.alloc (.cells #[.int .i64 x1, .int .i64 x2] 36)) (.cells #[.int .i64 0, .int .i64 0] 36))
    have HB1 := hid (HB0.out.trans (hb1.mono HB0.out.size)); clear hb1
    have HAT := hid hat; clear hat
    have HSL := hid HAT.out.slots
    have HCE := hid HAT.out.cell
    have hle := HAT.out.len
    have HLE := hid hle; clear hle
    have HSS := hid HAT.out.ss
    have hkp := HAT.out.lt
    generalize os[k] = ob at *
    have HOK := hid (show elementsP DD (x1, x2) = .ok (seenIds ob.ss) by
        unfold elementsP; rw [H1.out]
        have := HSS.out
        cases hd : DD[k]? with
        | none => rw [hd] at this; cases this
        | some o =>
          rw [hd] at this; simp at this
          simp only [hd, pseen]
          rw [this, seen_p])
    have HSE := hid (seen_any _ go (k * 4) _ ob.ss _ HCE.out HSL.out (by have := HLE.out.1; omega))
    have HSN := hid (show (seenIds ob.ss).length ≤ 240 by
      have := seen_len ob.ss ob.ss.length
      rw [List.take_of_length_le (Nat.le_refl _)] at this
      have := HLE.out.1
      omega)
    generalize seenIds ob.ss = L at *
    go_wp2_with fail
    refine HSE.out.mono ?_
    rintro e w2 ⟨u, rfl, hu, hb2⟩
    have HB2 := hid hb2; clear hb2
    have HU := hid hu.ids; clear hu
    have HBE := hid (behind_any u L i w2 HU.out)
    go_wp2_with fail
    refine HBE.out.mono ?_
    rintro e w3 ⟨hb3, ⟨hbn, rfl⟩ | ⟨⟨y1, y2⟩, hbs, rfl⟩⟩
    · have HB3 := hid (HB1.out.trans ((HB2.out.trans (hb3.mono HB2.out.size)).mono HB1.out.size))
      have HR3 := hid (blk_keep (blk_keep HBR.out HB2.out) hb3)
      have HBN := hid hbn; clear hbn hb3
      have HBA := hid ((Below.refl w3.heap.size w3).alloc (Nat.le_refl _) (.cells #[.int .i64 0, .int .i64 0] 36))
      have HW3 := hid ((HH.out.keepB HB3.out).keepB HBA.out)
      have HRM := hid (room_any HW3.out.room c HW3.out.hc 2 (by omega))
      have hlt3 := blk_lt HR3.out
      have r0 := (blk2 (blk_keep HR3.out HBA.out)).1
      have r1 := (blk2 (blk_keep HR3.out HBA.out)).2
      have rf := blk_fz (blk_keep HR3.out HBA.out)
      go_wp2_with fail
      refine HRM.out.mono ?_
      rintro e w4 ⟨rfl, hw4⟩
      have HB4 := hid (HB3.out.trans (HBA.out.mono HB3.out.size))
      clear HW3 HRM
      generalize hwg : w3.alloc (.cells #[.int .i64 0, .int .i64 0] 36) = wq at *
      subst hw4
      clear hwg
      generalize decide ((cops c).length + 2 ≤ 60) = bb
      go_wp2
      refine bodyPost_ret (v := .tuple #[.agg #[.int .i64 0, .int .i64 0], .int .i64 7]) (by simp [results, Tryz.results98, go_sem, r0, r1]) rfl ?_
      exact .inl ⟨7, by unfold insertPl; rw [HOK.out]; simp only [HBN.out], rfl, (HB4.out.setCell (by simp) _).setCell (by simp) _⟩
    · have HB3 := hid (HB1.out.trans ((HB2.out.trans (hb3.mono HB2.out.size)).mono HB1.out.size))
      have HL3 := hid (blk_keep (blk_keep HBL.out HB2.out) hb3)
      have HR3 := hid (blk_keep (blk_keep HBR.out HB2.out) hb3)
      have HBS := hid hbs; clear hbs hb3
      have HBA := hid ((Below.refl w3.heap.size w3).alloc (Nat.le_refl _) (.cells #[.int .i64 y1, .int .i64 y2] 36))
      have HB4 := hid (HB3.out.trans (HBA.out.mono HB3.out.size))
      have HW3 := hid ((HH.out.keepB HB3.out).keepB HBA.out)
      have HRM := hid (room_any HW3.out.room c HW3.out.hc 2 (by omega))
      have HL4 := hid (blk_keep HL3.out HBA.out)
      have HR4 := hid (blk_keep HR3.out HBA.out)
      have HY4 := hid (blk_new w3 (.cells #[.int .i64 y1, .int .i64 y2] 36))
      have hlt3 := blk_lt HR3.out
      have hlt4 := blk_lt HY4.out
      go_wp2_with fail
      refine HRM.out.mono ?_
      rintro e w4 ⟨rfl, hw4⟩
      generalize hwg : w3.alloc (.cells #[.int .i64 y1, .int .i64 y2] 36) = wq at *
      subst hw4
      clear hwg
      by_cases hf : (cops c).length < 59
      · have hd : decide ((cops c).length + 2 ≤ 60) = true := decide_eq_true (by omega)
        rw [hd]
        clear hd
        have c0 := (blk2 HL4.out).1
        have c1 := (blk2 HL4.out).2
        have y0 := (blk2 HY4.out).1
        have y1' := (blk2 HY4.out).2
        go_wp2_with fail
        refine (add_wr (Below.refl _ _) HW3.out (by omega) rfl (by omega) 0 0 2 x1 x2 0 0 y1 y2 0 0 0 false ⟨#[]⟩ (.slice none 0 0) [] (ids_nil _) (fun k hk => by cases hk)).mono ?_
        rintro e w5 ⟨rfl, vops1, cops1, has1, hwr⟩
        have HL5 := hid (hwr.typed HW3.out HL4.out (by decide) (by decide) (by decide))
        have HR5 := hid (hwr.typed HW3.out HR4.out (by decide) (by decide) (by decide))
        have HLEN := hid (show (cops1 c).length < 60 by have := hwr.len; simp at this; omega)
        have HTOP := hid (show topP (S ++ List.map COp.p [⟨opLay (topP S + 1) c (x1, x2) (y1, y2), .slice none 0 0⟩]) = topP S + 1 from topP_snoc _ _ rfl)
        have HWR := hid hwr; clear hwr c0 c1 y0 y1'
        have HBA5 := hid ((Below.refl w5.heap.size w5).alloc (Nat.le_refl _) (.cells #[.int .i64 (topP S + 1), .int .i64 c] 36))
        have HO6 := hid (blk_new w5 (.cells #[.int .i64 (topP S + 1), .int .i64 c] 36))
        have HL6 := hid (blk_keep HL5.out HBA5.out)
        have HR6 := hid (blk_keep HR5.out HBA5.out)
        have HW6 := hid (HWR.out.wr.keepB HBA5.out)
        have c0 := (blk2 HL6.out).1
        have c1 := (blk2 HL6.out).2
        have o0 := (blk2 HO6.out).1
        have o1 := (blk2 HO6.out).2
        have hlt5 := blk_lt HR5.out
        have hlt5' := blk_lt HL5.out
        go_wp2_with fail
        refine (add_wr (Below.refl _ _) HW6.out HLEN.out HTOP.out (by omega) 0 0 3 x1 x2 (topP S + 1) c 0 0 n 0 0 false ⟨#[]⟩ (.slice none 0 0) [] (ids_nil _) (fun k hk => by cases hk)).mono ?_
        rintro e w7 ⟨rfl, vops2, cops2, has2, hwr2⟩
        have HO7 := hid (hwr2.typed HW6.out HO6.out (by decide) (by decide) (by decide))
        have HR7 := hid (hwr2.typed HW6.out HR6.out (by decide) (by decide) (by decide))
        have HWR2 := hid hwr2; clear hwr2 c0 c1 o0 o1
        have p0 := (blk2 HO7.out).1
        have p1 := (blk2 HO7.out).2
        have s0 := (blk2 HR7.out).1
        have s1 := (blk2 HR7.out).2
        have sf := blk_fz HR7.out
        go_wp2
        refine bodyPost_ret (v := .tuple #[.agg #[.int .i64 (topP S + 1), .int .i64 c], .int .i64 0]) (by simp [results, Tryz.results98, go_sem, s0, s1]) rfl ?_
        exact .inr ⟨[opLay (topP S + 1) c (x1, x2) (y1, y2), opEl 3 (topP S + 2) c (x1, x2) (topP S + 1, c) n (0, 0) []], by unfold insertPl; rw [HOK.out]; simp only [HBS.out, hf, if_true], rfl,
          [⟨opLay (topP S + 1) c (x1, x2) (y1, y2), .slice none 0 0⟩, ⟨opEl 3 (topP S + 1 + 1) c (x1, x2) (topP S + 1, c) n (0, 0) [], .slice none 0 0⟩], vops2, cops2, has2, by rw [← two_ops (topP S)]; rfl,
          wrote_two HH.out HB4.out HWR.out HBA5.out HWR2.out HR7.out (by omega) (fun e => by cases e) (fun e => by cases e) _ _⟩
      · have hd : decide ((cops c).length + 2 ≤ 60) = false := decide_eq_false (by omega)
        rw [hd]
        clear hd
        have r0 := (blk2 HR4.out).1
        have r1 := (blk2 HR4.out).2
        have rf := blk_fz HR4.out
        go_wp2
        refine bodyPost_ret (v := .tuple #[.agg #[.int .i64 0, .int .i64 0], .int .i64 8]) (by simp [results, Tryz.results98, go_sem, r0, r1]) rfl ?_
        exact .inl ⟨8, by unfold insertPl; rw [HOK.out]; simp only [HBS.out, hf, if_false], rfl, (HB4.out.setCell (by simp) _).setCell (by simp) _⟩

end Go.Proofs.YtnkpogjiiohapaaGreatDoor

/-! RefNestAt: The contract of the reference's NestAt. -/
namespace Go.Proofs.YtnkpogjiiohapaaGreatDoor
open Go.RowKit

set_option maxRecDepth 1000000 in
set_option maxHeartbeats 1600000 in
theorem nestAt_any {w : World} {r N : Nat} {vO vC vL : Value} {vops : Nat → Value} {cops : Nat → List COp} {cp : Nat → Nat → Value} {has : Nat → Nat → Nat} {c : Nat} {S : List POp} (h : Writable w r N vO vC vL vops cops cp has c S) (hb : topP S < 900000) (x1 x2 i : Int) (lst : Bool) :
    Calls Tryz.prog 100 #[.pointer (some ⟨r, 0, none⟩), .int .i64 c, .agg #[.int .i64 x1, .int .i64 x2], .int .i64 i, .bool lst] w fun e w' =>
      (∃ m, nestAtPl (S.foldl doesP rootP) (topP S) (cops c).length c (x1, x2) i lst = .error m ∧ e = .returned (.tuple #[.agg #[.int .i64 0, .int .i64 0], .int .i64 m]) ∧ Below w.heap.size w w') ∨
      (∃ ps, nestAtPl (S.foldl doesP rootP) (topP S) (cops c).length c (x1, x2) i lst = .ok ps ∧ e = .returned (.tuple #[.agg #[.int .i64 (topP S + 1), .int .i64 c], .int .i64 0]) ∧ ∃ l vops' cops' has', l.map COp.p = ps ∧ Wrote w w' r N vO vC vL vops cops cp has c S l vops' cops' has') := by
  have HB0 := hid (((Below.refl w.heap.size w).alloc (Nat.le_refl _) (.cells #[.int .i64 x1, .int .i64 x2] 36)).alloc (by simp) (.cells #[.int .i64 0, .int .i64 0] 36))
  have HOB := hid (object_p (h.toShown.keep HB0.out) x1 x2 true)
  have HH := hid h; clear h
  generalize hDD : S.foldl doesP rootP = DD
  rw [hDD] at HOB
  clear hDD
  go_enter Tryz.func100, Tryz.ntmps100
  go_wp2_with fail
  refine HOB.out.mono ?_
  rintro e w1 (⟨m, h1, hn, rfl, hb1⟩ | ⟨k, d, go, cap, os, h1, rfl, hat⟩)
  · have HX := hid (And.intro h1 hb1); clear h1 hb1
    have hn0 : ¬ m = 0 := by omega
    clear hn
    have r0 := keep (a := ⟨w.heap.size + 1, 0, none⟩) (v := .int .i64 0) HX.out.2 (by simp [go_sem])
    have r1 := keep (a := ⟨w.heap.size + 1, 1, none⟩) (v := .int .i64 0) HX.out.2 (by simp [go_sem])
    have rf : ∀ j, w1.frozen? ⟨w.heap.size + 1, j, none⟩ = false := fun j => by rw [HX.out.2.frozen (p := ⟨w.heap.size + 1, j, none⟩) (by simp)]; simp [go_sem]
    go_wp2
    refine bodyPost_ret (v := .tuple #[.agg #[.int .i64 0, .int .i64 0], .int .i64 m]) (by simp [results, Tryz.results100, go_sem, r0, r1]) rfl ?_
    exact .inl ⟨m, by unfold nestAtPl elementsP; rw [HX.out.1], rfl, ((HB0.out.trans (HX.out.2.mono HB0.out.size)).setCell (by simp) _).setCell (by simp) _⟩
  · have H1 := hid h1; clear h1
    have hb1 := hat.below
    have HBL := hid (show w1.heap[w.heap.size]? = some (.cells #[.int .i64 x1, .int .i64 x2] 36 (0, 0)) by rw [hb1.block w.heap.size (by simp; omega)]; exact blk_alloc (blk_new _ _))
    have HBR := hid (show w1.heap[w.heap.size + 1]? = some (.cells #[.int .i64 0, .int .i64 0] 36 (0, 0)) by rw [hb1.block (w.heap.size + 1) (by simp)]; exact (by simp : (w.alloc (.cells #[.int .i64 x1, .int .i64 x2] 36)).heap.size = w.heap.size + 1) ▸ blk_new (w.alloc (.cells #[.int .i64 x1, .int .i64 x2] 36)) (.cells #[.int .i64 0, .int .i64 0] 36))
    have HB1 := hid (HB0.out.trans (hb1.mono HB0.out.size)); clear hb1
    have HAT := hid hat; clear hat
    have HSL := hid HAT.out.slots
    have HCE := hid HAT.out.cell
    have hle := HAT.out.len
    have HLE := hid hle; clear hle
    have HSS := hid HAT.out.ss
    have hkp := HAT.out.lt
    generalize os[k] = ob at *
    have HOK := hid (show elementsP DD (x1, x2) = .ok (seenIds ob.ss) by
        unfold elementsP; rw [H1.out]
        have := HSS.out
        cases hd : DD[k]? with
        | none => rw [hd] at this; cases this
        | some o =>
          rw [hd] at this; simp at this
          simp only [hd, pseen]
          rw [this, seen_p])
    have HSE := hid (seen_any _ go (k * 4) _ ob.ss _ HCE.out HSL.out (by have := HLE.out.1; omega))
    have HSN := hid (show (seenIds ob.ss).length ≤ 240 by
      have := seen_len ob.ss ob.ss.length
      rw [List.take_of_length_le (Nat.le_refl _)] at this
      have := HLE.out.1
      omega)
    generalize seenIds ob.ss = L at *
    go_wp2_with fail
    refine HSE.out.mono ?_
    rintro e w2 ⟨u, rfl, hu, hb2⟩
    have HB2 := hid hb2; clear hb2
    have HU := hid hu.ids; clear hu
    have HBE := hid (behind_any u L i w2 HU.out)
    go_wp2_with fail
    refine HBE.out.mono ?_
    rintro e w3 ⟨hb3, ⟨hbn, rfl⟩ | ⟨⟨y1, y2⟩, hbs, rfl⟩⟩
    · have HB3 := hid (HB1.out.trans ((HB2.out.trans (hb3.mono HB2.out.size)).mono HB1.out.size))
      have HR3 := hid (blk_keep (blk_keep HBR.out HB2.out) hb3)
      have HBN := hid hbn; clear hbn hb3
      have HBA := hid ((Below.refl w3.heap.size w3).alloc (Nat.le_refl _) (.cells #[.int .i64 0, .int .i64 0] 36))
      have HW3 := hid ((HH.out.keepB HB3.out).keepB HBA.out)
      have HRM := hid (room_any HW3.out.room c HW3.out.hc 3 (by omega))
      have hlt3 := blk_lt HR3.out
      have r0 := (blk2 (blk_keep HR3.out HBA.out)).1
      have r1 := (blk2 (blk_keep HR3.out HBA.out)).2
      have rf := blk_fz (blk_keep HR3.out HBA.out)
      go_wp2_with fail
      refine HRM.out.mono ?_
      rintro e w4 ⟨rfl, hw4⟩
      have HB4 := hid (HB3.out.trans (HBA.out.mono HB3.out.size))
      clear HW3 HRM
      generalize hwg : w3.alloc (.cells #[.int .i64 0, .int .i64 0] 36) = wq at *
      subst hw4
      clear hwg
      generalize decide ((cops c).length + 3 ≤ 60) = bb
      go_wp2
      refine bodyPost_ret (v := .tuple #[.agg #[.int .i64 0, .int .i64 0], .int .i64 7]) (by simp [results, Tryz.results100, go_sem, r0, r1]) rfl ?_
      exact .inl ⟨7, by unfold nestAtPl; rw [HOK.out]; simp only [HBN.out], rfl, (HB4.out.setCell (by simp) _).setCell (by simp) _⟩
    · have HB3 := hid (HB1.out.trans ((HB2.out.trans (hb3.mono HB2.out.size)).mono HB1.out.size))
      have HL3 := hid (blk_keep (blk_keep HBL.out HB2.out) hb3)
      have HR3 := hid (blk_keep (blk_keep HBR.out HB2.out) hb3)
      have HBS := hid hbs; clear hbs hb3
      have HBA := hid ((Below.refl w3.heap.size w3).alloc (Nat.le_refl _) (.cells #[.int .i64 y1, .int .i64 y2] 36))
      have HB4 := hid (HB3.out.trans (HBA.out.mono HB3.out.size))
      have HW3 := hid ((HH.out.keepB HB3.out).keepB HBA.out)
      have HRM := hid (room_any HW3.out.room c HW3.out.hc 3 (by omega))
      have HL4 := hid (blk_keep HL3.out HBA.out)
      have HR4 := hid (blk_keep HR3.out HBA.out)
      have HY4 := hid (blk_new w3 (.cells #[.int .i64 y1, .int .i64 y2] 36))
      have hlt3 := blk_lt HR3.out
      have hlt4 := blk_lt HY4.out
      go_wp2_with fail
      refine HRM.out.mono ?_
      rintro e w4 ⟨rfl, hw4⟩
      generalize hwg : w3.alloc (.cells #[.int .i64 y1, .int .i64 y2] 36) = wq at *
      subst hw4
      clear hwg
      by_cases hf : (cops c).length < 58
      · have hd : decide ((cops c).length + 3 ≤ 60) = true := decide_eq_true (by omega)
        rw [hd]
        clear hd
        go_wp2_with fail
        refine (add_wr (Below.refl _ _) HW3.out (by omega) rfl (by omega) 0 0 1 0 0 0 0 0 0 0 0 0 lst ⟨#[]⟩ (.slice none 0 0) [] (ids_nil _) (fun k hk => by cases hk)).mono ?_
        rintro e w5 ⟨rfl, vops1, cops1, has1, hwr⟩
        have HL5 := hid (hwr.typed HW3.out HL4.out (by decide) (by decide) (by decide))
        have HR5 := hid (hwr.typed HW3.out HR4.out (by decide) (by decide) (by decide))
        have HY5 := hid (hwr.typed HW3.out HY4.out (by decide) (by decide) (by decide))
        have HLEN := hid (show (cops1 c).length < 59 by have := hwr.len; simp at this; omega)
        have HTOP := hid (show topP (S ++ List.map COp.p [⟨opMake (topP S + 1) c lst, .slice none 0 0⟩]) = topP S + 1 from topP_snoc _ _ rfl)
        have HWR := hid hwr; clear hwr
        have HBA5 := hid ((Below.refl w5.heap.size w5).alloc (Nat.le_refl _) (.cells #[.int .i64 (topP S + 1), .int .i64 c] 36))
        have HO6 := hid (blk_new w5 (.cells #[.int .i64 (topP S + 1), .int .i64 c] 36))
        have HL6 := hid (blk_keep HL5.out HBA5.out)
        have HR6 := hid (blk_keep HR5.out HBA5.out)
        have HY6 := hid (blk_keep HY5.out HBA5.out)
        have HW6 := hid (HWR.out.wr.keepB HBA5.out)
        have c0 := (blk2 HL6.out).1
        have c1 := (blk2 HL6.out).2
        have y0 := (blk2 HY6.out).1
        have y1' := (blk2 HY6.out).2
        have hlt5 := blk_lt HR5.out
        have hlt5' := blk_lt HL5.out
        have hlt5y := blk_lt HY5.out
        go_wp2_with fail
        have HLEN1 := HLEN.out
        refine (add_wr (Below.refl _ _) HW6.out (by omega) HTOP.out (by omega) 0 0 2 x1 x2 0 0 y1 y2 0 0 0 false ⟨#[]⟩ (.slice none 0 0) [] (ids_nil _) (fun k hk => by cases hk)).mono ?_
        rintro e w7 ⟨rfl, vops2, cops2, has2, hwr2⟩
        have HL7 := hid (hwr2.typed HW6.out HL6.out (by decide) (by decide) (by decide))
        have HR7 := hid (hwr2.typed HW6.out HR6.out (by decide) (by decide) (by decide))
        have HO7 := hid (hwr2.typed HW6.out HO6.out (by decide) (by decide) (by decide))
        have HLEN2 := hid (show (cops2 c).length < 60 by have := hwr2.len; simp at this; omega)
        have HTOP2 := hid (show topP (S ++ List.map COp.p [⟨opMake (topP S + 1) c lst, .slice none 0 0⟩] ++ List.map COp.p [⟨opLay (topP S + 1 + 1) c (x1, x2) (y1, y2), .slice none 0 0⟩]) = topP S + 1 + 1 from (topP_snoc _ _ (by rw [HTOP.out]; rfl)).trans (by rw [HTOP.out]))
        have HWR2 := hid hwr2; clear hwr2 c0 c1 y0 y1'
        have HBA7 := hid ((Below.refl w7.heap.size w7).alloc (Nat.le_refl _) (.cells #[.int .i64 (topP S + 1 + 1), .int .i64 c] 36))
        have HE8 := hid (blk_new w7 (.cells #[.int .i64 (topP S + 1 + 1), .int .i64 c] 36))
        have HL8 := hid (blk_keep HL7.out HBA7.out)
        have HR8 := hid (blk_keep HR7.out HBA7.out)
        have HO8 := hid (blk_keep HO7.out HBA7.out)
        have HW8 := hid (HWR2.out.wr.keepB HBA7.out)
        have c0 := (blk2 HL8.out).1
        have c1 := (blk2 HL8.out).2
        have o0 := (blk2 HO8.out).1
        have o1 := (blk2 HO8.out).2
        have e0 := (blk2 HE8.out).1
        have e1 := (blk2 HE8.out).2
        have hlt7 := blk_lt HR7.out
        have hlt7' := blk_lt HL7.out
        have hlt7o := blk_lt HO7.out
        go_wp2_with fail
        refine (add_wr (Below.refl _ _) HW8.out HLEN2.out HTOP2.out (by omega) 0 0 3 x1 x2 (topP S + 1 + 1) c 0 0 0 (topP S + 1) c false ⟨#[]⟩ (.slice none 0 0) [] (ids_nil _) (fun k hk => by cases hk)).mono ?_
        rintro e w9 ⟨rfl, vops3, cops3, has3, hwr3⟩
        have HO9 := hid (hwr3.typed HW8.out HO8.out (by decide) (by decide) (by decide))
        have HR9 := hid (hwr3.typed HW8.out HR8.out (by decide) (by decide) (by decide))
        have HWR3 := hid hwr3; clear hwr3 c0 c1 o0 o1 e0 e1
        have p0 := (blk2 HO9.out).1
        have p1 := (blk2 HO9.out).2
        have s0 := (blk2 HR9.out).1
        have s1 := (blk2 HR9.out).2
        have sf := blk_fz HR9.out
        go_wp2
        refine bodyPost_ret (v := .tuple #[.agg #[.int .i64 (topP S + 1), .int .i64 c], .int .i64 0]) (by simp [results, Tryz.results100, go_sem, s0, s1]) rfl ?_
        exact .inr ⟨[opMake (topP S + 1) c lst, opLay (topP S + 2) c (x1, x2) (y1, y2), opEl 3 (topP S + 3) c (x1, x2) (topP S + 2, c) 0 (topP S + 1, c) []], by unfold nestAtPl; rw [HOK.out]; simp only [HBS.out, hf, if_true], rfl,
          [⟨opMake (topP S + 1) c lst, .slice none 0 0⟩, ⟨opLay (topP S + 1 + 1) c (x1, x2) (y1, y2), .slice none 0 0⟩, ⟨opEl 3 (topP S + 1 + 1 + 1) c (x1, x2) (topP S + 1 + 1, c) 0 (topP S + 1, c) [], .slice none 0 0⟩], vops3, cops3, has3, by rw [← three_ops (topP S), ← two_ops (topP S)]; rfl,
          wrote_three HH.out HB4.out HWR.out HBA5.out HWR2.out HBA7.out HWR3.out HR9.out (by omega) (fun e => by cases e) (fun e => by cases e) (fun e => by cases e) _ _⟩
      · have hd : decide ((cops c).length + 3 ≤ 60) = false := decide_eq_false (by omega)
        rw [hd]
        clear hd
        have r0 := (blk2 HR4.out).1
        have r1 := (blk2 HR4.out).2
        have rf := blk_fz HR4.out
        go_wp2
        refine bodyPost_ret (v := .tuple #[.agg #[.int .i64 0, .int .i64 0], .int .i64 8]) (by simp [results, Tryz.results100, go_sem, r0, r1]) rfl ?_
        exact .inl ⟨8, by unfold nestAtPl; rw [HOK.out]; simp only [HBS.out, hf, if_false], rfl, (HB4.out.setCell (by simp) _).setCell (by simp) _⟩

end Go.Proofs.YtnkpogjiiohapaaGreatDoor

/-! PureK: Plain: in a list no slot has a key; what is found there. -/
namespace Go.Proofs.YtnkpogjiiohapaaGreatDoor
open Go.RowKit

/-- In lists the slots are elements. -/
def ListKeys (D : List PObj) : Prop := ∀ o ∈ D, o.list = true → ∀ s ∈ o.ss, s.key = ⟨#[]⟩

theorem laid_mem {l : List PSlot} {b x : PId} {s : PSlot} (h : s ∈ laidP l b x) : s ∈ l ∨ s = pslot0 ⟨#[]⟩ x := by
  have ins : ∀ n, s ∈ pinsAt l n (pslot0 ⟨#[]⟩ x) → s ∈ l ∨ s = pslot0 ⟨#[]⟩ x := by
    intro n h
    unfold pinsAt at h
    rw [List.mem_append, List.mem_cons] at h
    rcases h with h | h | h
    · exact .inl (List.mem_of_mem_take h)
    · exact .inr h
    · exact .inl (List.mem_of_mem_drop h)
  unfold laidP at h
  split at h
  · exact ins _ h
  · split at h
    · exact .inl h
    · exact ins _ h
theorem modify_mem {α : Type} {l : List α} {f : α → α} {k : Nat} {x : α} (h : x ∈ l.modify k f) : x ∈ l ∨ ∃ y ∈ l, x = f y := by
  obtain ⟨j, hj, rfl⟩ := List.mem_iff_getElem.1 h
  rw [List.getElem_modify]
  rw [List.length_modify] at hj
  split
  · exact .inr ⟨l[j], List.getElem_mem _, rfl⟩
  · exact .inl (List.getElem_mem _)
theorem valued_key {l : List PSlot} {key : ByteArray} {x : PId} {old : List PId} {kind : Int} {y : PHeld} {s : PSlot} (h : s ∈ valuedP l true key x old kind y) : ∃ s' ∈ l, s.key = s'.key := by
  unfold valuedP at h
  split at h
  · simp at h; exact ⟨s, h, rfl⟩
  · rcases modify_mem h with h1 | ⟨s', h1, rfl⟩
    · exact ⟨s, h1, rfl⟩
    · exact ⟨s', h1, rfl⟩
theorem ListKeys.does {D : List PObj} (h : ListKeys D) (p : POp) : ListKeys (doesP D p) := by
  intro o ho hl s hs
  unfold doesP at ho
  split at ho
  · rcases List.mem_append.1 ho with ho | ho
    · exact h o ho hl s hs
    · simp at ho; subst ho; simp at hs
  · split at ho
    · exact h o ho hl s hs
    · rcases modify_mem ho with ho' | ⟨o', ho', rfl⟩
      · exact h o ho' hl s hs
      · unfold doesAt at hl hs
        split at hs
        · split at hs
          · rename_i h1 h2
            rcases laid_mem hs with hs | rfl
            · exact h o' ho' h2 s hs
            · rfl
          · rename_i h1 h2
            simp [h1, h2] at hl
        · split at hs
          · rename_i h1 h2
            rw [if_neg h1, if_pos h2] at hl
            have hl' : o'.list = true := hl
            rw [hl'] at hs
            obtain ⟨s', hs', e⟩ := valued_key hs
            rw [e]
            exact h o' ho' hl' s' hs'
          · rename_i h1 h2
            rw [if_neg h1, if_neg h2] at hl
            exact h o' ho' hl s hs
theorem listKeys (S : List POp) : ListKeys (S.foldl doesP rootP) := by
  have key : ∀ (S : List POp) (D : List PObj), ListKeys D → ListKeys (S.foldl doesP D) := by
    intro S
    induction S with
    | nil => intro D h; exact h
    | cons p S ih => intro D h; exact ih _ (h.does p)
  refine key S rootP ?_
  intro o ho hl
  simp [rootP] at ho; subst ho; cases hl

/-- The element that is seen is found. -/
theorem slot_found {ss : List CSlot} {y : PId} (hk : ∀ s ∈ ss, s.key = ⟨#[]⟩) (hy : y ∈ seenIds ss) : ∃ q : Nat, ∃ h : q < ss.length, firstI (slotIs ⟨#[]⟩ y) ss = (q : Int) ∧ (ss.map CSlot.p).find? (pslotIs ⟨#[]⟩ y) = some (ss[q]).p := by
  have hge := firstI_ge (slotIs ⟨#[]⟩ y) ss
  have hlt := firstI_lt (slotIs ⟨#[]⟩ y) ss
  have hnn : ¬ firstI (slotIs ⟨#[]⟩ y) ss < 0 := by
    intro hn
    unfold seenIds at hy
    obtain ⟨s, hs, rfl⟩ := List.mem_map.1 hy
    have hs' := (List.mem_filter.1 hs).1
    unfold firstI at hn
    split at hn
    · omega
    · rename_i hnone
      rw [List.findIdx?_eq_none_iff] at hnone
      have := hnone s hs'
      simp [slotIs, idEq, hk s hs'] at this
  obtain ⟨q, hq⟩ := Int.eq_ofNat_of_zero_le (a := firstI (slotIs ⟨#[]⟩ y) ss) (by omega)
  refine ⟨q, by omega, hq, ?_⟩
  rw [first_find_slot, if_neg hnn, hq]
  simp [show q < ss.length by omega]

end Go.Proofs.YtnkpogjiiohapaaGreatDoor
