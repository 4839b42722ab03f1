/- Our own text (PKeysA, PKeysB, PDoA). -/
import Derived.Test.YtnkpogjiiohapaaGreatDoorA04
set_option linter.unusedSimpArgs false
set_option linter.unusedVariables false

/-! PKeysA: Keys: what the walk over an object's keys has brought; plain. -/
namespace Go.Proofs.YtnkpogjiiohapaaGreatDoor
open Go.RowKit

/-- Which pair an entry stands for. -/
def pairOf {ν : Type} (es : List MapEntry) (m : List ν) (e : MapEntry) : Option ν := ((es.zip m).find? fun z => z.1.born == e.born).map (·.2)
theorem pairOf_get {ν : Type} {es : List MapEntry} {m : List ν} (hn : (es.map (·.born)).Nodup) (hl : es.length = m.length) {i : Nat} (hi : i < es.length) : pairOf es m es[i] = some (m[i]'(by omega)) := by
  unfold pairOf
  have : (es.zip m).find? (fun z => z.1.born == es[i].born) = some (es[i], m[i]'(by omega)) := by
    rw [List.find?_eq_some_iff_getElem]
    refine ⟨by simp, i, by simp; omega, by simp, fun j hj => ?_⟩
    have hp := List.pairwise_iff_getElem.1 hn j i (by simp; omega) (by simpa using hi) hj
    simp at hp
    simpa using hp
  rw [this]; rfl
theorem pairOf_map {ν : Type} {es : List MapEntry} {m : List ν} (hn : (es.map (·.born)).Nodup) (hl : es.length = m.length) : es.filterMap (pairOf es m) = m := by
  have key : es.map (pairOf es m) = m.map some := by
    apply List.ext_getElem
    · simp [hl]
    · intro i h1 h2
      simp only [List.getElem_map]
      rw [pairOf_get hn hl (by simpa using h1)]
  have h2 : es.filterMap (pairOf es m) = (es.map (pairOf es m)).filterMap id := by rw [List.filterMap_map]; rfl
  rw [h2, key, List.filterMap_map]
  simp
theorem pairOf_mem {κ ν : Type} {encK : κ → Value} {encV : ν → Value} {es : List MapEntry} {m : List (κ × ν)} (hn : (es.map (·.born)).Nodup) (h : Ents encK encV es m) {e : MapEntry} (he : e ∈ es) :
    ∃ p ∈ m, pairOf es m e = some p ∧ e.key = encK p.1 ∧ e.val = encV p.2 := by
  have hl : es.length = m.length := by have := congrArg List.length h; simpa using this
  obtain ⟨i, hi, rfl⟩ := List.mem_iff_getElem.1 he
  have him : i < m.length := by omega
  refine ⟨m[i], List.getElem_mem _, pairOf_get hn hl hi, ?_⟩
  have := congrArg (·[i]?) h
  simp [hi, him] at this
  exact this

/-- The keys that can be seen, of some pairs. -/
def seenKeys (ks : List (ByteArray × CKey)) : List ByteArray := (ks.filter fun p => decide (0 < p.2.vs.length)).map (·.1)

end Go.Proofs.YtnkpogjiiohapaaGreatDoor

/-! PKeysB: The contract of Keys. -/
namespace Go.Proofs.YtnkpogjiiohapaaGreatDoor
open Go.RowKit
open Go.ChangeMaps (setBlock)

def strC (s : ByteArray) : List Value := [.string s]
def ownStrs (B : Nat) (w : World) (v : Value) (l : List ByteArray) : Prop := w.ownsRow B 9 1 v l.length (l.flatMap strC)
theorem app_str {ops : Array Oper} {rest : List Oper} {o : Oper} {a : Act} {Q : Exit → Act → World → Prop} {w : World} (hgd : o.guard = none) (s x : Operand)
    (ho : o.op = .call { callee := .builtin .append, args := #[s, x], argTypes := #[43, 43] }) (B : Nat) (v : Value) (l : List ByteArray) (hs : a.eval s = v)
    (hown : ownStrs B w v l) (g c : Nat) (y : ByteArray) (hx : a.eval x = .slice (some ⟨g, 0, none⟩) 1 c)
    (h0 : w.cell? ⟨g, 0, none⟩ = some (.string y)) (hlen : l.length < 1000000000) (hB : B ≤ w.heap.size)
    (h : ∀ v' w', ownStrs B w' v' (l ++ [y]) → w.grownBy w' v.ownBlock → wpList Tryz.prog ops Q rest (a.put o.dst v') w') : wpList Tryz.prog ops Q (o :: rest) a w :=
  app_one strC 1 16 43 9 (.string ⟨#[]⟩) (by kernel_rfl) Tryz.underlying43 rfl (by omega) (fun _ => rfl) hgd s x ho B v l hs hown g c y hx
    (fun j u hu => by match j with | 0 => simp [strC] at hu; rw [← hu]; exact h0 | j + 1 => simp [strC] at hu) (fun u hu => by simp [strC] at hu; subst hu; rfl) (by omega) (by unfold maxLen; omega) hB (fun v' w' h2 h3 => h v' w' (by unfold ownStrs; simpa using h2) h3)

theorem field_keys (a c d : Value) (r : Option Nat) (W : World) : (Instr.field 170 (.agg #[a, .map r, c, d]) 1).run Tryz.prog W = .ok (.map r) W := field_ob a c d r W
/-- Cells that grow leave the walk as it is. -/
theorem Walk.grown {es : Array MapEntry} {clk b r : Nat} {seen : Array Nat} {l : List MapEntry} {w w' : World} {row : Option Nat} (h : Walk es clk b r seen l w) (hg : w.grownBy w' row) (hr : ∀ g, row = some g → ∃ c t f, w.heap[g]? = some (.cells c t f)) : Walk es clk b r seen l w' := by
  refine ⟨?_, ?_, h.seen, h.sub⟩
  · rw [hg.block b (Array.getElem?_eq_some_iff.1 h.map).1 (fun e => by obtain ⟨c, t, f, hc⟩ := hr b e.symm; rw [h.map] at hc; cases hc)]; exact h.map
  · rw [hg.block r (Array.getElem?_eq_some_iff.1 h.iter).1 (fun e => by obtain ⟨c, t, f, hc⟩ := hr r e.symm; rw [h.iter] at hc; cases hc)]; exact h.iter

set_option maxRecDepth 1000000 in
set_option maxHeartbeats 1600000 in
/-- Keys, up to the sorting: SORT is what slices.Sort does. -/
theorem keys_of {w : World} {d bo be : Nat} {os : List (PId × CQObj)} {els : List (PId × CQEl)} (h : isQ w d bo be os els) (x1 x2 : Int) {ob : CQObj} (hob : lookI (x1, x2) os = some ob) (hL : ob.ks.length ≤ 10000) (srt : List ByteArray → List ByteArray)
    (hsrt : ∀ (W : World) (v : Value) (l : List ByteArray), ownStrs w.heap.size W v l → l.length ≤ 10000 → Calls Tryz.prog 188 #[v] W fun e W' => (∃ r, e = .returned r) ∧ ownStrs w.heap.size W' v (srt l) ∧ W.grownBy W' v.ownBlock)
    (hperm : ∀ l l', l.Perm l' → srt l = srt l') :
    Calls Tryz.prog 169 #[.pointer (some ⟨d, 0, none⟩), .agg #[.int .i64 x1, .int .i64 x2]] w fun e w' => ∃ u, e = .returned u ∧ ownStrs w.heap.size w' u (srt (seenKeys ob.ks)) ∧ Below w.heap.size w w' := by
  have HB0 := hid ((Below.refl w.heap.size w).alloc (Nat.le_refl _) (.cells #[.int .i64 x1, .int .i64 x2] 36))
  have HHS := hid (has_q (h.keep HB0.out) x1 x2)
  rw [hob] at HHS
  have HLO := hid (fun W (hb : Below w.heap.size w W) => (h.keep hb).lookO x1 x2 false)
  rw [hob] at HLO
  have HC := hid (fun W (hb : Below w.heap.size w W) => (h.keep hb).c0)
  have HK := hid (fun W (hb : Below w.heap.size w W) => (h.hk _ (look_mem hob)).keep hb)
  obtain ⟨ol, okv, oks, ⟨f1, f2⟩⟩ := ob
  simp only at hL HK
  simp only [Option.map_some, Option.getD_some, Bool.false_eq_true, if_false, qobjV, Option.isSome_some] at HLO HHS
  have HH := hid h; clear h hob
  have HSRT := hid hsrt; clear hsrt
  have hfo := field_ob
  rcases (HK.out w (Below.refl _ _)).1 with ⟨rfl, rfl⟩ | ⟨b, es, clk, rfl, hm⟩
  · go_enter Tryz.func169, Tryz.ntmps169
    go_wp2_with fail
    refine HHS.out.mono ?_
    rintro e w1 ⟨rfl, hb1⟩
    have b0 := keep (a := ⟨w.heap.size, 0, none⟩) (v := .int .i64 x1) hb1 (by simp [go_sem])
    have b1 := keep (a := ⟨w.heap.size, 1, none⟩) (v := .int .i64 x2) hb1 (by simp [go_sem])
    have HB1 := hid (HB0.out.trans (hb1.mono HB0.out.size)); clear hb1
    have c0 := HC.out _ HB1.out
    have l2 := HLO.out _ HB1.out.drew
    have hz1 := HB1.out.size
    have hrg := run_range_nilMap (P := Tryz.prog) w1.drew 168 9 159 Tryz.underlying168
    have hfk := field_keys
    go_wp2
    go_region
    obtain ⟨wi, hwi⟩ : ∃ wi, wi = (w1.alloc (.mapIter none 0 #[] 0)).drew := ⟨_, rfl⟩
    rw [← hwi]
    have HBI := hid (show Below w.heap.size w wi by rw [hwi]; exact (HB1.out.alloc hz1 _).drew)
    have hnx : (Instr.next (.pointer (some ⟨w1.heap.size, 0, none⟩)) false 0).run Tryz.prog wi = .ok (.tuple #[.bool false]) wi := by rw [hwi]; exact run_next_nilMap (P := Tryz.prog) w1.drew 0 0 0 #[]
    clear hwi b0 b1 c0 l2 hrg hfk hfo
    have HS := hid (HSRT.out wi (.slice none 0 0) [] (World.ownsRow_nil _ _ _ _) (by simp))
    go_wp2
    go_loopw [5] (fun u wr => u = .slice none 0 0 ∧ wr = wi) (fun _ _ => 0)
    case atStart => exact ⟨rfl, rfl⟩
    case round =>
      obtain ⟨rfl, hwr⟩ := hrel
      subst hwr
      go_wp2_with fail
      refine HS.out.mono ?_
      rintro e w3 ⟨⟨r, rfl⟩, hs3, hg3⟩
      have HX := hid (And.intro hs3 hg3); clear hs3 hg3
      go_wp2
      go_ret
      exact ⟨_, rfl, HX.out.1, HBI.out.grown HX.out.2 HBI.out.size (fun k hk => by cases hk)⟩
  · have HM := hid hm; clear hm
    have hbl := HM.out.lt
    go_enter Tryz.func169, Tryz.ntmps169
    go_wp2_with fail
    refine HHS.out.mono ?_
    rintro e w1 ⟨rfl, hb1⟩
    have b0 := keep (a := ⟨w.heap.size, 0, none⟩) (v := .int .i64 x1) hb1 (by simp [go_sem])
    have b1 := keep (a := ⟨w.heap.size, 1, none⟩) (v := .int .i64 x2) hb1 (by simp [go_sem])
    have HB1 := hid (HB0.out.trans (hb1.mono HB0.out.size)); clear hb1
    have c0 := HC.out _ HB1.out
    have l2 := HLO.out _ HB1.out.drew
    have hz1 := HB1.out.size
    have HM1 := hid (HM.out.keep HB1.out.drew)
    have hrg := run_range_map (P := Tryz.prog) w1.drew 168 9 159 b es clk Tryz.underlying168 HM1.out.blk
    have hfk := field_keys
    go_wp2
    go_region
    obtain ⟨wi, hwi⟩ : ∃ wi, wi = (w1.alloc (.mapIter (some b) clk #[] clk)).drew := ⟨_, rfl⟩
    rw [← hwi]
    have HBI := hid (show Below w.heap.size w wi by rw [hwi]; exact (HB1.out.alloc hz1 _).drew)
    have HWI := hid (show Walk es clk b w1.heap.size #[] [] wi by
      rw [hwi]
      exact ⟨(alloc_old_r w1 _ (HM.out.keep HB1.out).lt).trans (HM.out.keep HB1.out).blk, heap_alloc_new w1 _, rfl, fun e he => by cases he⟩)
    clear hwi b0 b1 c0 l2 hrg hfk hfo HM1
    go_wp2
    go_loopw [5] (fun u wr => ∃ seen el, Walk es clk b w1.heap.size seen el wr ∧ (el.map (·.born)).Nodup ∧ el.length + (leftOf es seen).size ≤ oks.length ∧ ownStrs w.heap.size wr u (seenKeys (el.filterMap (pairOf es.toList oks))) ∧ Below w.heap.size w wr) (fun _ wr => leftM b w1.heap.size wr)
    case atStart => exact ⟨#[], [], HWI.out, by simp, by rw [← HM.out.len]; simp only [List.length_nil, Nat.zero_add]; exact Array.size_filter_le, World.ownsRow_nil _ _ _ _, HBI.out⟩
    case round =>
      obtain ⟨seen, el, hwk, hnd, hcnt, hown, hbel⟩ := hrel
      have HW := hid hwk; clear hwk
      have HN := hid hnd; clear hnd
      have HO := hid hown; clear hown
      have HBE := hid hbel; clear hbel
      have hbz := HBE.out.size
      rcases run_next_at (P := Tryz.prog) wr 0 w1.heap.size b clk clk seen es clk HW.out.iter HW.out.map HM.out.old (Nat.le_refl _) with ⟨hl0, hrun⟩ | ⟨e, he, w1', hw1', hrun⟩
      · have hp := HW.out.all HM.out.nodup HN.out hl0
        have HP := hid (show (seenKeys (el.filterMap (pairOf es.toList oks))).Perm (seenKeys oks) by
          have h1 := hp.filterMap (pairOf es.toList oks)
          rw [pairOf_map HM.out.nodup (by have := HM.out.len; simpa using this)] at h1
          unfold seenKeys
          exact (h1.filter _).map _)
        have HLN := hid (show (seenKeys (el.filterMap (pairOf es.toList oks))).length ≤ 10000 by
          rw [HP.out.length_eq]
          unfold seenKeys
          rw [List.length_map]
          exact Nat.le_trans (List.length_filter_le _ _) hL)
        have HS := hid (HSRT.out wr u5 _ HO.out HLN.out)
        go_wp2_with fail
        refine HS.out.mono ?_
        rintro e w3 ⟨⟨r, rfl⟩, hs3, hg3⟩
        have HX := hid (And.intro hs3 hg3); clear hs3 hg3
        go_wp2
        go_ret
        refine ⟨_, rfl, ?_, HBE.out.grown HX.out.2 hbz (fun k hk => (World.ownsRow.lt HO.out k hk).1)⟩
        rw [← hperm _ _ HP.out]; exact HX.out.1
      · have hmem : e ∈ es.toList := by unfold leftOf at he; simp at he; simpa using he.1
        obtain ⟨⟨key, ck⟩, hpm, hpo, hek, hev⟩ := pairOf_mem HM.out.nodup HM.out.ents hmem
        have HW2 := hid (HW.out.next (by have := (HM.out.keep HB1.out).lt; omega) he hw1')
        obtain ⟨w2, hw2⟩ : ∃ w2, w2 = setBlock w1' w1.heap.size (.mapIter (some b) clk (seen.push e.born) clk) := ⟨_, rfl⟩
        rw [← hw2] at hrun HW2
        have hen := run_entry_at (P := Tryz.prog) w2 w1.heap.size b clk seen es clk e HW2.out.iter HW2.out.map hmem HM.out.nodup
        rw [hek, hev] at hrun hen
        simp only [strV, ckeyV] at hrun hen
        have hg2 : wr.grownBy w2 (some w1.heap.size) := by rw [hw2]; exact setBlock_grown hw1' _ _
        clear hw2 hw1'
        have HB2 := hid (HBE.out.grown hg2 hbz (fun k hk => by cases hk; exact hz1))
        have HO2 := hid (show ownStrs w.heap.size w2 u5 (seenKeys (el.filterMap (pairOf es.toList oks))) from row_blk HO.out (fun g hg => by
          obtain ⟨c', hc'⟩ := own_type HO.out hg
          exact hg2.block g (Array.getElem?_eq_some_iff.1 hc').1 (fun e => by injection e with e; subst e; rw [HW.out.iter] at hc'; cases hc')))
        have HG2 := hid hg2; clear hg2
        have HND2 := hid (show ((el ++ [e]).map (·.born)).Nodup by
          rw [List.map_append, List.nodup_append]
          refine ⟨HN.out, by simp, fun a ha c hc hac => ?_⟩
          simp at hc
          subst hc
          unfold leftOf at he
          simp at he
          rw [← HW.out.seen] at ha
          rw [hac] at ha
          exact he.2 (by simpa using ha))
        have HKV := hid ((HK.out _ HB2.out).2 _ hpm)
        have hln := run_lenMap HKV.out (ty := 3)
        have HLS := hid (left_less he)
        have HFM := hid (show (el ++ [e]).filterMap (pairOf es.toList oks) = el.filterMap (pairOf es.toList oks) ++ [(key, ck)] by rw [List.filterMap_append]; simp [hpo])
        have hls := HLS.out
        have hbz2 := HB2.out.size
        simp only at hln
        by_cases hs : 0 < ck.vs.length
        · have hlc : (seenKeys (el.filterMap (pairOf es.toList oks))).length ≤ 10000 := by
            unfold seenKeys
            rw [List.length_map]
            refine Nat.le_trans (List.length_filter_le _ _) (Nat.le_trans (List.length_filterMap_le _ _) (by omega))
          go_wp2_with (at_builtin; go_must (refine app_str rfl (.tmp 28) (.tmp 30) rfl w.heap.size _ (seenKeys (el.filterMap (pairOf es.toList oks))) rfl ?h1 w2.heap.size 1 key rfl ?h2 ?h4 ?h5 ?_; (case h1 => exact World.ownsRow.alloc HO2.out _); (case h2 => simp [go_sem]); (case h4 => omega); (case h5 => simp; omega); intro v' w3 hown3 hg3; have HG3 := hid hg3; clear hg3; have HN3 := hid hown3; clear hown3))
          go_roundw
          case rel =>
            have hw3 : Walk es clk b w1.heap.size (seen.push e.born) (el ++ [e]) w3 := by
              refine Walk.grown ?_ HG3.out (fun g hg => ?_)
              · exact ⟨(alloc_old_r w2 _ (Array.getElem?_eq_some_iff.1 HW2.out.map).1).trans HW2.out.map, (alloc_old_r w2 _ (Array.getElem?_eq_some_iff.1 HW2.out.iter).1).trans HW2.out.iter, HW2.out.seen, HW2.out.sub⟩
              · obtain ⟨c', hc'⟩ := own_type (World.ownsRow.alloc HO2.out (.cells #[.string key] 9)) hg
                exact ⟨_, _, _, hc'⟩
            refine ⟨_, _, hw3, HND2.out, by simp; omega, ?_, ?_⟩
            · rw [HFM.out]
              have : seenKeys (el.filterMap (pairOf es.toList oks) ++ [(key, ck)]) = seenKeys (el.filterMap (pairOf es.toList oks)) ++ [key] := by unfold seenKeys; simp [hs]
              rw [this]; exact HN3.out
            · exact (HB2.out.alloc hbz2 _).grown HG3.out (by simp; omega) (fun k hk => (World.ownsRow.lt HO2.out k hk).1)
          case measure =>
            have hw3 : Walk es clk b w1.heap.size (seen.push e.born) (el ++ [e]) w3 := by
              refine Walk.grown ?_ HG3.out (fun g hg => ?_)
              · exact ⟨(alloc_old_r w2 _ (Array.getElem?_eq_some_iff.1 HW2.out.map).1).trans HW2.out.map, (alloc_old_r w2 _ (Array.getElem?_eq_some_iff.1 HW2.out.iter).1).trans HW2.out.iter, HW2.out.seen, HW2.out.sub⟩
              · obtain ⟨c', hc'⟩ := own_type (World.ownsRow.alloc HO2.out (.cells #[.string key] 9)) hg
                exact ⟨_, _, _, hc'⟩
            rw [hw3.left, HW.out.left]; exact hls
        · go_wp2
          go_roundw
          case rel =>
            refine ⟨_, _, HW2.out, HND2.out, by simp; omega, ?_, HB2.out⟩
            rw [HFM.out]
            have : seenKeys (el.filterMap (pairOf es.toList oks) ++ [(key, ck)]) = seenKeys (el.filterMap (pairOf es.toList oks)) := by unfold seenKeys; simp [hs]
            rw [this]; exact HO2.out
          case measure => rw [HW2.out.left, HW.out.left]; exact hls

end Go.Proofs.YtnkpogjiiohapaaGreatDoor

/-! PDoA: What is written in the program's document: stores into its two maps; Make's do. -/
namespace Go.Proofs.YtnkpogjiiohapaaGreatDoor
open Go.RowKit

/-- The document's two maps lie apart from each other and from all that they lead to (which lies in R). -/
structure QOwn (bo be : Nat) (R : Nat → Prop) (os : List (PId × CQObj)) (els : List (PId × CQEl)) : Prop where
  ne : bo ≠ be
  ro : ¬ R bo
  re : ¬ R be
  kv : ∀ p ∈ os, ∀ b, p.2.kv = some b → R b
  kk : ∀ p ∈ os, ∀ k ∈ p.2.ks, ∀ b, k.2.v = some b → R b
  vals : ∀ p ∈ els, ∀ b, p.2.v = some b → R b
theorem QOwn.mono {bo be : Nat} {R R' : Nat → Prop} {os : List (PId × CQObj)} {els : List (PId × CQEl)} (h : QOwn bo be R os els) (hr : ∀ k, R k → R' k) (h1 : ¬ R' bo) (h2 : ¬ R' be) : QOwn bo be R' os els :=
  ⟨h.ne, h1, h2, fun p hp b hb => hr b (h.kv p hp b hb), fun p hp k hk b hb => hr b (h.kk p hp k hk b hb), fun p hp b hb => hr b (h.vals p hp b hb)⟩

/-- Blocks outside S have not turned. -/
structure Turned (S : Nat → Prop) (w w' : World) : Prop where
  os : w'.os = w.os
  tape : w'.tape = w.tape
  output : w'.output = w.output
  size : w.heap.size ≤ w'.heap.size
  other : ∀ k, k < w.heap.size → ¬ S k → w'.heap[k]? = w.heap[k]?
theorem Turned.of_below {S : Nat → Prop} {w w' : World} (h : Below w.heap.size w w') : Turned S w w' := ⟨h.os, h.tape, h.output, h.size, fun k hk _ => h.block k hk⟩
theorem Turned.trans {S : Nat → Prop} {a b c : World} (h : Turned S a b) (k : Turned S b c) : Turned S a c :=
  ⟨k.os.trans h.os, k.tape.trans h.tape, k.output.trans h.output, Nat.le_trans h.size k.size, fun i hi hs => by rw [k.other i (Nat.lt_of_lt_of_le hi h.size) hs, h.other i hi hs]⟩
theorem Turned.mono {S S' : Nat → Prop} {w w' : World} (h : Turned S w w') (hs : ∀ k, S k → S' k) : Turned S' w w' := ⟨h.os, h.tape, h.output, h.size, fun k hk hn => h.other k hk (fun h' => hn (hs k h'))⟩
theorem Turned.put {S : Nat → Prop} {w : World} {b : Nat} (o : Obj) (hb : S b) : Turned S w (putObj w b o) :=
  ⟨rfl, rfl, rfl, by simp [putObj], fun k _ hn => putObj_other (fun e => hn (e ▸ hb))⟩

section
theorem isMap.blockK {κ ν : Type} {encK : κ → Value} {encV : ν → Value} {w w' : World} {b : Nat} {m : List (κ × ν)} {es : Array MapEntry} {clk : Nat} (h : isMap encK encV w b m es clk) (hb : w'.heap[b]? = w.heap[b]?) : isMap encK encV w' b m es clk := ⟨by rw [hb]; exact h.blk, h.ents, h.nodup, h.old⟩
end
theorem isVals.blockK {w w' : World} {v : Option Nat} {vs : List (PId × PVal)} (h : isVals w v vs) (hb : ∀ b, v = some b → w'.heap[b]? = w.heap[b]?) : isVals w' v vs :=
  h.imp id fun ⟨b, es, clk, e, hm⟩ => ⟨b, es, clk, e, hm.blockK (hb b e)⟩
theorem isKeys.blockK {w w' : World} {v : Option Nat} {ks : List (ByteArray × CKey)} (h : isKeys w v ks) (hb : ∀ b, v = some b → w'.heap[b]? = w.heap[b]?) (hk : ∀ k ∈ ks, ∀ b, k.2.v = some b → w'.heap[b]? = w.heap[b]?) : isKeys w' v ks :=
  ⟨h.1.imp id fun ⟨b, es, clk, e, hm⟩ => ⟨b, es, clk, e, hm.blockK (hb b e)⟩, fun p hp => (h.2 p hp).blockK (hk p hp)⟩

theorem put_mem {κ ν : Type} [DecidableEq κ] {x : κ} {v : ν} : ∀ {m : List (κ × ν)} {p : κ × ν}, p ∈ putI x v m → p ∈ m ∨ p = (x, v)
  | [], p, h => by simp [putI] at h; exact .inr h
  | q :: m, p, h => by
    unfold putI at h
    split at h
    · rcases List.mem_cons.1 h with h | h
      · exact .inr h
      · exact .inl (List.mem_cons_of_mem _ h)
    · rcases List.mem_cons.1 h with h | h
      · exact .inl (h ▸ List.mem_cons_self)
      · rcases put_mem h with h | h
        · exact .inl (List.mem_cons_of_mem _ h)
        · exact .inr h

section
/-- AN OBJECT IS STORED. -/
theorem isQ.putO {w : World} {d bo be : Nat} {R : Nat → Prop} {os : List (PId × CQObj)} {els : List (PId × CQEl)} (h : isQ w d bo be os els) (ho : QOwn bo be R os els) (x : PId) (o : CQObj) (hk : isKeys w o.kv o.ks) (hkv : ∀ b, o.kv = some b → R b) (hkk : ∀ k ∈ o.ks, ∀ b, k.2.v = some b → R b) :
    ∃ es' clk', (Instr.mapUpdate 171 (.map (some bo)) (idV x) (qobjV o)).run Tryz.prog w = .ok () (putObj w bo (.map es' clk')) ∧ isQ (putObj w bo (.map es' clk')) d bo be (putI x o os) els ∧ QOwn bo be R (putI x o os) els := by
  obtain ⟨es, clk, hmo⟩ := h.ho
  obtain ⟨es2, clk2, hme⟩ := h.he
  obtain ⟨es', clk', hrun, hm'⟩ := run_putI idKey hmo Tryz.underlying171 x o
  have hoth : ∀ k, k ≠ bo → (putObj w bo (.map es' clk')).heap[k]? = w.heap[k]? := fun k hk => putObj_other hk
  have hR : ∀ k, R k → (putObj w bo (.map es' clk')).heap[k]? = w.heap[k]? := fun k hk => hoth k (fun e => ho.ro (e ▸ hk))
  refine ⟨es', clk', hrun, ⟨?_, ⟨es', clk', hm'⟩, ⟨es2, clk2, hme.blockK (hoth be (Ne.symm ho.ne))⟩, ?_, ?_⟩, ⟨ho.ne, ho.ro, ho.re, ?_, ?_, ho.vals⟩⟩
  · rw [hoth d (fun e => by subst e; have h1 := h.hd; rw [hmo.blk] at h1; cases h1)]; exact h.hd
  · intro p hp
    rcases put_mem hp with hp | rfl
    · exact (h.hk p hp).blockK (fun b hb => hR b (ho.kv p hp b hb)) (fun k hk b hb => hR b (ho.kk p hp k hk b hb))
    · exact hk.blockK (fun b hb => hR b (hkv b hb)) (fun k hk' b hb => hR b (hkk k hk' b hb))
  · intro p hp
    exact (h.hv p hp).blockK (fun b hb => hR b (ho.vals p hp b hb))
  · intro p hp b hb
    rcases put_mem hp with hp | rfl
    · exact ho.kv p hp b hb
    · exact hkv b hb
  · intro p hp k hk' b hb
    rcases put_mem hp with hp | rfl
    · exact ho.kk p hp k hk' b hb
    · exact hkk k hk' b hb
/-- AN ELEMENT IS STORED. -/
theorem isQ.putE {w : World} {d bo be : Nat} {R : Nat → Prop} {os : List (PId × CQObj)} {els : List (PId × CQEl)} (h : isQ w d bo be os els) (ho : QOwn bo be R os els) (x : PId) (e : CQEl) (hv : isVals w e.v e.vs) (hev : ∀ b, e.v = some b → R b) :
    ∃ es' clk', (Instr.mapUpdate 172 (.map (some be)) (idV x) (qelV e)).run Tryz.prog w = .ok () (putObj w be (.map es' clk')) ∧ isQ (putObj w be (.map es' clk')) d bo be os (putI x e els) ∧ QOwn bo be R os (putI x e els) := by
  obtain ⟨es, clk, hmo⟩ := h.ho
  obtain ⟨es2, clk2, hme⟩ := h.he
  obtain ⟨es', clk', hrun, hm'⟩ := run_putI idKey hme Tryz.underlying172 x e
  have hoth : ∀ k, k ≠ be → (putObj w be (.map es' clk')).heap[k]? = w.heap[k]? := fun k hk => putObj_other hk
  have hR : ∀ k, R k → (putObj w be (.map es' clk')).heap[k]? = w.heap[k]? := fun k hk => hoth k (fun e => ho.re (e ▸ hk))
  refine ⟨es', clk', hrun, ⟨?_, ⟨es, clk, hmo.blockK (hoth bo ho.ne)⟩, ⟨es', clk', hm'⟩, ?_, ?_⟩, ⟨ho.ne, ho.ro, ho.re, ho.kv, ho.kk, ?_⟩⟩
  · rw [hoth d (fun e => by subst e; have h1 := h.hd; rw [hme.blk] at h1; cases h1)]; exact h.hd
  · intro p hp
    exact (h.hk p hp).blockK (fun b hb => hR b (ho.kv p hp b hb)) (fun k hk b hb => hR b (ho.kk p hp k hk b hb))
  · intro p hp
    rcases put_mem hp with hp | rfl
    · exact (h.hv p hp).blockK (fun b hb => hR b (ho.vals p hp b hb))
    · exact hv.blockK (fun b hb => hR b (hev b hb))
  · intro p hp b hb
    rcases put_mem hp with hp | rfl
    · exact ho.vals p hp b hb
    · exact hev b hb
end

set_option maxRecDepth 1000000 in
set_option maxHeartbeats 800000 in
theorem make_do {w : World} {d bo be : Nat} {R : Nat → Prop} {os : List (PId × CQObj)} {els : List (PId × CQEl)} (h : isQ w d bo be os els) (ho : QOwn bo be R os els) (lst : Bool) (x1 x2 : Int) :
    Calls Tryz.prog 305 #[.agg #[.bool lst], .pointer (some ⟨d, 0, none⟩), .agg #[.int .i64 x1, .int .i64 x2]] w fun e w' => (∃ r, e = .returned r) ∧ isQ w' d bo be (putI (x1, x2) ⟨lst, none, [], (0, 0)⟩ os) els ∧ QOwn bo be R (putI (x1, x2) ⟨lst, none, [], (0, 0)⟩ os) els ∧ Turned (fun k => k = bo) w w' := by
  have hb : Below w.heap.size w ((w.alloc (.cells #[.bool lst] 197)).alloc (.cells #[.int .i64 x1, .int .i64 x2] 36)).drew := (((Below.refl _ w).alloc (Nat.le_refl _) _).alloc (by simp) _).drew
  have c0 := h.c0
  have hd := h.lt
  obtain ⟨es', clk', hrun, hq, hown⟩ := (h.keep hb).putO ho (x1, x2) ⟨lst, none, [], (0, 0)⟩ ⟨.inl ⟨rfl, rfl⟩, fun p hp => by cases hp⟩ (fun b hb => by cases hb) (fun k hk => by cases hk)
  simp only [idV, qobjV] at hrun
  have HX := hid (And.intro hq (And.intro hown ((Turned.of_below hb).trans (Turned.put (S := fun k => k = bo) (.map es' clk') rfl))))
  clear h ho hq hown hb
  go_enter Tryz.func305, Tryz.ntmps305
  go_wp2
  go_region
  all_goals (try go_wp2)
  all_goals go_end0
  all_goals exact ⟨⟨_, rfl⟩, HX.out.1, HX.out.2.1, HX.out.2.2⟩

end Go.Proofs.YtnkpogjiiohapaaGreatDoor
