/- Our own text (GChunkB). -/
import Derived.Test.YtnkpogjiiohapaaGreatDoorA24
import Derived.Test.YtnkpogjiiohapaaGreatDoorA03
set_option linter.unusedSimpArgs false
set_option linter.unusedVariables false

/-! GChunkB: slices.Chunk at places: the iterator. -/
namespace Go.Proofs.YtnkpogjiiohapaaGreatDoor
open Go.RowKit
attribute [local go_sem] Oper.semAt_some

/-- Some blocks stay as they are. -/
def KpC (S : Nat → Prop) (W W' : World) : Prop := ∀ k, S k → W'.heap[k]? = W.heap[k]?
theorem KpC.trans {S : Nat → Prop} {A B C : World} (h : KpC S A B) (k : KpC S B C) : KpC S A C := fun i hi => (k i hi).trans (h i hi)
theorem KpC.cell {S : Nat → Prop} {A B : World} (h : KpC S A B) {g i : Nat} (hg : S g) {v : Value} (hc : A.cell? ⟨g, i, none⟩ = some v) : B.cell? ⟨g, i, none⟩ = some v := by
  unfold World.cell? at hc ⊢
  simp only at hc ⊢
  rw [h g hg]
  exact hc

def chunks (len : Nat) : Nat := (len + 7) / 8
def chunkLen (len m : Nat) : Nat := min 8 (len - m)
def chunkV (g len m : Nat) : Value := .slice (some ⟨g, m * 2, none⟩) (chunkLen len m) (chunkLen len m)
abbrev ChunkOf (len : Nat) := { k : Nat // k < chunks len }

set_option maxRecDepth 100000 in
set_option maxHeartbeats 2000000 in
theorem chunk1_in (F : Fence) (n : Nat) (h6 : F.fn 283) (hro : F.round = none) (hn : 1 ≤ n) (l Bs Bn g len cap : Nat) (hlen : len ≤ 1000) (hcap : len ≤ cap) (hcap2 : cap ≤ maxLen) (a : Option Addr) (ha : 0 < len → a = some ⟨g, 0, none⟩) (S : Nat → Prop) (hS : S Bs) (hSn : S Bn) (J Jx : List (ChunkOf len) → World → Prop)
    (hY : ∀ pre x W, J pre W → pre.length < chunks len → YieldAt F (n - 1) Tryz.prog l #[chunkV g len (8 * x.1)] W fun e W' =>
      (e = .returned (.bool true) ∧ J (pre ++ [x]) W' ∧ KpC S W W') ∨ (e = .returned (.bool false) ∧ Jx (pre ++ [x]) W'))
    (W : World) (hJ : AbidesFrom W.heap.size J) (hBs : W.cell? ⟨Bs, 0, none⟩ = some (.slice a len cap)) (hBn : W.cell? ⟨Bn, 0, none⟩ = some (.int .i64 8)) (h0 : J [] W) :
    CallsIn F n Tryz.prog 283 #[.func (.yield l) #[] #[], .pointer (some ⟨Bs, 0, none⟩), .pointer (some ⟨Bn, 0, none⟩)] W fun e W' => (∃ v, e = .returned v) ∧
      ((∃ ys : List (ChunkOf len), ys.map (·.1) = List.range (chunks len) ∧ J ys W') ∨ (∃ pre : List (ChunkOf len), (∃ k, k ≤ chunks len ∧ pre.map (·.1) = List.range k) ∧ Jx pre W')) := by
  refine callsIn_of_wp Tryz.func283 rfl h6 ?_ hro
  simp only [Tryz.ntmps283, List.size_toArray, List.length_cons, List.length_nil, Nat.reduceAdd, Nat.reduceSub, Array.replicate_succ, Array.replicate_zero, List.push_toArray, List.append_toArray, List.nil_append, List.cons_append]
  gi_wp2
  gi_loopw [4] (fun i wr => ∃ (m k : Nat) (pre : List (ChunkOf len)), Hid (m = 8 * k) ∧ k ≤ chunks len ∧ i = .int .i64 (m : Int) ∧ pre.map (·.1) = List.range k ∧ J pre wr ∧ KpC S W wr)
    (fun i _ => len + 8 - (intOf i).toNat)
  case atStart => exact ⟨0, 0, [], hid rfl, Nat.zero_le _, rfl, rfl, h0, fun _ _ => rfl⟩
  case round =>
    obtain ⟨m, k, pre, HM, hk, rfl, hpre, hJs, hnx⟩ := hrel
    have c1 := hnx.cell hS hBs
    have c2 := hnx.cell hSn hBn
    have hpl : pre.length = k := by have := congrArg List.length hpre; simpa using this
    by_cases hlt : k < chunks len
    · have hJd : J pre wr.drew := hJ pre wr _ none hJs ⟨rfl, rfl, rfl, Nat.le_refl _, fun _ _ _ => rfl⟩ (fun r e => by cases e)
      obtain ⟨fn, tmps, assign, body, hy, hR⟩ := hY pre ⟨k, hlt⟩ wr.drew hJd (by omega)
      have hml : m < len := by have := HM.out; unfold chunks at hlt; omega
      obtain rfl := ha (by omega)
      rw [← HM.out] at hy
      have hy' := hy
      unfold chunkV at hy'
      obtain ⟨cl, hcl⟩ : ∃ cl, cl = chunkLen len m := ⟨_, rfl⟩
      rw [← hcl] at hy'
      have hcl0 : cl ≤ 8 := by rw [hcl]; unfold chunkLen; omega
      have hcl1 : m + cl ≤ len := by rw [hcl]; unfold chunkLen; omega
      have hq0 : (0 : Int) ≤ (m : Int) := Int.natCast_nonneg _
      have hq1 : (m : Int) < (len : Int) := by omega
      have hcle : min (8 : Int) ((len - m : Nat) : Int) = (cl : Int) := by rw [hcl]; unfold chunkLen; omega
      have hto : ((m : Int) + (cl : Int)).toNat - m = cl := by omega
      clear hy
      have HCL := hid hcl; clear hcl
      gi_wp2
      gi_region
      all_goals gi_wp2
      all_goals refine hR.mono ?_
      all_goals clear hR hJd hy'
      all_goals
        rintro e W3 (⟨rfl, hJ3, hk3⟩ | ⟨rfl, hJx3⟩)
        · replace c2 := hk3.cell hSn (show wr.drew.cell? _ = _ from c2)
          have HX := hid (And.intro hJ3 (And.intro hk3 (And.intro hnx hpre)))
          clear hJ3 hk3 hnx hpre c1
          gi_wp2
          go_roundw
          case rel => exact ⟨m + 8, k + 1, pre ++ [⟨k, hlt⟩], hid (by have := HM.out; omega), hlt, by go_num, by rw [List.map_append, HX.out.2.2.2, List.range_succ]; rfl, HX.out.1, HX.out.2.2.1.trans HX.out.2.1⟩
          case measure => simp [intOf]; omega
        · have HX := hid (And.intro hJx3 hpre)
          clear hJx3 hpre c1 c2
          gi_wp2
          refine bodyPost_ret (results_none rfl _ _ _) rfl ?_
          exact ⟨⟨_, rfl⟩, .inr ⟨_, ⟨k + 1, hlt, by rw [List.map_append, HX.out.2, List.range_succ]; rfl⟩, HX.out.1⟩⟩
    · have hge : ¬ (m : Int) < (len : Int) := by have := HM.out; unfold chunks at hlt; omega
      have hkm : k = chunks len := by omega
      have HX := hid (And.intro hpre (And.intro hJs hkm)); clear hpre hJs hkm
      gi_wp2
      go_end0
      obtain ⟨h1, h2, h3⟩ := HX.out
      exact ⟨⟨_, rfl⟩, .inl ⟨pre, h1.trans (congrArg List.range h3), h2⟩⟩

set_option maxRecDepth 100000 in
set_option maxHeartbeats 1000000 in
theorem chunk_in (F : Fence) (n : Nat) (h5 : F.fn 277) (hro : F.round = none) (a : Option Addr) (len cap : Nat) (w : World) :
    CallsIn F n Tryz.prog 277 #[.slice a len cap, .int .i64 8] w fun e w' => e = .returned (.func (.func 283) #[] #[.pointer (some ⟨w.heap.size, 0, none⟩), .pointer (some ⟨w.heap.size + 1, 0, none⟩)]) ∧ w' = (w.alloc (.cells #[.slice a len cap] 378)).alloc (.cells #[.int .i64 8] 3) := by
  refine callsIn_of_wp Tryz.func277 rfl h5 ?_ hro
  simp only [Tryz.ntmps277, List.size_toArray, List.length_cons, List.length_nil, Nat.reduceAdd, Nat.reduceSub, Array.replicate_succ, Array.replicate_zero, List.push_toArray, List.append_toArray, List.nil_append, List.cons_append]
  gi_wp2
  go_ret
  exact ⟨rfl, rfl⟩

/-- CHUNKS: each in its turn. -/
theorem chunk_stops (F : Fence) (n : Nat) (h6 : F.fn 283) (hro : F.round = none) (hn : 1 ≤ n) (Bs Bn g len cap : Nat) (hlen : len ≤ 1000) (hcap : len ≤ cap) (hcap2 : cap ≤ maxLen) (a : Option Addr) (ha : 0 < len → a = some ⟨g, 0, none⟩) (S : Nat → Prop) (hS : S Bs) (hSn : S Bn) (w : World) (hBs : w.cell? ⟨Bs, 0, none⟩ = some (.slice a len cap)) (hBn : w.cell? ⟨Bn, 0, none⟩ = some (.int .i64 8)) :
    SeqStopsK F n Tryz.prog 283 #[.pointer (some ⟨Bs, 0, none⟩), .pointer (some ⟨Bn, 0, none⟩)] (fun x : ChunkOf len => #[chunkV g len (8 * x.1)]) (KpC S) (fun ys => ys.map (·.1) = List.range (chunks len)) (fun pre => ∃ k, k ≤ chunks len ∧ pre.map (·.1) = List.range k) (chunks len) w := fun l J Jx W hW hJ _ hY h0 =>
  chunk1_in F n h6 hro hn l Bs Bn g len cap hlen hcap hcap2 a ha S hS hSn J Jx hY W hJ (Go.Proofs.YtnkpogjiiohapaaGreatDoor.keep hW hBs) (Go.Proofs.YtnkpogjiiohapaaGreatDoor.keep hW hBn) h0

end Go.Proofs.YtnkpogjiiohapaaGreatDoor
