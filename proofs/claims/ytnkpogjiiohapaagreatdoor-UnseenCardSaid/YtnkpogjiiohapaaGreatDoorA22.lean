/- Our own text (GRepC, GBeyA). -/
import Derived.Test.YtnkpogjiiohapaaGreatDoorA21
import Derived.Test.YtnkpogjiiohapaaGreatDoorA16
set_option linter.unusedSimpArgs false
set_option linter.unusedVariables false

/-! GRepC: One copy of the program's room in general: hear. -/
namespace Go.Proofs.YtnkpogjiiohapaaGreatDoor
open Go.RowKit
attribute [local go_sem ↓] Go.wp_at_zero Go.wp_at_succ

/-- Operations that lie somewhere and stay: a message. -/
structure OpsAt (w : World) (I : Nat → Prop) (g off : Nat) (xs : List MOp) : Prop where
  cells : ∀ k (hk : k < xs.length), w.cell? ⟨g, off + k * 4, none⟩ = some (.int .i64 xs[k].op.id.1) ∧ w.cell? ⟨g, off + k * 4 + 1, none⟩ = some (.int .i64 xs[k].op.id.2) ∧ w.cell? ⟨g, off + k * 4 + 2, none⟩ = some (.int .i64 xs[k].op.nth) ∧ w.cell? ⟨g, off + k * 4 + 3, none⟩ = some (.iface xs[k].t xs[k].v)
  reg : I g
  off : off ≤ 100000
def opsV (w : World) (I : Nat → Prop) (v : Value) (xs : List MOp) : Prop := ∃ a cap, v = .slice a xs.length cap ∧ xs.length ≤ cap ∧ cap ≤ 9223372036854775807 ∧ (0 < xs.length → ∃ g off, a = some ⟨g, off, none⟩ ∧ OpsAt w I g off xs) ∧ ∀ x ∈ xs, isChgI w I (.iface x.t x.v) x.op.chg
theorem opsV.keepI {w w' : World} {I I' : Nat → Prop} {v : Value} {xs : List MOp} (h : opsV w I v xs) (hi : ∀ k, I k → w'.heap[k]? = w.heap[k]?) (hI : ∀ k, I k → I' k) : opsV w' I' v xs := by
  obtain ⟨a, cap, h1, h2, h3, h4, h5⟩ := h
  refine ⟨a, cap, h1, h2, h3, fun h0 => ?_, fun x hx => (h5 x hx).keepI hi hI⟩
  obtain ⟨g, off, hg, ho⟩ := h4 h0
  have hc : ∀ i, w'.cell? ⟨g, i, none⟩ = w.cell? ⟨g, i, none⟩ := fun i => by simp [World.cell?, hi g ho.reg]
  refine ⟨g, off, hg, ⟨fun k hk => ?_, hI _ ho.reg, ho.off⟩⟩
  rw [hc, hc, hc, hc]
  exact ho.cells k hk

def earlyAll (has : Nat → Int) (m : List (PId × MOp)) (xs : List MOp) : List (PId × MOp) := xs.foldl (fun m x => if has x.op.id.2.toNat < x.op.nth then putI (plOf x) x m else m) m
theorem early_snoc {has : Nat → Int} {m : List (PId × MOp)} {xs : List MOp} {k : Nat} (hk : k < xs.length) : earlyAll has m (xs.take (k + 1)) = if has xs[k].op.id.2.toNat < xs[k].op.nth then putI (plOf xs[k]) xs[k] (earlyAll has m (xs.take k)) else earlyAll has m (xs.take k) := by
  rw [List.take_succ_eq_append_getElem hk]
  unfold earlyAll
  rw [List.foldl_append]
  rfl
theorem early_mem {has : Nat → Int} : ∀ {xs : List MOp} {m : List (PId × MOp)} {p : PId × MOp}, p ∈ earlyAll has m xs → p ∈ m ∨ ∃ x ∈ xs, p = (plOf x, x)
  | [], m, p, h => .inl h
  | x :: xs, m, p, h => by
    have h' : p ∈ earlyAll has (if has x.op.id.2.toNat < x.op.nth then putI (plOf x) x m else m) xs := h
    rcases early_mem h' with h1 | ⟨y, hy, hp⟩
    · split at h1
      · rcases put_mem h1 with h2 | h2
        · exact .inl h2
        · exact .inr ⟨x, List.mem_cons_self, h2⟩
      · exact .inl h1
    · exact .inr ⟨y, List.mem_cons_of_mem _ hy, hp⟩
theorem early_keys {has : Nat → Int} : ∀ {xs : List MOp} {m : List (PId × MOp)}, (m.map (·.1)).Nodup → ((earlyAll has m xs).map (·.1)).Nodup
  | [], m, h => h
  | x :: xs, m, h => by
    refine early_keys (xs := xs) (m := if has x.op.id.2.toNat < x.op.nth then putI (plOf x) x m else m) ?_
    split
    · exact put_keys h
    · exact h

set_option maxRecDepth 1000000 in
set_option maxHeartbeats 2000000 in
theorem placeOf_q (a1 a2 an : Int) (ta : TypeId) (va : Value) (w : World) :
    Calls Tryz.prog 280 #[.agg #[.int .i64 a1, .int .i64 a2, .int .i64 an, .iface ta va]] w fun e w' => e = .returned (.agg #[.int .i64 a2, .int .i64 an]) ∧ Below w.heap.size w w' := by
  have HB := hid (((Below.refl w.heap.size w).alloc (Nat.le_refl _) (.cells #[.int .i64 a1, .int .i64 a2, .int .i64 an, .iface ta va] 210)).alloc (by simp) (.cells #[.int .i64 a2, .int .i64 an] 371))
  go_enter Tryz.func280, Tryz.ntmps280
  go_wp2_with fail
  refine bodyPost_ret (v := .agg #[.int .i64 a2, .int .i64 an]) (by simp [results, Tryz.results280, go_sem]) rfl ?_
  exact ⟨rfl, HB.out⟩

theorem owns_low {w : World} {B : Nat} {e : TypeId} {size : Nat} {v : Value} {n : Nat} {xs : List Value} (h : w.ownsRow B e size v n xs) : w.ownsRow 0 e size v n xs := by
  refine ⟨h.1, ?_⟩
  rcases h.2 with hn | ⟨g, cap, cur, rfl, hb, rest⟩
  · exact .inl hn
  · exact .inr ⟨g, cap, cur, rfl, Nat.zero_le _, rest⟩
theorem run_mem {m : List (PId × MOp)} {c : Int} {n : Int} {f : Nat} {x : MOp} (h : x ∈ runOf m c n f) : ∃ p ∈ m, p.2 = x := by
  obtain ⟨j, hj, rfl⟩ := List.mem_iff_getElem.1 h
  exact ⟨_, look_mem (run_get m c f n j hj), rfl⟩
theorem ready_mem {m : List (PId × MOp)} {has : Nat → Int} {n : Nat} {x : MOp} (h : x ∈ readyTo m has n) : ∃ p ∈ m, p.2 = x := by
  unfold readyTo at h
  obtain ⟨i, _, hx⟩ := List.mem_flatMap.1 h
  exact run_mem hx

set_option maxRecDepth 1000000 in
set_option maxHeartbeats 4000000 in
/-- HEAR: what came over a link. -/
theorem hear_any {w : World} {rb : Nat} {F I : Nat → Prop} {N sp c : Nat} {gt : Int} {has : Nat → Int} {ops : List MOp} {early : List (PId × MOp)} {q : RQ} (h : RepM w rb F I N sp c gt has ops early q) (xs : List MOp) {v : Value} (hv : opsV w I v xs) (hcp : ∀ x ∈ xs, 0 ≤ x.op.id.2 ∧ x.op.id.2 < N)
    (hnd : ((earlyAll has early xs).map (·.1)).Nodup) (hk60 : ∀ p ∈ earlyAll has early xs, p.1.2 ≤ 60) (hhas : ∀ i, i < N → 0 ≤ has i ∧ has i ≤ 1000)
    (hfin : ((readyTo (earlyAll has early xs) has N ++ ops).map fun o => o.op.id).Nodup) (hlen : ops.length + (readyTo (earlyAll has early xs) has N).length ≤ 300) (hcp2 : ∀ x ∈ readyTo (earlyAll has early xs) has N, 0 ≤ x.op.id.2 ∧ x.op.id.2 < N) :
    Calls Tryz.prog 309 #[.pointer (some ⟨rb, 0, none⟩), v] w fun e w' => (∃ r, e = .returned r) ∧ ∃ F' q' early', RepM w' rb F' I N sp c (gtAll gt (readyTo (earlyAll has early xs) has N)) (hasAll has (readyTo (earlyAll has early xs) has N)) (insAll ops (readyTo (earlyAll has early xs) has N)) early' q' ∧ CutOf (earlyAll has early xs) (goneTo (earlyAll has early xs) has N) early' ∧ sameQ q q' ∧ Keeps F F' w w' := by
  obtain ⟨av, cv, rfl, hlv, hcv, hat, hch⟩ := hv
  have hN4 := h.hN
  have HH := hid h; clear h
  have HV := hid (And.intro hat (And.intro hch hcp)); clear hat hch hcp
  have HK := hid (And.intro hnd (And.intro hk60 (And.intro hhas (And.intro hfin (And.intro hlen hcp2))))); clear hnd hk60 hhas hfin hlen hcp2
  go_enter Tryz.func309, Tryz.ntmps309
  go_wp2_with fail
  go_loopw [8] (fun i wr => ∃ k, k ≤ xs.length ∧ i = .int .i64 (k : Nat) ∧ RepM wr rb F I N sp c gt has ops (earlyAll has early (xs.take k)) q ∧ Turned (fun k => k = q.bE) w wr) (fun i _ => xs.length - (intOf i).toNat)
  case atStart => exact ⟨0, Nat.zero_le _, rfl, HH.out, Turned.of_below (Below.refl _ _)⟩
  case round =>
    obtain ⟨k, hkl, rfl, hM, hT⟩ := hrel
    by_cases hlt : k < xs.length
    · obtain ⟨g, off, rfl, hat⟩ := HV.out.1 (by omega)
      obtain ⟨e0, e1, e2, e3⟩ := hat.cells k hlt
      have hgI := hat.reg
      have hgl := HH.out.iI _ hgI
      have hgE : g ≠ q.bE := fun e => HH.out.nI _ hgI (e ▸ HH.out.fE)
      replace e0 := hT.cell hgE e0
      replace e1 := hT.cell hgE e1
      replace e2 := hT.cell hgE e2
      replace e3 := hT.cell hgE e3
      obtain ⟨hp0, hp1⟩ := HV.out.2.2 xs[k] (List.getElem_mem hlt)
      have HCH := hid (HV.out.2.1 xs[k] (List.getElem_mem hlt))
      have HSN := hid (early_snoc (has := has) (m := early) hlt)
      have hofl := hat.off
      have hk0 : (0 : Int) ≤ (k : Int) := Int.natCast_nonneg _
      have hk1 : (k : Int) < (xs.length : Int) := by omega
      obtain ⟨x, hxe⟩ : ∃ x, x = xs[k] := ⟨_, rfl⟩
      rw [← hxe] at e0 e1 e2 e3 hp0 hp1 HCH HSN
      clear hat hxe
      obtain ⟨cp, hcp⟩ : ∃ cp : Nat, x.op.id.2 = (cp : Int) := ⟨x.op.id.2.toNat, by omega⟩
      have hcpN : cp < N := by omega
      have hcp0 : (0 : Int) ≤ (cp : Int) := Int.natCast_nonneg _
      have hcp1 : (cp : Int) < (N : Int) := by omega
      obtain ⟨c0, c1, c2, c3, c4, c5⟩ := hM.cells
      clear c0 c1 c3 c5
      have c6 := hM.heardAt hcpN
      have HCE := hid hcp
      have HPE := hid (show plOf x = ((cp : Int), x.op.nth) by unfold plOf; rw [hcp])
      rw [show x.op.id.2.toNat = cp by omega] at HSN
      rw [hcp] at e1
      obtain ⟨ek, hek⟩ : ∃ ek, ek = earlyAll has early (xs.take k) := ⟨_, rfl⟩
      rw [← hek] at HSN hM
      clear hek
      have HM := hid (And.intro hM hT)
      have hrl := hM.lt _ hM.fr
      have hql := hM.lt _ hM.fg
      have hgw := Nat.lt_of_lt_of_le hgl hT.size
      obtain ⟨es, clk, hmap⟩ := hM.emap
      have HBA := hid ((Below.refl wr.heap.size wr).alloc (Nat.le_refl _) (.cells #[.int .i64 x.op.id.1, .int .i64 cp, .int .i64 x.op.nth, .iface x.t x.v] 210))
      have HX := hid (blk_new wr (.cells #[.int .i64 x.op.id.1, .int .i64 cp, .int .i64 x.op.nth, .iface x.t x.v] 210))
      have HMP := hid (fun W (hb : Below wr.heap.size wr W) => run_putI placeKey (hmap.keep hb) Tryz.underlying106 ((cp : Int), x.op.nth) x)
      clear hmap hM hT
      by_cases hnew : has cp < x.op.nth
      · rw [if_pos hnew] at HSN
        go_wp2_with fail
        go_quiet (fail)
        go_wp2_with fail
        have HBQ := hid (show Below wr.heap.size wr ((wr.alloc (.cells #[.int .i64 x.op.id.1, .int .i64 cp, .int .i64 x.op.nth, .iface x.t x.v] 210)).drewN nq) from below_drewN HBA.out _)
        have HXQ := hid (show ((wr.alloc (.cells #[.int .i64 x.op.id.1, .int .i64 cp, .int .i64 x.op.nth, .iface x.t x.v] 210)).drewN nq).heap[wr.heap.size]? = some (.cells #[.int .i64 x.op.id.1, .int .i64 cp, .int .i64 x.op.nth, .iface x.t x.v] 210 (0, 0)) from HX.out)
        obtain ⟨wq, hwq⟩ : ∃ wq, (wr.alloc (.cells #[.int .i64 x.op.id.1, .int .i64 cp, .int .i64 x.op.nth, .iface x.t x.v] 210)).drewN nq = wq := ⟨_, rfl⟩
        rw [hwq] at HBQ HXQ ⊢
        clear hwq
        obtain ⟨p0, p1, p2, p3⟩ := blk4 HXQ.out
        have d4 := keep HBQ.out c4
        clear c4 c2 c6 e0 e1 e2 e3
        go_region_with (first
          | (go_at_call 280; refine (placeOf_q _ _ _ _ _ _).mono ?_; rintro e w1 ⟨rfl, hb1⟩; have hb1' : Below wq.heap.size wq w1 := ⟨hb1.os, hb1.tape, hb1.output, hb1.size, hb1.block⟩; have HB1 := hid (HBQ.out.trans (hb1'.mono HBQ.out.size)); have d4' := keep hb1' d4; obtain ⟨p0', p1', p2', p3'⟩ := blk4 (blk_keep HXQ.out hb1'); obtain ⟨es', clk', hput, hm'⟩ := HMP.out w1 HB1.out; have HM' := hid hm'; simp only [idV, mopV, HCE.out] at hput; clear hb1 hb1' hm'))
        all_goals (try go_wp2_with fail)
        all_goals
          refine ⟨⟨k + 1, by omega, by go_num, ?_, ?_⟩, by simp [intOf]; omega⟩
          · rw [HSN.out, HPE.out]
            refine (HM.out.1.keep HB1.out).earlyTo (Turned.put _ rfl) ⟨_, _, HM'.out⟩ fun p hp => ?_
            rcases put_mem hp with hp | rfl
            · exact (HM.out.1.keep HB1.out).echg p hp
            · exact HCH.out.keepI (fun j hj => (HB1.out.block j (HM.out.1.iI j hj)).trans (HM.out.2.other j (HH.out.iI j hj) fun e => HH.out.nI j hj (e ▸ HH.out.fE))) (fun _ y => y)
          · exact HM.out.2.trans ((Turned.of_below HB1.out).trans (Turned.put _ rfl))
      · rw [if_neg hnew] at HSN
        go_wp2_with fail
        go_quiet (fail)
        go_wp2_with fail
        have hbq : Below wr.heap.size wr ((wr.alloc (.cells #[.int .i64 x.op.id.1, .int .i64 cp, .int .i64 x.op.nth, .iface x.t x.v] 210)).drewN nq) := below_drewN HBA.out _
        refine ⟨⟨k + 1, by omega, by go_num, ?_, HM.out.2.trans (Turned.of_below hbq)⟩, by simp [intOf]; omega⟩
        rw [HSN.out]
        exact HM.out.1.keep hbq
    · have hke : k = xs.length := by omega
      subst hke
      rw [List.take_length] at hM
      have HM := hid (And.intro hM hT); clear hM hT
      obtain ⟨h1, h2, h3, h4, h5, h6⟩ := HK.out
      have HRD := hid (ready_any HM.out.1 h1 h2 h3)
      clear h1 h2 h3 h4 h5 h6
      go_wp2_with fail
      refine HRD.out.mono ?_
      rintro e w1 ⟨v1, early1, rfl, ho1, hM1, hC1, hT1⟩
      obtain ⟨a1, n1, rfl, _, _, _⟩ := owns_form ho1
      have HR1 := hid (And.intro ho1 (And.intro hM1 (And.intro hC1 hT1))); clear ho1 hM1 hC1 hT1
      have HHV := hid (have_any HR1.out.2.1 (readyTo (earlyAll has early xs) has N) HK.out.2.2.2.1 HK.out.2.2.2.2.1 HK.out.2.2.2.2.2 (.slice a1 (readyTo (earlyAll has early xs) has N).length n1) (owns_low HR1.out.1) (fun k hk hF => by
        have h1 := (World.ownsRow.lt HR1.out.1 k hk).1
        have h2 := HM.out.1.lt k hF
        omega) (fun x hx => by
        obtain ⟨p, hp, rfl⟩ := ready_mem hx
        exact (HM.out.1.echg p hp).keepI (fun j hj => HR1.out.2.2.2.other j (HM.out.1.iI j hj) fun e => HM.out.1.nI j hj (e ▸ HM.out.1.fE)) (fun _ y => y)))
      go_wp2_with fail
      refine HHV.out.mono ?_
      rintro e w2 ⟨⟨r, rfl⟩, F', q', hM2, hD2, hK2⟩
      have HR2 := hid (And.intro hM2 (And.intro hD2 hK2)); clear hM2 hD2 hK2
      go_wp2
      go_end0
      refine ⟨⟨_, rfl⟩, F', q', early1, HR2.out.1, HR1.out.2.2.1, HR2.out.2.1, ?_⟩
      have hT := HM.out.2.trans HR1.out.2.2.2
      have hK := HR2.out.2.2
      exact ⟨hK.os.trans hT.os, hK.tape.trans hT.tape, hK.output.trans hT.output, Nat.le_trans hT.size hK.size, fun k hk hF => (hK.other k (Nat.lt_of_lt_of_le hk hT.size) hF).trans (hT.other k hk fun e => hF (e ▸ HH.out.fE)), fun k hk => (hK.sub k hk).imp id fun y => Nat.le_trans hT.size y⟩

end Go.Proofs.YtnkpogjiiohapaaGreatDoor

/-! GBeyA: What a copy has beyond what is known: the history's operations. -/
namespace Go.Proofs.YtnkpogjiiohapaaGreatDoor
open Go.RowKit
attribute [local go_sem ↓] Go.wp_at_zero Go.wp_at_succ

/-- How many are known of each copy: a row of numbers. -/
structure isKn (w : World) (g cap N : Nat) (known : Nat → Int) : Prop where
  cells : ∀ i, i < N → w.cell? ⟨g, i, none⟩ = some (.int .i64 (known i))
  capL : N ≤ cap
  capM : cap ≤ 9223372036854775807
  lt : g < w.heap.size
theorem isKn.keep {w w' : World} {g cap N : Nat} {known : Nat → Int} (h : isKn w g cap N known) (hb : Below w.heap.size w w') : isKn w' g cap N known :=
  ⟨fun i hi => Go.Proofs.YtnkpogjiiohapaaGreatDoor.keep hb (h.cells i hi), h.capL, h.capM, Nat.lt_of_lt_of_le h.lt hb.size⟩

def isBey (known : Nat → Int) (o : MOp) : Bool := decide (known o.op.id.2.toNat < o.op.nth)
theorem filter_snoc {α : Type} {f : α → Bool} {l : List α} {k : Nat} (hk : k < l.length) : (l.take (k + 1)).filter f = (l.take k).filter f ++ if f l[k] then [l[k]] else [] := by
  rw [List.take_succ_eq_append_getElem hk, List.filter_append]
  cases h : f l[k] <;> simp [h]

set_option maxRecDepth 1000000 in
set_option maxHeartbeats 4000000 in
/-- BEYOND: by copies, then by places. -/
theorem histBeyond_any {w : World} {hb sp su : Nat} {vo vr : Value} {ops : List MOp} {n : Nat} {rs : List RDoc} {d bo be : Nat} {F I : Nat → Prop} {D0 : BDoc} {D : QDoc} (h : HistG w hb sp su vo vr ops n rs d bo be F I D0 D) {gk ck N : Nat} {known : Nat → Int} (hk : isKn w gk ck N known) (hN : N ≤ 4) (hcp : ∀ x ∈ ops, 0 ≤ x.op.id.2 ∧ x.op.id.2 < N) (hnd : (ops.map plOf).Nodup) :
    Calls Tryz.prog 276 #[.pointer (some ⟨hb, 0, none⟩), .slice (some ⟨gk, 0, none⟩) N ck] w fun e w' => ∃ v ls, e = .returned v ∧ ownMOps w.heap.size w' v ls ∧ ls.Perm (ops.filter (isBey known)) ∧ AscP ls ∧ Below w.heap.size w w' := by
  have hx := h.blk
  unfold isHs at hx
  obtain ⟨c0, c1, c2, c3, c4⟩ := blk5 hx
  clear c0 c1 c3 c4
  have hlen := h.len
  obtain ⟨a, c, rfl, hlc, hcm, hf⟩ := owns_form h.row
  unfold maxLen at hcm
  have HF := hid hf
  have HH := hid (And.intro h (And.intro hk (And.intro hcp hnd))); clear h hk hcp hnd hx hf
  have hck := HH.out.2.1.capL
  have hck2 := HH.out.2.1.capM
  go_enter Tryz.func276, Tryz.ntmps276
  go_wp2_with fail
  go_loopw [5, 13] (fun v i wr => ∃ k, k ≤ ops.length ∧ i = .int .i64 (k : Nat) ∧ ownMOps w.heap.size wr v ((ops.take k).filter (isBey known)) ∧ Below w.heap.size w wr) (fun _ i _ => ops.length - (intOf i).toNat)
  case atStart => exact ⟨0, Nat.zero_le _, rfl, (show ownMOps w.heap.size w (.slice none 0 0) [] from World.ownsRow_nil _ _ _ _), Below.refl _ _⟩
  case round =>
    obtain ⟨k, hkl, rfl, hown, hbel⟩ := hrel
    by_cases hlt : k < ops.length
    · obtain ⟨g, rfl⟩ := HF.out k hlt
      obtain ⟨e0, e1, e2, e3⟩ := ownMOps.cells (owns_keep HH.out.1.row hbel) k hlt
      obtain ⟨hp0, hp1⟩ := HH.out.2.2.1 ops[k] (List.getElem_mem hlt)
      have HSN := hid (filter_snoc (f := isBey known) hlt)
      obtain ⟨x, hxe⟩ : ∃ x, x = ops[k] := ⟨_, rfl⟩
      rw [← hxe] at e0 e1 e2 e3 hp0 hp1 HSN
      obtain ⟨cp, hcp⟩ : ∃ cp : Nat, x.op.id.2 = (cp : Int) := ⟨x.op.id.2.toNat, by omega⟩
      have hcpN : cp < N := by omega
      have hcp0 : (0 : Int) ≤ (cp : Int) := Int.natCast_nonneg _
      have hcp1 : (cp : Int) < (N : Int) := by omega
      have kc := (HH.out.2.1.keep hbel).cells cp hcpN
      have hkl2 := (HH.out.2.1.keep hbel).lt
      have hbz := hbel.size
      have hgl : g < wr.heap.size := World.block_lt_of_cell? wr _ e0
      have hk0 : (0 : Int) ≤ (k : Int) := Int.natCast_nonneg _
      have hk1 : (k : Int) < (ops.length : Int) := by omega
      have HX := hid hxe; clear hxe
      rw [hcp] at e1
      have HOWN := hid hown; clear hown
      have HBEL := hid hbel; clear hbel
      have hnk := World.new_ne wr ⟨gk, cp, none⟩ kc
      have HBD := hid (show isBey known x = decide (known cp < x.op.nth) by unfold isBey; rw [hcp]; rfl)
      have HCP := hid hcp
      obtain ⟨acc, hacc⟩ : ∃ acc, acc = (ops.take k).filter (isBey known) := ⟨_, rfl⟩
      rw [← hacc] at HOWN HSN
      have hal : acc.length ≤ 300 := by
        rw [hacc]
        have h1 := List.length_filter_le (isBey known) (ops.take k)
        rw [List.length_take] at h1
        omega
      clear hacc
      obtain ⟨av, cv, rfl, hlv, hcv, hfv⟩ := owns_form HOWN.out
      clear hfv
      unfold maxLen at hcv
      by_cases hbey : known cp < x.op.nth
      · rw [HBD.out, decide_eq_true hbey, if_pos rfl] at HSN
        have HBA := hid (show Below wr.heap.size wr ((wr.alloc (.cells #[.int .i64 x.op.id.1, .int .i64 cp, .int .i64 x.op.nth, .iface x.t x.v] 210)).alloc (.cells #[.int .i64 x.op.id.1, .int .i64 cp, .int .i64 x.op.nth, .iface x.t x.v] 210)).drew from (((Below.refl wr.heap.size wr).alloc (Nat.le_refl _) _).alloc (by simp) _).drew)
        have HCN := hid (show ∀ j u, (mopC x)[j]? = some u → ((wr.alloc (.cells #[.int .i64 x.op.id.1, .int .i64 cp, .int .i64 x.op.nth, .iface x.t x.v] 210)).alloc (.cells #[.int .i64 x.op.id.1, .int .i64 cp, .int .i64 x.op.nth, .iface x.t x.v] 210)).drew.cell? ⟨wr.heap.size + 1, j, none⟩ = some u by
          have hb := boxed4 (wr.alloc (.cells #[.int .i64 x.op.id.1, .int .i64 cp, .int .i64 x.op.nth, .iface x.t x.v] 210)) (.int .i64 x.op.id.1) (.int .i64 cp) (.int .i64 x.op.nth) (.iface x.t x.v) 210
          rw [show (wr.alloc (.cells #[.int .i64 x.op.id.1, .int .i64 cp, .int .i64 x.op.nth, .iface x.t x.v] 210)).heap.size = wr.heap.size + 1 by simp] at hb
          exact cells_mop (w := (_ : World).drew) hb.1 (HCP.out ▸ hb.2.1) hb.2.2.1 hb.2.2.2)
        clear hcp
        go_wp2_with fail
        go_region
        go_wp2_with (first
          | (at_builtin; refine app_one_at mopC 4 40 202 210 (.agg #[.int .i64 0, .int .i64 0, .int .i64 0, .nilIface]) (by kernel_rfl) Tryz.underlying202 rfl (by omega) (fun _ => rfl) rfl (.tmp 26) (.tmp 28) rfl w.heap.size (.slice av acc.length cv) acc rfl (owns_keep HOWN.out HBA.out) (wr.heap.size + 1) 1 x rfl HCN.out (wf_mop x) (by omega) (by unfold maxLen; omega) (by have := HBA.out.size; omega) ?_; intro v' w10 ho10 hg10 hn10; have HO10 := hid ho10; have HG10 := hid hg10; clear ho10 hg10 hn10)
          | fail)
        refine ⟨⟨k + 1, by omega, by go_num, ?_, ?_⟩, by simp [intOf]; omega⟩
        · rw [HSN.out]
          show w10.ownsRow w.heap.size 210 4 v' (acc ++ [x]).length ((acc ++ [x]).flatMap mopC)
          rw [List.length_append]
          exact HO10.out
        · have hb2 := HBEL.out.trans (HBA.out.mono HBEL.out.size)
          exact hb2.grown HG10.out hb2.size (fun k hk => (World.ownsRow.lt HOWN.out k hk).1)
      · rw [HBD.out, decide_eq_false hbey] at HSN
        clear hcp
        go_wp2_with fail
        go_region
        go_wp2_with fail
        have hbq : Below wr.heap.size wr (wr.alloc (.cells #[.int .i64 x.op.id.1, .int .i64 cp, .int .i64 x.op.nth, .iface x.t x.v] 210)).drew := ((Below.refl wr.heap.size wr).alloc (Nat.le_refl _) _).drew
        refine ⟨⟨k + 1, by omega, by go_num, ?_, HBEL.out.trans (hbq.mono HBEL.out.size)⟩, by simp [intOf]; omega⟩
        rw [HSN.out]
        rw [if_neg (by decide), List.append_nil]
        exact owns_keep HOWN.out hbq
    · have hke : k = ops.length := by omega
      subst hke
      rw [List.take_length] at hown
      obtain ⟨av, cv, rfl, _, _, _⟩ := owns_form hown
      have HSO := hid (sortOps_q hown (List.Nodup.sublist (List.filter_sublist.map _) HH.out.2.2.2) (by have := List.length_filter_le (isBey known) ops; omega))
      have HOWN := hid hown; clear hown
      have HBEL := hid hbel; clear hbel
      go_wp2_with fail
      refine HSO.out.mono ?_
      rintro e w1 ⟨rfl, ls, hp, ha, ho, hg⟩
      have HX := hid (And.intro hp (And.intro ha (And.intro ho hg))); clear hp ha ho hg
      go_wp2
      go_ret
      obtain ⟨hp, ha, ho, hg⟩ := HX.out
      exact ⟨_, ls, rfl, ho, hp, ha, HBEL.out.grown hg HBEL.out.size (fun k hk => (World.ownsRow.lt HOWN.out k hk).1)⟩

end Go.Proofs.YtnkpogjiiohapaaGreatDoor
