/- Our own text (GGhA, GGhB, GRoomD, GRoomE). -/
import Derived.Test.YtnkpogjiiohapaaGreatDoorA22
import Derived.Test.YtnkpogjiiohapaaGreatDoorA27
set_option linter.unusedSimpArgs false
set_option linter.unusedVariables false

/-! GGhA: Plain: what copies have made, and what each of them has of it. -/
namespace Go.Proofs.YtnkpogjiiohapaaGreatDoor

/-- WHAT THE COPIES HAVE MADE: each its own operations, in their order. -/
structure MadeOk (N : Nat) (M : Nat → List MOp) : Prop where
  id : ∀ c, c < N → ∀ i (hi : i < (M c).length), (M c)[i].op.id.2 = (c : Int) ∧ (M c)[i].op.nth = (i : Int) + 1 ∧ 1 ≤ (M c)[i].op.id.1
  len : ∀ c, c < N → (M c).length ≤ 60
  asc : ∀ c, c < N → (M c).Pairwise fun a b => a.op.id.1 < b.op.id.1
/-- One of them. -/
def isMade (N : Nat) (M : Nat → List MOp) (x : MOp) : Prop := ∃ c, c < N ∧ x ∈ M c
/-- The first so many of each. -/
def firsts (M : Nat → List MOp) (has : Nat → Int) (N : Nat) : List MOp := (List.range N).flatMap fun (c : Nat) => (M c).take (has c).toNat
/-- WHAT A COPY HAS. -/
structure CopyOk (N : Nat) (M : Nat → List MOp) (gt : Int) (has : Nat → Int) (ops : List MOp) (early : List (PId × MOp)) : Prop where
  hasL : ∀ c, c < N → 0 ≤ has c ∧ has c ≤ (M c).length
  perm : ops.Perm (firsts M has N)
  gtL : ∀ o ∈ ops, o.op.id.1 ≤ gt
  earlyL : ∀ p ∈ early, isMade N M p.2 ∧ p.1 = plOf p.2
  keysL : (early.map (·.1)).Nodup

theorem firsts_succ (M : Nat → List MOp) (has : Nat → Int) (n : Nat) : firsts M has (n + 1) = firsts M has n ++ (M n).take (has n).toNat := by
  unfold firsts
  rw [List.range_succ, List.flatMap_append]
  simp
theorem mem_firsts {M : Nat → List MOp} {has : Nat → Int} {n : Nat} {x : MOp} : x ∈ firsts M has n ↔ ∃ c, c < n ∧ x ∈ (M c).take (has c).toNat := by
  unfold firsts
  simp [List.mem_flatMap]
theorem firsts_congr {M M' : Nat → List MOp} {has has' : Nat → Int} : ∀ {n : Nat}, (∀ c, c < n → (M c).take (has c).toNat = (M' c).take (has' c).toNat) → firsts M has n = firsts M' has' n
  | 0, _ => rfl
  | n + 1, h => by rw [firsts_succ, firsts_succ, firsts_congr fun c hc => h c (by omega), h n (by omega)]

section
theorem MadeOk.nodup {N : Nat} {M : Nat → List MOp} (hM : MadeOk N M) {c : Nat} (hc : c < N) : (M c).Nodup := (hM.asc c hc).imp fun {a b} h e => by rw [e] at h; omega
theorem MadeOk.at {N : Nat} {M : Nat → List MOp} (hM : MadeOk N M) {x : MOp} {c : Nat} (hc : c < N) (hx : x ∈ M c) : ∃ i, ∃ hi : i < (M c).length, x = (M c)[i] ∧ x.op.id.2 = (c : Int) ∧ x.op.nth = (i : Int) + 1 ∧ 1 ≤ x.op.id.1 := by
  obtain ⟨i, hi, rfl⟩ := List.mem_iff_getElem.1 hx
  obtain ⟨h1, h2, h3⟩ := hM.id c hc i hi
  exact ⟨i, hi, rfl, h1, h2, h3⟩
/-- Each has an Id and a place of its own. -/
theorem MadeOk.byPl {N : Nat} {M : Nat → List MOp} (hM : MadeOk N M) {x y : MOp} (hx : isMade N M x) (hy : isMade N M y) (h : plOf x = plOf y) : x = y := by
  obtain ⟨c, hc, hx⟩ := hx
  obtain ⟨d, hd, hy⟩ := hy
  obtain ⟨i, hi, e1, a1, a2, _⟩ := hM.at hc hx
  obtain ⟨j, hj, e2, b1, b2, _⟩ := hM.at hd hy
  unfold plOf at h
  injection h with h1 h2
  have hcd : c = d := by omega
  subst hcd
  have hij : i = j := by omega
  subst hij
  rw [e1, e2]
theorem MadeOk.byId {N : Nat} {M : Nat → List MOp} (hM : MadeOk N M) {x y : MOp} (hx : isMade N M x) (hy : isMade N M y) (h : x.op.id = y.op.id) : x = y := by
  obtain ⟨c, hc, hx⟩ := hx
  obtain ⟨d, hd, hy⟩ := hy
  obtain ⟨i, hi, e1, a1, a2, _⟩ := hM.at hc hx
  obtain ⟨j, hj, e2, b1, b2, _⟩ := hM.at hd hy
  have hcd : c = d := by rw [h] at a1; omega
  subst hcd
  rcases Nat.lt_trichotomy i j with hl | hl | hl
  · have := List.pairwise_iff_getElem.1 (hM.asc c hc) i j hi hj hl
    rw [← e1, ← e2, h] at this
    omega
  · subst hl; rw [e1, e2]
  · have := List.pairwise_iff_getElem.1 (hM.asc c hc) j i hj hi hl
    rw [← e1, ← e2, h] at this
    omega
end
theorem MadeOk.nodupTo {N : Nat} {M : Nat → List MOp} (hM : MadeOk N M) {has : Nat → Int} : ∀ {n : Nat}, n ≤ N → (firsts M has n).Nodup
  | 0, _ => by simp [firsts]
  | n + 1, hn => by
    rw [firsts_succ]
    refine List.nodup_append.2 ⟨MadeOk.nodupTo hM (n := n) (by omega), (hM.nodup (c := n) (by omega)).sublist (List.take_sublist _ _), fun a ha b hb e => ?_⟩
    subst e
    obtain ⟨c, hc, hx⟩ := mem_firsts.1 ha
    obtain ⟨_, _, _, a1, _⟩ := hM.at (c := c) (by omega) (List.mem_of_mem_take hx)
    obtain ⟨_, _, _, b1, _⟩ := hM.at (c := n) (by omega) (List.mem_of_mem_take hb)
    omega
theorem MadeOk.lenTo {N : Nat} {M : Nat → List MOp} (hM : MadeOk N M) {has : Nat → Int} : ∀ {n : Nat}, n ≤ N → (firsts M has n).length ≤ n * 60
  | 0, _ => by simp [firsts]
  | n + 1, hn => by
    have h1 := MadeOk.lenTo hM (has := has) (n := n) (by omega)
    have h2 := hM.len n (by omega)
    rw [firsts_succ, List.length_append, Nat.add_mul]
    have : ((M n).take (has n).toNat).length ≤ (M n).length := by rw [List.length_take]; omega
    omega

section
theorem CopyOk.made {N : Nat} {M : Nat → List MOp} {gt : Int} {has : Nat → Int} {ops : List MOp} {early : List (PId × MOp)} (h : CopyOk N M gt has ops early) {x : MOp} (hx : x ∈ ops) : isMade N M x := by
  obtain ⟨c, hc, hm⟩ := mem_firsts.1 (h.perm.mem_iff.1 hx)
  exact ⟨c, hc, List.mem_of_mem_take hm⟩
theorem CopyOk.nd {N : Nat} {M : Nat → List MOp} {gt : Int} {has : Nat → Int} {ops : List MOp} {early : List (PId × MOp)} (hM : MadeOk N M) (h : CopyOk N M gt has ops early) : ops.Nodup := h.perm.nodup_iff.2 (hM.nodupTo (Nat.le_refl _))
theorem CopyOk.ndPl {N : Nat} {M : Nat → List MOp} {gt : Int} {has : Nat → Int} {ops : List MOp} {early : List (PId × MOp)} (hM : MadeOk N M) (h : CopyOk N M gt has ops early) : (ops.map plOf).Nodup := by
  refine List.pairwise_map.2 (List.Pairwise.imp_of_mem (fun {a b} ha hb hne e => hne ?_) (h.nd hM))
  exact hM.byPl (h.made ha) (h.made hb) e
theorem CopyOk.ndId {N : Nat} {M : Nat → List MOp} {gt : Int} {has : Nat → Int} {ops : List MOp} {early : List (PId × MOp)} (hM : MadeOk N M) (h : CopyOk N M gt has ops early) : (ops.map fun o => o.op.id).Nodup := by
  refine List.pairwise_map.2 (List.Pairwise.imp_of_mem (fun {a b} ha hb hne e => hne ?_) (h.nd hM))
  exact hM.byId (h.made ha) (h.made hb) e
theorem CopyOk.len {N : Nat} {M : Nat → List MOp} {gt : Int} {has : Nat → Int} {ops : List MOp} {early : List (PId × MOp)} (hM : MadeOk N M) (h : CopyOk N M gt has ops early) : ops.length ≤ N * 60 := by rw [h.perm.length_eq]; exact hM.lenTo (Nat.le_refl _)
theorem CopyOk.copy {N : Nat} {M : Nat → List MOp} {gt : Int} {has : Nat → Int} {ops : List MOp} {early : List (PId × MOp)} (hM : MadeOk N M) (h : CopyOk N M gt has ops early) {x : MOp} (hx : x ∈ ops) : 0 ≤ x.op.id.2 ∧ x.op.id.2 < N := by
  obtain ⟨c, hc, hm⟩ := h.made hx
  obtain ⟨_, _, _, a1, _⟩ := hM.at hc hm
  omega
/-- The operations of a copy are no secret: it has them just where their place is within what it has. -/
theorem CopyOk.mem {N : Nat} {M : Nat → List MOp} {gt : Int} {has : Nat → Int} {ops : List MOp} {early : List (PId × MOp)} (hM : MadeOk N M) (h : CopyOk N M gt has ops early) {x : MOp} (hx : isMade N M x) : x ∈ ops ↔ x.op.nth ≤ has x.op.id.2.toNat := by
  rw [h.perm.mem_iff, mem_firsts]
  obtain ⟨c, hc, hm⟩ := hx
  obtain ⟨i, hi, e, a1, a2, _⟩ := hM.at hc hm
  have hcc : x.op.id.2.toNat = c := by omega
  rw [hcc]
  constructor
  · rintro ⟨d, hd, hm'⟩
    obtain ⟨j, hj, e', b1, b2, _⟩ := hM.at (c := d) hd (List.mem_of_mem_take hm')
    have hdc : d = c := by omega
    subst hdc
    obtain ⟨k, hk, ek⟩ := List.mem_iff_getElem.1 hm'
    rw [List.length_take] at hk
    have hkm : k < (M d).length := by omega
    have : (M d)[k] = x := by rw [← ek, List.getElem_take]
    obtain ⟨_, b3, _⟩ := hM.id d hd k hkm
    rw [this] at b3
    omega
  · intro hn
    refine ⟨c, hc, List.mem_iff_getElem.2 ⟨i, ?_, ?_⟩⟩
    · rw [List.length_take]; omega
    · rw [List.getElem_take]
      exact e.symm
end

/-- Two rows in the order of Ids, with the same operations, are one. -/
theorem asc_unique : ∀ {l m : List MOp}, AscO l → AscO m → l.Perm m → l = m
  | [], m, _, _, hp => hp.nil_eq
  | a :: l, [], _, _, hp => absurd hp.length_eq (by simp)
  | a :: l, b :: m, hl, hm, hp => by
    obtain ⟨hl1, hl2⟩ := List.pairwise_cons.1 hl
    obtain ⟨hm1, hm2⟩ := List.pairwise_cons.1 hm
    have hab : a = b := by
      rcases List.mem_cons.1 (hp.mem_iff.1 (List.mem_cons_self (a := a) (l := l))) with h | h
      · exact h
      · rcases List.mem_cons.1 (hp.mem_iff.2 (List.mem_cons_self (a := b) (l := m))) with h' | h'
        · exact h'.symm
        · have := ltI_trans (hl1 b h') (hm1 a h)
          rw [ltI_irr] at this
          cases this
    subst hab
    rw [asc_unique hl2 hm2 hp.cons_inv]
/-- WHO HAS THE SAME NUMBERS HAS THE SAME OPERATIONS. -/
theorem CopyOk.same {N : Nat} {M : Nat → List MOp} {gt gt' : Int} {has has' : Nat → Int} {ops ops' : List MOp} {early early' : List (PId × MOp)} (h : CopyOk N M gt has ops early) (h' : CopyOk N M gt' has' ops' early') (ha : AscO ops) (ha' : AscO ops') (he : ∀ c, c < N → has c = has' c) : ops = ops' := by
  refine asc_unique ha ha' (h.perm.trans ?_)
  rw [firsts_congr (M' := M) (has' := has') fun c hc => by rw [he c hc]]
  exact h'.perm.symm

end Go.Proofs.YtnkpogjiiohapaaGreatDoor

/-! GGhB: Plain: a copy hears of operations that were made. -/
namespace Go.Proofs.YtnkpogjiiohapaaGreatDoor

/-- Those that wait were made, each under its place. -/
def EarlyOk (N : Nat) (M : Nat → List MOp) (m : List (PId × MOp)) : Prop := ∀ p ∈ m, isMade N M p.2 ∧ p.1 = plOf p.2
theorem EarlyOk.all {N : Nat} {M : Nat → List MOp} {has : Nat → Int} {m : List (PId × MOp)} {xs : List MOp} (h : EarlyOk N M m) (hx : ∀ x ∈ xs, isMade N M x) : EarlyOk N M (earlyAll has m xs) := fun p hp => by
  rcases early_mem hp with h1 | ⟨x, h1, rfl⟩
  · exact h p h1
  · exact ⟨hx x h1, rfl⟩

section
theorem MadeOk.nth {N : Nat} {M : Nat → List MOp} (hM : MadeOk N M) {x : MOp} (hx : isMade N M x) : 1 ≤ x.op.nth ∧ x.op.nth ≤ 60 ∧ 0 ≤ x.op.id.2 ∧ x.op.id.2 < N := by
  obtain ⟨c, hc, hm⟩ := hx
  obtain ⟨i, hi, e, a1, a2, _⟩ := hM.at hc hm
  have := hM.len c hc
  omega
theorem MadeOk.atPl {N : Nat} {M : Nat → List MOp} (hM : MadeOk N M) {x : MOp} (hx : isMade N M x) {c k : Nat} (h : plOf x = ((c : Int), (k : Int) + 1)) : ∃ hk : k < (M c).length, x = (M c)[k] := by
  obtain ⟨d, hd, hm⟩ := hx
  obtain ⟨i, hi, e, a1, a2, _⟩ := hM.at hd hm
  unfold plOf at h
  injection h with h1 h2
  have hcd : d = c := by omega
  subst hcd
  have hik : i = k := by omega
  subst hik
  exact ⟨hi, e⟩
theorem run_made {N : Nat} {M : Nat → List MOp} (hM : MadeOk N M) {m : List (PId × MOp)} (hE : EarlyOk N M m) (c : Nat) {n : Int} (hn : 0 ≤ n) (f : Nat) : runOf m (c : Int) n f = ((M c).drop n.toNat).take (runOf m (c : Int) n f).length := by
  have key : ∀ j (hj : j < (runOf m (c : Int) n f).length), ∃ hk : n.toNat + j < (M c).length, (runOf m (c : Int) n f)[j] = (M c)[n.toNat + j] := fun j hj => by
    have hg := look_mem (run_get m c f n j hj)
    obtain ⟨h1, h2⟩ := hE _ hg
    exact hM.atPl h1 (c := c) (k := n.toNat + j) (by rw [← h2]; show ((c : Int), n + 1 + (j : Int)) = _; congr 1; omega)
  apply List.ext_getElem
  · rw [List.length_take, List.length_drop]
    rcases Nat.eq_zero_or_pos (runOf m (c : Int) n f).length with h0 | h0
    · omega
    · obtain ⟨hk, _⟩ := key ((runOf m (c : Int) n f).length - 1) (by omega)
      omega
  · intro j h1 h2
    obtain ⟨hk, e⟩ := key j h1
    rw [e, List.getElem_take, List.getElem_drop]
end

theorem hasAll_app (has : Nat → Int) (a b : List MOp) : hasAll has (a ++ b) = hasAll (hasAll has a) b := by
  unfold hasAll
  rw [List.foldl_append]
theorem has_run {c : Nat} : ∀ (l : List MOp) (h : Nat → Int) (n : Int), h c = n → (∀ j (hj : j < l.length), l[j].op.id.2 = (c : Int) ∧ l[j].op.nth = n + 1 + (j : Int)) → hasAll h l = fun i => if i = c then n + (l.length : Int) else h i
  | [], h, n, hn, _ => by
    funext i
    by_cases hi : i = c
    · subst hi; simp [hasAll, hn]
    · simp [hasAll, hi]
  | x :: l, h, n, hn, hl => by
    have h0 := hl 0 (by simp)
    simp only [List.getElem_cons_zero] at h0
    have hx : x.op.id.2.toNat = c := by omega
    have e : hasAll h (x :: l) = hasAll (upd h c (n + 1)) l := by
      show hasAll (upd h x.op.id.2.toNat x.op.nth) l = _
      rw [hx, h0.2]
      congr 2
      omega
    rw [e, has_run (c := c) l (upd h c (n + 1)) (n + 1) (by simp [upd]) fun j hj => by
      have := hl (j + 1) (by simpa using hj)
      simp only [List.getElem_cons_succ] at this
      exact ⟨this.1, by rw [this.2]; push_cast; omega⟩]
    funext i
    by_cases hi : i = c
    · simp [hi]; omega
    · simp [hi, upd]

/-- How many of each a copy has when it has heard. -/
def heardTo (m : List (PId × MOp)) (has : Nat → Int) (n : Nat) (c : Nat) : Int := if c < n then has c + ((runOf m (c : Int) (has c) 61).length : Int) else has c

theorem heard_has {N : Nat} {M : Nat → List MOp} {has : Nat → Int} {m : List (PId × MOp)} (hE : EarlyOk N M m) : ∀ n, n ≤ N → hasAll has (readyTo m has n) = heardTo m has n
  | 0, _ => by
    funext c
    simp [readyTo, hasAll, heardTo]
  | n + 1, hn => by
    rw [readyTo_succ, hasAll_app, heard_has hE n (by omega)]
    rw [has_run (c := n) (runOf m (n : Int) (has n) 61) (heardTo m has n) (has n) (by simp [heardTo]) fun j hj => by
      have hg := look_mem (run_get m n 61 (has n) j hj)
      obtain ⟨h1, h2⟩ := hE _ hg
      unfold plOf at h2
      injection h2 with h3 h4
      exact ⟨h3.symm, h4.symm⟩]
    funext i
    unfold heardTo
    by_cases hi : i = n
    · subst hi; simp
    · by_cases hl : i < n
      · simp [hi, hl, Nat.lt_succ_of_lt hl]
      · have : ¬ i < n + 1 := by omega
        simp [hi, hl, this]

section
theorem heard_take {N : Nat} {M : Nat → List MOp} (hM : MadeOk N M) {gt : Int} {has : Nat → Int} {ops : List MOp} {early : List (PId × MOp)} (h : CopyOk N M gt has ops early) {m : List (PId × MOp)} (hE : EarlyOk N M m) {c : Nat} (hc : c < N) {n : Nat} : (M c).take (heardTo m has n c).toNat = if c < n then (M c).take (has c).toNat ++ runOf m (c : Int) (has c) 61 else (M c).take (has c).toNat := by
  unfold heardTo
  have h0 := (h.hasL c hc).1
  by_cases hl : c < n
  · rw [if_pos hl, if_pos hl]
    have e : (has c + ((runOf m (c : Int) (has c) 61).length : Int)).toNat = (has c).toNat + (runOf m (c : Int) (has c) 61).length := by omega
    rw [e, List.take_add, ← run_made hM hE c h0 61]
  · rw [if_neg hl, if_neg hl]
theorem heard_in {N : Nat} {M : Nat → List MOp} (hM : MadeOk N M) {gt : Int} {has : Nat → Int} {ops : List MOp} {early : List (PId × MOp)} (h : CopyOk N M gt has ops early) {m : List (PId × MOp)} (hE : EarlyOk N M m) {c : Nat} (hc : c < N) : 0 ≤ heardTo m has N c ∧ heardTo m has N c ≤ (M c).length ∧ has c ≤ heardTo m has N c := by
  have h0 := h.hasL c hc
  have hr := congrArg List.length (run_made hM hE c h0.1 61)
  rw [List.length_take, List.length_drop] at hr
  unfold heardTo
  rw [if_pos hc]
  omega
end
theorem heard_perm {N : Nat} {M : Nat → List MOp} (hM : MadeOk N M) {gt : Int} {has : Nat → Int} {ops : List MOp} {early : List (PId × MOp)} (h : CopyOk N M gt has ops early) {m : List (PId × MOp)} (hE : EarlyOk N M m) : ∀ n, n ≤ N → (firsts M (heardTo m has N) n).Perm (readyTo m has n ++ firsts M has n)
  | 0, _ => by simp [firsts, readyTo]
  | n + 1, hn => by
    have hp := heard_perm hM h hE n (by omega)
    rw [firsts_succ, firsts_succ, readyTo_succ, heard_take hM h hE (by omega), if_pos (by omega)]
    refine (hp.append_right _).trans ?_
    simp only [List.append_assoc]
    refine List.Perm.append_left _ ?_
    rw [← List.append_assoc]
    exact List.perm_append_comm
theorem gtAll_le : ∀ (xs : List MOp) (gt : Int), gt ≤ gtAll gt xs ∧ ∀ x ∈ xs, x.op.id.1 ≤ gtAll gt xs
  | [], gt => ⟨Int.le_refl _, fun x hx => by cases hx⟩
  | y :: xs, gt => by
    obtain ⟨h1, h2⟩ := gtAll_le xs (max gt y.op.id.1)
    have e : gtAll gt (y :: xs) = gtAll (max gt y.op.id.1) xs := rfl
    rw [e]
    refine ⟨by omega, fun x hx => ?_⟩
    rcases List.mem_cons.1 hx with rfl | hx
    · omega
    · exact h2 x hx
theorem gtAll_bound {g : Int} : ∀ (xs : List MOp) (gt : Int), gt ≤ g → (∀ x ∈ xs, x.op.id.1 ≤ g) → gtAll gt xs ≤ g
  | [], gt, h, _ => h
  | y :: xs, gt, h, hx => gtAll_bound xs (max gt y.op.id.1) (by have := hx y List.mem_cons_self; omega) fun x hx' => hx x (List.mem_cons_of_mem _ hx')

/-- WHAT IT HAS WHEN IT HAS HEARD. -/
theorem CopyOk.heard {N : Nat} {M : Nat → List MOp} (hM : MadeOk N M) {gt : Int} {has : Nat → Int} {ops : List MOp} {early : List (PId × MOp)} (h : CopyOk N M gt has ops early) {m m' : List (PId × MOp)} (hE : EarlyOk N M m) (hm : ∀ p ∈ m', p ∈ m) (hk : (m'.map (·.1)).Nodup) :
    CopyOk N M (gtAll gt (readyTo m has N)) (hasAll has (readyTo m has N)) (insAll ops (readyTo m has N)) m' := by
  rw [heard_has hE N (Nat.le_refl _)]
  refine ⟨fun c hc => ⟨(heard_in hM h hE hc).1, (heard_in hM h hE hc).2.1⟩, ?_, fun o ho => ?_, fun p hp => hE p (hm p hp), hk⟩
  · exact (insAll_perm _ _).trans ((List.Perm.append_left _ h.perm).trans (heard_perm hM h hE N (Nat.le_refl _)).symm)
  · obtain ⟨h1, h2⟩ := gtAll_le (readyTo m has N) gt
    rcases List.mem_append.1 ((insAll_perm _ _).mem_iff.1 ho) with ho | ho
    · exact h2 o ho
    · have := h.gtL o ho; omega

end Go.Proofs.YtnkpogjiiohapaaGreatDoor

/-! GRoomD: The program's room in general: Deliver. -/
namespace Go.Proofs.YtnkpogjiiohapaaGreatDoor
open Go.RowKit
attribute [local go_sem ↓] Go.wp_at_zero Go.wp_at_succ

/-- Messages are sent, as far as there is room. -/
def sentM : List Msg → List Msg → List Msg
  | l, [] => l
  | l, m :: ms => sentM (if l.length = 12 then l else l ++ [m]) ms
theorem All2.sent {R : Msg → Value → Prop} : ∀ {bs : List Msg} {us : List Value} {ms : List Msg} {vs : List Value}, All2 R ms vs → All2 R bs us → All2 R (sentM ms bs) (sentTo false vs us)
  | [], [], _, _, h, _ => h
  | [], _ :: _, _, _, _, h2 => h2.elim
  | _ :: _, [], _, _, _, h2 => h2.elim
  | b :: bs, u :: us, ms, vs, h, h2 => by
    unfold sentM sentTo
    have hl := h.len
    by_cases e : ms.length = 12
    · have e' : vs.length = 12 := by omega
      simp only [e, e', if_true, or_true]
      exact All2.sent h h2.2
    · have e' : ¬ vs.length = 12 := by omega
      simp only [e, e', if_false, Bool.false_eq_true, or_false]
      exact All2.sent (All2.snoc h2.1 h) h2.2
theorem All2.maps {α β γ : Type} {R : α → β → Prop} {R' : γ → β → Prop} {f : α → γ} : ∀ {l : List α} {m : List β}, (∀ a ∈ l, ∀ b, R a b → R' (f a) b) → All2 R l m → All2 R' (l.map f) m
  | [], [], _, _ => trivial
  | [], _ :: _, _, h2 => h2.elim
  | _ :: _, [], _, h2 => h2.elim
  | a :: l, b :: m, h, h2 => ⟨h a List.mem_cons_self b h2.1, All2.maps (fun a ha => h a (List.mem_cons_of_mem _ ha)) h2.2⟩
def copyS (s : RoomS) (c : Nat) (gt : Int) (has : Nat → Int) (ops kept : List MOp) (early : List (PId × MOp)) : RoomS := { s with gt := upd s.gt c gt, has := upd s.has c has, ops := upd s.ops c ops, kept := upd s.kept c kept, early := upd s.early c early }
theorem rowOf_mind {l : List Int} {known : Nat → Int} {N i : Nat} (hl : l.length = N) (hi : i < N) : rowOf (mindTo l known N) i = max (rowOf l i) (known i) := by
  have h1 : i < l.length := by omega
  have h2 : i < (mindTo l known N).length := by rw [mind_len]; exact h1
  have e1 : rowOf (mindTo l known N) i = (mindTo l known N)[i] := by simp [rowOf, h2]
  have e2 : rowOf l i = l[i] := by simp [rowOf, h1]
  rw [e1, e2, mind_get _ _ _ _ h1, if_pos hi]
/-- What another one had, kept in mind. -/
def mindS (s : RoomS) (d c : Nat) (known : Nat → Int) : RoomS := { s with nw := upd s.nw d (upd (s.nw d) c fun i => max (s.nw d c i) (known i)) }
theorem mindS_to (s : RoomS) (d : Nat) (f : Nat → Nat → Int) : ({ s with gt := upd s.gt d (s.gt d), has := upd s.has d (s.has d), ops := upd s.ops d (s.ops d), gone := upd s.gone d (s.gone d), kept := upd s.kept d (s.kept d), early := upd s.early d (s.early d), nw := upd s.nw d f } : RoomS) = { s with nw := upd s.nw d f } := by
  rw [upd_self, upd_self, upd_self, upd_self, upd_self, upd_self]

set_option maxRecDepth 1000000 in
set_option maxHeartbeats 400000 in
theorem send_nil {w : World} (gl c : Nat) : Calls Tryz.prog 53 #[.pointer (some ⟨gl, 0, none⟩), .slice none 0 c] w fun e w' => e = .returned (.tuple #[]) ∧ w' = w := by
  go_enter Tryz.func53, Tryz.ntmps53
  go_wp2
  refine wp_loop_rounds 1 ?_
  rw [rounds_succ]
  go_wp2
  go_end0
  exact ⟨rfl, rfl⟩
/-- Messages that lie in a row are sent. -/
theorem send_row {w : World} {B gl gc : Nat} {l : List Value} {s r : Nat} (h : isLink w gl gc l false s r) {v : Value} {vs : List Value} {n : Nat} (hv : w.ownsRow B 147 1 v n vs) (hn : n ≤ 1000) :
    Calls Tryz.prog 53 #[.pointer (some ⟨gl, 0, none⟩), v] w fun e w' => e = .returned (.tuple #[]) ∧ ∃ s', isLink w' gl gc (sentTo false l vs) false s' r ∧ Turned (fun k => k = gc) w w' := by
  have hlen : vs.length = n := by have := hv.1; omega
  rcases hv.2 with ⟨rfl, h0⟩ | ⟨g, cap, cur, rfl, hb, hg, h1, h2, h3, h4⟩
  · have hv0 : vs = [] := List.eq_nil_of_length_eq_zero (by omega)
    subst hv0
    refine (send_nil gl 0).mono ?_
    rintro e w' ⟨rfl, rfl⟩
    exact ⟨rfl, s, h, Turned.of_below (Below.refl _ _)⟩
  · refine (send_q (off := 0) (cap := cap) (n := n) (g := g) h (fun j => vs.getD j .nilIface) hn (fun j hj => by
      have := World.ownsRow.cellAt hv j (by omega)
      have hj' : j < vs.length := by omega
      rw [Nat.zero_add, this]
      simp [List.getD, hj'])).mono ?_
    rintro e w' ⟨rfl, s', hl, ht⟩
    have e : (List.range n).map (fun j => vs.getD j .nilIface) = vs := by
      apply List.ext_getElem
      · simp [hlen]
      · intro i h1 h2
        simp [List.getD, h2]
    rw [e] at hl
    exact ⟨rfl, s', hl, ht⟩

theorem blk1' {w : World} {g : Nat} {a : Value} {t : TypeId} {f : Nat × Nat} (h : w.heap[g]? = some (.cells #[a] t f)) : w.cell? ⟨g, 0, none⟩ = some a := by simp [World.cell?, h]

theorem nilQ (a : Option Addr) (n c : Nat) (W : World) : (nilAhead 501 115 (.slice a n c) "quire/quire.arrive").run Tryz.prog W = .ok (some false) W := by kernel_rfl
theorem nilB (a : Option Addr) (n c : Nat) (W : World) : (nilAhead 501 382 (.slice a n c) "quire/quire.arrive").run Tryz.prog W = .ok (some false) W := by kernel_rfl

set_option maxRecDepth 1000000 in
set_option maxHeartbeats 2000000 in
/-- A QUESTION ARRIVES IN THE ROOM. -/
theorem arriveQ_any {w : World} {r : Nat} {F I : Nat → Prop} {N sp : Nat} {s : RoomS} {x : RoomX} (h : RoomM w r F I N sp s x) {c d : Nat} (hc : c < N) (hd : d < N) (hcd : c ≠ d) {known : Nat → Int} {gk ck : Nat} (hkn : isKn w gk ck N known) (hgI : I gk) (hhas : ∀ i, i < N → 0 ≤ known i ∧ s.has d i ≤ 60) (hk60 : ∀ i, i < N → known i ≤ 60) (hcp : ∀ x ∈ s.kept d, 0 ≤ x.op.id.2 ∧ x.op.id.2 < N) (hnd : ((s.kept d).map plOf).Nodup) :
    Calls Tryz.prog 75 #[.pointer (some ⟨r, 0, none⟩), .iface 115 (.slice (some ⟨gk, 0, none⟩) N ck), .int .i64 c, .int .i64 d] w fun e w' => (∃ v, e = .returned v) ∧ ∃ ls, ls.Perm ((s.kept d).filter (isBey known)) ∧ AscP ls ∧ RoomTo r N sp F I w w' (msTo (mindS s d c known) d c (sentM (s.ms d c) ((batsOf ls known (s.has d) N).map (batOf ls)))) := by
  obtain ⟨gr, hgr, hgv⟩ := h.nk d c hd hc (Ne.symm hcd)
  have HQA := hid (fun W (hb : Below w.heap.size w W) => qArrive_any ((h.keep hb).reps d hd) (c : Int) hgr (hkn.keep hb) hgI hhas hk60 hcp hnd)
  obtain ⟨c0, c2⟩ := blk2 h.blk
  have c1 := h.cell hd
  have hcap := h.cap
  have hN := h.hN
  unfold maxLen at hcap
  have hd0 : (0 : Int) ≤ (d : Int) := Int.natCast_nonneg _
  have hd1 : (d : Int) < (N : Int) := by omega
  have HH := hid h
  have HGR := hid (And.intro hgr (And.intro hgv ((h.reps d hd).nrow _ (look_mem hgr)).1.1))
  clear h hkn hhas hk60 hcp hnd hgI hgr hgv
  go_enter Tryz.func75, Tryz.ntmps75
  have hnil := nilQ
  have HCH := hid (fun x hx => (HH.out.reps d hd).hist.chg x hx)
  have HGO := hid (fun (w1 : World) (hM1 : RepM w1 (x.rbs d) (x.Fc d) I N sp d (s.gt d) (s.has d) (s.kept d) (s.early d) { x.q d with nv := fun b => if b = gr then mindTo ((x.q d).nv gr) known N else (x.q d).nv b }) (hT1 : Turned (fun k => k = gr) w w1) (hF1 : x.Fc d gr) => show ∃ x1, RoomM w1 r F I N sp (mindS s d c known) x1 ∧ Keeps F F w w1 ∧ x1.gl = x.gl ∧ x1.gc = x.gc ∧ x1.vals = x.vals by
    have hK : Keeps (x.Fc d) (x.Fc d) w w1 := ⟨hT1.os, hT1.tape, hT1.output, hT1.size, fun k hk hF => hT1.other k hk fun e => hF (e ▸ hF1), fun k hk => .inl hk⟩
    obtain ⟨x1, hR1, hK1, _, e2, e3, e4, _⟩ := HH.out.copyToG hd hM1 hK (fun _ y => y) (fun _ y => .inl y) (gone' := s.gone d) (ops' := s.ops d) (nw' := upd (s.nw d) c fun i => max (s.nw d c i) (known i)) (HH.out.ag d hd) (HH.out.spl d hd) rfl (fun e he hde g hg i hi => by
      by_cases ec : e = c
      · subst ec
        rw [HGR.out.1] at hg
        cases hg
        simp only [if_true, upd_same]
        rw [rowOf_mind HGR.out.2.2 hi, HGR.out.2.1 i hi]
      · have hne : g ≠ gr := fun e' => ec (by
          rw [e'] at hg
          have := (HH.out.nj d hd).1 _ _ _ hg HGR.out.1
          omega)
        simp only [if_neg hne]
        rw [upd_ne _ _ ec]
        obtain ⟨g', hg', hv⟩ := HH.out.nk d e hd he hde
        rw [hg] at hg'
        cases hg'
        exact hv i hi)
    have hFF : (fun k => F k ∨ x.Fc d k) = F := by
      funext k
      exact propext ⟨fun hk => hk.elim id (HH.out.sub d hd k), .inl⟩
    rw [mindS_to, hFF] at hR1
    rw [hFF] at hK1
    exact ⟨x1, hR1, hK1, e2, e3, e4⟩)
  go_wp2_with fail
  go_region_with (first | (go_at_call 273; refine (HQA.out _ (Below.refl _ _).drew).mono ?_; rintro e w1 ⟨v, vs, ls, av, cv, rfl, hp, ha, hao, hM1, hT1, hF1⟩; obtain ⟨x1, hR1, hK1, eg, ec, ev⟩ := HGO.out w1 hM1 ⟨hT1.os, hT1.tape, hT1.output, hT1.size, hT1.other⟩ hF1; have HX := hid (And.intro hp (And.intro ha (And.intro hao (And.intro hR1 (And.intro hK1 (And.intro eg (And.intro ec ev))))))); have hl1 := hR1.find hd hc (Ne.symm hcd) false w1 (Below.refl _ _); simp only [Bool.false_eq_true, if_false] at hl1; replace c2 := (blk2 hR1.blk).2; have HSD := hid (send_row (hR1.link d c hd hc (Ne.symm hcd)) hao.2.1 (Nat.le_trans (Nat.le_of_eq (ans_len _ _ _)) (by rw [List.length_range]; omega))); clear hp ha hao hM1 hT1 hF1 hR1 hK1 eg ec ev))
  all_goals clear c0 c1
  all_goals go_wp2_with fail
  all_goals refine HSD.out.mono ?_
  all_goals rintro e w2 ⟨rfl, sn, hl2, hT2⟩
  all_goals (have HY := hid (And.intro hl2 hT2); clear hl2 hT2)
  all_goals go_wp2
  all_goals go_end0
  all_goals
    obtain ⟨hp, ha, hao, hR1, hK1, eg, ec, ev⟩ := HX.out
    obtain ⟨hl2, hT2⟩ := HY.out
    have hblk : ∀ k, (Value.slice av ls.length cv).ownBlock = some k → w.heap.size ≤ k ∧ k < w1.heap.size := fun k hk => World.ownsRow.lt hao.1 k hk
    have hI' := hR1.moreI (I' := fun k => I k ∨ (Value.slice av ls.length cv).ownBlock = some k) (fun k hk => .inl hk) (fun k hk => hk.elim (hR1.iI k) fun h2 => (hblk k h2).2) (fun k hk hF => hk.elim (fun h1 => HH.out.nI k h1 hF) fun h2 => by have := (hblk k h2).1; have := HH.out.lt k hF; omega)
    have hlen : ls.length ≤ 300 := by
      have h1 := hp.length_eq
      have h2 := List.length_filter_le (isBey known) (s.kept d)
      have h3 := (HH.out.reps d hd).hist.len
      omega
    have hchg : ∀ y ∈ ls, isChgI w1 (fun k => I k ∨ (Value.slice av ls.length cv).ownBlock = some k) (.iface y.t y.v) y.op.chg := fun y hy => (HCH.out y (List.mem_filter.1 (hp.mem_iff.1 hy)).1).keepI (fun k hk => hK1.other k (HH.out.iI k hk) (HH.out.nI k hk)) (fun k hk => .inl hk)
    have hms : All2 (msgV w1 (fun k => I k ∨ (Value.slice av ls.length cv).ownBlock = some k)) ((batsOf ls known (s.has d) N).map (batOf ls)) vs := All2.maps (fun b hb u hu => bat_msg hao.1 hlen hchg (fun k hk => .inr hk) (ans_in hb) hu) hao.2.2
    have hR2 := hI'.linkTo hd hc (Ne.symm hcd) hl2 hT2 ((hI'.mss d c hd hc (Ne.symm hcd)).sent hms)
    refine ⟨⟨_, rfl⟩, ls, hp, ha, F, _, _, hR2, ?_, fun k hk => ⟨.inl hk, ?_⟩, fun k hk => hk.imp id fun h2 => (hblk k h2).1⟩
    · have hk2 := keeps_link (F := F) (Below.refl _ _) hT2 (hR1.fl d c hd hc (Ne.symm hcd)).2
      exact hK1.trans hk2
    · exact (hT2.other k (hR1.iI k hk) fun e => hR1.nI k hk (e ▸ (hR1.fl d c hd hc (Ne.symm hcd)).2)).trans (hK1.other k (HH.out.iI k hk) (HH.out.nI k hk))

end Go.Proofs.YtnkpogjiiohapaaGreatDoor

/-! GRoomE: The program's room in general: operations arrive; Deliver. -/
namespace Go.Proofs.YtnkpogjiiohapaaGreatDoor
open Go.RowKit
attribute [local go_sem ↓] Go.wp_at_zero Go.wp_at_succ

/-- All that waits with a copy when operations have come; those of it that no longer wait. -/
def waitS (s : RoomS) (d : Nat) (xs : List MOp) : List (PId × MOp) := earlyAll (s.has d) (s.early d) xs
def rdyS (N : Nat) (s : RoomS) (d : Nat) (xs : List MOp) : List MOp := readyTo (waitS s d xs) (s.has d) N
def hearS (N : Nat) (s : RoomS) (d : Nat) (xs : List MOp) (early : List (PId × MOp)) : RoomS := copyS s d (gtAll (s.gt d) (rdyS N s d xs)) (hasAll (s.has d) (rdyS N s d xs)) (insAll (s.ops d) (rdyS N s d xs)) (insAll (s.kept d) (rdyS N s d xs)) early

set_option maxRecDepth 1000000 in
set_option maxHeartbeats 2000000 in
/-- OPERATIONS ARRIVE IN THE ROOM. -/
theorem arriveB_any {w : World} {r : Nat} {F I : Nat → Prop} {N sp : Nat} {s : RoomS} {x : RoomX} (h : RoomM w r F I N sp s x) {c d : Nat} (hc : c < N) (hd : d < N) (hcd : c ≠ d) (xs : List MOp) {v : Value} (hv : opsV w I v xs) (hcp : ∀ y ∈ xs, 0 ≤ y.op.id.2 ∧ y.op.id.2 < N)
    (hnd : ((waitS s d xs).map (·.1)).Nodup) (hk60 : ∀ p ∈ waitS s d xs, p.1.2 ≤ 60) (hhas : ∀ i, i < N → 0 ≤ s.has d i ∧ s.has d i ≤ 1000)
    (hfin : ((rdyS N s d xs ++ s.kept d).map fun o => o.op.id).Nodup) (hlen : (s.kept d).length + (rdyS N s d xs).length ≤ 300) (hspl : insAll (s.ops d) (rdyS N s d xs) = s.gone d ++ insAll (s.kept d) (rdyS N s d xs)) (hcp2 : ∀ y ∈ rdyS N s d xs, 0 ≤ y.op.id.2 ∧ y.op.id.2 < N) :
    Calls Tryz.prog 75 #[.pointer (some ⟨r, 0, none⟩), .iface 382 v, .int .i64 c, .int .i64 d] w fun e w' => (∃ v, e = .returned v) ∧ ∃ early', CutOf (waitS s d xs) (goneTo (waitS s d xs) (s.has d) N) early' ∧ RoomTo r N sp F I w w' (hearS N s d xs early') := by
  have HBA := hid (fun W (hb : Below w.heap.size w W) => bArrive_any ((h.keep hb).reps d hd) xs (hv.keepI (fun k hk => hb.block k (h.iI k hk)) (fun _ y => y)) hcp hnd hk60 hhas hfin hlen hcp2 (c : Int))
  obtain ⟨av, cv, rfl, _⟩ := hv
  obtain ⟨c0, c2⟩ := blk2 h.blk
  have c1 := h.cell hd
  have hcap := h.cap
  have hN := h.hN
  unfold maxLen at hcap
  have hd0 : (0 : Int) ≤ (d : Int) := Int.natCast_nonneg _
  have hd1 : (d : Int) < (N : Int) := by omega
  have HH := hid h
  have HSPL := hid hspl
  clear hspl
  clear h hcp hnd hk60 hhas hfin hlen hcp2
  go_enter Tryz.func75, Tryz.ntmps75
  have hnil := nilB
  go_wp2_with fail
  go_region_with (first | (go_at_call 308; refine (HBA.out _ (Below.refl _ _).drew).mono ?_; rintro e w1 ⟨rfl, F', q', early', hM1, hC1, hS1, hK1⟩; obtain ⟨x1, hR1, hK2, _, eg, ec, ev, _⟩ := HH.out.copyTo hd hM1 (hK1.before (Below.refl _ _).drew) (fun _ y => y) (fun _ y => .inl y) hS1 HSPL.out; have HX := hid (And.intro hC1 (And.intro hR1 hK2)); have hl1 := hR1.find hd hc (Ne.symm hcd) false w1 (Below.refl _ _); simp only [Bool.false_eq_true, if_false] at hl1; replace c2 := (blk2 hR1.blk).2; clear hM1 hC1 hS1 hK1 hR1 hK2 eg ec ev))
  all_goals clear c0 c1
  all_goals go_wp2_with fail
  all_goals refine (send_nil _ _).mono ?_
  all_goals rintro e w2 ⟨rfl, rfl⟩
  all_goals go_wp2
  all_goals go_end0
  all_goals
    obtain ⟨hC1, hR1, hK2⟩ := HX.out
    exact ⟨⟨_, rfl⟩, early', hC1, _, I, x1, hR1, hK2, fun k hk => ⟨hk, hK2.other k (HH.out.iI k hk) (HH.out.nI k hk)⟩, fun _ hk => .inl hk⟩

end Go.Proofs.YtnkpogjiiohapaaGreatDoor
