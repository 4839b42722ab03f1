/- Our own text (PPlayA, PPlayB, PPlayC, PPlayD, PPlayE, PPlayF). -/
import Derived.Test.YtnkpogjiiohapaaGreatDoorP13
import Derived.Test.YtnkpogjiiohapaaGreatDoorP15
set_option linter.unusedSimpArgs false
set_option linter.unusedVariables false

/-! PPlayA: The law: what is played, in memory. -/
namespace Go.Proofs.YtnkpogjiiohapaaGreatDoor
open Go.RowKit

theorem isPair.keepF {w w' : World} {gp : Nat} {F : Nat → Prop} {nt : Nat} (h : isPair w gp F nt) (hs : w.heap.size ≤ w'.heap.size) (hk : ∀ k, F k → w'.heap[k]? = w.heap[k]?) : isPair w' gp F nt := by
  obtain ⟨x, r, vt, told, FP, FR, N, sp, P, ht, h⟩ := h
  exact ⟨x, r, vt, told, FP, FR, N, sp, P, ht, h.keepF hs hk⟩
theorem isPair.more {w : World} {gp : Nat} {F : Nat → Prop} {nt nt' : Nat} (h : isPair w gp F nt) (hn : nt ≤ nt') : isPair w gp F nt' := by
  obtain ⟨x, r, vt, told, FP, FR, N, sp, P, ht, h⟩ := h
  exact ⟨x, r, vt, told, FP, FR, N, sp, P, Nat.le_trans ht hn, h⟩
theorem isPair.lt {w : World} {gp : Nat} {F : Nat → Prop} {nt : Nat} (h : isPair w gp F nt) : ∀ k, F k → k < w.heap.size := by
  obtain ⟨x, r, vt, told, FP, FR, N, sp, P, ht, h⟩ := h
  exact h.lt
/-- The lists of a book lie in R. -/
def BIn (e te : TypeId) (k : Nat) (zc : Nat → Array Value) (la : List Nat) (R : Nat → Prop) (w : World) : Prop := ∀ i (hi : i < la.length), ∃ n U, EntAt e te k (zc i) n la[i] U w ∧ R la[i] ∧ ∀ j, j < 4 → ∀ g, (U j).ownBlock = some g → R g
theorem BIn.ents {e te : TypeId} {k : Nat} {zc : Nat → Array Value} {la : List Nat} {R : Nat → Prop} {w : World} (h : BIn e te k zc la R w) : BEnts e te k zc la w := fun i hi => by
  obtain ⟨n, U, h1, _⟩ := h i hi
  exact ⟨n, U, h1⟩
theorem BIn.keep {e te : TypeId} {k : Nat} {zc : Nat → Array Value} {la : List Nat} {R : Nat → Prop} {w w' : World} (h : BIn e te k zc la R w) (hk : ∀ q cur t, R q → w.heap[q]? = some (.cells cur t (0, 0)) → t = e ∨ t = te → w'.heap[q]? = w.heap[q]?) : BIn e te k zc la R w' := fun i hi => by
  obtain ⟨n, U, h1, h2, h3⟩ := h i hi
  refine ⟨n, U, h1.keep (hk _ _ _ h2 h1.row (.inr rfl)) fun j hj g hg => ?_, h2, h3⟩
  obtain ⟨cur, hc⟩ := (h1.s j hj).type hg
  exact hk _ _ _ (h3 j hj g hg) hc (.inl rfl)
theorem BIn.mono {e te : TypeId} {k : Nat} {zc : Nat → Array Value} {la : List Nat} {R R' : Nat → Prop} {w : World} (h : BIn e te k zc la R w) (hR : ∀ q, R q → R' q) : BIn e te k zc la R' w := fun i hi => by
  obtain ⟨n, U, h1, h2, h3⟩ := h i hi
  exact ⟨n, U, h1, hR _ h2, fun j hj g hg => hR _ (h3 j hj g hg)⟩
theorem BIn.add {e te : TypeId} {k : Nat} {zc : Nat → Array Value} {la : List Nat} {R : Nat → Prop} {w : World} (h : BIn e te k zc la R w) {n gn : Nat} {U : Nat → Value} (h1 : EntAt e te k (zc la.length) n gn U w) (h2 : R gn) (h3 : ∀ j, j < 4 → ∀ g, (U j).ownBlock = some g → R g) : BIn e te k zc (la ++ [gn]) R w := fun i hi => by
  by_cases hl : i < la.length
  · obtain ⟨n, U, h⟩ := h i hl
    refine ⟨n, U, ?_⟩
    rw [List.getElem_append_left hl]
    exact h
  · have : i = la.length := by simp at hi; omega
    subst this
    refine ⟨n, U, ?_⟩
    simp
    exact ⟨h1, h2, h3⟩

/-- What is played: gy the Play, gps the pairs, la and lb the book's lists; FF i the blocks of pair i, R the law's own. -/
structure PlayAt (base gy : Nat) (vp va vb : Value) (gps la lb : List Nat) (FF : Nat → Nat → Prop) (R : Nat → Prop) (nt : Nat) (w : World) : Prop where
  y : w.heap[gy]? = some (.cells #[vp, va, vb, .slice none 0 0] 84 (0, 0))
  ps : w.ownsRow 0 132 1 vp gps.length (gps.flatMap ptrC)
  a : w.ownsRow 0 138 1 va la.length (la.flatMap nameC)
  b : w.ownsRow 0 140 1 vb lb.length (lb.flatMap nameC)
  pr : ∀ i (hi : i < gps.length), isPair w gps[i] (FF i) nt
  dis : ∀ i j k, i < gps.length → j < gps.length → i ≠ j → FF i k → ¬ FF j k
  fb : ∀ i k, i < gps.length → FF i k → base ≤ k
  fr : ∀ i k, i < gps.length → FF i k → ¬ R k
  rb : ∀ k, R k → base ≤ k ∧ k < w.heap.size
  ry : R gy
  rp : ∀ k, vp.ownBlock = some k → R k
  ra : ∀ k, va.ownBlock = some k → R k
  rv : ∀ k, vb.ownBlock = some k → R k
  ea : BIn 36 65 2 zIds la R w
  eb : BIn 57 53 3 zVals lb R w
  np : gps.length ≤ nt
  na : la.length ≤ nt
  nb : lb.length ≤ nt
  bs : base ≤ w.heap.size
section
theorem PlayAt.frame {base gy : Nat} {vp va vb : Value} {gps la lb : List Nat} {FF : Nat → Nat → Prop} {R : Nat → Prop} {nt : Nat} {w w' : World} (h : PlayAt base gy vp va vb gps la lb FF R nt w) (hk : ∀ k, R k → w'.heap[k]? = w.heap[k]?) (hp : ∀ i k, i < gps.length → FF i k → w'.heap[k]? = w.heap[k]?) (hs : w.heap.size ≤ w'.heap.size) : PlayAt base gy vp va vb gps la lb FF R nt w' :=
  ⟨(hk gy h.ry).trans h.y, row_blk h.ps fun g hg => hk g (h.rp g hg), row_blk h.a fun g hg => hk g (h.ra g hg), row_blk h.b fun g hg => hk g (h.rv g hg),
    fun i hi => (h.pr i hi).keepF hs fun k hF => hp i k hi hF, h.dis, h.fb, h.fr, fun k hR => ⟨(h.rb k hR).1, Nat.lt_of_lt_of_le (h.rb k hR).2 hs⟩, h.ry, h.rp, h.ra, h.rv,
    h.ea.keep fun q _ _ hq _ _ => hk q hq, h.eb.keep fun q _ _ hq _ _ => hk q hq, h.np, h.na, h.nb, Nat.le_trans h.bs hs⟩
theorem PlayAt.below {base gy : Nat} {vp va vb : Value} {gps la lb : List Nat} {FF : Nat → Nat → Prop} {R : Nat → Prop} {nt : Nat} {w w' : World} (h : PlayAt base gy vp va vb gps la lb FF R nt w) (hb : Below w.heap.size w w') : PlayAt base gy vp va vb gps la lb FF R nt w' :=
  h.frame (fun k hR => hb.block k (h.rb k hR).2) (fun i k hi hF => hb.block k ((h.pr i hi).lt k hF)) hb.size
theorem PlayAt.more {base gy : Nat} {vp va vb : Value} {gps la lb : List Nat} {FF : Nat → Nat → Prop} {R : Nat → Prop} {nt : Nat} {w : World} (h : PlayAt base gy vp va vb gps la lb FF R nt w) {nt' : Nat} (hn : nt ≤ nt') : PlayAt base gy vp va vb gps la lb FF R nt' w :=
  { h with pr := fun i hi => (h.pr i hi).more hn, np := Nat.le_trans h.np hn, na := Nat.le_trans h.na hn, nb := Nat.le_trans h.nb hn }
/-- A room went on. -/
theorem PlayAt.room {base gy : Nat} {vp va vb : Value} {gps la lb : List Nat} {FF : Nat → Nat → Prop} {R : Nat → Prop} {nt : Nat} {w w' : World} (h : PlayAt base gy vp va vb gps la lb FF R nt w) {i : Nat} (hi : i < gps.length) {F' : Nat → Prop} (hp : isPair w' gps[i] F' nt) (hk : Keeps (FF i) F' w w') : PlayAt base gy vp va vb gps la lb (fun j => if j = i then F' else FF j) R nt w' := by
  have hR : ∀ k, R k → w'.heap[k]? = w.heap[k]? := fun k hR => hk.other k (h.rb k hR).2 fun hF => h.fr i k hi hF hR
  have hO : ∀ j k, j < gps.length → j ≠ i → FF j k → w'.heap[k]? = w.heap[k]? := fun j k hj hji hF => hk.other k ((h.pr j hj).lt k hF) (h.dis j i k hj hi hji hF)
  have hs := hk.size
  refine ⟨(hR gy h.ry).trans h.y, row_blk h.ps fun g hg => hR g (h.rp g hg), row_blk h.a fun g hg => hR g (h.ra g hg), row_blk h.b fun g hg => hR g (h.rv g hg),
    fun j hj => ?_, fun j1 j2 k hj1 hj2 hne => ?_, fun j k hj => ?_, fun j k hj => ?_, fun k hR => ⟨(h.rb k hR).1, Nat.lt_of_lt_of_le (h.rb k hR).2 hs⟩, h.ry, h.rp, h.ra, h.rv,
    h.ea.keep fun q _ _ hq _ _ => hR q hq, h.eb.keep fun q _ _ hq _ _ => hR q hq, h.np, h.na, h.nb, Nat.le_trans h.bs hs⟩
  · by_cases hji : j = i
    · subst hji; simp only [if_true]; exact hp
    · simp only [if_neg hji]; exact (h.pr j hj).keepF hs fun k hF => hO j k hj hji hF
  · by_cases h1 : j1 = i
    · have h2 : j2 ≠ i := fun e => hne (h1.trans e.symm)
      subst h1
      simp only [if_true, if_neg h2]
      intro hF hF2
      rcases hk.sub k hF with h3 | h3
      · exact h.dis j1 j2 k hj1 hj2 hne h3 hF2
      · have := (h.pr j2 hj2).lt k hF2; omega
    · by_cases h2 : j2 = i
      · subst h2
        simp only [if_true, if_neg h1]
        intro hF hF2
        rcases hk.sub k hF2 with h3 | h3
        · exact h.dis j1 j2 k hj1 hj2 hne hF h3
        · have := (h.pr j1 hj1).lt k hF; omega
      · simp only [if_neg h1, if_neg h2]
        exact h.dis j1 j2 k hj1 hj2 hne
  · by_cases hji : j = i
    · subst hji
      simp only [if_true]
      intro hF
      rcases hk.sub k hF with h3 | h3
      · exact h.fb j k hj h3
      · have := h.bs; omega
    · simp only [if_neg hji]; exact h.fb j k hj
  · by_cases hji : j = i
    · subst hji
      simp only [if_true]
      intro hF hR
      rcases hk.sub k hF with h3 | h3
      · exact h.fr j k hj h3 hR
      · have := (h.rb k hR).2; omega
    · simp only [if_neg hji]; exact h.fr j k hj
/-- All below the base stays. -/
theorem PlayAt.under {base gy : Nat} {vp va vb : Value} {gps la lb : List Nat} {FF : Nat → Nat → Prop} {R : Nat → Prop} {nt : Nat} {w w' : World} (h : PlayAt base gy vp va vb gps la lb FF R nt w) {i : Nat} (hi : i < gps.length) {F' : Nat → Prop} (hk : Keeps (FF i) F' w w') : Below base w w' :=
  ⟨hk.os, hk.tape, hk.output, hk.size, fun k hkb => hk.other k (Nat.lt_of_lt_of_le hkb h.bs) fun hF => by have := h.fb i k hi hF; omega⟩
end

end Go.Proofs.YtnkpogjiiohapaaGreatDoor

/-! PPlayB: The law: a list is noted; a room is opened. -/
namespace Go.Proofs.YtnkpogjiiohapaaGreatDoor
open Go.RowKit

/-- What a step leaves. -/
def Played (base gy nt : Nat) (w w' : World) : Prop := ∃ vp va vb gps la lb FF R, PlayAt base gy vp va vb gps la lb FF R nt w' ∧ Below base w w'
section
theorem PlayAt.noted_a {base gy : Nat} {vp va vb : Value} {gps la lb : List Nat} {FF : Nat → Nat → Prop} {R : Nat → Prop} {nt : Nat} {w w' : World} (h : PlayAt base gy vp va vb gps la lb FF R nt w) {v : Value} {n : Nat} (hN : Noted 36 65 138 2 #[.int .i64 (-7070), .int .i64 la.length] w gy v va la n (fun x => #[vp, x, vb, .slice none 0 0]) w') (hvF : ∀ k, v.ownBlock = some k → ∀ i, i < gps.length → ¬ FF i k) (hvR : ∀ k, v.ownBlock = some k → ¬ R k ∧ base ≤ k) : Played base gy (nt + 1) w w' := by
  obtain ⟨va', gn, U, hy', ha', ht, hnew, hent, hgn, hU⟩ := hN
  have hsz := ht.size
  have hc : ∀ {e : TypeId} {k n : Nat} {u : Value} {xs : List Value}, w.ownsRow 0 e k u n xs → ∀ {q : Nat}, u.ownBlock = some q → w.heap[q]? = some (.cells ((match w.heap[q]? with | some (.cells c _ _) => c | _ => #[])) e (0, 0)) := fun ho q hq => by
    obtain ⟨cur, hcur⟩ := own_type ho hq
    rw [hcur]
  have hRk : ∀ (q : Nat) (cur : Array Value) (t : TypeId), R q → w.heap[q]? = some (.cells cur t (0, 0)) → t ≠ 84 → t ≠ 138 → w'.heap[q]? = w.heap[q]? := fun q cur t hq hcq h1 h2 => ht.other q (blk_lt hcq) fun hS => by
    rcases hS with rfl | hS | hS
    · exact h1 (cells_type hcq h.y)
    · exact (hvR q hS).1 hq
    · obtain ⟨c2, hc2⟩ := own_type h.a hS
      exact h2 (cells_type hcq hc2)
  have hFk : ∀ i k, i < gps.length → FF i k → w'.heap[k]? = w.heap[k]? := fun i k hi hF => ht.other k ((h.pr i hi).lt k hF) fun hS => by
    rcases hS with rfl | hS | hS
    · exact h.fr i _ hi hF h.ry
    · exact hvF k hS i hi hF
    · exact h.fr i k hi hF (h.ra k hS)
  have hra : ∀ k, va'.ownBlock = some k → R k ∨ (v.ownBlock = some k ∧ k < w'.heap.size) ∨ (w.heap.size ≤ k ∧ k < w'.heap.size) := fun k hk => by
    rcases hnew with hn | hn
    · rw [hn] at hk; exact .inl (h.ra k hk)
    · exact .inr (.inr ⟨hn k hk, (World.ownsRow.lt ha' k hk).2⟩)
  have hUR : ∀ j, j < 4 → ∀ g, (U j).ownBlock = some g → R g ∨ (v.ownBlock = some g ∧ g < w'.heap.size) ∨ (w.heap.size ≤ g ∧ g < w'.heap.size) := fun j hj g hg => by
    rcases hU j hj g hg with h1 | h1
    · exact .inr (.inl ⟨h1, (hent.s j hj).lt g hg⟩)
    · exact .inr (.inr ⟨by omega, (hent.s j hj).lt g hg⟩)
  have hlen : la.length + 1 = (la ++ [gn]).length := by simp
  rw [hlen] at ha'
  refine ⟨vp, va', vb, gps, la ++ [gn], lb, FF, fun k => R k ∨ (v.ownBlock = some k ∧ k < w'.heap.size) ∨ (w.heap.size ≤ k ∧ k < w'.heap.size), ⟨hy', row_blk h.ps fun q hq => hRk q _ _ (h.rp q hq) (hc h.ps hq) (by decide) (by decide), ha', row_blk h.b fun q hq => hRk q _ _ (h.rv q hq) (hc h.b hq) (by decide) (by decide), fun i hi => ((h.pr i hi).keepF hsz fun k hF => hFk i k hi hF).more (Nat.le_succ _), h.dis, h.fb, fun i k hi hF hR => ?_, fun k hR => ?_, .inl h.ry, fun q hq => .inl (h.rp q hq), hra, fun q hq => .inl (h.rv q hq), ((h.ea.keep fun q cur t hq hc ht => hRk q cur t hq hc (by rcases ht with rfl | rfl <;> decide) (by rcases ht with rfl | rfl <;> decide)).mono (fun q hq => Or.inl hq)).add hent (.inr (.inr ⟨by omega, blk_lt hent.row⟩)) hUR, (h.eb.keep fun q cur t hq hc ht => hRk q cur t hq hc (by rcases ht with rfl | rfl <;> decide) (by rcases ht with rfl | rfl <;> decide)).mono (fun q hq => Or.inl hq), Nat.le_trans h.np (Nat.le_succ _), by simp; have := h.na; omega, Nat.le_trans h.nb (Nat.le_succ _), Nat.le_trans h.bs hsz⟩, ?_⟩
  · rcases hR with hR | hR | hR
    · exact h.fr i k hi hF hR
    · exact hvF k hR.1 i hi hF
    · have := (h.pr i hi).lt k hF; omega
  · rcases hR with hR | hR | hR
    · exact ⟨(h.rb k hR).1, Nat.lt_of_lt_of_le (h.rb k hR).2 hsz⟩
    · exact ⟨(hvR k hR.1).2, hR.2⟩
    · have := h.bs; exact ⟨by omega, hR.2⟩
  · refine ht.under (fun k hk => ?_) h.bs
    rcases hk with rfl | hk | hk
    · exact (h.rb _ h.ry).1
    · exact (hvR k hk).2
    · exact (h.rb k (h.ra k hk)).1

theorem PlayAt.noted_b {base gy : Nat} {vp va vb : Value} {gps la lb : List Nat} {FF : Nat → Nat → Prop} {R : Nat → Prop} {nt : Nat} {w w' : World} (h : PlayAt base gy vp va vb gps la lb FF R nt w) {v : Value} {n : Nat} (hN : Noted 57 53 140 3 #[.int .i64 (-7070 - (lb.length : Int)), .int .i64 0, .int .i64 0] w gy v vb lb n (fun x => #[vp, va, x, .slice none 0 0]) w') (hvF : ∀ k, v.ownBlock = some k → ∀ i, i < gps.length → ¬ FF i k) (hvR : ∀ k, v.ownBlock = some k → ¬ R k ∧ base ≤ k) : Played base gy (nt + 1) w w' := by
  obtain ⟨va', gn, U, hy', ha', ht, hnew, hent, hgn, hU⟩ := hN
  have hsz := ht.size
  have hc : ∀ {e : TypeId} {k n : Nat} {u : Value} {xs : List Value}, w.ownsRow 0 e k u n xs → ∀ {q : Nat}, u.ownBlock = some q → w.heap[q]? = some (.cells ((match w.heap[q]? with | some (.cells c _ _) => c | _ => #[])) e (0, 0)) := fun ho q hq => by
    obtain ⟨cur, hcur⟩ := own_type ho hq
    rw [hcur]
  have hRk : ∀ (q : Nat) (cur : Array Value) (t : TypeId), R q → w.heap[q]? = some (.cells cur t (0, 0)) → t ≠ 84 → t ≠ 140 → w'.heap[q]? = w.heap[q]? := fun q cur t hq hcq h1 h2 => ht.other q (blk_lt hcq) fun hS => by
    rcases hS with rfl | hS | hS
    · exact h1 (cells_type hcq h.y)
    · exact (hvR q hS).1 hq
    · obtain ⟨c2, hc2⟩ := own_type h.b hS
      exact h2 (cells_type hcq hc2)
  have hFk : ∀ i k, i < gps.length → FF i k → w'.heap[k]? = w.heap[k]? := fun i k hi hF => ht.other k ((h.pr i hi).lt k hF) fun hS => by
    rcases hS with rfl | hS | hS
    · exact h.fr i _ hi hF h.ry
    · exact hvF k hS i hi hF
    · exact h.fr i k hi hF (h.rv k hS)
  have hra : ∀ k, va'.ownBlock = some k → R k ∨ (v.ownBlock = some k ∧ k < w'.heap.size) ∨ (w.heap.size ≤ k ∧ k < w'.heap.size) := fun k hk => by
    rcases hnew with hn | hn
    · rw [hn] at hk; exact .inl (h.rv k hk)
    · exact .inr (.inr ⟨hn k hk, (World.ownsRow.lt ha' k hk).2⟩)
  have hUR : ∀ j, j < 4 → ∀ g, (U j).ownBlock = some g → R g ∨ (v.ownBlock = some g ∧ g < w'.heap.size) ∨ (w.heap.size ≤ g ∧ g < w'.heap.size) := fun j hj g hg => by
    rcases hU j hj g hg with h1 | h1
    · exact .inr (.inl ⟨h1, (hent.s j hj).lt g hg⟩)
    · exact .inr (.inr ⟨by omega, (hent.s j hj).lt g hg⟩)
  have hlen : lb.length + 1 = (lb ++ [gn]).length := by simp
  rw [hlen] at ha'
  refine ⟨vp, va, va', gps, la, lb ++ [gn], FF, fun k => R k ∨ (v.ownBlock = some k ∧ k < w'.heap.size) ∨ (w.heap.size ≤ k ∧ k < w'.heap.size), ⟨hy', row_blk h.ps fun q hq => hRk q _ _ (h.rp q hq) (hc h.ps hq) (by decide) (by decide), row_blk h.a fun q hq => hRk q _ _ (h.ra q hq) (hc h.a hq) (by decide) (by decide), ha', fun i hi => ((h.pr i hi).keepF hsz fun k hF => hFk i k hi hF).more (Nat.le_succ _), h.dis, h.fb, fun i k hi hF hR => ?_, fun k hR => ?_, .inl h.ry, fun q hq => .inl (h.rp q hq), fun q hq => .inl (h.ra q hq), hra, (h.ea.keep fun q cur t hq hc ht => hRk q cur t hq hc (by rcases ht with rfl | rfl <;> decide) (by rcases ht with rfl | rfl <;> decide)).mono (fun q hq => Or.inl hq), ((h.eb.keep fun q cur t hq hc ht => hRk q cur t hq hc (by rcases ht with rfl | rfl <;> decide) (by rcases ht with rfl | rfl <;> decide)).mono (fun q hq => Or.inl hq)).add hent (.inr (.inr ⟨by omega, blk_lt hent.row⟩)) hUR, Nat.le_trans h.np (Nat.le_succ _), Nat.le_trans h.na (Nat.le_succ _), by simp; have := h.nb; omega, Nat.le_trans h.bs hsz⟩, ?_⟩
  · rcases hR with hR | hR | hR
    · exact h.fr i k hi hF hR
    · exact hvF k hR.1 i hi hF
    · have := (h.pr i hi).lt k hF; omega
  · rcases hR with hR | hR | hR
    · exact ⟨(h.rb k hR).1, Nat.lt_of_lt_of_le (h.rb k hR).2 hsz⟩
    · exact ⟨(hvR k hR.1).2, hR.2⟩
    · have := h.bs; exact ⟨by omega, hR.2⟩
  · refine ht.under (fun k hk => ?_) h.bs
    rcases hk with rfl | hk | hk
    · exact (h.rb _ h.ry).1
    · exact (hvR k hk).2
    · exact (h.rb k (h.rv k hk)).1
end

end Go.Proofs.YtnkpogjiiohapaaGreatDoor

/-! PPlayC: The law: a room is opened. -/
namespace Go.Proofs.YtnkpogjiiohapaaGreatDoor
open Go.RowKit

theorem hasW_nil : (fun _ _ => 0 : Nat → Nat → Nat) = hasW (fun _ => []) := by
  funext d i; simp [hasW]
theorem set4_0 {w : World} {g : Nat} {a b c d u : Value} {t : TypeId} (h : w.heap[g]? = some (.cells #[a, b, c, d] t (0, 0))) : (w.setCell ⟨g, 0, none⟩ u).heap[g]? = some (.cells #[u, b, c, d] t (0, 0)) := by
  simp [World.setCell, Array.getElem?_modify, h]

section
theorem PlayAt.opened {base gy : Nat} {vp va vb : Value} {gps la lb : List Nat} {FF : Nat → Nat → Prop} {R : Nat → Prop} {nt : Nat} {w : World} (h : PlayAt base gy vp va vb gps la lb FF R nt w) {w1 w2 w4 : World} {x r N sp : Nat} {vp' : Value} (hb1 : Below w.heap.size w w1) (hp : isPr w1 x (fun k => w.heap.size ≤ k ∧ k < w1.heap.size) N sp (fun _ => [])) (hb2 : Below w1.heap.size w1 w2)
    (hr : isRef w2 r (fun k => w1.heap.size ≤ k ∧ k < w2.heap.size) N (fun _ => []) (fun _ _ => 0)) (ho : w4.ownsRow 0 132 1 vp' (gps.length + 1) ((gps ++ [w2.heap.size]).flatMap ptrC))
    (hg : ((w2.alloc (.cells #[.pointer (some ⟨x, 0, none⟩), .pointer (some ⟨r, 0, none⟩), .slice none 0 0] 135)).alloc (.cells #[.pointer (some ⟨w2.heap.size, 0, none⟩)] 132)).grownBy w4 vp.ownBlock)
    (hn : newOr ((w2.alloc (.cells #[.pointer (some ⟨x, 0, none⟩), .pointer (some ⟨r, 0, none⟩), .slice none 0 0] 135)).alloc (.cells #[.pointer (some ⟨w2.heap.size, 0, none⟩)] 132)) vp vp') : Played base gy (nt + 1) w (w4.setCell ⟨gy, 0, none⟩ vp') := by
  have hz1 := hb1.size
  have hz2 := hb2.size
  have hz4 := hg.size
  simp at hz4
  have hgy := (h.rb gy h.ry).2
  have hvl : ∀ k, vp.ownBlock = some k → k < w.heap.size := fun k hk => (h.rb k (h.rp k hk)).2
  have hz5 : (w4.setCell ⟨gy, 0, none⟩ vp').heap.size = w4.heap.size := by simp [World.setCell]
  -- what stays
  have hX : ∀ k, k ≤ w2.heap.size → k ≠ gy → vp.ownBlock ≠ some k → (w4.setCell ⟨gy, 0, none⟩ vp').heap[k]? = (w2.alloc (.cells #[.pointer (some ⟨x, 0, none⟩), .pointer (some ⟨r, 0, none⟩), .slice none 0 0] 135)).heap[k]? := fun k hk h1 h2 =>
    (setCell_other h1).trans ((hg.block k (by simp; omega) (Ne.symm h2)).trans (alloc_ne (by simp; omega)))
  have hO : ∀ k, k < w.heap.size → k ≠ gy → vp.ownBlock ≠ some k → (w4.setCell ⟨gy, 0, none⟩ vp').heap[k]? = w.heap[k]? := fun k hk h1 h2 =>
    (hX k (by omega) h1 h2).trans ((alloc_ne (by omega)).trans ((hb2.block k (by omega)).trans (hb1.block k hk)))
  have h1k : ∀ k, w.heap.size ≤ k → k < w1.heap.size → (w4.setCell ⟨gy, 0, none⟩ vp').heap[k]? = w1.heap[k]? := fun k hk hk2 =>
    (hX k (by omega) (by omega) (fun e => by have := hvl k e; omega)).trans ((alloc_ne (by omega)).trans (hb2.block k hk2))
  have h2k : ∀ k, w1.heap.size ≤ k → k < w2.heap.size → (w4.setCell ⟨gy, 0, none⟩ vp').heap[k]? = w2.heap[k]? := fun k hk hk2 =>
    (hX k (by omega) (by omega) (fun e => by have := hvl k e; omega)).trans (alloc_ne (by omega))
  have hgp : (w4.setCell ⟨gy, 0, none⟩ vp').heap[w2.heap.size]? = some (.cells #[.pointer (some ⟨x, 0, none⟩), .pointer (some ⟨r, 0, none⟩), .slice none 0 0] 135 (0, 0)) :=
    (hX _ (Nat.le_refl _) (by omega) (fun e => by have := hvl _ e; omega)).trans (blk_new w2 _)
  have hy4 : w4.heap[gy]? = some (.cells #[vp, va, vb, .slice none 0 0] 84 (0, 0)) := by
    refine (hg.block gy (by simp; omega) fun e => ?_).trans ((alloc_ne (by simp; omega)).trans ((alloc_ne (by omega)).trans ((hb2.block gy (by omega)).trans ((hb1.block gy hgy).trans h.y))))
    obtain ⟨cur, hc⟩ := own_type h.ps e.symm
    exact absurd (cells_type hc h.y) (by decide)
  have hne : vp'.ownBlock ≠ some gy := fun e => by
    obtain ⟨cur, hc⟩ := own_type ho e
    exact absurd (cells_type hc hy4) (by decide)
  have hps := row_other ho hne (o := 0) vp'
  have hRk : ∀ (q : Nat) (cur : Array Value) (t : TypeId), R q → w.heap[q]? = some (.cells cur t (0, 0)) → t ≠ 84 → t ≠ 132 → (w4.setCell ⟨gy, 0, none⟩ vp').heap[q]? = w.heap[q]? := fun q cur t hq hcq h1 h2 => hO q (blk_lt hcq) (fun e => by subst e; exact h1 (cells_type hcq h.y)) fun e => by
    obtain ⟨c2, hc2⟩ := own_type h.ps e
    exact h2 (cells_type hcq hc2)
  have hFk : ∀ i k, i < gps.length → FF i k → (w4.setCell ⟨gy, 0, none⟩ vp').heap[k]? = w.heap[k]? := fun i k hi hF => hO k ((h.pr i hi).lt k hF) (fun e => h.fr i k hi hF (e ▸ h.ry)) fun e => h.fr i k hi hF (h.rp k e)
  have hc : ∀ {e : TypeId} {k n : Nat} {u : Value} {xs : List Value}, w.ownsRow 0 e k u n xs → ∀ {q : Nat}, u.ownBlock = some q → w.heap[q]? = some (.cells ((match w.heap[q]? with | some (.cells c _ _) => c | _ => #[])) e (0, 0)) := fun ho q hq => by
    obtain ⟨cur, hcur⟩ := own_type ho hq
    rw [hcur]
  have hpair : PairAt (w4.setCell ⟨gy, 0, none⟩ vp') w2.heap.size (fun k => w.heap.size ≤ k ∧ k ≤ w2.heap.size) x r (.slice none 0 0) [] (fun k => w.heap.size ≤ k ∧ k < w1.heap.size) (fun k => w1.heap.size ≤ k ∧ k < w2.heap.size) N sp (fun _ => []) := by
    refine ⟨hgp, World.ownsRow_nil _ _ _ _, hp.keepF (by omega) fun k hk => h1k k hk.1 hk.2, ?_, fun k hk => ⟨hk.1, by omega⟩, fun k hk => ⟨by omega, by omega⟩, ⟨by omega, Nat.le_refl _⟩, fun k hk => by simp [Value.ownBlock] at hk, fun k h1 h2 => by omega, fun h1 => by omega, fun h1 => by omega, fun k hk => by simp [Value.ownBlock] at hk, fun k hk => by simp [Value.ownBlock] at hk, fun k hk => by omega⟩
    rw [← hasW_nil]
    exact hr.keep (by omega) fun k hk => h2k k hk.1 hk.2
  have hlen : gps.length + 1 = (gps ++ [w2.heap.size]).length := by simp
  rw [hlen] at hps
  refine ⟨vp', va, vb, gps ++ [w2.heap.size], la, lb, fun j => if j = gps.length then (fun k => w.heap.size ≤ k ∧ k ≤ w2.heap.size) else FF j, fun k => R k ∨ (w2.heap.size < k ∧ k < w4.heap.size), ⟨set4_0 hy4, hps, row_blk h.a fun q hq => hRk q _ _ (h.ra q hq) (hc h.a hq) (by decide) (by decide), row_blk h.b fun q hq => hRk q _ _ (h.rv q hq) (hc h.b hq) (by decide) (by decide), fun i hi => ?_, fun j1 j2 k hj1 hj2 hj => ?_, fun i k hi => ?_, fun i k hi => ?_, fun k hR => ?_, .inl h.ry, fun k hk => ?_, fun q hq => .inl (h.ra q hq), fun q hq => .inl (h.rv q hq),
    (h.ea.keep fun q cur t hq hc ht => hRk q cur t hq hc (by rcases ht with rfl | rfl <;> decide) (by rcases ht with rfl | rfl <;> decide)).mono (fun q hq => Or.inl hq), (h.eb.keep fun q cur t hq hc ht => hRk q cur t hq hc (by rcases ht with rfl | rfl <;> decide) (by rcases ht with rfl | rfl <;> decide)).mono (fun q hq => Or.inl hq), by simp; have := h.np; omega, Nat.le_trans h.na (Nat.le_succ _), Nat.le_trans h.nb (Nat.le_succ _), by have := h.bs; omega⟩, ?_⟩
  · by_cases hl : i < gps.length
    · rw [List.getElem_append_left hl]
      simp only [if_neg (show i ≠ gps.length by omega)]
      exact ((h.pr i hl).keepF (by omega) fun k hF => hFk i k hl hF).more (Nat.le_succ _)
    · have : i = gps.length := by simp at hi; omega
      subst this
      simp
      exact ⟨x, r, .slice none 0 0, [], _, _, N, sp, _, by simp, hpair⟩
  · simp at hj1 hj2
    by_cases h1 : j1 = gps.length
    · have h2 : j2 ≠ gps.length := fun e => hj (h1.trans e.symm)
      simp only [if_pos h1, if_neg h2]
      intro hF hF2
      have := (h.pr j2 (by omega)).lt k hF2; omega
    · by_cases h2 : j2 = gps.length
      · simp only [if_pos h2, if_neg h1]
        intro hF hF2
        have := (h.pr j1 (by omega)).lt k hF; omega
      · simp only [if_neg h1, if_neg h2]
        exact h.dis j1 j2 k (by omega) (by omega) hj
  · simp at hi
    by_cases h1 : i = gps.length
    · simp only [if_pos h1]; intro hF; have := h.bs; omega
    · simp only [if_neg h1]; exact h.fb i k (by omega)
  · simp at hi
    by_cases h1 : i = gps.length
    · simp only [if_pos h1]
      intro hF hR
      rcases hR with hR | hR
      · have := (h.rb k hR).2; omega
      · omega
    · simp only [if_neg h1]
      intro hF hR
      have := (h.pr i (by omega)).lt k hF
      rcases hR with hR | hR
      · exact h.fr i k (by omega) hF hR
      · omega
  · rcases hR with hR | hR
    · exact ⟨(h.rb k hR).1, by have := (h.rb k hR).2; omega⟩
    · have := h.bs; exact ⟨by omega, by omega⟩
  · rcases hn with hn | hn
    · rw [hn] at hk; exact .inl (h.rp k hk)
    · have h1 := hn k hk
      simp at h1
      exact .inr ⟨by omega, by have := (World.ownsRow.lt ho k hk).2; omega⟩
  · have hbs := h.bs
    have ht : Turned (fun k => k = gy ∨ vp.ownBlock = some k) w (w4.setCell ⟨gy, 0, none⟩ vp') :=
      (Turned.of_below (hb1.trans (hb2.mono hz1))).trans ((Turned.of_below (((Below.refl _ w2).alloc (Nat.le_refl _) _).alloc (by simp) _)).trans ((Turned.of_grown hg fun k hk => .inr hk).trans (Turned.setC _ (.inl rfl))))
    refine ht.under (fun k hk => ?_) hbs
    rcases hk with rfl | hk
    · exact (h.rb _ h.ry).1
    · exact (h.rb k (h.rp k hk)).1
end

end Go.Proofs.YtnkpogjiiohapaaGreatDoor

/-! PPlayD: The law: opened. -/
namespace Go.Proofs.YtnkpogjiiohapaaGreatDoor
open Go.RowKit

section
set_option maxRecDepth 1000000 in
set_option maxHeartbeats 8000000 in
theorem opened_q {base gy : Nat} {vp va vb : Value} {gps la lb : List Nat} {FF : Nat → Nat → Prop} {R : Nat → Prop} {nt : Nat} {w : World} (h : PlayAt base gy vp va vb gps la lb FF R nt w) (hnt : nt < 2000000000000) (A B : Int) :
    Calls Tryz.prog 66 #[.pointer (some ⟨gy, 0, none⟩), .int .i64 A, .int .i64 B] w fun e w' => e = .returned (.bool true) ∧ Played base gy (nt + 1) w w' := by
  by_cases hc : 1 ≤ A ∧ A ≤ 4 ∧ 1 ≤ B ∧ B ≤ 50
  · obtain ⟨N, rfl⟩ : ∃ N : Nat, A = N := ⟨A.toNat, by omega⟩
    obtain ⟨sp, rfl⟩ : ∃ N : Nat, B = N := ⟨B.toNat, by omega⟩
    have HP := hid (progNew_q N sp (by omega) (by omega) (by omega) (by omega) w)
    have HR := hid (ref_new N sp (by omega) (by omega) (by omega) (by omega))
    have HH := hid h
    have hnp := h.np
    obtain ⟨a, c, rfl, hc1, hc2, hf⟩ := owns_form h.ps
    have hgl := (h.rb gy h.ry).2
    clear h hf hc
    go_enter Tryz.func66, Tryz.ntmps66
    go_wp2_with (first
      | (go_at_call 37; refine HP.out.mono ?_; rintro e w1 ⟨hb1, x, rfl, hx1⟩; have HB1 := hid hb1; have HX1 := hid hx1; clear hb1 hx1)
      | (go_at_call 93; refine (HR.out w1).mono ?_; rintro e w2 ⟨hb2, r, rfl, hr2⟩; have HB2 := hid hb2; have HR2 := hid hr2; clear hb2 hr2; have hz1 := HB1.out.size; have hz2 := HB2.out.size; have HPL := hid ((HH.out.below HB1.out).below HB2.out); have y0 : w2.cell? ⟨gy, 0, none⟩ = some (.slice a gps.length c) := (by simp [World.cell?, HPL.out.y]); have HO3 := hid (show ((w2.alloc (.cells #[.pointer (some ⟨x, 0, none⟩), .pointer (some ⟨r, 0, none⟩), .slice none 0 0] 135)).alloc (.cells #[.pointer (some ⟨w2.heap.size, 0, none⟩)] 132)).ownsRow 0 132 1 (.slice a gps.length c) gps.length (gps.flatMap ptrC) from owns_keep HPL.out.ps (by go_grown)); have HC3 := hid (show ∀ j u, (ptrC w2.heap.size)[j]? = some u → ((w2.alloc (.cells #[.pointer (some ⟨x, 0, none⟩), .pointer (some ⟨r, 0, none⟩), .slice none 0 0] 135)).alloc (.cells #[.pointer (some ⟨w2.heap.size, 0, none⟩)] 132)).cell? ⟨w2.heap.size + 1, j, none⟩ = some u from cells_ptr (by simp [go_sem])); have HNP := hid (show some gy ≠ (Value.slice a gps.length c).ownBlock from fun ee => by (obtain ⟨cur, hc⟩ := own_type HPL.out.ps ee.symm; exact absurd (cells_type hc HPL.out.y) (by decide))))
      | (at_builtin; refine app_one_at ptrC 1 8 77 132 (.pointer none) (by kernel_rfl) Tryz.underlying77 rfl (by omega) (fun _ => rfl) rfl (.tmp 39) (.tmp 44) rfl 0 (.slice a gps.length c) gps rfl HO3.out (w2.heap.size + 1) 1 w2.heap.size rfl HC3.out (wf_ptr _) (by omega) (by unfold maxLen; omega) (Nat.zero_le _) ?_; intro v4 w4 ho4 hg4 hn4; have HO4 := hid ho4; have HG4 := hid hg4; have HN4 := hid hn4; have HX4 := hid ((hg4.block gy (by simp; omega) HNP.out).trans ((alloc_ne (by simp; omega)).trans ((alloc_ne (by omega)).trans HPL.out.y))); clear ho4 hg4 hn4; obtain ⟨a4, n4c, rfl, hl4, hc4, hf4⟩ := owns_form HO4.out; clear hl4 hc4 hf4; have c2 : w4.cell? ⟨gy, 0, none⟩ = some (.slice a gps.length c) := (by simp [World.cell?, HX4.out]); have hfz4 := blk_fz HX4.out 0))
    go_ret
    exact ⟨rfl, HH.out.opened HB1.out HX1.out HB2.out HR2.out HO4.out HG4.out HN4.out⟩
  · have HP := hid (progNew_no A B hc)
    have HR := hid (new_size A B (by omega))
    have HPL := hid (show Played base gy (nt + 1) w w from ⟨_, _, _, _, _, _, _, _, h.more (Nat.le_succ _), Below.refl _ _⟩)
    clear h hc
    go_enter Tryz.func66, Tryz.ntmps66
    go_wp2_with (first
      | (go_at_call 37; refine (HP.out w).mono ?_; rintro e w1 ⟨rfl, rfl⟩)
      | (go_at_call 93; refine (HR.out _).mono ?_; rintro e w2 ⟨rfl, rfl⟩))
    go_ret
    exact ⟨rfl, HPL.out⟩
end

end Go.Proofs.YtnkpogjiiohapaaGreatDoor

/-! PPlayE: The law: writes and shows, on what is played. -/
namespace Go.Proofs.YtnkpogjiiohapaaGreatDoor
open Go.RowKit

section
theorem writes_play {base gy : Nat} {vp va vb : Value} {gps la lb : List Nat} {FF : Nat → Nat → Prop} {R : Nat → Prop} {nt : Nat} {w : World} (h : PlayAt base gy vp va vb gps la lb FF R nt w) (hnt : nt < 2000000000000) {i : Nat} (hi : i < gps.length) (o : LOp) (hk : LOk o) (h2 : 2 ≤ o.kind) (h8 : o.kind ≤ 8) :
    Calls Tryz.prog 68 #[.pointer (some ⟨gps[i], 0, none⟩), .agg #[.int .i64 o.kind, .int .i64 o.r, .int .i64 o.c, .int .i64 o.d, .int .i64 o.i1, .int .i64 o.i2, .int .i64 o.made, .string o.key, .int .i64 o.a, .int .i64 o.b, .bool o.yes]] w fun e w' => e = .returned (.bool true) ∧ Played base gy (nt + 1) w w' := by
  have hp := h.pr i hi
  have hall : Calls Tryz.prog 68 #[.pointer (some ⟨gps[i], 0, none⟩), .agg #[.int .i64 o.kind, .int .i64 o.r, .int .i64 o.c, .int .i64 o.d, .int .i64 o.i1, .int .i64 o.i2, .int .i64 o.made, .string o.key, .int .i64 o.a, .int .i64 o.b, .bool o.yes]] w fun e w' => e = .returned (.bool true) ∧ Stepped w gps[i] (FF i) (nt + 1) w' := by
    by_cases e2 : o.kind = 2
    · exact writes_put hp o hk e2
    by_cases e3 : o.kind = 3
    · exact writes_nest hp o hk e3 hnt
    by_cases e4 : o.kind = 4
    · exact writes_cut hp o hk e4
    by_cases e5 : o.kind = 5
    · exact writes_insert hp o hk e5 hnt
    by_cases e6 : o.kind = 6
    · exact writes_nestAt hp o e6 hnt
    by_cases e7 : o.kind = 7
    · exact writes_setAt hp o hk e7
    · exact writes_cutAt hp o (by omega)
  refine hall.mono fun e w' hh => ⟨hh.1, ?_⟩
  obtain ⟨F', h1, h2⟩ := hh.2
  exact ⟨_, _, _, _, _, _, _, _, (h.more (Nat.le_succ _)).room hi h1 h2, h.under hi h2⟩
theorem shows_play {base gy : Nat} {vp va vb : Value} {gps la lb : List Nat} {FF : Nat → Nat → Prop} {R : Nat → Prop} {nt : Nat} {w : World} (h : PlayAt base gy vp va vb gps la lb FF R nt w) (hnt : nt < 2000000000000) {i : Nat} (hi : i < gps.length) (o : LOp) (hk : LOk o) (hpow : Pow w) (h2 : 9 ≤ o.kind) (h8 : o.kind ≤ 11) :
    Calls Tryz.prog 69 #[.pointer (some ⟨gy, 0, none⟩), .pointer (some ⟨gps[i], 0, none⟩), .agg #[.int .i64 o.kind, .int .i64 o.r, .int .i64 o.c, .int .i64 o.d, .int .i64 o.i1, .int .i64 o.i2, .int .i64 o.made, .string o.key, .int .i64 o.a, .int .i64 o.b, .bool o.yes]] w fun e w' => e = .returned (.bool true) ∧ Played base gy (nt + 1) w w' := by
  have hp := h.pr i hi
  have hna := h.na
  have hnb := h.nb
  by_cases e9 : o.kind = 9
  · refine (shows_show hp (gy := gy) o e9 hpow).mono fun e w' hh => ⟨hh.1, ?_⟩
    obtain ⟨F', h1, h2, _⟩ := hh.2
    exact ⟨_, _, _, _, _, _, _, _, (h.more (Nat.le_succ _)).room hi (h1.more (Nat.le_succ _)) h2, h.under hi h2⟩
  have hfresh : ∀ {wm : World} {F' : Nat → Prop} {v : Value}, (∀ k, F' k → FF i k) → (∀ k, v.ownBlock = some k → w.heap.size ≤ k) → (∀ k, v.ownBlock = some k → ∀ j, j < gps.length → ¬ (if j = i then F' else FF j) k) ∧ (∀ k, v.ownBlock = some k → ¬ R k) := fun hsub hv => by
    refine ⟨fun k hk j hj hF => ?_, fun k hk hR => by have := hv k hk; have := (h.rb k hR).2; omega⟩
    have hkl := hv k hk
    by_cases hji : j = i
    · rw [if_pos hji] at hF
      have := (h.pr i hi).lt k (hsub k hF); omega
    · rw [if_neg hji] at hF
      have := (h.pr j hj).lt k hF; omega
  by_cases e10 : o.kind = 10
  · refine (shows_elements hp o e10 h.y (fun hF => h.fr i _ hi hF h.ry) (by omega) h.a (fun k hk hF => h.fr i k hi hF (h.ra k hk))).mono fun e w' hh => ⟨hh.1, ?_⟩
    obtain ⟨wm, v, n, F', h1, h2, h3, h4, h5, hN⟩ := hh.2
    have hm := h.room hi h1 h2
    obtain ⟨hv1, hv2⟩ := hfresh (wm := wm) h3 h4
    obtain ⟨vp', va', vb', gps', la', lb', FF', R', hpl, hb⟩ := hm.noted_a hN hv1 fun k hk => ⟨hv2 k hk, by have := h4 k hk; have := h.bs; omega⟩
    exact ⟨_, _, _, _, _, _, _, _, hpl, (h.under hi h2).trans hb⟩
  · refine (shows_values hp o (by omega) h.y (fun hF => h.fr i _ hi hF h.ry) (by omega) h.b (fun k hk hF => h.fr i k hi hF (h.rv k hk)) hk.key).mono fun e w' hh => ⟨hh.1, ?_⟩
    obtain ⟨wm, v, n, F', h1, h2, h3, h4, h5, hN⟩ := hh.2
    have hm := h.room hi h1 h2
    obtain ⟨hv1, hv2⟩ := hfresh (wm := wm) h3 h4
    obtain ⟨vp', va', vb', gps', la', lb', FF', R', hpl, hb⟩ := hm.noted_b hN hv1 fun k hk => ⟨hv2 k hk, by have := h4 k hk; have := h.bs; omega⟩
    exact ⟨_, _, _, _, _, _, _, _, hpl, (h.under hi h2).trans hb⟩
end

end Go.Proofs.YtnkpogjiiohapaaGreatDoor

/-! PPlayF: The law: step. -/
namespace Go.Proofs.YtnkpogjiiohapaaGreatDoor
open Go.RowKit
attribute [local go_sem ↓] Go.wp_at_zero Go.wp_at_succ

/-- The cells of a step. -/
theorem op11 {W : World} {g : Nat} {k0 k1 k2 k3 k4 k5 k6 k8 k9 : Int} {key : ByteArray} {yes : Bool} (h2 : W.heap[g]? = some (.cells #[.int .i64 k0, .int .i64 k1, .int .i64 k2, .int .i64 k3, .int .i64 k4, .int .i64 k5, .int .i64 k6, .string key, .int .i64 k8, .int .i64 k9, .bool yes] 87 (0, 0))) :
    W.cell? ⟨g, 0, none⟩ = some (.int .i64 k0) ∧ W.cell? ⟨g, 1, none⟩ = some (.int .i64 k1) ∧ W.cell? ⟨g, 2, none⟩ = some (.int .i64 k2) ∧ W.cell? ⟨g, 3, none⟩ = some (.int .i64 k3) ∧ W.cell? ⟨g, 4, none⟩ = some (.int .i64 k4) ∧ W.cell? ⟨g, 5, none⟩ = some (.int .i64 k5) ∧ W.cell? ⟨g, 6, none⟩ = some (.int .i64 k6) ∧ W.cell? ⟨g, 7, none⟩ = some (.string key) ∧ W.cell? ⟨g, 8, none⟩ = some (.int .i64 k8) ∧ W.cell? ⟨g, 9, none⟩ = some (.int .i64 k9) ∧ W.cell? ⟨g, 10, none⟩ = some (.bool yes) := by
  refine ⟨?_, ?_, ?_, ?_, ?_, ?_, ?_, ?_, ?_, ?_, ?_⟩ <;> simp [World.cell?, h2]
theorem op_set {W : World} {g : Nat} {k0 k1 k2 k3 k4 k5 k6 k8 k9 j1 j2 : Int} {key : ByteArray} {yes : Bool} (h2 : W.heap[g]? = some (.cells #[.int .i64 k0, .int .i64 k1, .int .i64 k2, .int .i64 k3, .int .i64 k4, .int .i64 k5, .int .i64 k6, .string key, .int .i64 k8, .int .i64 k9, .bool yes] 87 (0, 0))) :
    ((W.setCell ⟨g, 4, none⟩ (.int .i64 j1)).setCell ⟨g, 5, none⟩ (.int .i64 j2)).heap[g]? = some (.cells #[.int .i64 k0, .int .i64 k1, .int .i64 k2, .int .i64 k3, .int .i64 j1, .int .i64 j2, .int .i64 k6, .string key, .int .i64 k8, .int .i64 k9, .bool yes] 87 (0, 0)) := by
  simp [World.setCell, Array.getElem?_modify, h2]
theorem ptrC_cell {w : World} {e : TypeId} {g n cap : Nat} {l : List Nat} (h : w.ownsRow 0 e 1 (.slice (some ⟨g, 0, none⟩) n cap) n (l.flatMap ptrC)) (hn : n = l.length) (i : Nat) (hi : i < l.length) : w.cell? ⟨g, i, none⟩ = some (.pointer (some ⟨l[i], 0, none⟩)) := by
  have := owns_cell (f := ptrC) (k := 1) (fun _ => rfl) h hn i hi 0 (by omega)
  simpa [ptrC] using this
theorem Played.from {base gy nt : Nat} {w W w' : World} (hb : Below w.heap.size w W) (hs : base ≤ w.heap.size) (h : Played base gy nt W w') : Played base gy nt w w' := by
  obtain ⟨vp, va, vb, gps, la, lb, FF, R, h1, h2⟩ := h
  exact ⟨vp, va, vb, gps, la, lb, FF, R, h1, (hb.mono hs).trans h2⟩

section
set_option maxRecDepth 1000000 in
set_option maxHeartbeats 8000000 in
theorem step_new {base gy : Nat} {vp va vb : Value} {gps la lb : List Nat} {FF : Nat → Nat → Prop} {R : Nat → Prop} {nt : Nat} {w : World} (h : PlayAt base gy vp va vb gps la lb FF R nt w) (hnt : nt < 2000000000000) (o : LOp) (hkd : o.kind = 1) :
    Calls Tryz.prog 35 #[.pointer (some ⟨gy, 0, none⟩), .agg #[.int .i64 o.kind, .int .i64 o.r, .int .i64 o.c, .int .i64 o.d, .int .i64 o.i1, .int .i64 o.i2, .int .i64 o.made, .string o.key, .int .i64 o.a, .int .i64 o.b, .bool o.yes]] w fun e w' => e = .returned (.bool true) ∧ Played base gy (nt + 1) w w' := by
  rw [hkd]
  have HB := hid ((Below.refl w.heap.size w).alloc (Nat.le_refl _) (.cells #[.int .i64 1, .int .i64 o.r, .int .i64 o.c, .int .i64 o.d, .int .i64 o.i1, .int .i64 o.i2, .int .i64 o.made, .string o.key, .int .i64 o.a, .int .i64 o.b, .bool o.yes] 87))
  have HO := hid (opened_q (h.below HB.out) hnt o.a o.b)
  have hbs := h.bs
  clear h
  go_enter Tryz.func35, Tryz.ntmps35
  go_wp2_with (first
    | (go_at_call 66; refine HO.out.mono ?_; rintro e w1 ⟨rfl, hp1⟩; have HP1 := hid hp1; clear hp1))
  go_ret
  exact ⟨rfl, HP1.out.from HB.out hbs⟩

set_option maxRecDepth 1000000 in
set_option maxHeartbeats 8000000 in
theorem step_none {base gy : Nat} {vp va vb : Value} {gps la lb : List Nat} {FF : Nat → Nat → Prop} {R : Nat → Prop} {nt : Nat} {w : World} (h : PlayAt base gy vp va vb gps la lb FF R nt w) (o : LOp) (hkd : 2 ≤ o.kind ∧ o.kind ≤ 11) (hz : gps.length = 0) :
    Calls Tryz.prog 35 #[.pointer (some ⟨gy, 0, none⟩), .agg #[.int .i64 o.kind, .int .i64 o.r, .int .i64 o.c, .int .i64 o.d, .int .i64 o.i1, .int .i64 o.i2, .int .i64 o.made, .string o.key, .int .i64 o.a, .int .i64 o.b, .bool o.yes]] w fun e w' => e = .returned (.bool true) ∧ Played base gy (nt + 1) w w' := by
  have HB := hid ((Below.refl w.heap.size w).alloc (Nat.le_refl _) (.cells #[.int .i64 o.kind, .int .i64 o.r, .int .i64 o.c, .int .i64 o.d, .int .i64 o.i1, .int .i64 o.i2, .int .i64 o.made, .string o.key, .int .i64 o.a, .int .i64 o.b, .bool o.yes] 87))
  obtain ⟨a, c, rfl, hc1, hc2, hf⟩ := owns_form h.ps
  have y0 : (w.alloc (.cells #[.int .i64 o.kind, .int .i64 o.r, .int .i64 o.c, .int .i64 o.d, .int .i64 o.i1, .int .i64 o.i2, .int .i64 o.made, .string o.key, .int .i64 o.a, .int .i64 o.b, .bool o.yes] 87)).cell? ⟨gy, 0, none⟩ = some (.slice a 0 c) := by
    have := (h.below HB.out).y
    simp [World.cell?, this, hz]
  have hyl := (h.rb gy h.ry).2
  have hyn : gy ≠ w.heap.size := by omega
  have HP := hid (show Played base gy (nt + 1) w (w.alloc (.cells #[.int .i64 o.kind, .int .i64 o.r, .int .i64 o.c, .int .i64 o.d, .int .i64 o.i1, .int .i64 o.i2, .int .i64 o.made, .string o.key, .int .i64 o.a, .int .i64 o.b, .bool o.yes] 87)) from ⟨_, _, _, _, _, _, _, _, (h.below HB.out).more (Nat.le_succ _), HB.out.mono h.bs⟩)
  have hk1 : ¬ (o.kind = 1) := by omega
  have hk2 : ¬ (o.kind < 2) := by omega
  have hk3 : ¬ (22 < o.kind) := by omega
  clear h hf
  go_enter Tryz.func35, Tryz.ntmps35
  go_wp2
  go_ret
  exact ⟨rfl, HP.out⟩
end

end Go.Proofs.YtnkpogjiiohapaaGreatDoor
