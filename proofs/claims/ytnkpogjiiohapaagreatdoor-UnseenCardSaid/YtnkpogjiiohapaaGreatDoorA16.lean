/- Our own text (GHistE, GHistF, GCmpA). -/
import Derived.Sort.Grow
import Derived.Test.YtnkpogjiiohapaaGreatDoorA15
import Derived.Test.YtnkpogjiiohapaaGreatDoorA12
set_option linter.unusedSimpArgs false
set_option linter.unusedVariables false

/-! GHistE: A copy's history in memory, in general: what all its parts are, and what keeps them. -/
namespace Go.Proofs.YtnkpogjiiohapaaGreatDoor
open Go.RowKit

/-- A change in memory, its Ids in blocks of I. -/
def isChgI (w : World) (I : Nat → Prop) (c : Value) : QChg → Prop
  | .inl l => c = .iface 197 (.agg #[.bool l])
  | .inr (.inl (x, b)) => c = .iface 179 (.agg #[.int .i64 x.1, .int .i64 x.2, .int .i64 b.1, .int .i64 b.2])
  | .inr (.inr (.inl (o, key, x, val, gs))) => ∃ s, c = .iface 182 (.agg #[.int .i64 o.1, .int .i64 o.2, .string key, .int .i64 x.1, .int .i64 x.2, .int .i64 val.1, .int .i64 val.2.1, .int .i64 val.2.2, s]) ∧ isIds w s gs ∧ ∀ k, s.ownBlock = some k → I k
  | .inr (.inr (.inr (o, key, x, gs))) => ∃ s, c = .iface 184 (.agg #[.int .i64 o.1, .int .i64 o.2, .string key, .int .i64 x.1, .int .i64 x.2, s]) ∧ isIds w s gs ∧ ∀ k, s.ownBlock = some k → I k
theorem isChgI.chg {w : World} {I : Nat → Prop} {c : Value} {q : QChg} (h : isChgI w I c q) : isChg w c q := by
  rcases q with l | ⟨x, b⟩ | ⟨o, key, x, val, gs⟩ | ⟨o, key, x, gs⟩
  · exact h
  · exact h
  · obtain ⟨s, e, hi, _⟩ := h; exact ⟨s, e, hi⟩
  · obtain ⟨s, e, hi, _⟩ := h; exact ⟨s, e, hi⟩
theorem isChgI.keepI {w w' : World} {I I' : Nat → Prop} {c : Value} {q : QChg} (h : isChgI w I c q) (hk : ∀ k, I k → w'.heap[k]? = w.heap[k]?) (hI : ∀ k, I k → I' k) : isChgI w' I' c q := by
  rcases q with l | ⟨x, b⟩ | ⟨o, key, x, val, gs⟩ | ⟨o, key, x, gs⟩
  · exact h
  · exact h
  · obtain ⟨s, e, hi, hs⟩ := h; exact ⟨s, e, row_blk hi fun g hg => hk g (hs g hg), fun k hk => hI k (hs k hk)⟩
  · obtain ⟨s, e, hi, hs⟩ := h; exact ⟨s, e, row_blk hi fun g hg => hk g (hs g hg), fun k hk => hI k (hs k hk)⟩

theorem DoTo.append : ∀ {l m : List QOp} {D D1 D2 : QDoc}, DoTo D l D1 → DoTo D1 m D2 → DoTo D (l ++ m) D2
  | [], m, D, D1, D2, h, k => by
    have e : D1 = D := h
    subst e
    exact k
  | x :: l, m, D, D1, D2, ⟨D3, h1, h2⟩, k => ⟨D3, h1, h2.append k⟩
/-- A document to begin with, and operations that are done in it ahead of all others. -/
abbrev BDoc := QDoc × List QOp
def DoP (B : BDoc) (l : List QOp) (D : QDoc) : Prop := DoTo B.1 (B.2 ++ l) D
theorem DoP.append {B : BDoc} {l m : List QOp} {D1 D2 : QDoc} (h : DoP B l D1) (k : DoTo D1 m D2) : DoP B (l ++ m) D2 := by
  unfold DoP at *
  rw [← List.append_assoc]
  exact DoTo.append h k

/-- A document that is remembered. -/
structure RDoc where
  d : Nat
  b : Nat
  e : Nat
  D : QDoc
def mapsOf (rs : List RDoc) (bo be : Nat) : List Nat := rs.flatMap (fun r => [r.b, r.e]) ++ [bo, be]
/-- What lies in F and is none of the documents' own maps. -/
def ofR (F : Nat → Prop) (rs : List RDoc) (bo be : Nat) (k : Nat) : Prop := F k ∧ k ∉ mapsOf rs bo be

/-- A HISTORY: the first n of its operations are done in its document. -/
structure HistG (w : World) (hb sp su : Nat) (vo vr : Value) (ops : List MOp) (n : Nat) (rs : List RDoc) (d bo be : Nat) (F I : Nat → Prop) (D0 : BDoc) (D : QDoc) : Prop where
  blk : isHs w hb sp su vo vr d
  row : ownMOps 0 w vo ops
  chg : ∀ o ∈ ops, isChgI w I (.iface o.t o.v) o.op.chg
  mem : ownDocs 0 w vr (rs.map (·.d))
  sp1 : 1 ≤ sp
  sp2 : sp ≤ 50
  su1 : su < sp
  le : n ≤ ops.length
  len : ops.length ≤ 300
  docs : ∀ r ∈ rs, isQ w r.d r.b r.e r.D.1 r.D.2 ∧ QOwn r.b r.e (ofR F rs bo be) r.D.1 r.D.2 ∧ QNd r.D
  does : ∀ j (hj : j < rs.length), DoP D0 ((ops.map (·.op)).take (j * sp - su)) rs[j].D
  q : isQ w d bo be D.1 D.2
  own : QOwn bo be (ofR F rs bo be) D.1 D.2
  nd : QNd D
  did : DoP D0 ((ops.map (·.op)).take n) D
  maps : (mapsOf rs bo be).Nodup
  fh : F hb
  fo : ∀ k, vo.ownBlock = some k → F k
  fv : ∀ k, vr.ownBlock = some k → F k
  fr : ∀ r ∈ rs, F r.d ∧ F r.b ∧ F r.e
  fd : F d
  fbo : F bo
  fbe : F be
  lt : ∀ k, F k → k < w.heap.size
  nI : ∀ k, I k → ¬ F k
  iI : ∀ k, I k → k < w.heap.size

/-- A document that lies apart from what turned. -/
theorem isQ.apart {R : Nat → Prop} {w w' : World} {d bo be : Nat} {os : List (PId × CQObj)} {els : List (PId × CQEl)} (h : isQ w d bo be os els) (ho : QOwn bo be R os els) (hd : w'.heap[d]? = w.heap[d]?) (hbo : w'.heap[bo]? = w.heap[bo]?) (hbe : w'.heap[be]? = w.heap[be]?) (hR : ∀ k, R k → w'.heap[k]? = w.heap[k]?) : isQ w' d bo be os els := by
  obtain ⟨es, clk, hmo⟩ := h.ho
  obtain ⟨es2, clk2, hme⟩ := h.he
  refine ⟨by rw [hd]; exact h.hd, ⟨es, clk, hmo.blockK hbo⟩, ⟨es2, clk2, hme.blockK hbe⟩, fun p hp => ?_, fun p hp => ?_⟩
  · exact (h.hk p hp).blockK (fun b hb => hR b (ho.kv p hp b hb)) (fun k hk b hb => hR b (ho.kk p hp k hk b hb))
  · exact (h.hv p hp).blockK (fun b hb => hR b (ho.vals p hp b hb))

theorem mem_maps {rs : List RDoc} {bo be k : Nat} : k ∈ mapsOf rs bo be ↔ (∃ r ∈ rs, k = r.b ∨ k = r.e) ∨ k = bo ∨ k = be := by
  unfold mapsOf
  simp [List.mem_flatMap]

section
/-- What its blocks say it says. -/
theorem HistG.keepF {w w' : World} {hb sp su : Nat} {vo vr : Value} {ops : List MOp} {n : Nat} {rs : List RDoc} {d bo be : Nat} {F I : Nat → Prop} {D0 : BDoc} {D : QDoc} (h : HistG w hb sp su vo vr ops n rs d bo be F I D0 D) (hs : w.heap.size ≤ w'.heap.size) (hk : ∀ k, F k → w'.heap[k]? = w.heap[k]?) (hi : ∀ k, I k → w'.heap[k]? = w.heap[k]?) : HistG w' hb sp su vo vr ops n rs d bo be F I D0 D := by
  refine ⟨?_, row_blk h.row fun g hg => hk g (h.fo g hg), fun o ho => (h.chg o ho).keepI hi (fun _ x => x), row_blk h.mem fun g hg => hk g (h.fv g hg), h.sp1, h.sp2, h.su1, h.le, h.len, fun r hr => ?_, h.does, ?_, h.own, h.nd, h.did, h.maps, h.fh, h.fo, h.fv, h.fr, h.fd, h.fbo, h.fbe, fun k hF => Nat.lt_of_lt_of_le (h.lt k hF) hs, h.nI, fun k hF => Nat.lt_of_lt_of_le (h.iI k hF) hs⟩
  · unfold isHs; rw [hk _ h.fh]; exact h.blk
  · obtain ⟨a, b, c⟩ := h.docs r hr
    obtain ⟨f1, f2, f3⟩ := h.fr r hr
    exact ⟨a.apart b (hk _ f1) (hk _ f2) (hk _ f3) fun k hR => hk k hR.1, b, c⟩
  · exact h.q.apart h.own (hk _ h.fd) (hk _ h.fbo) (hk _ h.fbe) fun k hR => hk k hR.1
theorem HistG.keep {w w' : World} {hb sp su : Nat} {vo vr : Value} {ops : List MOp} {n : Nat} {rs : List RDoc} {d bo be : Nat} {F I : Nat → Prop} {D0 : BDoc} {D : QDoc} (h : HistG w hb sp su vo vr ops n rs d bo be F I D0 D) (hb' : Below w.heap.size w w') : HistG w' hb sp su vo vr ops n rs d bo be F I D0 D := h.keepF hb'.size (fun k hk => hb'.block k (h.lt k hk)) (fun k hk => hb'.block k (h.iI k hk))
end

/-- SOME MORE OPERATIONS ARE DONE. -/
theorem HistG.done {w w' : World} {hb sp su : Nat} {vo vr : Value} {ops : List MOp} {n : Nat} {rs : List RDoc} {d bo be : Nat} {F I : Nat → Prop} {D0 : BDoc} {D : QDoc} (h : HistG w hb sp su vo vr ops n rs d bo be F I D0 D) (ht : Turned (fun k => k = bo ∨ k = be) w w') {m : Nat} (hnm : n ≤ m) (hm : m ≤ ops.length) {D' : QDoc} (hdo : DoTo D (((ops.map (·.op)).drop n).take (m - n)) D') (hq : isQ w' d bo be D'.1 D'.2) (ho : QOwn bo be (fun k => ofR F rs bo be k ∨ w.heap.size ≤ k) D'.1 D'.2) :
    ∃ F', HistG w' hb sp su vo vr ops m rs d bo be F' I D0 D' ∧ Keeps F F' w w' := by
  obtain ⟨es, clk, hmo⟩ := h.q.ho
  obtain ⟨es2, clk2, hme⟩ := h.q.he
  have hcell : ∀ (k : Nat) (c : Array Value) (t : TypeId) (f : Nat × Nat), w.heap[k]? = some (.cells c t f) → w'.heap[k]? = w.heap[k]? := fun k c t f hk => ht.other k (blk_lt hk) fun hS => by
    rcases hS with rfl | rfl
    · rw [hmo.blk] at hk; cases hk
    · rw [hme.blk] at hk; cases hk
  have hrow : ∀ {e : TypeId} {size : Nat} {v : Value} {n : Nat} {xs : List Value}, w.ownsRow 0 e size v n xs → w'.ownsRow 0 e size v n xs := fun hr => row_blk hr fun g hg => by
    obtain ⟨cur, hc⟩ := own_type hr hg
    exact hcell g _ _ _ hc
  have hmap : ∀ k, F k → k ≠ bo → k ≠ be → w'.heap[k]? = w.heap[k]? := fun k hF h1 h2 => ht.other k (h.lt k hF) fun hS => hS.elim h1 h2
  have hR : ∀ k, ofR F rs bo be k → w'.heap[k]? = w.heap[k]? := fun k hk => hmap k hk.1 (fun e => hk.2 (mem_maps.2 (.inr (.inl e)))) (fun e => hk.2 (mem_maps.2 (.inr (.inr e))))
  have hRR : ∀ k, ofR F rs bo be k → ofR (fun k => F k ∨ (w.heap.size ≤ k ∧ k < w'.heap.size)) rs bo be k := fun k hk => ⟨.inl hk.1, hk.2⟩
  have hlm : ∀ k ∈ mapsOf rs bo be, k < w.heap.size := fun k hk => by
    rcases mem_maps.1 hk with ⟨r, hr, rfl | rfl⟩ | rfl | rfl
    · exact h.lt _ (h.fr r hr).2.1
    · exact h.lt _ (h.fr r hr).2.2
    · exact h.lt _ h.fbo
    · exact h.lt _ h.fbe
  have hnb : ∀ r ∈ rs, r.b ≠ bo ∧ r.b ≠ be ∧ r.e ≠ bo ∧ r.e ≠ be := fun r hr => by
    have hm := h.maps
    unfold mapsOf at hm
    have hd := (List.nodup_append.1 hm).2.2
    have h1 : r.b ∈ rs.flatMap (fun r => [r.b, r.e]) := List.mem_flatMap.2 ⟨r, hr, by simp⟩
    have h2 : r.e ∈ rs.flatMap (fun r => [r.b, r.e]) := List.mem_flatMap.2 ⟨r, hr, by simp⟩
    exact ⟨hd _ h1 _ (by simp), hd _ h1 _ (by simp), hd _ h2 _ (by simp), hd _ h2 _ (by simp)⟩
  have hto := ho.there hq
  refine ⟨fun k => F k ∨ (w.heap.size ≤ k ∧ k < w'.heap.size), ⟨?_, hrow h.row, fun o hoo => (h.chg o hoo).keepI (fun k hk => ht.other k (h.iI k hk) fun hS => ?_) (fun _ x => x), hrow h.mem, h.sp1, h.sp2, h.su1, hm, h.len, fun r hr => ?_, h.does, hq, ?_, h.nd.does hdo, ?_, h.maps, .inl h.fh, fun k hk => .inl (h.fo k hk), fun k hk => .inl (h.fv k hk), fun r hr => ⟨.inl (h.fr r hr).1, .inl (h.fr r hr).2.1, .inl (h.fr r hr).2.2⟩, .inl h.fd, .inl h.fbo, .inl h.fbe, fun k hk => hk.elim (fun hF => Nat.lt_of_lt_of_le (h.lt k hF) ht.size) (fun x => x.2), fun k hi hk => hk.elim (h.nI k hi) (fun x => by have := h.iI k hi; omega), fun k hi => Nat.lt_of_lt_of_le (h.iI k hi) ht.size⟩, ⟨ht.os, ht.tape, ht.output, ht.size, fun k hk hF => ht.other k hk fun hS => ?_, fun k hk => hk.imp id (·.1)⟩⟩
  · unfold isHs; rw [hcell _ _ _ _ h.blk]; exact h.blk
  · rcases hS with rfl | rfl
    · exact h.nI _ hk h.fbo
    · exact h.nI _ hk h.fbe
  · obtain ⟨a, b, c⟩ := h.docs r hr
    obtain ⟨n1, n2, n3, n4⟩ := hnb r hr
    exact ⟨a.apart b (hcell _ _ _ _ a.hd) (hmap _ (h.fr r hr).2.1 n1 n2) (hmap _ (h.fr r hr).2.2 n3 n4) hR, b.mono hRR (fun hx => hx.2 (mem_maps.2 (.inl ⟨r, hr, .inl rfl⟩))) (fun hx => hx.2 (mem_maps.2 (.inl ⟨r, hr, .inr rfl⟩))), c⟩
  · refine hto.mono (fun k hk => ?_) (fun hx => hx.2 (mem_maps.2 (.inr (.inl rfl)))) (fun hx => hx.2 (mem_maps.2 (.inr (.inr rfl))))
    rcases hk.1 with hk1 | hk1
    · exact hRR k hk1
    · exact ⟨.inr ⟨hk1, hk.2⟩, fun hx => by have := hlm k hx; omega⟩
  · have := h.did.append hdo
    rwa [← List.take_add, show n + (m - n) = m by omega] at this
  · rcases hS with rfl | rfl
    · exact hF h.fbo
    · exact hF h.fbe

/-- ONE STATE MORE IS REMEMBERED. -/
theorem HistG.cloned {w w' : World} {hb sp su : Nat} {vo vr vr' : Value} {ops : List MOp} {n : Nat} {rs : List RDoc} {d bo be : Nat} {F I : Nat → Prop} {D0 : BDoc} {D : QDoc} (h : HistG w hb sp su vo vr ops n rs d bo be F I D0 D) (ht : Turned (fun k => k = hb ∨ vr.ownBlock = some k) w w') {r : RDoc} (hx : isHs w' hb sp su vo vr' d) (hr : ownDocs 0 w' vr' (rs.map (·.d) ++ [r.d])) (hn : newOr w vr vr')
    (hq : isQ w' r.d r.b r.e r.D.1 r.D.2) (he : r.D = D) (h1 : w.heap.size ≤ r.d) (h2 : w.heap.size ≤ r.b) (h3 : w.heap.size ≤ r.e) (h4 : r.b ≠ r.e) (hj : rs.length * sp - su = n) :
    ∃ F', HistG w' hb sp su vo vr' ops n (rs ++ [r]) d bo be F' I D0 D ∧ Keeps F F' w w' := by
  have hcell : ∀ (k : Nat) (c : Array Value) (t : TypeId) (f : Nat × Nat), w.heap[k]? = some (.cells c t f) → t ≠ 204 → t ≠ 101 → w'.heap[k]? = w.heap[k]? := fun k c t f hk n1 n2 => ht.other k (blk_lt hk) fun hS => by
    rcases hS with rfl | hS
    · exact n1 (cells_type hk h.blk)
    · obtain ⟨cur, hc⟩ := own_type h.mem hS
      exact n2 (cells_type hk hc)
  have hmapb : ∀ (k : Nat) (es : Array MapEntry) (clk : Nat), w.heap[k]? = some (.map es clk) → w'.heap[k]? = w.heap[k]? := fun k es clk hk => ht.other k (blk_lt hk) fun hS => by
    rcases hS with rfl | hS
    · have := h.blk; unfold isHs at this; rw [hk] at this; cases this
    · obtain ⟨cur, hc⟩ := own_type h.mem hS
      rw [hk] at hc; cases hc
  have hkept : ∀ {d bo be : Nat} {os : List (PId × CQObj)} {els : List (PId × CQEl)}, isQ w d bo be os els → isQ w' d bo be os els := fun hq => hq.kept ht fun k hk => by
    rcases hk with rfl | hk
    · exact ⟨_, _, _, h.blk, by decide⟩
    · obtain ⟨cur, hc⟩ := own_type h.mem hk
      exact ⟨_, _, _, hc, by decide⟩
  have hlm : ∀ k ∈ mapsOf rs bo be, k < w.heap.size := fun k hk => by
    rcases mem_maps.1 hk with ⟨r, hr, rfl | rfl⟩ | rfl | rfl
    · exact h.lt _ (h.fr r hr).2.1
    · exact h.lt _ (h.fr r hr).2.2
    · exact h.lt _ h.fbo
    · exact h.lt _ h.fbe
  have hmm : ∀ k, k ∈ mapsOf (rs ++ [r]) bo be ↔ k ∈ mapsOf rs bo be ∨ k = r.b ∨ k = r.e := fun k => by
    rw [mem_maps, mem_maps]
    constructor
    · rintro (⟨q, hq, e⟩ | e)
      · rcases List.mem_append.1 hq with hq | hq
        · exact .inl (.inl ⟨q, hq, e⟩)
        · obtain rfl := List.mem_singleton.1 hq
          exact .inr e
      · exact .inl (.inr e)
    · rintro ((⟨q, hq, e⟩ | e) | e)
      · exact .inl ⟨q, List.mem_append_left _ hq, e⟩
      · exact .inr e
      · exact .inl ⟨r, List.mem_append_right _ (List.mem_singleton.2 rfl), e⟩
  have hRR : ∀ k, ofR F rs bo be k → ofR (fun k => F k ∨ (w.heap.size ≤ k ∧ k < w'.heap.size)) (rs ++ [r]) bo be k := fun k hk => ⟨.inl hk.1, fun hx => by
    rcases (hmm k).1 hx with hx | rfl | rfl
    · exact hk.2 hx
    · have := h.lt _ hk.1; omega
    · have := h.lt _ hk.1; omega⟩
  have hnR : ∀ k, k ∈ mapsOf (rs ++ [r]) bo be → ¬ ofR (fun k => F k ∨ (w.heap.size ≤ k ∧ k < w'.heap.size)) (rs ++ [r]) bo be k := fun k hk hx => hx.2 hk
  have hq' := hq
  rw [he] at hq'
  obtain ⟨_, _, hqo⟩ := hq.ho
  obtain ⟨_, _, hqe⟩ := hq.he
  have hb1 := hqo.lt
  have hb2 := hqe.lt
  have hb3 := hq.lt
  have hdoc : isQ w' r.d r.b r.e r.D.1 r.D.2 ∧ QOwn r.b r.e (ofR (fun k => F k ∨ (w.heap.size ≤ k ∧ k < w'.heap.size)) (rs ++ [r]) bo be) r.D.1 r.D.2 ∧ QNd r.D := by
    refine ⟨hq, ?_, he ▸ h.nd⟩
    rw [he]
    have o := h.own
    exact ⟨h4, hnR _ ((hmm _).2 (.inr (.inl rfl))), hnR _ ((hmm _).2 (.inr (.inr rfl))), fun p hp b hb => hRR b (o.kv p hp b hb), fun p hp k hk b hb => hRR b (o.kk p hp k hk b hb), fun p hp b hb => hRR b (o.vals p hp b hb)⟩
  refine ⟨fun k => F k ∨ (w.heap.size ≤ k ∧ k < w'.heap.size), ⟨hx, row_blk h.row fun g hg => ?_, fun o hoo => (h.chg o hoo).keepI (fun k hk => ht.other k (h.iI k hk) fun hS => ?_) (fun _ x => x), by rw [List.map_append]; exact hr, h.sp1, h.sp2, h.su1, h.le, h.len, fun q hq => ?_, fun j hj' => ?_, hkept h.q, h.own.mono hRR (hnR _ ((hmm _).2 (.inl (mem_maps.2 (.inr (.inl rfl)))))) (hnR _ ((hmm _).2 (.inl (mem_maps.2 (.inr (.inr rfl)))))), h.nd, h.did, ?_, .inl h.fh, fun k hk => .inl (h.fo k hk), fun k hk => ?_, fun q hq => ?_, .inl h.fd, .inl h.fbo, .inl h.fbe, fun k hk => hk.elim (fun hF => Nat.lt_of_lt_of_le (h.lt k hF) ht.size) (fun x => x.2), fun k hi hk => hk.elim (h.nI k hi) (fun x => by have := h.iI k hi; omega), fun k hi => Nat.lt_of_lt_of_le (h.iI k hi) ht.size⟩, ⟨ht.os, ht.tape, ht.output, ht.size, fun k hk hF => ht.other k hk fun hS => ?_, fun k hk => hk.imp id (·.1)⟩⟩
  · obtain ⟨cur, hc⟩ := own_type h.row hg
    exact hcell g _ _ _ hc (by decide) (by decide)
  · rcases hS with rfl | hS
    · exact h.nI _ hk h.fh
    · exact h.nI _ hk (h.fv _ hS)
  · rcases List.mem_append.1 hq with hq | hq
    · obtain ⟨a, b, c⟩ := h.docs q hq
      exact ⟨hkept a, b.mono hRR (hnR _ ((hmm _).2 (.inl (mem_maps.2 (.inl ⟨q, hq, .inl rfl⟩))))) (hnR _ ((hmm _).2 (.inl (mem_maps.2 (.inl ⟨q, hq, .inr rfl⟩))))), c⟩
    · obtain rfl := List.mem_singleton.1 hq
      exact hdoc
  · by_cases hlt : j < rs.length
    · rw [List.getElem_append_left hlt]; exact h.does j hlt
    · have : j = rs.length := by simp at hj'; omega
      subst this
      rw [List.getElem_concat_length rfl, hj, he]
      exact h.did
  · have hm := h.maps
    unfold mapsOf at hm ⊢
    rw [List.flatMap_append, List.append_assoc, List.nodup_append]
    obtain ⟨m1, m2, m3⟩ := List.nodup_append.1 hm
    have hlt1 : ∀ k ∈ rs.flatMap (fun r => [r.b, r.e]), k < w.heap.size := fun k hk => hlm k (by unfold mapsOf; exact List.mem_append_left _ hk)
    have lbo := h.lt _ h.fbo
    have lbe := h.lt _ h.fbe
    have hbb : bo ≠ be := h.own.ne
    refine ⟨m1, ?_, fun a ha b hb => ?_⟩
    · simp only [List.flatMap_cons, List.flatMap_nil, List.append_nil, List.cons_append, List.nil_append, List.nodup_cons, List.mem_cons, List.not_mem_nil, or_false, not_or, not_false_eq_true, List.nodup_nil, and_true]
      refine ⟨⟨h4, by omega, by omega⟩, ⟨by omega, by omega⟩, hbb⟩
    · rcases List.mem_append.1 hb with hb | hb
      · have := hlt1 a ha
        simp at hb
        rcases hb with rfl | rfl <;> omega
      · exact m3 a ha b hb
  · rcases hn with e | e
    · rw [e] at hk
      exact .inl (h.fv k hk)
    · refine .inr ⟨e k hk, ?_⟩
      obtain ⟨cur, hc⟩ := own_type hr hk
      exact blk_lt hc
  · rcases List.mem_append.1 hq with hq | hq
    · exact ⟨.inl (h.fr q hq).1, .inl (h.fr q hq).2.1, .inl (h.fr q hq).2.2⟩
    · obtain rfl := List.mem_singleton.1 hq
      exact ⟨.inr ⟨h1, hb3⟩, .inr ⟨h2, hb1⟩, .inr ⟨h3, hb2⟩⟩
  · rcases hS with rfl | hS
    · exact hF h.fh
    · exact hF (h.fv _ hS)

end Go.Proofs.YtnkpogjiiohapaaGreatDoor

/-! GHistF: A copy's history in general: do. -/
namespace Go.Proofs.YtnkpogjiiohapaaGreatDoor
open Go.RowKit
attribute [local go_sem ↓] Go.wp_at_zero Go.wp_at_succ

/-- Which state is the next to be remembered, and when. -/
theorem next_state {sp su n r : Nat} (h1 : 1 ≤ sp) (hsu : su < sp) (hr : r = (su + n) / sp + 1) : n < r * sp - su ∧ r * sp ≤ su + n + sp ∧ ∀ m, n ≤ m → (m < r * sp - su → r = (su + m) / sp + 1) ∧ (m = r * sp - su → r + 1 = (su + m) / sp + 1) := by
  have a := Nat.div_add_mod (su + n) sp
  have b := Nat.mod_lt (su + n) h1
  generalize (su + n) / sp = q at *
  generalize (su + n) % sp = t at *
  have e : r * sp = sp * q + sp := by rw [hr, Nat.add_mul, Nat.mul_comm, Nat.one_mul]
  obtain ⟨P, hP⟩ : ∃ P, P = sp * q := ⟨_, rfl⟩
  rw [← hP] at a e
  refine ⟨by omega, by omega, fun m hm => ⟨fun hlt => ?_, fun he => ?_⟩⟩
  · rw [hr]
    congr 1
    have h2 : su + m = (su + m - P) + sp * q := by omega
    rw [h2, Nat.add_mul_div_left _ _ h1, Nat.div_eq_of_lt (by omega)]
    omega
  · congr 1
    rw [show su + m = sp * r by rw [Nat.mul_comm]; omega, Nat.mul_div_cancel_left _ h1]

set_option maxRecDepth 1000000 in
set_option maxHeartbeats 4000000 in
theorem histDo_any {w : World} {hb sp su : Nat} {vo vr : Value} {ops : List MOp} {n : Nat} {rs : List RDoc} {d bo be : Nat} {F I : Nat → Prop} {D0 : BDoc} {D : QDoc} (h : HistG w hb sp su vo vr ops n rs d bo be F I D0 D) (hcnt : rs.length = (su + n) / sp + 1) :
    Calls Tryz.prog 191 #[.pointer (some ⟨hb, 0, none⟩), .int .i64 n] w fun e w' => (∃ r, e = .returned r) ∧ ∃ vr' rs' F' D', HistG w' hb sp su vo vr' ops ops.length rs' d bo be F' I D0 D' ∧ rs'.length = (su + ops.length) / sp + 1 ∧ Keeps F F' w w' := by
  have hlen := h.len
  have hle := h.le
  obtain ⟨ao, co, rfl, hlo, hco, hfo⟩ := owns_form h.row
  unfold maxLen at hco
  have HH := hid (And.intro h hcnt); clear h hcnt
  have HFO := hid hfo; clear hfo
  go_enter Tryz.func191, Tryz.ntmps191
  go_wp2_with fail
  go_loopw [1] (fun i wr => ∃ k vr' rs' F' D', i = .int .i64 (k : Nat) ∧ HistG wr hb sp su (.slice ao ops.length co) vr' ops k rs' d bo be F' I D0 D' ∧ rs'.length = (su + k) / sp + 1 ∧ Keeps F F' w wr) (fun i _ => ops.length - (intOf i).toNat)
  case atStart => exact ⟨n, vr, rs, F, D, rfl, HH.out.1, HH.out.2, Keeps.of_below (Below.refl _ _)⟩
  case round =>
    obtain ⟨k, vr', rs', F', D', rfl, hG, hc, hK⟩ := hrel
    have hkl := hG.le
    obtain ⟨c0, c1, c2, c3, c4⟩ := blk5 hG.blk
    clear c0 c1
    by_cases hlt : k < ops.length
    · obtain ⟨hm1, hm0, hm3⟩ := next_state hG.sp1 hG.su1 hc
      have hsp := hG.sp2
      have hsu := hG.su1
      have hrl : rs'.length ≤ 400 := by rw [hc]; have := Nat.div_le_self (su + k) sp; omega
      obtain ⟨ar, cr, rfl, hlr, hcr, hfr⟩ := owns_form hG.mem
      unfold maxLen at hcr
      clear hfr
      rw [List.length_map] at c3 hlr
      obtain ⟨g, rfl⟩ := HFO.out 0 (by omega)
      have HD := hid (doneIn_s hG.blk rs'.length (by omega) hG.sp2 (by omega))
      obtain ⟨m, hm⟩ : ∃ m : Nat, m = rs'.length * sp - su := ⟨_, rfl⟩
      rw [← hm] at HD hm1 hm3
      have HMM := hid hm
      have hmb : m ≤ 500 := by omega
      have HM3 := hid hm3
      clear hm hm0 hm3
      have HG := hid (And.intro hG (And.intro hc hK)); clear hG hc hK
      go_wp2_with fail
      refine HD.out.mono ?_
      rintro e w1 ⟨rfl, hb1⟩
      replace c2 := keep hb1 c2
      replace c3 := keep hb1 c3
      replace c4 := keep hb1 c4
      have HB1 := hid hb1; clear hb1
      have HG1 := hid (HG.out.1.keep HB1.out)
      obtain ⟨s, hs⟩ : ∃ s : Nat, s = min m ops.length := ⟨_, rfl⟩
      have hmin : min (m : Int) (ops.length : Int) = (s : Int) := by omega
      have hks : k < s := by omega
      have hsl : s ≤ ops.length := by omega
      have hsm : s ≤ m := by omega
      have hk0 : (0 : Int) ≤ (k : Int) := Int.natCast_nonneg _
      have hks1 : (k : Int) ≤ (s : Int) := by omega
      have hsc : (s : Int) ≤ (co : Int) := by omega
      have hck : ¬ (co = k) := by omega
      have HG1D := hid (HG1.out.keep (Below.refl w1.heap.size w1).drew)
      have HDO := hid (show Calls Tryz.prog 134 #[.pointer (some ⟨d, 0, none⟩), .slice (some ⟨g, k * 4, none⟩) (s - k) (co - k)] w1.drew _ from by
        have := do_q (w := w1.drew) (R := fun j => ofR F' rs' bo be j ∨ w1.drew.heap.size ≤ j) HG1D.out.q (HG1D.out.own.mono (fun j hj => .inl hj) (fun hx => hx.elim HG1D.out.own.ro (fun x => by have := HG1D.out.lt _ HG1D.out.fbo; omega)) (fun hx => hx.elim HG1D.out.own.re (fun x => by have := HG1D.out.lt _ HG1D.out.fbe; omega))) HG1D.out.nd (fun j hj => .inr hj) g (k * 4) (co - k) (((ops.map (·.op)).drop k).take (s - k)) (by simp; omega) (by simp; omega) (by omega) (fun i hi => by
          simp at hi
          obtain ⟨e0, e1, e2, e3⟩ := ownMOps.cells HG1D.out.row (k + i) (by omega)
          have hop := HG1D.out.chg ops[k + i] (List.getElem_mem _)
          rw [show k * 4 + i * 4 = (k + i) * 4 by omega]
          simp only [List.getElem_take, List.getElem_drop, List.getElem_map]
          exact ⟨e0, e1, e2, _, e3, hop.chg⟩)
        simpa [show min (s - k) (ops.length - k) = s - k by omega] using this)
      have hhl := blk_lt HG1.out.blk
      have HMB := hid (show hb ≠ bo ∧ hb ≠ be from by
        obtain ⟨es, clk, hmo⟩ := HG1.out.q.ho
        obtain ⟨es2, clk2, hme⟩ := HG1.out.q.he
        have h1 := HG1.out.blk
        constructor
        · rintro rfl; unfold isHs at h1; rw [hmo.blk] at h1; cases h1
        · rintro rfl; unfold isHs at h1; rw [hme.blk] at h1; cases h1)
      rcases (show s = m ∨ s < m by omega) with hme | hlt2
      · have hdm : True := trivial
        go_wp2_with fail
        all_goals (try (exfalso; omega))
        rw [← hs]
        clear hs hmin hdm
        subst hme
        go_region_held3 (fun W => W.cell? ⟨hb, 2, none⟩ = some (.slice (some ⟨g, 0, none⟩) ops.length co) ∧ W.cell? ⟨hb, 4, none⟩ = some (.pointer (some ⟨d, 0, none⟩))) (go_keep)
          (first | (go_at_call 134; refine HDO.out.mono ?_; rintro e w2 ⟨⟨r, rfl⟩, ⟨Da, Db, hdo, hq2, ho2⟩, ht2⟩; replace c2 := ht2.cell (w := w1.drew) (fun h => h.elim HMB.out.1 HMB.out.2) c2; replace c3 := ht2.cell (w := w1.drew) (fun h => h.elim HMB.out.1 HMB.out.2) c3; replace c4 := ht2.cell (w := w1.drew) (fun h => h.elim HMB.out.1 HMB.out.2) c4; have HG2 := hid (HG1D.out.done ht2 (by omega) hsl (D' := (Da, Db)) hdo hq2 ho2); clear hdo hq2 ho2 ht2))
        obtain ⟨F2, hG2, hK2⟩ := HG2.out
        clear HG2
        rw [List.length_map] at hG2
        have HG2 := hid hG2
        have HK2 := hid (show Keeps F F2 w w2 from HG.out.2.2.trans (hK2.before HB1.out.drew)); clear hK2
        have HR2 := hid (show ownDocs 0 w2 (.slice ar rs'.length cr) (rs'.map (·.d)) from hG2.mem)
        have HB2D := hid (show Below w2.heap.size w2 w2.drew from (Below.refl _ w2).drew)
        have HCL := hid (docClone_q (HG2.out.keep HB2D.out).q)
        have hnw2 := World.new_ne w2 ⟨hb, 3, none⟩ c3
        have HX2 := hid hG2.blk
        have HNR := hid (show some hb ≠ (Value.slice ar rs'.length cr).ownBlock from fun e => by
          obtain ⟨cur, hc⟩ := own_type HR2.out e.symm
          exact absurd (cells_type hc HX2.out) (by decide))
        have hb2l := blk_lt hG2.blk
        clear hG2
        have HRL := hid (show (rs'.map (·.d)).length = rs'.length from List.length_map _)
        go_wp2_with fail
        go_region_law (first
            | (go_simp; go_at_call 213; refine HCL.out.mono ?_; rintro e w3 ⟨⟨d3, bo3, be3, rfl, hq3, hd3, hbo3, hbe3, hne3⟩, hb3⟩; have hb3' := Hid.out (below_drew_left hb3); clear hb3; replace c2 := keep hb3' c2; replace c3 := keep hb3' c3; replace c4 := keep hb3' c4; have hz3 := hb3'.size; have hb3l : hb < w3.heap.size := (by omega); have hnw3 := World.new_ne w3 ⟨hb, 3, none⟩ c3; have HX3 := hid (blk_keep HX2.out hb3'); have HR3 := hid (show ownDocs 0 w3 (.slice ar rs'.length cr) (rs'.map (·.d)) from owns_keep HR2.out hb3'); have HB3 := hid hb3'; clear hb3'; have HQ3 := hid (And.intro hq3 (And.intro hd3 (And.intro hbo3 (And.intro hbe3 hne3)))); clear hq3 hd3 hbo3 hbe3 hne3; have HBA := hid (show Below w3.heap.size w3 (w3.alloc (.cells #[.pointer (some ⟨d3, 0, none⟩)] 101)) from (Below.refl _ w3).alloc (Nat.le_refl _) _); dsimp only)
            | (refine step_app ptrC 1 8 200 101 (.pointer none) (by kernel_rfl) Tryz.underlying200 rfl (by omega) (fun _ => rfl) (by rfl) (.tmp 47) (.tmp 53) (by rfl) 0 (.slice ar rs'.length cr) (rs'.map (fun x : RDoc => x.d)) (by rfl) (owns_keep HR3.out HBA.out) w3.heap.size 1 d3 (by rfl) (cells_ptr (blk1 (blk_new w3 _))) (wf_ptr d3) (by rw [List.length_map]; omega) (by rw [List.length_map]; unfold maxLen; omega) (Nat.zero_le _) ?_; intro v4 w4 ho4 hg4 hn4; have HO4 := hid ho4; have HG4 := hid hg4; have HN4 := hid hn4; have hbl4 : w4.heap[hb]? = w3.heap[hb]? := ((hg4.block hb (by simp; omega) (HNR.out)).trans (alloc_old_r _ _ hb3l)); have HX4 := hid (hbl4.trans HX3.out); clear hbl4 ho4 hg4 hn4; obtain ⟨a4, n4c, hv4, hl4, hc4, hf4⟩ := owns_form HO4.out; rw [HRL.out] at hv4; subst hv4; clear hl4 hc4 hf4; replace c3 := (blk5 HX4.out).2.2.2.1; have hfz4 := blk_fz HX4.out 3))
        all_goals go_wp2
        all_goals go_roundw
        all_goals first
          | (simp [intOf]; omega)
          | (
            have ht4 : Turned (fun k => k = hb ∨ (Value.slice ar rs'.length cr).ownBlock = some k) w2 w4 := (Turned.of_below (HB3.out.trans (HBA.out.mono HB3.out.size))).trans (Turned.of_grown HG4.out fun k hk => .inr hk)
            have ht5 := ht4.trans (Turned.setC (w := w4) (g := hb) (o := 3) (.slice a4 (rs'.length + 1) n4c) (.inl rfl))
            have hne4 : (Value.slice a4 (rs'.length + 1) n4c).ownBlock ≠ some hb := fun e => by
              obtain ⟨cur, hc⟩ := own_type HO4.out e
              exact absurd (cells_type hc HX4.out) (by decide)
            have hq5 := HQ3.out.1.kept ((Turned.of_below HBA.out).trans ((Turned.of_grown HG4.out (S := fun k => k = hb ∨ (Value.slice ar rs'.length cr).ownBlock = some k) fun k hk => .inr hk).trans (Turned.setC (w := w4) (g := hb) (o := 3) (.slice a4 (rs'.length + 1) n4c) (.inl rfl)))) (fun k hk => by
              rcases hk with rfl | hk
              · exact ⟨_, _, _, HX3.out, by decide⟩
              · obtain ⟨cur, hc⟩ := own_type HR3.out hk
                exact ⟨_, _, _, hc, by decide⟩)
            obtain ⟨F5, hG5, hK5⟩ := HG2.out.cloned ht5 (vr' := .slice a4 (rs'.length + 1) n4c) (r := ⟨d3, bo3, be3, (Da, Db)⟩) (set5_3 HX4.out) (by
              have := row_other HO4.out hne4 (o := 3) (.slice a4 (rs'.length + 1) n4c)
              unfold ownDocs
              rw [List.length_append]
              exact this) (HN4.out.mono (Nat.le_trans HB3.out.size HBA.out.size)) hq5 rfl HQ3.out.2.1 HQ3.out.2.2.1 HQ3.out.2.2.2.1 HQ3.out.2.2.2.2 HMM.out.symm
            exact ⟨s, _, rs' ++ [⟨d3, bo3, be3, (Da, Db)⟩], F5, (Da, Db), rfl, hG5, by rw [List.length_append]; exact (HM3.out s (by omega)).2 rfl, HK2.out.trans hK5⟩)
      · have hdm : True := trivial
        go_wp2_with fail
        all_goals (try (exfalso; omega))
        rw [← hs]
        clear hs hmin hdm
        go_region_held3 (fun W => W.cell? ⟨hb, 2, none⟩ = some (.slice (some ⟨g, 0, none⟩) ops.length co) ∧ W.cell? ⟨hb, 4, none⟩ = some (.pointer (some ⟨d, 0, none⟩))) (go_keep)
          (first | (go_at_call 134; refine HDO.out.mono ?_; rintro e w2 ⟨⟨r, rfl⟩, ⟨Da, Db, hdo, hq2, ho2⟩, ht2⟩; replace c2 := ht2.cell (w := w1.drew) (fun h => h.elim HMB.out.1 HMB.out.2) c2; replace c3 := ht2.cell (w := w1.drew) (fun h => h.elim HMB.out.1 HMB.out.2) c3; replace c4 := ht2.cell (w := w1.drew) (fun h => h.elim HMB.out.1 HMB.out.2) c4; have HG2 := hid (HG1D.out.done ht2 (by omega) hsl (D' := (Da, Db)) hdo hq2 ho2); clear hdo hq2 ho2 ht2))
        obtain ⟨F2, hG2, hK2⟩ := HG2.out
        clear HG2
        have HG2 := hid hG2
        have HK2 := hid (show Keeps F F2 w w2 from HG.out.2.2.trans (hK2.before HB1.out.drew)); clear hK2
        go_wp2
        go_roundw
        case rel => exact ⟨s, _, rs', F2, (Da, Db), rfl, HG2.out, (HM3.out s (by omega)).1 hlt2, HK2.out⟩
        case measure => simp [intOf]; omega
    · have hke : k = ops.length := by omega
      subst hke
      have HG := hid (And.intro hG (And.intro hc hK)); clear hG hc hK c3 c4
      go_wp2
      go_end0
      exact ⟨⟨_, rfl⟩, vr', rs', F', D', HG.out.1, HG.out.2.1, HG.out.2.2⟩

end Go.Proofs.YtnkpogjiiohapaaGreatDoor

/-! GCmpA: The order of Ids, as the sort of the library asks for it. -/
namespace Go.Proofs.YtnkpogjiiohapaaGreatDoor
open Go.RowKit Go.Sort
attribute [local go_sem ↓] Go.wp_at_zero Go.wp_at_succ

theorem grown3 (w : World) (a b c : Obj) : (((w.alloc a).alloc b).alloc c).drew = grow (w.drewN 1) #[a, b, c] := by
  rw [alloc_eq_grow, alloc_eq_grow, alloc_eq_grow, grow_grow, grow_grow]
  rfl

set_option maxRecDepth 1000000 in
set_option maxHeartbeats 2000000 in
theorem compare_lays (a1 a2 b1 b2 : Int) (w : World) :
    Calls Tryz.prog 139 #[.agg #[.int .i64 a1, .int .i64 a2], .agg #[.int .i64 b1, .int .i64 b2]] w fun e w' => e = .returned (.int .i64 (cmpI (a1, a2) (b1, b2))) ∧ ∃ q os', w' = grow (w.drewN q) os' := by
  go_enter Tryz.func139, Tryz.ntmps139
  go_wp2_with fail
  go_region_held3 (fun W => W.cell? ⟨w.heap.size, 0, none⟩ = some (.int .i64 a1) ∧ W.cell? ⟨w.heap.size, 1, none⟩ = some (.int .i64 a2) ∧ W.cell? ⟨w.heap.size + 1, 0, none⟩ = some (.int .i64 b1) ∧ W.cell? ⟨w.heap.size + 1, 1, none⟩ = some (.int .i64 b2)) (go_keep)
    (first
      | (go_at_call 166; refine (cmpCompare_q _ _ _).mono ?_; rintro e w' ⟨rfl, rfl⟩)
      | (go_at_call 165; refine (cmpOr_q (g := w.heap.size + 2) (a := cmpZ a1 b1) (b := cmpZ a2 b2) ?_ ?_).mono ?_; (exact (cells2_new _ _ _ _ _ _).1); (exact (cells2_new _ _ _ _ _ _).2); rintro e w' ⟨rfl, rfl⟩))
  all_goals go_wp2
  all_goals go_ret
  all_goals exact ⟨rfl, 1, _, grown3 _ _ _ _⟩

/-- An Id is ahead of another. -/
def ltI (x y : PId) : Bool := decide (cmpI x y < 0)
theorem ltI_iff (x y : PId) : ltI x y = true ↔ x.1 < y.1 ∨ (x.1 = y.1 ∧ x.2 < y.2) := by
  unfold ltI cmpI orZ cmpZ
  simp only [decide_eq_true_eq]
  by_cases h1 : x.1 < y.1
  · simp [h1]
  · by_cases h2 : y.1 < x.1
    · simp [h1, h2]; omega
    · have : x.1 = y.1 := by omega
      by_cases h3 : x.2 < y.2
      · simp [this, h3]
      · by_cases h4 : y.2 < x.2 <;> simp [this, h3, h4]

end Go.Proofs.YtnkpogjiiohapaaGreatDoor
