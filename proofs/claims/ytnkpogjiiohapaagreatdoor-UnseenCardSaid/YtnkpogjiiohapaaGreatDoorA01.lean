/- Our own text (RefBase, PMapA, RefA, RefB, RefC, RefD, RefE). -/
import Derived.Test.YtnkpogjiiohapaaGreatDoorProg
import Derived.WalkKit
import Derived.WalkSpells
import Derived.WalkLawsBesides
import Derived.Deep.QuietTactic
import Derived.BigQuiet
import Derived.Handy
import Derived.MapKept
set_option linter.unusedSimpArgs false
set_option linter.unusedVariables false

/-! RefBase: What the reference's values look like in memory: rows of Ids, of held values, of slots, of objects; small laws on them. -/
namespace Go.Proofs.YtnkpogjiiohapaaGreatDoor
open Go.RowKit

abbrev PId := Int × Int
theorem hid {p : Prop} (h : p) : Hid p := h

structure PHeld where
  giver : PId
  num : Int
  obj : PId

structure CSlot where
  key : ByteArray
  id : PId
  vals : Value
  hs : List PHeld

def idC (x : PId) : List Value := [.int .i64 x.1, .int .i64 x.2]
/-- Element i of a row of elements of k cells each. -/
theorem flat_get {α : Type} (f : α → List Value) (k : Nat) (hf : ∀ x, (f x).length = k) :
    ∀ (l : List α) (i j : Nat) (hi : i < l.length), j < k → (l.flatMap f)[i * k + j]? = (f l[i])[j]? := by
  intro l
  induction l with
  | nil => intro i j hi; simp at hi
  | cons x l ih =>
    intro i j hi hj
    rw [List.flatMap_cons]
    cases i with
    | zero => simp only [Nat.zero_mul, Nat.zero_add, List.getElem_cons_zero]; rw [List.getElem?_append_left (by rw [hf]; exact hj)]
    | succ i =>
      rw [List.getElem?_append_right (by rw [hf, Nat.succ_mul]; omega), hf]
      have : (i + 1) * k + j - k = i * k + j := by rw [Nat.succ_mul]; omega
      rw [this, ih i j (by simpa using hi) hj]
      simp

theorem flat_len {α : Type} (f : α → List Value) (k : Nat) (hf : ∀ x, (f x).length = k) (l : List α) : (l.flatMap f).length = l.length * k := by
  induction l with
  | nil => simp
  | cons x l ih => simp [List.flatMap_cons, ih, hf, Nat.succ_mul]; omega

/-- The value of an owned row is a slice; where it has an element it has an address. -/
theorem owns_form {w : World} {base : Nat} {e : TypeId} {size : Nat} {v : Value} {n : Nat} {xs : List Value} (h : w.ownsRow base e size v n xs) :
    ∃ a cap, v = .slice a n cap ∧ n ≤ cap ∧ cap ≤ maxLen ∧ ∀ i, i < n → ∃ g, a = some ⟨g, 0, none⟩ := by
  rcases h.2 with ⟨rfl, rfl⟩ | ⟨g, cap, cur, rfl, hb, hg, h1, h2, h3⟩
  · exact ⟨none, 0, rfl, Nat.le_refl _, Nat.zero_le _, fun i hi => absurd hi (Nat.not_lt_zero _)⟩
  · exact ⟨_, cap, rfl, h1, h2, fun _ _ => ⟨g, rfl⟩⟩

/-- The cells of element i. -/
theorem owns_cell {α : Type} {w : World} {base : Nat} {e : TypeId} {k : Nat} {f : α → List Value} (hf : ∀ x, (f x).length = k) {g n cap : Nat} {l : List α}
    (h : w.ownsRow base e k (.slice (some ⟨g, 0, none⟩) n cap) n (l.flatMap f)) (hn : n = l.length) (i : Nat) (hi : i < l.length) (j : Nat) (hj : j < k) :
    w.cell? ⟨g, i * k + j, none⟩ = (f l[i])[j]? := by
  rw [← flat_get f k hf l i j hi hj]
  exact h.cellAt (i * k + j) (by subst hn; have : (i + 1) * k ≤ l.length * k := Nat.mul_le_mul_right _ hi; rw [Nat.succ_mul] at this; omega)

theorem keep {w w' : World} (h : Below w.heap.size w w') {a : Addr} {v : Value} (hc : w.cell? a = some v) : w'.cell? a = some v := by
  rw [h.cell (World.block_lt_of_cell? w a hc)]; exact hc

theorem owns_mono {w : World} {base base' : Nat} {e : TypeId} {size : Nat} {v : Value} {n : Nat} {xs : List Value} (h : w.ownsRow base e size v n xs) (hb : base' ≤ base) : w.ownsRow base' e size v n xs :=
  ⟨h.1, h.2.imp id fun ⟨g, cap, cur, h1, h2, h3⟩ => ⟨g, cap, cur, h1, Nat.le_trans hb h2, h3⟩⟩

/-- What lies in a row stays, where no old block turns. -/
theorem owns_below {B : Nat} {w w' : World} {base : Nat} {e : TypeId} {size : Nat} {v : Value} {n : Nat} {xs : List Value} (h : w.ownsRow base e size v n xs)
    (hb : Below B w w') (hB : ∀ k, v.ownBlock = some k → k < B) : w'.ownsRow base e size v n xs := by
  refine ⟨h.1, ?_⟩
  rcases h.2 with hn | ⟨g, cap, cur, rfl, h1, hg, rest⟩
  · exact .inl hn
  · refine .inr ⟨g, cap, cur, rfl, h1, ?_, rest⟩
    rw [hb.block g (hB g rfl)]; exact hg

theorem owns_keep {w w' : World} {base : Nat} {e : TypeId} {size : Nat} {v : Value} {n : Nat} {xs : List Value} (h : w.ownsRow base e size v n xs)
    (hb : Below w.heap.size w w') : w'.ownsRow base e size v n xs := owns_below h hb fun k hk => (h.lt k hk).2

theorem ret_bool {a b : Bool} (h : a = b) : Ending.returned (.bool a) = .returned (.bool b) := by rw [h]
def isIds (w : World) (v : Value) (l : List PId) : Prop := w.ownsRow 0 36 2 v l.length (l.flatMap idC)
theorem isIds.keep {w w' : World} {v : Value} {l : List PId} (h : isIds w v l) (hb : Below w.heap.size w w') : isIds w' v l := owns_keep h hb
theorem isIds.cells {w : World} {g n cap : Nat} {l : List PId} (h : isIds w (.slice (some ⟨g, 0, none⟩) n cap) l) (hn : n = l.length) (i : Nat) (hi : i < l.length) :
    w.cell? ⟨g, i * 2, none⟩ = some (.int .i64 l[i].1) ∧ w.cell? ⟨g, i * 2 + 1, none⟩ = some (.int .i64 l[i].2) := by
  subst hn
  have a := owns_cell (f := idC) (fun _ => rfl) h rfl i hi 0 (by omega)
  have b := owns_cell (f := idC) (fun _ => rfl) h rfl i hi 1 (by omega)
  exact ⟨a, b⟩

def idEq (a b c d : Int) : Bool := decide (a = c ∧ b = d)
theorem idEq_true {a b c d : Int} : idEq a b c d = true ↔ (a, b) = (c, d) := by simp [idEq]
theorem idEq_false {a b c d : Int} : idEq a b c d = false ↔ (a, b) ≠ (c, d) := by simp [idEq]
theorem run_idEq (a b c d : Int) (W : World) : (binOp .eql 36 (.agg #[.int .i64 a, .int .i64 b]) (.agg #[.int .i64 c, .int .i64 d])).run Tryz.prog W = .ok (.bool (idEq a b c d)) W := by
  go_simp
  unfold idEq
  by_cases h1 : a = c <;> by_cases h2 : b = d <;> simp [h1, h2]

end Go.Proofs.YtnkpogjiiohapaaGreatDoor

/-! PMapA: Maps of the program: what a map's block reads as, and what looking up, storing, striking do to it: keys that are Ids, and strings. -/
namespace Go.Proofs.YtnkpogjiiohapaaGreatDoor
open Go.RowKit

def idV (x : PId) : Value := .agg #[.int .i64 x.1, .int .i64 x.2]

theorem run_equalId (x y : PId) (W : World) : (Op.equal 36 (idV x) (idV y)).run Tryz.prog W = .ok (idEq x.1 x.2 y.1 y.2) W := by
  unfold idV
  show (Op.equalIn (9998 + 1 + 1) 36 _ _).run Tryz.prog W = _
  go_simp
  unfold idEq
  by_cases h1 : x.1 = y.1 <;> by_cases h2 : x.2 = y.2 <;> simp [h1, h2]

theorem run_checkId (b : Bool) (x : PId) (W : World) : (Instr.checkKey b 10000 36 (idV x)).run Tryz.prog W = .ok () W := by
  unfold idV
  have hi : ∀ (n : Nat) (a : Int), (Instr.checkKey b (n + 1) 3 (.int .i64 a)).run Tryz.prog W = .ok () W := fun n a => by
    rw [Instr.checkKey]
    go_simp
  show (Instr.checkKey b (9998 + 1 + 1) 36 _).run Tryz.prog W = _
  rw [Instr.checkKey]
  go_simp

/-- Where a key is, and what is there. -/
def hitI {κ ν : Type} [DecidableEq κ] (x : κ) : List (κ × ν) → Nat → Option (Nat × ν)
  | [], _ => none
  | p :: m, i => if x = p.1 then some (i, p.2) else hitI x m (i + 1)
def lookI {κ ν : Type} [DecidableEq κ] (x : κ) (m : List (κ × ν)) : Option ν := (m.find? fun p => decide (x = p.1)).map (·.2)
theorem hit_look {κ ν : Type} [DecidableEq κ] (x : κ) (m : List (κ × ν)) : ∀ i, (hitI x m i).map (·.2) = lookI x m := by
  induction m with
  | nil => intro i; rfl
  | cons p m ih =>
    intro i
    unfold hitI lookI
    by_cases h : x = p.1
    · simp [h]
    · rw [if_neg h, ih]
      simp [lookI, List.find?_cons, h]

/-- What a map's entries read as. -/
def Ents {κ ν : Type} (encK : κ → Value) (encV : ν → Value) (es : List MapEntry) (m : List (κ × ν)) : Prop := es.map (fun e => (e.key, e.val)) = m.map fun p => (encK p.1, encV p.2)

theorem idEq_eq (x y : PId) : idEq x.1 x.2 y.1 y.2 = decide (x = y) := by
  obtain ⟨a, b⟩ := x
  obtain ⟨c, d⟩ := y
  simp [idEq]

theorem run_askI {ν : Type} (encV : ν → Value) (x : PId) (W : World) : ∀ (es : List MapEntry) (m : List (PId × ν)) (i : Nat), Ents idV encV es m →
    (Instr.findAsking 36 (idV x) es i).run Tryz.prog W = .ok ((hitI x m i).map fun r => (r.1, encV r.2)) W
  | [], [], i, _ => rfl
  | [], p :: m, i, h => by simp [Ents] at h
  | e :: es, [], i, h => by simp [Ents] at h
  | e :: es, p :: m, i, h => by
    unfold Ents at h
    simp only [List.map_cons, List.cons.injEq, Prod.mk.injEq] at h
    obtain ⟨⟨h1, h2⟩, h3⟩ := h
    rw [Instr.findAsking, h1]
    have := run_equalId x p.1 W
    simp only [Sem.run_bind, this, Result.andThen_ok, idEq_eq]
    unfold hitI
    by_cases hx : x = p.1
    · simp [hx, h2]
    · simp only [hx, decide_false, if_false, Bool.false_eq_true]
      exact run_askI encV x W es m (i + 1) h3

theorem run_findI {ν : Type} (encV : ν → Value) (x : PId) (W : World) (es : List MapEntry) (m : List (PId × ν)) (h : Ents idV encV es m) :
    (Instr.findKey 36 (idV x) es).run Tryz.prog W = .ok ((hitI x m 0).map fun r => (r.1, encV r.2)) W := by
  have hu := Tryz.underlying36
  unfold Instr.findKey
  rw [Sem.run_bind, run_underlying hu, Result.andThen_ok]
  cases es with
  | nil =>
    have : m = [] := by unfold Ents at h; simpa using h.symm
    subst this
    rfl
  | cons e es =>
    have hn : Instr.findNow (TypeDesc.struct #[{ name := "Counter", type := 3, offset := 0, embedded := false, tag := "", pkgPath := "", byteOffset := 0 }, { name := "Copy", type := 3, offset := 1, embedded := false, tag := "", pkgPath := "", byteOffset := 8 }]) (idV x) (e :: es) 0 = none := rfl
    rw [hn]
    exact run_askI encV x W _ m 0 h

/-- A map's block: what it reads as. -/
structure isMap {κ ν : Type} (encK : κ → Value) (encV : ν → Value) (w : World) (b : Nat) (m : List (κ × ν)) (es : Array MapEntry) (clk : Nat) : Prop where
  blk : w.heap[b]? = some (.map es clk)
  ents : Ents encK encV es.toList m
  nodup : (es.toList.map (·.born)).Nodup
  old : ∀ e ∈ es.toList, e.born < clk

theorem isMap.len {κ ν : Type} {encK : κ → Value} {encV : ν → Value} {w : World} {b : Nat} {m : List (κ × ν)} {es : Array MapEntry} {clk : Nat} (h : isMap encK encV w b m es clk) : es.size = m.length := by
  have := congrArg List.length h.ents
  simpa using this

/-- What a type of keys must do. -/
structure KeyOf (κ : Type) [DecidableEq κ] (kt : TypeId) (encK : κ → Value) : Prop where
  check : ∀ (b : Bool) (x : κ) (W : World), (Instr.checkKey b 10000 kt (encK x)).run Tryz.prog W = .ok () W
  find : ∀ {ν : Type} (encV : ν → Value) (x : κ) (W : World) (es : List MapEntry) (m : List (κ × ν)), Ents encK encV es m → (Instr.findKey kt (encK x) es).run Tryz.prog W = .ok ((hitI x m 0).map fun r => (r.1, encV r.2)) W
  bits : ∀ x : κ, Instr.sameBits 10000 (encK x) (encK x) = true

theorem run_getMap {P : Program} {w : World} {b : Nat} {es : Array MapEntry} {clk : Nat} (h : w.heap[b]? = some (.map es clk)) : (getObj b).run P w = .ok (.map es clk) w := by
  simp [getObj, Sem.run, h]

theorem run_lookI {κ ν : Type} [DecidableEq κ] {kt : TypeId} {encK : κ → Value} (K : KeyOf κ kt encK) {encV : ν → Value} {w : World} {b : Nat} {m : List (κ × ν)} {es : Array MapEntry} {clk : Nat} (h : isMap encK encV w b m es clk) {t e : TypeId} (ht : Tryz.prog.underlying t = some (.map kt e)) {z : Value} (hz : (zeroValue e).run Tryz.prog w = .ok z w) (x : κ) (ok : Bool) :
    (Instr.lookup t (.map (some b)) (encK x) ok).run Tryz.prog w = .ok (if ok then .tuple #[((lookI x m).map encV).getD z, .bool (lookI x m).isSome] else ((lookI x m).map encV).getD z) w := by
  unfold Instr.lookup
  rw [Sem.run_bind, run_underlying ht, Result.andThen_ok]
  have h1 := run_getMap (P := Tryz.prog) h.blk
  have h2 := K.check es.isEmpty x w
  have h3 := K.find encV x w es.toList m h.ents
  have h4 := hit_look x m 0
  simp only [Sem.run_bind, h1, Result.andThen_ok, Sem.run_pure, h2, h3]
  rw [← h4]
  cases hitI x m 0 with
  | none => cases ok <;> simp [hz, Sem.run_bind]
  | some r => cases ok <;> simp

/-- A key's value is put: in its place, or behind. -/
def putI {κ ν : Type} [DecidableEq κ] (x : κ) (v : ν) : List (κ × ν) → List (κ × ν)
  | [] => [(x, v)]
  | p :: m => if x = p.1 then (x, v) :: m else p :: putI x v m
def cutI {κ ν : Type} [DecidableEq κ] (x : κ) : List (κ × ν) → List (κ × ν)
  | [] => []
  | p :: m => if x = p.1 then m else p :: cutI x m

theorem hit_shift {κ ν : Type} [DecidableEq κ] (x : κ) (m : List (κ × ν)) : ∀ i j, hitI x m (i + j) = (hitI x m i).map fun r => (r.1 + j, r.2) := by
  induction m with
  | nil => intro i j; rfl
  | cons p m ih =>
    intro i j
    unfold hitI
    by_cases h : x = p.1
    · simp [h]
    · rw [if_neg h, if_neg h, show i + j + 1 = (i + 1) + j by omega, ih]
theorem hit_some {κ ν : Type} [DecidableEq κ] {x : κ} {m : List (κ × ν)} {i : Nat} {v : ν} : hitI x m 0 = some (i, v) → i < m.length ∧ m[i]? = some (x, v) ∧ (∀ u, putI x u m = m.set i (x, u)) ∧ cutI x m = m.eraseIdx i := by
  induction m generalizing i with
  | nil => intro h; simp [hitI] at h
  | cons p m ih =>
    intro h
    unfold hitI at h
    by_cases hx : x = p.1
    · rw [if_pos hx] at h
      injection h with h
      injection h with h1 h2
      subst h1
      refine ⟨by simp, ?_, fun u => ?_, ?_⟩
      · simp [hx, ← h2]
      · unfold putI; rw [if_pos hx]; rfl
      · unfold cutI; rw [if_pos hx]; rfl
    · rw [if_neg hx] at h
      have hs := hit_shift x m 0 1
      rw [Nat.zero_add] at hs
      rw [hs] at h
      cases hh : hitI x m 0 with
      | none => rw [hh] at h; cases h
      | some r =>
        rw [hh] at h
        simp at h
        obtain ⟨h1, h2⟩ := h
        subst h1
        obtain ⟨a1, a2, a3, a4⟩ := ih (i := r.1) (by rw [hh, ← h2])
        refine ⟨by simp; omega, by simpa using a2, fun u => ?_, ?_⟩
        · unfold putI; rw [if_neg hx, a3]; rfl
        · unfold cutI; rw [if_neg hx, a4]; rfl
theorem hit_none {κ ν : Type} [DecidableEq κ] {x : κ} {m : List (κ × ν)} : hitI x m 0 = none → (∀ u, putI x u m = m ++ [(x, u)]) ∧ cutI x m = m := by
  induction m with
  | nil => intro _; exact ⟨fun u => rfl, rfl⟩
  | cons p m ih =>
    intro h
    unfold hitI at h
    by_cases hx : x = p.1
    · rw [if_pos hx] at h; cases h
    · rw [if_neg hx] at h
      have hs := hit_shift x m 0 1
      rw [Nat.zero_add] at hs
      rw [hs] at h
      have hn : hitI x m 0 = none := by simpa using h
      obtain ⟨a1, a2⟩ := ih hn
      refine ⟨fun u => ?_, ?_⟩
      · unfold putI; rw [if_neg hx, a1]; rfl
      · unfold cutI; rw [if_neg hx, a2]

/-- Another object lies in a block. -/
def putObj (w : World) (b : Nat) (o : Obj) : World := { w with heap := w.heap.setIfInBounds b o }
theorem putObj_self {w : World} {b : Nat} {o : Obj} (h : b < w.heap.size) : (putObj w b o).heap[b]? = some o := by simp [putObj, h]
theorem putObj_other {w : World} {b k : Nat} {o : Obj} (h : k ≠ b) : (putObj w b o).heap[k]? = w.heap[k]? := by simp [putObj, Array.getElem?_setIfInBounds, Ne.symm h]
theorem run_setMap {P : Program} {w : World} {b : Nat} {es : Array MapEntry} {clk : Nat} (h : w.heap[b]? = some (.map es clk)) (o : Obj) : (setObj b o).run P w = .ok () (putObj w b o) := by
  simp [setObj, Sem.run, putObj, h]

theorem sameBits_id (x : PId) : Instr.sameBits 10000 (idV x) (idV x) = true := by
  simp [idV, Instr.sameBits]

theorem isMap.lt {κ ν : Type} {encK : κ → Value} {encV : ν → Value} {w : World} {b : Nat} {m : List (κ × ν)} {es : Array MapEntry} {clk : Nat} (h : isMap encK encV w b m es clk) : b < w.heap.size := (Array.getElem?_eq_some_iff.1 h.blk).1

theorem births_modify {es : Array MapEntry} {i : Nat} {k v : Value} : (es.modify i fun e => { e with key := k, val := v }).toList.map (·.born) = es.toList.map (·.born) := by
  rw [Array.toList_modify]
  apply List.ext_getElem?
  intro j
  rw [List.getElem?_map, List.getElem?_map, List.getElem?_modify]
  by_cases e : i = j
  · subst e; cases es.toList[i]? <;> simp
  · cases es.toList[j]? <;> simp [e]
theorem erase_list (es : Array MapEntry) (i : Nat) : (es.eraseIdxIfInBounds i).toList = es.toList.eraseIdx i := by
  unfold Array.eraseIdxIfInBounds
  split
  · simp
  · rename_i h
    rw [List.eraseIdx_of_length_le (by simpa using h)]

theorem erase_map {α β : Type} (f : α → β) (l : List α) : ∀ i, (l.eraseIdx i).map f = (l.map f).eraseIdx i := by
  induction l with
  | nil => intro i; rfl
  | cons a l ih =>
    intro i
    cases i with
    | zero => rfl
    | succ i => simp [ih]

/-- A STORE. -/
theorem run_putI {κ ν : Type} [DecidableEq κ] {kt : TypeId} {encK : κ → Value} (K : KeyOf κ kt encK) {encV : ν → Value} {w : World} {b : Nat} {m : List (κ × ν)} {es : Array MapEntry} {clk : Nat} (h : isMap encK encV w b m es clk) {t e : TypeId} (ht : Tryz.prog.underlying t = some (.map kt e)) (x : κ) (v : ν) :
    ∃ es' clk', (Instr.mapUpdate t (.map (some b)) (encK x) (encV v)).run Tryz.prog w = .ok () (putObj w b (.map es' clk')) ∧ isMap encK encV (putObj w b (.map es' clk')) b (putI x v m) es' clk' := by
  have h1 := run_getMap (P := Tryz.prog) h.blk
  have h2 := K.check false x w
  have h3 := K.find encV x w es.toList m h.ents
  have hl := h.lt
  unfold Instr.mapUpdate
  rw [Sem.run_bind, run_underlying ht, Result.andThen_ok]
  simp only [Sem.run_bind, h1, Result.andThen_ok, Sem.run_pure, h2, h3]
  cases hh : hitI x m 0 with
  | none =>
    obtain ⟨hp, _⟩ := hit_none hh
    refine ⟨es.push { key := encK x, val := encV v, born := clk }, clk + 1, ?_, putObj_self hl, ?_, ?_, ?_⟩
    · simp only [Option.map_none]
      exact run_setMap h.blk _
    · rw [hp v]
      unfold Ents
      rw [Array.toList_push, List.map_append, List.map_append]
      have := h.ents
      unfold Ents at this
      rw [this]; rfl
    · rw [Array.toList_push, List.map_append]
      refine List.nodup_append.2 ⟨h.nodup, by simp, fun a ha c hc => ?_⟩
      simp at hc
      subst hc
      obtain ⟨e', he', rfl⟩ := List.mem_map.1 ha
      exact Nat.ne_of_lt (h.old e' he')
    · intro e' he'
      rw [Array.toList_push] at he'
      rcases List.mem_append.1 he' with he' | he'
      · have := h.old e' he'; omega
      · simp at he'; subst he'; show clk < clk + 1; omega
  | some r =>
    obtain ⟨i, u⟩ := r
    obtain ⟨hi, hmi, hp, _⟩ := hit_some hh
    have hes : i < es.size := by rw [h.len]; exact hi
    have hkey : es[i].key = encK x := by
      have := congrArg (·[i]?) h.ents
      simp [hmi, hes] at this
      exact this.1
    refine ⟨es.modify i fun e => { e with key := encK x, val := encV v }, clk, ?_, putObj_self hl, ?_, ?_, ?_⟩
    · simp only [Option.map_some, hes, Array.getElem?_eq_getElem, Option.getD_some, hkey]
      unfold Instr.keyThatStays
      simp only [K.bits, if_true, Sem.run_bind, Sem.run_pure, Result.andThen_ok]
      exact run_setMap h.blk _
    · rw [hp v]
      unfold Ents
      have := h.ents
      unfold Ents at this
      rw [Array.toList_modify]
      apply List.ext_getElem?
      intro j
      have hj := congrArg (·[j]?) this
      simp only [List.getElem?_map] at hj
      rw [List.getElem?_map, List.getElem?_map, List.getElem?_modify, List.getElem?_set]
      by_cases e : i = j
      · subst e
        simp [hes, hi]
      · rw [if_neg e, ← hj]
        cases es.toList[j]? <;> simp [e]
    · rw [births_modify]; exact h.nodup
    · intro e' he'
      have hm : e'.born ∈ (es.modify i fun e => { e with key := encK x, val := encV v }).toList.map (·.born) := List.mem_map.2 ⟨e', he', rfl⟩
      rw [births_modify] at hm
      obtain ⟨e2, he2, e3⟩ := List.mem_map.1 hm
      rw [← e3]; exact h.old e2 he2

/-- STRIKING a key. -/
theorem run_cutI {κ ν : Type} [DecidableEq κ] {kt : TypeId} {encK : κ → Value} (K : KeyOf κ kt encK) {encV : ν → Value} {w : World} {b : Nat} {m : List (κ × ν)} {es : Array MapEntry} {clk : Nat} (h : isMap encK encV w b m es clk) {t e ty : TypeId} {t2 : TypeId} (ht : Tryz.prog.underlying t = some (.map kt e)) (x : κ) :
    ∃ es', (Builtin.delete_ #[t, t2] ty #[.map (some b), encK x]).run Tryz.prog w = .ok (.tuple #[]) (putObj w b (.map es' clk)) ∧ isMap encK encV (putObj w b (.map es' clk)) b (cutI x m) es' clk := by
  have h1 := run_getMap (P := Tryz.prog) h.blk
  have h2 := K.check es.isEmpty x w
  have h3 := K.find encV x w es.toList m h.ents
  have hl := h.lt
  unfold Builtin.delete_
  simp only [List.getElem?_toArray, List.getElem?_cons_zero, List.getElem?_cons_succ]
  simp only [Sem.run_bind, run_underlying ht, h1, Result.andThen_ok, Sem.run_pure, h2, h3]
  cases hh : hitI x m 0 with
  | none =>
    obtain ⟨_, hp⟩ := hit_none hh
    refine ⟨es, ?_, putObj_self hl, by rw [hp]; exact h.ents, h.nodup, h.old⟩
    simp only [Option.map_none, Sem.run_bind, run_setMap h.blk, Result.andThen_ok, Sem.run_pure]
  | some r =>
    obtain ⟨i, u⟩ := r
    obtain ⟨hi, hmi, _, hp⟩ := hit_some hh
    have hes : i < es.size := by rw [h.len]; exact hi
    refine ⟨es.eraseIdxIfInBounds i, ?_, putObj_self hl, ?_, ?_, ?_⟩
    · simp only [Option.map_some, Sem.run_bind, run_setMap h.blk, Result.andThen_ok, Sem.run_pure]
    · rw [hp]
      have := h.ents
      unfold Ents at this ⊢
      rw [erase_list, erase_map, erase_map, this]
    · rw [erase_list, erase_map]
      exact h.nodup.sublist (List.eraseIdx_sublist _ _)
    · intro e' he'
      rw [erase_list] at he'
      exact h.old e' (List.mem_of_mem_eraseIdx he')

theorem idKey : KeyOf PId 36 idV := ⟨run_checkId, fun encV x W es m h => run_findI encV x W es m h, sameBits_id⟩

/-! ### strings -/
def strV (s : ByteArray) : Value := .string s
theorem run_checkStr (b : Bool) (x : ByteArray) (W : World) : (Instr.checkKey b 10000 9 (strV x)).run Tryz.prog W = .ok () W := by
  unfold strV
  show (Instr.checkKey b (9999 + 1) 9 _).run Tryz.prog W = _
  rw [Instr.checkKey]
  go_simp
theorem beq_str (a b : ByteArray) : (a == b) = decide (a = b) := by
  by_cases h : a = b
  · rw [(Go.MapKept.bytes_beq a b).2 h]; simp [h]
  · cases hb : a == b
    · simp [h]
    · exact absurd ((Go.MapKept.bytes_beq a b).1 hb) h
theorem now_str {ν : Type} (encV : ν → Value) (x : ByteArray) : ∀ (es : List MapEntry) (m : List (ByteArray × ν)) (i : Nat), Ents strV encV es m → Instr.findNow .string (strV x) es i = some ((hitI x m i).map fun r => (r.1, encV r.2))
  | [], [], i, _ => rfl
  | [], p :: m, i, h => by simp [Ents] at h
  | e :: es, [], i, h => by simp [Ents] at h
  | e :: es, p :: m, i, h => by
    unfold Ents at h
    simp only [List.map_cons, List.cons.injEq, Prod.mk.injEq] at h
    obtain ⟨⟨h1, h2⟩, h3⟩ := h
    unfold Instr.findNow
    have hs : Instr.sameNow .string (strV x) e.key = some (decide (x = p.1)) := by
      rw [h1]; show some (x == p.1) = _; rw [beq_str]
    rw [hs]
    unfold hitI
    by_cases hx : x = p.1
    · simp [hx, h2]
    · simp only [hx, decide_false, if_false]
      exact now_str encV x es m (i + 1) h3
theorem strKey : KeyOf ByteArray 9 strV := ⟨run_checkStr, fun encV x W es m h => by
  unfold Instr.findKey
  rw [Sem.run_bind, run_underlying Tryz.underlying9, Result.andThen_ok, now_str encV x es m 0 h]
  rfl, fun x => by simp [strV, Instr.sameBits, beq_str]⟩

end Go.Proofs.YtnkpogjiiohapaaGreatDoor

/-! RefA: Contracts of the reference's small readers: Less, named, find, slot: each answers as the plain function says, and turns nothing that was there. -/
namespace Go.Proofs.YtnkpogjiiohapaaGreatDoor
open Go.RowKit

/-! ### plain facts on searching a list from its head -/
def firstI {α : Type} (p : α → Bool) (l : List α) : Int := match l.findIdx? p with | some i => (i : Int) | none => -1

theorem firstI_none {α : Type} {p : α → Bool} {l : List α} (hn : ∀ j (hj : j < l.length), p l[j] = false) : firstI p l = -1 := by
  unfold firstI
  rw [List.findIdx?_eq_none_iff.2 (fun x hx => by obtain ⟨j, hj, rfl⟩ := List.mem_iff_getElem.1 hx; exact hn j hj)]
end Go.Proofs.YtnkpogjiiohapaaGreatDoor

/-! RefB: Contracts of the reference's readers of slots and keys: slot, ahead, after, keyFits, behind, by, seen: each answers as the plain function says, and turns nothing that was there. -/
namespace Go.Proofs.YtnkpogjiiohapaaGreatDoor
open Go.RowKit

/-! ### the order of keys -/
def keyLess (a b : ByteArray) : Bool := Op.bytesLess a.data.toList b.data.toList

/-! ### after: the least key behind a key -/
end Go.Proofs.YtnkpogjiiohapaaGreatDoor

/-! RefC: Contracts of the reference's makers of lists: by, seen; and of after, keyFits, behind: each answers as the plain function says, and turns nothing that was there. -/
namespace Go.Proofs.YtnkpogjiiohapaaGreatDoor
open Go.RowKit

/-- ONE ELEMENT MORE onto a row that the call owns. -/
theorem app_one {α : Type} (f : α → List Value) (size bytes : Nat) (t e : TypeId) (z : Value) (hinfo : (Tryz.prog.info? e).map (fun i => (i.zero, i.size, i.bytes)) = some (some z, size, bytes))
    (ht : Tryz.prog.underlying t = some (.slice e)) (hzs : z.cells.size = size) (hk : 0 < size) (hf : ∀ x, (f x).length = size)
    {ops : Array Oper} {rest : List Oper} {o : Oper} {a : Act} {Q : Exit → Act → World → Prop} {w : World} (hgd : o.guard = none) (s x : Operand)
    (ho : o.op = .call { callee := .builtin .append, args := #[s, x], argTypes := #[t, t] }) (B : Nat) (v : Value) (l : List α) (hs : a.eval s = v)
    (hown : w.ownsRow B e size v l.length (l.flatMap f)) (g c : Nat) (y : α) (hx : a.eval x = .slice (some ⟨g, 0, none⟩) 1 c)
    (hnew : ∀ j u, (f y)[j]? = some u → w.cell? ⟨g, j, none⟩ = some u) (h1 : ∀ u ∈ f y, u.oneCell' = true) (hlen : (l.length + 1) * bytes ≤ 140737488355328) (hlen' : l.length < maxLen) (hB : B ≤ w.heap.size)
    (h : ∀ v' w', w'.ownsRow B e size v' (l.length + 1) ((l ++ [y]).flatMap f) → w.grownBy w' v.ownBlock → wpList Tryz.prog ops Q rest (a.put o.dst v') w') : wpList Tryz.prog ops Q (o :: rest) a w := by
  obtain ⟨i, hi, hz, hsz, hby⟩ := info_parts hinfo
  refine wpList_append_own (P := Tryz.prog) w hgd s x t ho B e i z size bytes ht hi hz hsz hby hzs hk v l.length (l.flatMap f) hs hown ⟨g, 0, none⟩ 1 c (f y) hx (by rw [hf]; simp) ?_ h1 (by omega) hlen hB ?_
  · intro j u hu
    have : (⟨g, 0, none⟩ : Addr).add j = ⟨g, j, none⟩ := by unfold Addr.add; split <;> simp_all
    rw [this]; exact hnew j u hu
  · intro v' w' h2 h3 _
    exact h v' w' (by simpa using h2) h3

theorem wf_ids {x1 x2 : Int} : ∀ u ∈ idC (x1, x2), u.oneCell' = true := by
  intro u hu; simp [idC] at hu; rcases hu with rfl | rfl <;> rfl

theorem cells_ids {w : World} {g : Nat} {x1 x2 : Int} (h0 : w.cell? ⟨g, 0, none⟩ = some (.int .i64 x1)) (h1 : w.cell? ⟨g, 1, none⟩ = some (.int .i64 x2)) :
    ∀ j u, (idC (x1, x2))[j]? = some u → w.cell? ⟨g, j, none⟩ = some u := by
  intro j u hu
  match j with
  | 0 => simp [idC] at hu; rw [← hu]; exact h0
  | 1 => simp [idC] at hu; rw [← hu]; exact h1
  | j + 2 => simp [idC] at hu

/-- A row of Ids of the call's own, from block B on. -/
def ownIds (B : Nat) (w : World) (v : Value) (l : List PId) : Prop := w.ownsRow B 36 2 v l.length (l.flatMap idC)
theorem ownIds.ids {B : Nat} {w : World} {v : Value} {l : List PId} (h : ownIds B w v l) : isIds w v l := owns_mono h (Nat.zero_le _)
theorem ownIds.alloc {B : Nat} {w : World} {v : Value} {l : List PId} (h : ownIds B w v l) (o : Obj) : ownIds B (w.alloc o) v l := World.ownsRow.alloc h o

theorem ownIds.below {B : Nat} {w0 w w' : World} {v : Value} {l : List PId} (h : ownIds B w v l) (hb : Below B w0 w) (hB : B ≤ w.heap.size) (hg : w.grownBy w' v.ownBlock) : Below B w0 w' :=
  hb.grown hg hB fun k hk => (World.ownsRow.lt h k hk).1
theorem take_map_succ {α β : Type} (f : α → β) {l : List α} {k : Nat} (h : k < l.length) : (l.take (k + 1)).map f = (l.take k).map f ++ [f l[k]] := by
  rw [List.take_succ_eq_append_getElem h, List.map_append]; rfl

theorem app_id {ops : Array Oper} {rest : List Oper} {o : Oper} {a : Act} {Q : Exit → Act → World → Prop} {w : World} (hgd : o.guard = none) (s x : Operand)
    (ho : o.op = .call { callee := .builtin .append, args := #[s, x], argTypes := #[65, 65] }) (B : Nat) (v : Value) (l : List PId) (hs : a.eval s = v)
    (hown : ownIds B w v l) (g c : Nat) (x1 x2 : Int) (hx : a.eval x = .slice (some ⟨g, 0, none⟩) 1 c)
    (h0 : w.cell? ⟨g, 0, none⟩ = some (.int .i64 x1)) (h1 : w.cell? ⟨g, 1, none⟩ = some (.int .i64 x2)) (hlen : l.length < 1000000000000) (hB : B ≤ w.heap.size)
    (h : ∀ v' w', ownIds B w' v' (l ++ [(x1, x2)]) → w.grownBy w' v.ownBlock → wpList Tryz.prog ops Q rest (a.put o.dst v') w') : wpList Tryz.prog ops Q (o :: rest) a w :=
  app_one idC 2 16 65 36 (.agg #[.int .i64 0, .int .i64 0]) (by kernel_rfl) Tryz.underlying65 rfl (by omega) (fun _ => rfl) hgd s x ho B v l hs hown g c (x1, x2) hx
    (cells_ids h0 h1) wf_ids (by omega) (by unfold maxLen; omega) hB (fun v' w' h2 h3 => h v' w' (by unfold ownIds; simpa using h2) h3)

end Go.Proofs.YtnkpogjiiohapaaGreatDoor

/-! RefD: Contracts of the reference's seen, after, keyFits and behind: each answers as the plain function says, and turns nothing that was there. -/
namespace Go.Proofs.YtnkpogjiiohapaaGreatDoor
open Go.RowKit

/-! ### keyFits -/
def letters (s : List UInt8) : Bool := s.all fun c => 97 ≤ c && c ≤ 122
def keyOk (s : ByteArray) : Bool := letters s.data.toList && decide (0 < s.size ∧ s.size ≤ 4)

theorem letters_yes {s : ByteArray} {k : Nat} (h : k < s.size) (hp : letters (s.data.toList.take k) = true) (h1 : (97 : Int) ≤ s[k].toNat) (h2 : (s[k].toNat : Int) ≤ 122) : letters (s.data.toList.take (k + 1)) = true := by
  have h' : k < s.data.toList.length := by simpa using h
  unfold letters at *
  rw [List.take_succ_eq_append_getElem h', List.all_append, hp]
  have e : s.data.toList[k] = s[k] := rfl
  simp [e, UInt8.le_iff_toNat_le]; omega
theorem letters_no {s : ByteArray} {k : Nat} (h : k < s.size) (h1 : ¬ ((97 : Int) ≤ s[k].toNat ∧ (s[k].toNat : Int) ≤ 122)) : keyOk s = false := by
  have h' : k < s.data.toList.length := by simpa using h
  have : letters s.data.toList = false := by
    unfold letters
    rw [List.all_eq_false]
    refine ⟨s.data.toList[k], List.getElem_mem _, ?_⟩
    have e : s.data.toList[k] = s[k] := rfl
    simp [e, UInt8.le_iff_toNat_le]; omega
  simp [keyOk, this]

end Go.Proofs.YtnkpogjiiohapaaGreatDoor

/-! RefE: Contracts of the reference's after and behind. -/
namespace Go.Proofs.YtnkpogjiiohapaaGreatDoor
open Go.RowKit

theorem less_irrefl (l : List UInt8) : Op.bytesLess l l = false := by
  induction l with
  | nil => rfl
  | cons a l ih => simp [Op.bytesLess, ih, UInt8.lt_iff_toNat_lt]
theorem less_trans : ∀ (a b c : List UInt8), Op.bytesLess a b = true → Op.bytesLess b c = true → Op.bytesLess a c = true
  | _, _, [], _, h => by simp [Op.bytesLess] at h
  | [], _, _ :: _, _, _ => by simp [Op.bytesLess]
  | _ :: _, [], _ :: _, h, _ => by simp [Op.bytesLess] at h
  | x :: a, y :: b, z :: c, h1, h2 => by
    simp [Op.bytesLess, UInt8.lt_iff_toNat_lt] at h1 h2 ⊢
    rcases h1 with h1 | ⟨rfl, h1⟩
    · rcases h2 with h2 | ⟨rfl, h2⟩
      · left; omega
      · left; exact h1
    · rcases h2 with h2 | ⟨rfl, h2⟩
      · left; exact h2
      · right; exact ⟨rfl, less_trans a b c h1 h2⟩
end Go.Proofs.YtnkpogjiiohapaaGreatDoor
