/- Our own text (RefF, RefG, RefH, RefI, RefK, RefL, RefM, PureO, RefO, RefW, RefP, RefQ, RefR, PureT, RefX, RefY, PDocA). -/
import Derived.Deep.RegionLaw
import Derived.Deep.RegionWith
import Derived.Lib.ItoaNum
import Derived.Lib.ItoaLen
import Derived.Deep.DeepCutAuto
import Derived.Test.YtnkpogjiiohapaaGreatDoorA01
set_option linter.unusedSimpArgs false
set_option linter.unusedVariables false

/-! RefF: Laws for appending several elements, and what an update of an object's slots leaves; the contract of the reference's laid. -/
namespace Go.Proofs.YtnkpogjiiohapaaGreatDoor
open Go.RowKit

/-- What a slice that is appended yields. -/
def srcIs {α : Type} (w : World) (f : α → List Value) (x : Value) (l : List α) : Prop :=
  (x = .slice none 0 0 ∧ l = []) ∨ ∃ a c, x = .slice (some a) l.length c ∧ ∀ j u, (l.flatMap f)[j]? = some u → w.cell? (a.add j) = some u

theorem app_many {α : Type} (f : α → List Value) (size bytes : Nat) (t e : TypeId) (z : Value) (hinfo : (Tryz.prog.info? e).map (fun i => (i.zero, i.size, i.bytes)) = some (some z, size, bytes))
    (ht : Tryz.prog.underlying t = some (.slice e)) (hzs : z.cells.size = size) (hk : 0 < size) (hf : ∀ x, (f x).length = size)
    {ops : Array Oper} {rest : List Oper} {o : Oper} {a : Act} {Q : Exit → Act → World → Prop} {w : World} (hgd : o.guard = none) (s x : Operand)
    (ho : o.op = .call { callee := .builtin .append, args := #[s, x], argTypes := #[t, t] }) (B : Nat) (v : Value) (l l2 : List α) (hs : a.eval s = v)
    (hown : w.ownsRow B e size v l.length (l.flatMap f)) (xv : Value) (hx : a.eval x = xv) (hsrc : srcIs w f xv l2) (h1 : ∀ u ∈ l2.flatMap f, u.oneCell' = true)
    (hlen : (l.length + l2.length) * bytes ≤ 140737488355328) (hlen' : l.length + l2.length ≤ maxLen) (hB : B ≤ w.heap.size)
    (h : ∀ v' w', w'.ownsRow B e size v' (l.length + l2.length) ((l ++ l2).flatMap f) → w.grownBy w' v.ownBlock → wpList Tryz.prog ops Q rest (a.put o.dst v') w') : wpList Tryz.prog ops Q (o :: rest) a w := by
  obtain ⟨i, hi, hz, hsz, hby⟩ := info_parts hinfo
  rcases hsrc with ⟨rfl, rfl⟩ | ⟨ad, c, rfl, hc⟩
  · refine wpList_plain hgd fun _ hK => ?_
    have hr := run_append_owned_none (P := Tryz.prog) w B t o.type e i size ht hi v l.length _ hown
    unfold Oper.wp execOp
    simp only [ho, resolve, invoke, builtin, Sem.run_bind, Sem.run_pure, Result.andThen_ok, List.map_toArray, List.map_cons, List.map_nil, hs, hx, hr]
    exact hK _ _ (h v w (by simpa using hown) (World.grownBy.refl w _))
  · refine wpList_append_own (P := Tryz.prog) w hgd s x t ho B e i z size bytes ht hi hz hsz hby hzs hk v l.length (l.flatMap f) hs hown ad l2.length c (l2.flatMap f) hx (flat_len f size hf l2) hc h1 hlen' hlen hB ?_
    intro v' w' h2 h3 _
    exact h v' w' (by simpa using h2) h3

/-- A slice 'v[:at]' of a row. -/
theorem src_head {α : Type} {B : Nat} {w : World} {e : TypeId} {k : Nat} {f : α → List Value} {a : Option Addr} {n cap : Nat} {l : List α} (h : w.ownsRow B e k (.slice a n cap) n (l.flatMap f)) (hf : ∀ x, (f x).length = k) (hn : n = l.length)
    (at_ : Nat) (hat : at_ ≤ n) (c : Nat) (hc : at_ = 0 → a = none → c = 0) : srcIs w f (.slice a at_ c) (l.take at_) := by
  subst hn
  rcases h.2 with ⟨e1, e2⟩ | ⟨g, cap', cur, e1, hb, hg, h1, h2, h3, h4⟩
  · injection e1 with e1 e3 e4
    subst e1
    have : at_ = 0 := by omega
    subst this
    exact .inl ⟨by rw [hc rfl rfl], by simp⟩
  · injection e1 with e1 e3 e4
    subst e1; subst e4
    refine .inr ⟨⟨g, 0, none⟩, c, by rw [List.length_take, Nat.min_eq_left hat], fun j u hu => ?_⟩
    have hx : ((⟨g, 0, none⟩ : Addr).add j) = ⟨g, j, none⟩ := by unfold Addr.add; split <;> simp_all
    rw [hx]
    have hj : j < at_ * k := by
      have := (List.getElem?_eq_some_iff.1 hu).1
      rw [flat_len f k hf, List.length_take, Nat.min_eq_left hat] at this; exact this
    have hjl : j < l.length * k := Nat.lt_of_lt_of_le hj (Nat.mul_le_mul_right _ hat)
    rw [h.cellAt j hjl]
    have e : l.flatMap f = (l.take at_).flatMap f ++ (l.drop at_).flatMap f := by rw [← List.flatMap_append, List.take_append_drop]
    rw [e, List.getElem?_append_left (by rw [flat_len f k hf, List.length_take, Nat.min_eq_left hat]; exact hj)]
    exact hu

end Go.Proofs.YtnkpogjiiohapaaGreatDoor

/-! RefG: The contract of the reference's laid: the object's slots are the old ones with one more behind the named one. -/
namespace Go.Proofs.YtnkpogjiiohapaaGreatDoor
open Go.RowKit

theorem run_idNe (a b c d : Int) (W : World) : (binOp .neq 36 (.agg #[.int .i64 a, .int .i64 b]) (.agg #[.int .i64 c, .int .i64 d])).run Tryz.prog W = .ok (.bool (!idEq a b c d)) W := by
  go_simp
  unfold idEq
  by_cases h1 : a = c <;> by_cases h2 : b = d <;> simp [h1, h2]

end Go.Proofs.YtnkpogjiiohapaaGreatDoor

/-! RefH: The contract of the reference's valued where the slot is there: its values that are named go, the new one joins. -/
namespace Go.Proofs.YtnkpogjiiohapaaGreatDoor
open Go.RowKit

/-- The values that are not named. -/
def unnamed (old : List PId) (hs : List PHeld) : List PHeld := hs.filter fun h => !decide (h.giver ∈ old)
def newHelds (old : List PId) (hs : List PHeld) (kind : Int) (y : PHeld) : List PHeld := unnamed old hs ++ (if kind = 3 then [y] else [])

end Go.Proofs.YtnkpogjiiohapaaGreatDoor

/-! RefI: An append onto an owned row, told with where the new row lies; as a step of a region that draws its order. -/
namespace Go.Proofs.YtnkpogjiiohapaaGreatDoor
open Go.RowKit

/-- The value's block is the old one or a new one. -/
def newOr (w : World) (v v' : Value) : Prop := v'.ownBlock = v.ownBlock ∨ ∀ k, v'.ownBlock = some k → w.heap.size ≤ k

theorem run_app_where {P : Program} (w : World) (base : Nat) (t ty e : TypeId) (i : TypeInfo) (z : Value) (size bytes : Nat) (ht : P.underlying t = some (.slice e)) (hi : P.info? e = some i) (hz : i.zero = some z)
    (hsize : i.size = size) (hby : i.bytes = bytes) (hzs : z.cells.size = size) (hsz : 0 < size)
    (v : Value) (n : Nat) (xs : List Value) (hown : w.ownsRow base e size v n xs)
    (a : Addr) (m c : Nat) (news : List Value) (hl : news.length = m * size) (hnews : ∀ j u, news[j]? = some u → w.cell? (a.add j) = some u) (h1 : ∀ u ∈ news, u.oneCell' = true)
    (h63 : n + m ≤ maxLen) (hbytes : (n + m) * bytes ≤ 140737488355328) (hbase : base ≤ w.heap.size) :
    ∃ v' w', (Builtin.append_ #[t, t] ty #[v, .slice (some a) m c]).run P w = .ok v' w' ∧ w'.ownsRow base e size v' (n + m) (xs ++ news) ∧ w.grownBy w' v.ownBlock ∧ newOr w v v' := by
  obtain ⟨v', w', hr, ho, hg, hnil⟩ := run_append_own (P := P) w base t ty e i z size bytes ht hi hz hsize hby hzs hsz v n xs hown a m c news hl hnews h1 h63 hbytes hbase
  refine ⟨v', w', hr, ho, hg, ?_⟩
  have hsmall : n + m ≤ 9223372036854775807 := by simp only [maxLen] at h63; omega
  subst hsize
  subst hby
  rcases hown.2 with ⟨rfl, rfl⟩ | ⟨g, cap, cur, rfl, hbg, hgg, hnc, hcm, hcs, htake⟩
  · by_cases hm : m = 0
    · exact .inl (by rw [hnil.2 ⟨rfl, hm⟩])
    · have hr2 := run_append_nil (P := P) w t ty e i z ht hi hz a m c news hl hnews (by omega) (by omega) (by have hb := hbytes; simp only [Nat.zero_add] at hb; omega)
      rw [hr2] at hr
      injection hr with e1 e2
      subst e1
      exact .inr fun k hk => by simp [Value.ownBlock] at hk; omega
  · by_cases hroom : n + m ≤ cap
    · have hfit : n * i.size + news.length ≤ cur.size := by rw [hl, hcs, ← Nat.add_mul]; exact Nat.mul_le_mul_right _ hroom
      have hr2 := run_append_room (P := P) w t ty e i ht hi g n cap cur hgg a m c news hl hnews h1 hroom hfit
      rw [hr2] at hr
      injection hr with e1 e2
      subst e1
      exact .inl rfl
    · have holds : ∀ j u, xs[j]? = some u → w.cell? ((⟨g, 0, none⟩ : Addr).add j) = some u := hown.cells (g := g) rfl
      have hr2 := run_append_grow (P := P) w t ty e i z ht hi hz ⟨g, 0, none⟩ n cap xs hown.1 holds a m c news hl hnews (by omega) (by omega) (growslice_fits (by omega) hbytes)
      rw [hr2] at hr
      injection hr with e1 e2
      subst e1
      exact .inr fun k hk => by simp [Value.ownBlock] at hk; omega

/-- ONE ELEMENT MORE, as a step of a region that draws. -/
theorem step_app {α : Type} (f : α → List Value) (size bytes : Nat) (t e : TypeId) (z : Value) (hinfo : (Tryz.prog.info? e).map (fun i => (i.zero, i.size, i.bytes)) = some (some z, size, bytes))
    (ht : Tryz.prog.underlying t = some (.slice e)) (hzs : z.cells.size = size) (hk : 0 < size) (hf : ∀ x, (f x).length = size)
    {ops : Array Oper} {o : Oper} {a : Act} {w : World} {K : Act → World → Prop} {Q : Exit → Act → World → Prop} {E : Prop}
    (hg : o.guard = none) (s x : Operand) (ho : o.op = .call { callee := .builtin .append, args := #[s, x], argTypes := #[t, t] }) (B : Nat) (v : Value) (l : List α) (hs : a.eval s = v)
    (hown : w.ownsRow B e size v l.length (l.flatMap f)) (g c : Nat) (y : α) (hx : a.eval x = .slice (some ⟨g, 0, none⟩) 1 c)
    (hnew : ∀ j u, (f y)[j]? = some u → w.cell? ⟨g, j, none⟩ = some u) (h1 : ∀ u ∈ f y, u.oneCell' = true) (hlen : (l.length + 1) * bytes ≤ 140737488355328) (hlen' : l.length < maxLen) (hB : B ≤ w.heap.size)
    (h : ∀ v' w', w'.ownsRow B e size v' (l.length + 1) ((l ++ [y]).flatMap f) → w.grownBy w' v.ownBlock → newOr w v v' → K (a.put o.dst v') w') :
    if Region.wanted o (yielded ops a.tmps) = true then Oper.wp Tryz.prog o a w K Q else E := by
  have hw : Region.wanted o (yielded ops a.tmps) = true := by simp [Region.wanted, hg]
  rw [if_pos hw]
  obtain ⟨i, hi, hz, hsz, hby⟩ := info_parts hinfo
  obtain ⟨v', w', hr, h2, h3, h4⟩ := run_app_where (P := Tryz.prog) w B t o.type e i z size bytes ht hi hz hsz hby hzs hk v l.length (l.flatMap f) hown ⟨g, 0, none⟩ 1 c (f y) (by rw [hf]; simp)
    (fun j u hu => by
      have : (⟨g, 0, none⟩ : Addr).add j = ⟨g, j, none⟩ := by unfold Addr.add; split <;> simp_all
      rw [this]; exact hnew j u hu) h1 (by omega) hlen hB
  unfold Oper.wp execOp
  simp only [ho, resolve, invoke, builtin, Sem.run_bind, Sem.run_pure, Result.andThen_ok, List.map_toArray, List.map_cons, List.map_nil, hs, hx, hr]
  exact h v' w' (by simpa using h2) h3 h4

theorem cells_type {w : World} {g : Nat} {c c' : Array Value} {e e' : TypeId} {f f' : Nat × Nat} (h : w.heap[g]? = some (.cells c e f)) (h' : w.heap[g]? = some (.cells c' e' f')) : e = e' := by
  rw [h] at h'; injection h' with h'; injection h'

/-- The block of an owned row, if it has one. -/
theorem own_type {w : World} {base : Nat} {e : TypeId} {size : Nat} {v : Value} {n : Nat} {xs : List Value} (h : w.ownsRow base e size v n xs) {g : Nat} (hg : v.ownBlock = some g) : ∃ cur, w.heap[g]? = some (.cells cur e (0, 0)) := by
  rcases h.2 with ⟨rfl, _⟩ | ⟨g', c, cur, rfl, _, hg', _⟩
  · simp [Value.ownBlock] at hg
  · simp [Value.ownBlock] at hg; subst hg; exact ⟨cur, hg'⟩

section
end

end Go.Proofs.YtnkpogjiiohapaaGreatDoor

/-! RefK: The document of the reference in memory; what an update of one object, or one object more, leaves of it. -/
namespace Go.Proofs.YtnkpogjiiohapaaGreatDoor
open Go.RowKit

structure PSlot where
  key : ByteArray
  id : PId
  hs : List PHeld
structure PObj where
  id : PId
  list : Bool
  ss : List PSlot
def CSlot.p (s : CSlot) : PSlot := ⟨s.key, s.id, s.hs⟩
end Go.Proofs.YtnkpogjiiohapaaGreatDoor

/-! RefL: laid and valued, all their ways together, against plain functions on slots. -/
namespace Go.Proofs.YtnkpogjiiohapaaGreatDoor
open Go.RowKit

def pslotIs (key : ByteArray) (x : PId) (s : PSlot) : Bool := (s.key.toList == key.toList) && idEq s.id.1 s.id.2 x.1 x.2
def pslot0 (key : ByteArray) (x : PId) : PSlot := ⟨key, x, []⟩
def pinsAt (l : List PSlot) (n : Nat) (s : PSlot) : List PSlot := l.take n ++ s :: l.drop n
def laidP (l : List PSlot) (b x : PId) : List PSlot :=
  if idEq b.1 b.2 0 0 then pinsAt l 0 (pslot0 ⟨#[]⟩ x)
  else if firstI (pslotIs ⟨#[]⟩ b) l < 0 then l
  else pinsAt l ((firstI (pslotIs ⟨#[]⟩ b) l).toNat + 1) (pslot0 ⟨#[]⟩ x)

def valuedP (l : List PSlot) (list : Bool) (key : ByteArray) (x : PId) (old : List PId) (kind : Int) (y : PHeld) : List PSlot :=
  if firstI (pslotIs key x) l < 0 then
    if list then l else l ++ [⟨key, (0, 0), newHelds old [] kind y⟩]
  else l.modify (firstI (pslotIs key x) l).toNat fun s => ⟨s.key, s.id, newHelds old s.hs kind y⟩

end Go.Proofs.YtnkpogjiiohapaaGreatDoor

/-! RefM: The contract of the reference's does: an operation is done as the plain function says. -/
namespace Go.Proofs.YtnkpogjiiohapaaGreatDoor
open Go.RowKit

structure POp where
  id : PId
  kind : Int
  list : Bool
  object : PId
  key : ByteArray
  element : PId
  behind : PId
  num : Int
  obj : PId
  old : List PId

def POp.held (p : POp) : PHeld := ⟨p.id, p.num, p.obj⟩
def pobjIs (x : PId) (o : PObj) : Bool := idEq o.id.1 o.id.2 x.1 x.2
def doesAt (p : POp) (o : PObj) : PObj :=
  if p.kind = 2 then (if o.list then ⟨o.id, o.list, laidP o.ss p.behind p.id⟩ else o)
  else if o.list = p.key.toList.isEmpty then ⟨o.id, o.list, valuedP o.ss o.list p.key p.element p.old p.kind p.held⟩ else o
def doesP (d : List PObj) (p : POp) : List PObj :=
  if p.kind = 1 then d ++ [⟨p.id, p.list, []⟩]
  else if firstI (pobjIs p.object) d < 0 then d
  else d.modify (firstI (pobjIs p.object) d).toNat (doesAt p)

end Go.Proofs.YtnkpogjiiohapaaGreatDoor

/-! PureO: Plain facts: the least of those that are not taken yet is the next one of the sorted list. -/
namespace Go.Proofs.YtnkpogjiiohapaaGreatDoor
open Go.RowKit

def idLess (a b : PId) : Bool := decide (a.1 < b.1 ∨ (a.1 = b.1 ∧ a.2 < b.2))
def Sorted (S : List POp) : Prop := S.Pairwise fun a b => idLess a.id b.id = true

end Go.Proofs.YtnkpogjiiohapaaGreatDoor

/-! RefO: The contract of the reference's Done: what the operations make of a document, done in the order of their Ids. -/
namespace Go.Proofs.YtnkpogjiiohapaaGreatDoor
open Go.RowKit

def rootP : List PObj := [⟨(0, 0), false, []⟩]

end Go.Proofs.YtnkpogjiiohapaaGreatDoor

/-! RefW: The contracts of the reference's keyed, Elements and Values. -/
namespace Go.Proofs.YtnkpogjiiohapaaGreatDoor
open Go.RowKit

/-- Which object: its place, or the error. -/
def objP (D : List PObj) (x : PId) (lst : Bool) : Except Int Nat :=
  if firstI (pobjIs x) D < 0 then .error 3
  else match D[(firstI (pobjIs x) D).toNat]? with
    | some o => if o.list = lst then .ok (firstI (pobjIs x) D).toNat else .error 4
    | none => .error 3

/-- The values of a key. -/
def heldsAt (o : PObj) (key : ByteArray) (x : PId) : List PHeld := match o.ss.find? (pslotIs key x) with | some s => s.hs | none => []

section
end

def keyedP (D : List PObj) (x : PId) (key : ByteArray) : Except Int (List PHeld) :=
  match objP D x false with
  | .error n => .error n
  | .ok k => if keyOk key then .ok (match D[k]? with | some o => heldsAt o key (0, 0) | none => []) else .error 5

end Go.Proofs.YtnkpogjiiohapaaGreatDoor

/-! RefP: The contract of the reference's Digits: the number's decimal digits. -/
namespace Go.Proofs.YtnkpogjiiohapaaGreatDoor
open Go.RowKit

theorem ret_str {a b : ByteArray} (h : a = b) : Ending.returned (.string a) = .returned (.string b) := by rw [h]

def numText (n : Int) : ByteArray := ⟨(Lib.itoa n).toArray⟩

theorem numText_size (n : Int) (h0 : -9223372036854775808 ≤ n) (h1 : n ≤ 9223372036854775807) : (numText n).size ≤ 21 := by
  have := Lib.itoa_length_le n h0 h1
  show (Lib.itoa n).toArray.size ≤ 21
  simpa using this

end Go.Proofs.YtnkpogjiiohapaaGreatDoor

/-! RefQ: The contract of the reference's values (of a key or an element, as text), given Text's one level deeper. -/
namespace Go.Proofs.YtnkpogjiiohapaaGreatDoor
open Go.RowKit

def itemText (T : PId → ByteArray) (h : PHeld) : ByteArray := if idEq h.obj.1 h.obj.2 0 0 then numText h.num else T h.obj
def bar : ByteArray := ⟨#[124]⟩
def valsText (T : PId → ByteArray) : List PHeld → ByteArray
  | [] => ⟨#[]⟩
  | h :: r => r.foldl (fun s x => (s ++ bar) ++ itemText T x) (itemText T h)
theorem ba_size_append (a b : ByteArray) : (a ++ b).size = a.size + b.size := by
  show (a ++ b).data.size = _
  rw [ByteArray.data_append]; simp
def intOk (n : Int) : Prop := -9223372036854775808 ≤ n ∧ n ≤ 9223372036854775807

end Go.Proofs.YtnkpogjiiohapaaGreatDoor

/-! RefR: Text of an object: plain functions, and facts on going through keys in their order. -/
namespace Go.Proofs.YtnkpogjiiohapaaGreatDoor
open Go.RowKit

def comma : ByteArray := ⟨#[44]⟩
def colon : ByteArray := ⟨#[58]⟩
/-- One slot more. -/
def objStep (T : PId → ByteArray) (list : Bool) (acc : ByteArray) (s : PSlot) : ByteArray :=
  if s.hs.length = 0 then acc
  else
    let a := if acc.toList.isEmpty then acc else acc ++ comma
    (if list then a else (a ++ s.key) ++ colon) ++ valsText T s.hs
def objBody (T : PId → ByteArray) (list : Bool) (M : List PSlot) : ByteArray := M.foldl (objStep T list) ⟨#[]⟩
def objText (T : PId → ByteArray) (list : Bool) (M : List PSlot) : ByteArray :=
  if list then ((⟨#[91]⟩ : ByteArray) ++ objBody T list M) ++ ⟨#[93]⟩ else ((⟨#[123]⟩ : ByteArray) ++ objBody T list M) ++ ⟨#[125]⟩

theorem keyLess_irrefl (a : ByteArray) : keyLess a a = false := less_irrefl _
theorem keyLess_trans {a b c : ByteArray} (h1 : keyLess a b = true) (h2 : keyLess b c = true) : keyLess a c = true := less_trans _ _ _ h1 h2
end Go.Proofs.YtnkpogjiiohapaaGreatDoor

/-! PureT: Plain facts: keys in their order; the text of a document as a plain function. -/
namespace Go.Proofs.YtnkpogjiiohapaaGreatDoor
open Go.RowKit

theorem less_total : ∀ (a b : List UInt8), Op.bytesLess a b = false → Op.bytesLess b a = false → a = b
  | [], [], _, _ => rfl
  | [], _ :: _, h, _ => by simp [Op.bytesLess] at h
  | _ :: _, [], _, h => by simp [Op.bytesLess] at h
  | x :: a, y :: b, h1, h2 => by
    simp [Op.bytesLess, UInt8.lt_iff_toNat_lt, UInt8.le_iff_toNat_le] at h1 h2
    have e : x = y := UInt8.toNat_inj.1 (by omega)
    subst e
    rw [less_total a b (h1.2 rfl) (h2.2 rfl)]
theorem keyLess_total {a b : ByteArray} (h1 : keyLess a b = false) (h2 : keyLess b a = false) : a = b := by
  apply ByteArray.ext
  apply Array.toList_inj.1
  exact less_total _ _ h1 h2

/-- The slots of a map by their keys. -/
def slotLe (a b : PSlot) : Bool := !keyLess b.key a.key
def sortP (l : List PSlot) : List PSlot := l.mergeSort slotLe
def cslotLe (a b : CSlot) : Bool := !keyLess b.key a.key
theorem cslotLe_trans (a b c : CSlot) (h1 : cslotLe a b = true) (h2 : cslotLe b c = true) : cslotLe a c = true := by
  unfold cslotLe at *
  simp at *
  cases h : keyLess c.key a.key
  · rfl
  · cases hab : keyLess a.key b.key
    · have e := keyLess_total hab h1
      rw [e] at h; rw [h2] at h; cases h
    · have := keyLess_trans h hab
      rw [h2] at this; cases this
theorem cslotLe_total (a b : CSlot) : (cslotLe a b || cslotLe b a) = true := by
  unfold cslotLe
  cases h : keyLess b.key a.key
  · simp
  · cases h2 : keyLess a.key b.key
    · simp
    · have := keyLess_trans h h2
      rw [keyLess_irrefl] at this; cases this
def ordP (o : PObj) : List PSlot := if o.list then o.ss else sortP o.ss
/-- THE TEXT OF AN OBJECT; r levels are shown. -/
def textP (D : List PObj) : Nat → PId → ByteArray
  | 0, _ => ⟨#[35]⟩
  | r + 1, x => match D.find? (pobjIs x) with
    | some o => objText (textP D r) o.list (ordP o)
    | none => ⟨#[]⟩

end Go.Proofs.YtnkpogjiiohapaaGreatDoor

/-! RefX: The contracts of the reference's Elements, Values and Show. -/
namespace Go.Proofs.YtnkpogjiiohapaaGreatDoor
open Go.RowKit

theorem ids_modify {D : List PObj} {f : PObj → PObj} (hf : ∀ o, (f o).id = o.id) (k : Nat) : (D.modify k f).map PObj.id = D.map PObj.id := by
  apply List.ext_getElem?
  intro j
  rw [List.getElem?_map, List.getElem?_map, List.getElem?_modify]
  cases D[j]? with
  | none => simp
  | some o => by_cases e : k = j <;> simp [e, hf]
def pseen (o : PObj) : List PId := (o.ss.filter fun s => decide (0 < s.hs.length)).map PSlot.id
def elementsP (D : List PObj) (x : PId) : Except Int (List PId) :=
  match objP D x true with
  | .error n => .error n
  | .ok k => .ok (match D[k]? with | some o => pseen o | none => [])

end Go.Proofs.YtnkpogjiiohapaaGreatDoor

/-! RefY: The contracts of the reference's Values and behind. -/
namespace Go.Proofs.YtnkpogjiiohapaaGreatDoor
open Go.RowKit

abbrev PVal := Int × PId
def valC (x : PVal) : List Value := [.int .i64 x.1, .int .i64 x.2.1, .int .i64 x.2.2]
def valOf (h : PHeld) : PVal := (h.num, h.obj)
def ownVals (B : Nat) (w : World) (v : Value) (l : List PVal) : Prop := w.ownsRow B 57 3 v l.length (l.flatMap valC)
theorem ownVals.alloc {B : Nat} {w : World} {v : Value} {l : List PVal} (h : ownVals B w v l) (o : Obj) : ownVals B (w.alloc o) v l := World.ownsRow.alloc h o
theorem ownVals.below {B : Nat} {w0 w w' : World} {v : Value} {l : List PVal} (h : ownVals B w v l) (hb : Below B w0 w) (hB : B ≤ w.heap.size) (hg : w.grownBy w' v.ownBlock) : Below B w0 w' :=
  hb.grown hg hB fun k hk => (World.ownsRow.lt h k hk).1
theorem wf_val {x : PVal} : ∀ u ∈ valC x, u.oneCell' = true := by
  intro u hu; simp [valC] at hu; rcases hu with rfl | rfl | rfl <;> rfl
theorem cells_val {w : World} {g : Nat} {x : PVal} (h0 : w.cell? ⟨g, 0, none⟩ = some (.int .i64 x.1)) (h1 : w.cell? ⟨g, 1, none⟩ = some (.int .i64 x.2.1)) (h2 : w.cell? ⟨g, 2, none⟩ = some (.int .i64 x.2.2)) :
    ∀ j u, (valC x)[j]? = some u → w.cell? ⟨g, j, none⟩ = some u := by
  intro j u hu
  match j with
  | 0 => simp [valC] at hu; rw [← hu]; exact h0
  | 1 => simp [valC] at hu; rw [← hu]; exact h1
  | 2 => simp [valC] at hu; rw [← hu]; exact h2
  | j + 3 => simp [valC] at hu
theorem app_val {ops : Array Oper} {rest : List Oper} {o : Oper} {a : Act} {Q : Exit → Act → World → Prop} {w : World} (hgd : o.guard = none) (s x : Operand)
    (ho : o.op = .call { callee := .builtin .append, args := #[s, x], argTypes := #[53, 53] }) (B : Nat) (v : Value) (l : List PVal) (hs : a.eval s = v)
    (hown : ownVals B w v l) (g c : Nat) (y : PVal) (hx : a.eval x = .slice (some ⟨g, 0, none⟩) 1 c) (hnew : ∀ j u, (valC y)[j]? = some u → w.cell? ⟨g, j, none⟩ = some u) (hlen : l.length < 1000000000) (hB : B ≤ w.heap.size)
    (h : ∀ v' w', ownVals B w' v' (l ++ [y]) → w.grownBy w' v.ownBlock → wpList Tryz.prog ops Q rest (a.put o.dst v') w') : wpList Tryz.prog ops Q (o :: rest) a w :=
  app_one valC 3 24 53 57 (.agg #[.int .i64 0, .int .i64 0, .int .i64 0]) (by kernel_rfl) Tryz.underlying53 rfl (by omega) (fun _ => rfl) hgd s x ho B v l hs hown g c y hx
    hnew wf_val (by omega) (by unfold maxLen; omega) hB (fun v' w' h2 h3 => h v' w' (by unfold ownVals; simpa using h2) h3)

/-- The element ahead of an index. -/
def behindP (l : List PId) (i : Int) : Option PId := if i < 0 ∨ i > l.length then none else if i = 0 then some (0, 0) else l[(i - 1).toNat]?

end Go.Proofs.YtnkpogjiiohapaaGreatDoor

/-! PDocA: The program's document in memory; the contracts of Has and IsList. -/
namespace Go.Proofs.YtnkpogjiiohapaaGreatDoor
open Go.RowKit

/-- An older block is as it was. -/
theorem alloc_old_r (w : World) (o : Obj) {r : Nat} (h : r < w.heap.size) : (w.alloc o).heap[r]? = w.heap[r]? := @heap_alloc_old w o r h

def valV (x : PVal) : Value := .agg #[.int .i64 x.1, .int .i64 x.2.1, .int .i64 x.2.2]
/-- The values of a place: a map's value, what it reads as. -/
def isVals (w : World) (v : Option Nat) (vs : List (PId × PVal)) : Prop := (v = none ∧ vs = []) ∨ ∃ b es clk, v = some b ∧ isMap idV valV w b vs es clk
structure CKey where
  v : Option Nat
  vs : List (PId × PVal)
def ckeyV (k : CKey) : Value := .map k.v
def isKeys (w : World) (v : Option Nat) (ks : List (ByteArray × CKey)) : Prop := ((v = none ∧ ks = []) ∨ ∃ b es clk, v = some b ∧ isMap strV ckeyV w b ks es clk) ∧ ∀ p ∈ ks, isVals w p.2.v p.2.vs
structure CQObj where
  list : Bool
  kv : Option Nat
  ks : List (ByteArray × CKey)
  first : PId
structure CQEl where
  list : PId
  next : PId
  v : Option Nat
  vs : List (PId × PVal)
def qobjV (o : CQObj) : Value := .agg #[.bool o.list, .map o.kv, .int .i64 o.first.1, .int .i64 o.first.2]
def qelV (e : CQEl) : Value := .agg #[.int .i64 e.list.1, .int .i64 e.list.2, .int .i64 e.next.1, .int .i64 e.next.2, .map e.v]

/-- The document: its block, its two maps, all that they lead to. -/
structure isQ (w : World) (d bo be : Nat) (os : List (PId × CQObj)) (els : List (PId × CQEl)) : Prop where
  hd : w.heap[d]? = some (.cells #[.map (some bo), .map (some be)] 174 (0, 0))
  ho : ∃ es clk, isMap idV qobjV w bo os es clk
  he : ∃ es clk, isMap idV qelV w be els es clk
  hk : ∀ p ∈ os, isKeys w p.2.kv p.2.ks
  hv : ∀ p ∈ els, isVals w p.2.v p.2.vs

theorem isMap.keep {κ ν : Type} {encK : κ → Value} {encV : ν → Value} {w w' : World} {b : Nat} {m : List (κ × ν)} {es : Array MapEntry} {clk : Nat} (h : isMap encK encV w b m es clk) (hb : Below w.heap.size w w') : isMap encK encV w' b m es clk :=
  ⟨by rw [hb.block b h.lt]; exact h.blk, h.ents, h.nodup, h.old⟩
theorem isVals.keep {w w' : World} {v : Option Nat} {vs : List (PId × PVal)} (h : isVals w v vs) (hb : Below w.heap.size w w') : isVals w' v vs :=
  h.imp id fun ⟨b, es, clk, e, hm⟩ => ⟨b, es, clk, e, hm.keep hb⟩
theorem isKeys.keep {w w' : World} {v : Option Nat} {ks : List (ByteArray × CKey)} (h : isKeys w v ks) (hb : Below w.heap.size w w') : isKeys w' v ks :=
  ⟨h.1.imp id fun ⟨b, es, clk, e, hm⟩ => ⟨b, es, clk, e, hm.keep hb⟩, fun p hp => (h.2 p hp).keep hb⟩
section
theorem isQ.keep {w w' : World} {d bo be : Nat} {os : List (PId × CQObj)} {els : List (PId × CQEl)} (h : isQ w d bo be os els) (hb : Below w.heap.size w w') : isQ w' d bo be os els := by
  obtain ⟨es, clk, ho⟩ := h.ho
  obtain ⟨es', clk', he⟩ := h.he
  refine ⟨?_, ⟨es, clk, ho.keep hb⟩, ⟨es', clk', he.keep hb⟩, fun p hp => (h.hk p hp).keep hb, fun p hp => (h.hv p hp).keep hb⟩
  rw [hb.block d (Array.getElem?_eq_some_iff.1 h.hd).1]; exact h.hd
theorem isQ.c0 {w : World} {d bo be : Nat} {os : List (PId × CQObj)} {els : List (PId × CQEl)} (h : isQ w d bo be os els) : w.cell? ⟨d, 0, none⟩ = some (.map (some bo)) := by simp [World.cell?, h.hd]
theorem isQ.c1 {w : World} {d bo be : Nat} {os : List (PId × CQObj)} {els : List (PId × CQEl)} (h : isQ w d bo be os els) : w.cell? ⟨d, 1, none⟩ = some (.map (some be)) := by simp [World.cell?, h.hd]
theorem isQ.lt {w : World} {d bo be : Nat} {os : List (PId × CQObj)} {els : List (PId × CQEl)} (h : isQ w d bo be os els) : d < w.heap.size := (Array.getElem?_eq_some_iff.1 h.hd).1
end

theorem zero_obj (W : World) : (zeroValue 170).run Tryz.prog W = .ok (.agg #[.bool false, .map none, .int .i64 0, .int .i64 0]) W := by kernel_rfl
theorem zero_el (W : World) : (zeroValue 176).run Tryz.prog W = .ok (.agg #[.int .i64 0, .int .i64 0, .int .i64 0, .int .i64 0, .map none]) W := by kernel_rfl

section
/-- Looking up an object. -/
theorem isQ.lookO {w : World} {d bo be : Nat} {os : List (PId × CQObj)} {els : List (PId × CQEl)} (h : isQ w d bo be os els) (x1 x2 : Int) (ok : Bool) : (Instr.lookup 171 (.map (some bo)) (.agg #[.int .i64 x1, .int .i64 x2]) ok).run Tryz.prog w =
    .ok (if ok then .tuple #[((lookI (x1, x2) os).map qobjV).getD (.agg #[.bool false, .map none, .int .i64 0, .int .i64 0]), .bool (lookI (x1, x2) os).isSome] else ((lookI (x1, x2) os).map qobjV).getD (.agg #[.bool false, .map none, .int .i64 0, .int .i64 0])) w := by
  obtain ⟨es, clk, ho⟩ := h.ho
  exact run_lookI idKey ho Tryz.underlying171 (zero_obj w) (x1, x2) ok
theorem isQ.lookE {w : World} {d bo be : Nat} {os : List (PId × CQObj)} {els : List (PId × CQEl)} (h : isQ w d bo be os els) (x1 x2 : Int) (ok : Bool) : (Instr.lookup 172 (.map (some be)) (.agg #[.int .i64 x1, .int .i64 x2]) ok).run Tryz.prog w =
    .ok (if ok then .tuple #[((lookI (x1, x2) els).map qelV).getD (.agg #[.int .i64 0, .int .i64 0, .int .i64 0, .int .i64 0, .map none]), .bool (lookI (x1, x2) els).isSome] else ((lookI (x1, x2) els).map qelV).getD (.agg #[.int .i64 0, .int .i64 0, .int .i64 0, .int .i64 0, .map none])) w := by
  obtain ⟨es, clk, he⟩ := h.he
  exact run_lookI idKey he Tryz.underlying172 (zero_el w) (x1, x2) ok
end

set_option maxRecDepth 1000000 in
set_option maxHeartbeats 400000 in
theorem has_q {w : World} {d bo be : Nat} {os : List (PId × CQObj)} {els : List (PId × CQEl)} (h : isQ w d bo be os els) (x1 x2 : Int) :
    Calls Tryz.prog 89 #[.pointer (some ⟨d, 0, none⟩), .agg #[.int .i64 x1, .int .i64 x2]] w fun e w' => e = .returned (.bool (lookI (x1, x2) os).isSome) ∧ Below w.heap.size w w' := by
  have c0 := h.c0
  have hd := h.lt
  have hb1 : Below w.heap.size w (w.alloc (.cells #[.int .i64 x1, .int .i64 x2] 36)).drew := ((Below.refl _ w).alloc (Nat.le_refl _) _).drew
  have hb2 : Below w.heap.size w ((w.alloc (.cells #[.int .i64 x1, .int .i64 x2] 36)).alloc (.cells #[.bool false, .map none, .int .i64 0, .int .i64 0] 170)).drew := (((Below.refl _ w).alloc (Nat.le_refl _) _).alloc (by simp) _).drew
  have l1 := (h.keep hb1).lookO x1 x2 true
  have l2 := (h.keep hb2).lookO x1 x2 true
  clear h hb1 hb2
  generalize lookI (x1, x2) os = L at *
  cases L with
  | none =>
    simp only [Option.map_none, Option.getD_none, Option.isSome_none, if_true] at l1 l2
    go_enter Tryz.func89, Tryz.ntmps89
    go_wp2
    go_region
    all_goals go_wp2
    all_goals go_ret
    all_goals exact ⟨rfl, by go_grown⟩
  | some o =>
    simp only [Option.map_some, Option.getD_some, Option.isSome_some, if_true, qobjV] at l1 l2
    go_enter Tryz.func89, Tryz.ntmps89
    go_wp2
    go_region
    all_goals go_wp2
    all_goals go_ret
    all_goals exact ⟨rfl, by go_grown⟩

def qlist (x : PId) (os : List (PId × CQObj)) : Bool := match lookI x os with | some o => o.list | none => false

set_option maxRecDepth 1000000 in
set_option maxHeartbeats 400000 in
theorem isList_q {w : World} {d bo be : Nat} {os : List (PId × CQObj)} {els : List (PId × CQEl)} (h : isQ w d bo be os els) (x1 x2 : Int) :
    Calls Tryz.prog 90 #[.pointer (some ⟨d, 0, none⟩), .agg #[.int .i64 x1, .int .i64 x2]] w fun e w' => e = .returned (.bool (qlist (x1, x2) os)) ∧ Below w.heap.size w w' := by
  have c0 := h.c0
  have hd := h.lt
  have hb1 : Below w.heap.size w (w.alloc (.cells #[.int .i64 x1, .int .i64 x2] 36)).drew := ((Below.refl _ w).alloc (Nat.le_refl _) _).drew
  have hb2 : Below w.heap.size w ((w.alloc (.cells #[.int .i64 x1, .int .i64 x2] 36)).alloc (.cells #[.bool false, .map none, .int .i64 0, .int .i64 0] 170)).drew := (((Below.refl _ w).alloc (Nat.le_refl _) _).alloc (by simp) _).drew
  have l1 := (h.keep hb1).lookO x1 x2 true
  have l2 := (h.keep hb2).lookO x1 x2 true
  clear h hb1 hb2
  unfold qlist
  generalize lookI (x1, x2) os = L at *
  cases L with
  | none =>
    simp only [Option.map_none, Option.getD_none, Option.isSome_none, if_true] at l1 l2
    go_enter Tryz.func90, Tryz.ntmps90
    go_wp2
    go_region
    all_goals go_wp2
    all_goals go_ret
    all_goals exact ⟨rfl, by go_grown⟩
  | some o =>
    obtain ⟨ol, ok, oks, of⟩ := o
    simp only [Option.map_some, Option.getD_some, Option.isSome_some, if_true, qobjV] at l1 l2
    cases ol
    all_goals go_enter Tryz.func90, Tryz.ntmps90
    all_goals go_wp2
    all_goals go_region
    all_goals go_wp2
    all_goals go_ret
    all_goals exact ⟨rfl, by go_grown⟩

end Go.Proofs.YtnkpogjiiohapaaGreatDoor
