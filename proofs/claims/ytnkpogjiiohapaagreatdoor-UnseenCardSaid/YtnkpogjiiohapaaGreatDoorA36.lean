/- Our own text (GTxtF, GTxtG, GNewA). -/
import Derived.Test.YtnkpogjiiohapaaGreatDoorA35
set_option linter.unusedSimpArgs false
set_option linter.unusedVariables false

/-! GTxtF: Plain: how long the text of a document is. -/
namespace Go.Proofs.YtnkpogjiiohapaaGreatDoor
open Go.RowKit

def nv : List PSlot → Nat
  | [] => 0
  | s :: l => s.hs.length + nv l
theorem nv_append : ∀ (l m : List PSlot), nv (l ++ m) = nv l + nv m
  | [], m => by simp [nv]
  | s :: l, m => by
    show s.hs.length + nv (l ++ m) = s.hs.length + nv l + nv m
    rw [nv_append l m]
    omega
theorem nv_perm {l m : List PSlot} (h : l.Perm m) : nv l = nv m := by
  induction h with
  | nil => rfl
  | cons x _ ih => unfold nv; rw [ih]
  | swap x y l => unfold nv; unfold nv; omega
  | trans _ _ h1 h2 => exact h1.trans h2
theorem nv_ins (l : List PSlot) (k : Nat) (key : ByteArray) (x : PId) : nv (pinsAt l k (pslot0 key x)) = nv l := by
  unfold pinsAt
  have h := nv_append (l.take k) (l.drop k)
  rw [List.take_append_drop] at h
  rw [nv_append, h]
  show _ + (0 + nv (l.drop k)) = _
  omega
theorem len_ins (l : List PSlot) (k : Nat) (s : PSlot) : (pinsAt l k s).length = l.length + 1 := by
  unfold pinsAt
  rw [List.length_append, List.length_cons]
  have := congrArg List.length (List.take_append_drop k l)
  rw [List.length_append] at this
  omega
theorem nv_modify {f : PSlot → PSlot} (hf : ∀ s, (f s).hs.length ≤ s.hs.length + 1) : ∀ (l : List PSlot) (k : Nat), nv (l.modify k f) ≤ nv l + 1
  | [], k => by simp [nv]
  | s :: l, 0 => by
    rw [List.modify_zero_cons]
    have := hf s
    unfold nv
    omega
  | s :: l, k + 1 => by
    rw [List.modify_succ_cons]
    have := nv_modify hf l k
    unfold nv
    omega
theorem nv_mem {s : PSlot} : ∀ {l : List PSlot}, s ∈ l → s.hs.length ≤ nv l
  | y :: l, h => by
    unfold nv
    rcases List.mem_cons.1 h with rfl | h
    · omega
    · have := nv_mem h; omega
theorem helds_len (old : List PId) (hs : List PHeld) (kind : Int) (y : PHeld) : (newHelds old hs kind y).length ≤ hs.length + 1 := by
  unfold newHelds
  rw [List.length_append]
  have h1 : (unnamed old hs).length ≤ hs.length := List.length_filter_le _ _
  have h2 : (if kind = 3 then [y] else []).length ≤ 1 := by split <;> simp
  omega
theorem doesAt_nv (p : POp) (o : PObj) : nv (doesAt p o).ss ≤ nv o.ss + 1 ∧ (doesAt p o).ss.length ≤ o.ss.length + 1 := by
  unfold doesAt
  split
  · split
    · show nv (laidP _ _ _) ≤ _ ∧ (laidP _ _ _).length ≤ _
      unfold laidP
      split
      · rw [nv_ins, len_ins]; omega
      · split
        · omega
        · rw [nv_ins, len_ins]; omega
    · omega
  · split
    · show nv (valuedP _ _ _ _ _ _ _) ≤ _ ∧ (valuedP _ _ _ _ _ _ _).length ≤ _
      unfold valuedP
      split
      · split
        · omega
        · have := helds_len p.old [] p.kind p.held
          rw [nv_append, List.length_append]
          show nv o.ss + ((newHelds p.old [] p.kind p.held).length + 0) ≤ _ ∧ _ + 1 ≤ _
          simp only [List.length_nil] at this
          omega
      · rw [List.length_modify]
        exact ⟨nv_modify (fun s => helds_len _ _ _ _) _ _, by omega⟩
    · omega
/-- What an object is behind an operation. -/
theorem does_cases {R : List PObj} {p : POp} {x : PId} {o : PObj} (ho : objOf (doesP R p) x = some o) : objOf R x = some o ∨ o.ss = [] ∨ (p.kind ≠ 1 ∧ ∃ o', objOf R x = some o' ∧ o = doesAt p o') := by
  by_cases hk : p.kind = 1
  · rw [make_obj hk] at ho
    cases hx : objOf R x with
    | some o' => rw [hx] at ho; exact .inl ho
    | none =>
      rw [hx] at ho
      simp only at ho
      split at ho
      · cases ho
        exact .inr (.inl rfl)
      · cases ho
  · rw [does_obj hk] at ho
    split at ho
    · cases hx : objOf R x with
      | none => rw [hx] at ho; cases ho
      | some o' => rw [hx] at ho; exact .inr (.inr ⟨hk, o', rfl, by simpa using ho.symm⟩)
    · exact .inl ho
theorem does_key {p : POp} {o : PObj} {s : PSlot} (h : s ∈ (doesAt p o).ss) : (∃ s0 ∈ o.ss, s0.key = s.key) ∨ s.key = p.key ∨ s.key = ⟨#[]⟩ := by
  unfold doesAt at h
  split at h
  · split at h
    · rcases laid_memG h with h | rfl
      · exact .inl ⟨s, h, rfl⟩
      · exact .inr (.inr rfl)
    · exact .inl ⟨s, h, rfl⟩
  · split at h
    · unfold valuedP at h
      simp only at h
      split at h
      · split at h
        · exact .inl ⟨s, h, rfl⟩
        · rcases List.mem_append.1 h with h | h
          · exact .inl ⟨s, h, rfl⟩
          · obtain rfl := List.mem_singleton.1 h
            exact .inr (.inl rfl)
      · rcases mem_modifyG h with h | ⟨s0, h0, rfl⟩
        · exact .inl ⟨s, h, rfl⟩
        · exact .inl ⟨s0, h0, rfl⟩
    · exact .inl ⟨s, h, rfl⟩
theorem helds_kind {old : List PId} {hs : List PHeld} {kind : Int} {y h : PHeld} (hm : h ∈ newHelds old hs kind y) : h ∈ hs ∨ (kind = 3 ∧ h = y) := by
  unfold newHelds at hm
  rcases List.mem_append.1 hm with hm | hm
  · exact .inl (List.mem_filter.1 hm).1
  · split at hm
    · rename_i hk
      exact .inr ⟨hk, by simpa using hm⟩
    · cases hm
theorem does_held {p : POp} {o : PObj} {s : PSlot} (h : s ∈ (doesAt p o).ss) {y : PHeld} (hy : y ∈ s.hs) : (∃ s0 ∈ o.ss, y ∈ s0.hs) ∨ (p.kind = 3 ∧ y = p.held) := by
  unfold doesAt at h
  split at h
  · split at h
    · rcases laid_memG h with h | rfl
      · exact .inl ⟨s, h, hy⟩
      · cases hy
    · exact .inl ⟨s, h, hy⟩
  · split at h
    · unfold valuedP at h
      simp only at h
      split at h
      · split at h
        · exact .inl ⟨s, h, hy⟩
        · rcases List.mem_append.1 h with h | h
          · exact .inl ⟨s, h, hy⟩
          · obtain rfl := List.mem_singleton.1 h
            rcases helds_kind hy with h1 | h1
            · cases h1
            · exact .inr h1
      · rcases mem_modifyG h with h | ⟨s0, h0, rfl⟩
        · exact .inl ⟨s, h, hy⟩
        · rcases helds_kind hy with h1 | h1
          · exact .inl ⟨s0, h0, h1⟩
          · exact .inr h1
    · exact .inl ⟨s, h, hy⟩
/-- What the text asks of a document, plainly. -/
structure Nice (R : List PObj) (n : Nat) : Prop where
  nums : ∀ x o, objOf R x = some o → ∀ s ∈ o.ss, ∀ h ∈ s.hs, intOk h.num
  objs : ∀ x o, objOf R x = some o → ∀ s ∈ o.ss, ∀ h ∈ s.hs, ∃ o', objOf R h.obj = some o'
  ksz : ∀ x o, objOf R x = some o → ∀ s ∈ o.ss, s.key.size ≤ 4
  cnt : ∀ x o, objOf R x = some o → nv o.ss ≤ n ∧ o.ss.length ≤ n
theorem Nice.does {R : List PObj} {n : Nat} (h : Nice R n) {p : POp} (h1 : p.kind = 3 → intOk p.num ∧ ∃ o, objOf R p.obj = some o) (h2 : p.key.size ≤ 4) : Nice (doesP R p) (n + 1) := by
  refine ⟨fun x o ho s hs y hy => ?_, fun x o ho s hs y hy => ?_, fun x o ho s hs => ?_, fun x o ho => ?_⟩
  · rcases does_cases ho with ho | ho | ⟨_, o', hoo, rfl⟩
    · exact h.nums x o ho s hs y hy
    · rw [ho] at hs; cases hs
    · rcases does_held hs hy with ⟨s0, h0, hy⟩ | ⟨hk, rfl⟩
      · exact h.nums x o' hoo s0 h0 y hy
      · exact (h1 hk).1
  · apply does_keepsG
    rcases does_cases ho with ho | ho | ⟨_, o', hoo, rfl⟩
    · exact h.objs x o ho s hs y hy
    · rw [ho] at hs; cases hs
    · rcases does_held hs hy with ⟨s0, h0, hy⟩ | ⟨hk, rfl⟩
      · exact h.objs x o' hoo s0 h0 y hy
      · exact (h1 hk).2
  · rcases does_cases ho with ho | ho | ⟨_, o', hoo, rfl⟩
    · exact h.ksz x o ho s hs
    · rw [ho] at hs; cases hs
    · rcases does_key hs with ⟨s0, h0, e⟩ | e | e
      · rw [← e]; exact h.ksz x o' hoo s0 h0
      · rw [e]; exact h2
      · rw [e]; exact Nat.zero_le _
  · rcases does_cases ho with ho | ho | ⟨_, o', hoo, rfl⟩
    · have := h.cnt x o ho; omega
    · rw [ho]; exact ⟨Nat.zero_le _, Nat.zero_le _⟩
    · have h3 := h.cnt x o' hoo
      have h4 := doesAt_nv p o'
      omega
theorem Nice.root : Nice rootP 0 := by
  have key : ∀ x o, objOf rootP x = some o → o.ss = [] := fun x o h => by
    unfold objOf rootP at h
    simp only [List.find?_cons, List.find?_nil] at h
    split at h
    · cases h; rfl
    · cases h
  refine ⟨fun x o h s hs => ?_, fun x o h s hs => ?_, fun x o h s hs => ?_, fun x o h => ?_⟩
  · rw [key x o h] at hs; cases hs
  · rw [key x o h] at hs; cases hs
  · rw [key x o h] at hs; cases hs
  · rw [key x o h]; exact ⟨Nat.le_refl _, Nat.le_refl _⟩
/-- Of the operations: each number an int, each key short. -/
def NiceOp (p : POp) : Prop := intOk p.num ∧ p.key.size ≤ 4
theorem Nice.all : ∀ (S : List POp) (R : List PObj) (I M : List PId) (n : Nat), Nice R n → (∀ x ∈ M, ∃ o, objOf R x = some o) → OpsOk I M S → (∀ p ∈ S, NiceOp p) → Nice (S.foldl doesP R) (n + S.length)
  | [], _, _, _, _, h, _, _, _ => h
  | p :: S, R, I, M, n, h, hM, hok, hp => by
    obtain ⟨k1, k2, k3, k4, k5, k6⟩ := hok
    have hn := hp p List.mem_cons_self
    have hd := h.does (p := p) (fun hk => ⟨hn.1, hM _ (k5 hk)⟩) hn.2
    rw [List.foldl_cons, List.length_cons, show n + (S.length + 1) = (n + 1) + S.length by omega]
    refine Nice.all S (doesP R p) _ _ (n + 1) hd (fun x hx => ?_) k6 fun q hq => hp q (List.mem_cons_of_mem _ hq)
    split at hx
    · rename_i hk
      rcases List.mem_cons.1 hx with rfl | hx
      · exact does_makes hk
      · exact does_keepsG p (hM x hx)
    · exact does_keepsG p (hM x hx)

/-! Sizes. -/
theorem joinB_size (sep : ByteArray) (V : ByteArray → Nat) : ∀ (l : List ByteArray), (joinB sep l).size ≤ (l.map fun y => y.size + sep.size).sum := by
  intro l
  cases l with
  | nil => exact Nat.zero_le _
  | cons x l =>
    have : ∀ (l : List ByteArray) (a : ByteArray), (l.foldl (fun s y => (s ++ sep) ++ y) a).size = a.size + (l.map fun y => y.size + sep.size).sum := by
      intro l
      induction l with
      | nil => intro a; simp
      | cons y l ih =>
        intro a
        rw [List.foldl_cons, ih, ba_size_append, ba_size_append, List.map_cons, List.sum_cons]
        omega
    show (l.foldl (fun s y => (s ++ sep) ++ y) x).size ≤ _
    rw [this, List.map_cons, List.sum_cons]
    omega
theorem sum_le_mul {α : Type} (f : α → Nat) (B : Nat) : ∀ (l : List α), (∀ x ∈ l, f x ≤ B) → (l.map f).sum ≤ l.length * B
  | [], _ => by simp
  | x :: l, h => by
    rw [List.map_cons, List.sum_cons, List.length_cons, Nat.succ_mul]
    have h1 := h x List.mem_cons_self
    have h2 := sum_le_mul f B l fun y hy => h y (List.mem_cons_of_mem _ hy)
    omega
theorem valsG_size (T : PId → ByteArray) (B : Nat) (hT : ∀ x, (T x).size ≤ B) (l : List PHeld) (hl : ∀ h ∈ l, intOk h.num) : (valsG T l).size ≤ l.length * (B + 22) := by
  unfold valsG
  refine Nat.le_trans (joinB_size bar (fun _ => 0) _) ?_
  rw [List.map_map]
  have := sum_le_mul ((fun y : ByteArray => y.size + bar.size) ∘ itemText T) (B + 22) (hsG l) fun h hh => by
    show (itemText T h).size + 1 ≤ _
    unfold itemText
    split
    · have := numText_len h.num (hl h (hsG_mem.1 hh)); omega
    · have := hT h.obj; omega
  rw [hsG_len] at this
  exact this
theorem slots_size (T : PId → ByteArray) (list : Bool) (B : Nat) : ∀ (M : List PSlot), (∀ s ∈ M, s.key.size ≤ 4 ∧ (valsG T s.hs).size ≤ s.hs.length * (B + 22)) → (((M.filter seenS).map (slotG T list)).map fun y => y.size + 1).sum ≤ M.length * 6 + nv M * (B + 22)
  | [], _ => by simp
  | s :: M, h => by
    have ih := slots_size T list B M fun y hy => h y (List.mem_cons_of_mem _ hy)
    obtain ⟨h1, h2⟩ := h s List.mem_cons_self
    have h3 : (slotG T list s).size ≤ 5 + s.hs.length * (B + 22) := by
      unfold slotG
      have hc : colon.size = 1 := rfl
      split
      · omega
      · rw [ba_size_append, ba_size_append]; omega
    have h4 : nv (s :: M) * (B + 22) = s.hs.length * (B + 22) + nv M * (B + 22) := by
      show (s.hs.length + nv M) * (B + 22) = _
      rw [Nat.add_mul]
    rw [h4, List.length_cons, List.filter_cons]
    split
    · rw [List.map_cons, List.map_cons, List.sum_cons]
      omega
    · omega
theorem bodyG_size (T : PId → ByteArray) (list : Bool) (B : Nat) (M : List PSlot) (h : ∀ s ∈ M, s.key.size ≤ 4 ∧ (valsG T s.hs).size ≤ s.hs.length * (B + 22)) : (bodyG T list M).size ≤ M.length * 6 + nv M * (B + 22) := by
  unfold bodyG
  exact Nat.le_trans (joinB_size comma (fun _ => 0) _) (slots_size T list B M h)
def TG : Nat → Nat
  | 0 => 1
  | r + 1 => 2 + 240 * (28 + TG r)
theorem TG_le {r : Nat} (hr : r ≤ 3) : 240 * (28 + TG r) ≤ 100000000000 := by
  have h0 : TG 0 = 1 := rfl
  have h1 : TG 1 = 2 + 240 * (28 + TG 0) := rfl
  have h2 : TG 2 = 2 + 240 * (28 + TG 1) := rfl
  have h3 : TG 3 = 2 + 240 * (28 + TG 2) := rfl
  have : r = 0 ∨ r = 1 ∨ r = 2 ∨ r = 3 := by omega
  rcases this with rfl | rfl | rfl | rfl <;> omega
section
theorem Nice.vals_size {R : List PObj} {n : Nat} (h : Nice R n) {B r : Nat} (hT : ∀ x, (textG R r x).size ≤ B) {x : PId} {o : PObj} (ho : objOf R x = some o) {s : PSlot} (hs : s ∈ o.ss) : (valsG (textG R r) s.hs).size ≤ s.hs.length * (B + 22) := valsG_size _ B hT _ (h.nums x o ho s hs)
theorem Nice.body_size {R : List PObj} {n : Nat} (h : Nice R n) (hn : n ≤ 240) {B r : Nat} (hT : ∀ x, (textG R r x).size ≤ B) {x : PId} {o : PObj} (ho : objOf R x = some o) : (bodyG (textG R r) o.list (ordP o)).size ≤ 240 * (28 + B) := by
  have hp : (ordP o).Perm o.ss := by
    unfold ordP sortP
    split
    · exact .refl _
    · exact List.mergeSort_perm _ _
  have h1 := bodyG_size (textG R r) o.list B (ordP o) fun s hs => ⟨h.ksz x o ho s (hp.mem_iff.1 hs), h.vals_size hT ho (hp.mem_iff.1 hs)⟩
  rw [hp.length_eq, nv_perm hp] at h1
  obtain ⟨h2, h3⟩ := h.cnt x o ho
  have h4 : nv o.ss * (B + 22) ≤ 240 * (B + 22) := Nat.mul_le_mul_right _ (by omega)
  omega
theorem Nice.text_size {R : List PObj} {n : Nat} (h : Nice R n) (hn : n ≤ 240) (r : Nat) : ∀ x : PId, (textG R r x).size ≤ TG r := by
  induction r with
  | zero => exact fun x => Nat.le_refl 1
  | succ r ih =>
    intro x
    cases hf : objOf R x with
    | none =>
      show (match objOf R x with | some o => objG (textG R r) o.list (ordP o) | none => ⟨#[]⟩).size ≤ _
      rw [hf]
      exact Nat.zero_le _
    | some o =>
      rw [textG_some hf]
      have := h.body_size hn ih hf
      show _ ≤ 2 + 240 * (28 + TG r)
      unfold objG
      have e1 : (⟨#[91]⟩ : ByteArray).size = 1 := rfl
      have e2 : (⟨#[93]⟩ : ByteArray).size = 1 := rfl
      have e3 : (⟨#[123]⟩ : ByteArray).size = 1 := rfl
      have e4 : (⟨#[125]⟩ : ByteArray).size = 1 := rfl
      split <;> simp only [ba_size_append] <;> omega
end

end Go.Proofs.YtnkpogjiiohapaaGreatDoor

/-! GTxtG: The room's text in general: what Show asks is so. -/
namespace Go.Proofs.YtnkpogjiiohapaaGreatDoor
open Go.RowKit

theorem put_lenG {κ ν : Type} [DecidableEq κ] (x : κ) (v : ν) : ∀ m : List (κ × ν), (putI x v m).length ≤ m.length + 1
  | [] => by simp [putI]
  | p :: m => by
    unfold putI
    split
    · simp
    · have := put_lenG x v m
      simp; omega
/-- One operation adds one key at most. -/
theorem step_keysG {D D' : QDoc} {n : Nat} {o : QOp} (h : ∀ p ∈ D.1, p.2.ks.length ≤ n) (hs : StepTo D o D') : ∀ p ∈ D'.1, p.2.ks.length ≤ n + 1 := by
  have h1 : ∀ p ∈ D.1, p.2.ks.length ≤ n + 1 := fun p hp => Nat.le_succ_of_le (h p hp)
  have hset : ∀ {ob x : PId} {key : ByteArray} {v : Option Nat} {vs : List (PId × PVal)}, SetTo D ob key x v vs D' → ∀ p ∈ D'.1, p.2.ks.length ≤ n + 1 := by
    intro ob x key v vs hst p hp
    rcases hst with ⟨_, el, hel, rfl⟩ | ⟨_, oo, g, ks', hob, hpm, rfl⟩
    · exact h1 p hp
    · rcases put_mem hp with hp | rfl
      · exact h1 p hp
      · have h2 := put_lenG key (⟨v, vs⟩ : CKey) ks'
        have h3 := h _ (look_mem hob)
        have h4 := hpm.length_eq
        show (putI key (⟨v, vs⟩ : CKey) ks').length ≤ n + 1
        simp only at h3
        omega
  obtain ⟨id, nth, chg⟩ := o
  rcases chg with l | ⟨x, b⟩ | ⟨ob, key, x, val, gs⟩ | ⟨ob, key, x, gs⟩
  · simp only [StepTo] at hs
    subst hs
    intro p hp
    rcases put_mem hp with hp | rfl
    · exact h1 p hp
    · exact Nat.zero_le _
  · simp only [StepTo] at hs
    subst hs
    unfold layQ
    split
    · exact h1
    · rename_i ob hob
      split
      · exact h1
      · split
        · intro p hp
          rcases put_mem hp with hp | rfl
          · exact h1 p hp
          · exact (show ob.ks.length ≤ n + 1 from h1 (x, ob) (look_mem hob))
        · split
          · exact h1
          · split
            · exact h1
            · exact h1
  · simp only [StepTo, GiveTo] at hs
    split at hs
    · obtain ⟨v, vs, hp, hst⟩ := hs
      exact hset hst
    · subst hs; exact h1
  · simp only [StepTo, TakeTo] at hs
    split at hs
    · obtain ⟨v, vs, hp, hst⟩ := hs
      exact hset hst
    · subst hs; exact h1

theorem do_keysG : ∀ (l : List QOp) {D D' : QDoc} {n : Nat}, (∀ p ∈ D.1, p.2.ks.length ≤ n) → DoTo D l D' → ∀ p ∈ D'.1, p.2.ks.length ≤ n + l.length
  | [], D, D', n, h, hd => by
    have e : D' = D := hd
    subst e
    exact h
  | o :: l, D, D', n, h, hd => by
    obtain ⟨D1, h1, h2⟩ := hd
    have := do_keysG l (step_keysG h h1) h2
    intro p hp
    have := this p hp
    rw [List.length_cons]
    omega

def NiceM (N : Nat) (M : Nat → List MOp) : Prop := ∀ c, c < N → ∀ o ∈ M c, NiceOp (popOf o.op)
theorem NiceM.add {N : Nat} {M : Nat → List MOp} (h : NiceM N M) {c : Nat} {o : MOp} (ho : NiceOp (popOf o.op)) : NiceM N (addM M c o) := by
  intro e he y hy
  by_cases hec : e = c
  · subst hec
    rw [addM_same] at hy
    rcases List.mem_append.1 hy with hy | hy
    · exact h e he y hy
    · obtain rfl := List.mem_singleton.1 hy
      exact ho
  · rw [addM_ne _ _ hec] at hy
    exact h e he y hy

theorem objOf_root : ∀ (S : List POp) (R : List PObj), (∃ o, objOf R (0, 0) = some o) → ∃ o, objOf (S.foldl doesP R) (0, 0) = some o
  | [], _, h => h
  | p :: S, R, h => objOf_root S (doesP R p) (does_keepsG p h)
section
theorem RoomD.nice {w : World} {r : Nat} {F I : Nat → Prop} {N sp : Nat} {M : Nat → List MOp} {s : RoomS} {x : RoomX} (h : RoomD w r F I N sp M s x) (hn : NiceM N M) {c : Nat} (hc : c < N) : Nice (ROf (s.ops c)) (s.ops c).length := by
  have := Nice.all ((s.ops c).map fun o => popOf o.op) rootP [] [(0, 0)] 0 Nice.root (fun x hx => by
    obtain rfl := List.mem_singleton.1 hx
    exact ⟨⟨(0, 0), false, []⟩, rfl⟩) (opsOk h.ok.made h.md (h.ok.copy c hc) (h.ok.asc c hc)) fun p hp => by
      obtain ⟨o, ho, rfl⟩ := List.mem_map.1 hp
      obtain ⟨e, he, hm⟩ := (h.ok.copy c hc).made ho
      exact hn e he o hm
  rw [List.length_map, Nat.zero_add] at this
  exact this
/-- WHAT SHOW ASKS. -/
theorem RoomD.txt {w : World} {r : Nat} {F I : Nat → Prop} {N sp : Nat} {M : Nat → List MOp} {s : RoomS} {x : RoomX} (h : RoomD w r F I N sp M s x) (hp : Pow w) (hn : NiceM N M) {c : Nat} (hc : c < N) : TxtG w (x.q c).d (x.q c).bo (x.q c).be (x.q c).D (ROf (s.ops c)) := by
  obtain ⟨h1, h2, h3⟩ := h.doc hc
  have hni := h.nice hn hc
  have hlen := h.len hc
  have hd := (h.m.reps c hc).hist.did
  rw [← List.length_map (f := fun o : MOp => o.op), List.take_length] at hd
  obtain ⟨_, _, a3, a4⟩ := h.m.ag c hc
  have ha : DoTo (x.q c).D0.1 ((x.q c).D0.2 ++ (s.kept c).map (·.op)) (x.q c).D := hd
  rw [a4, ← List.map_append, ← h.m.spl c hc] at ha
  have hk := do_keysG _ (n := 0) (fun p hp => by rw [a3 p hp]; exact Nat.le_refl _) ha
  rw [List.length_map] at hk
  refine ⟨(h.m.reps c hc).hist.q, h1, h2, hp, objOf_root _ _ ⟨⟨(0, 0), false, []⟩, rfl⟩, hni.nums, hni.objs, fun p hp' => by have := hk p hp'; omega, fun y o ho => by have := (hni.cnt y o ho).2; omega, fun y o ho sl hs => ⟨by have a := (hni.cnt y o ho).1; have b := nv_mem hs; omega, hni.ksz y o ho sl hs⟩, fun r hr y o ho => ?_⟩
  have hT := hni.text_size hlen r
  have hTB := TG_le hr
  refine ⟨Nat.le_trans (hni.body_size hlen hT ho) (by omega), fun sl hs => Nat.le_trans (hni.vals_size hT ho hs) ?_⟩
  have a := (hni.cnt y o ho).1
  have b := nv_mem hs
  have : sl.hs.length * (TG r + 22) ≤ 240 * (TG r + 22) := Nat.mul_le_mul_right _ (by omega)
  omega
/-- SHOW, of a room in order. -/
theorem gShows {w : World} {r : Nat} {F I : Nat → Prop} {N sp : Nat} {M : Nat → List MOp} {s : RoomS} {x : RoomX} (h : RoomD w r F I N sp M s x) (hp : Pow w) (hn : NiceM N M) {c : Nat} (hc : c < N) : Calls Tryz.prog 28 #[.pointer (some ⟨r, 0, none⟩), .int .i64 c] w fun e w' => e = .returned (.tuple #[.string (textG (ROf (s.ops c)) 4 (0, 0)), .int .i64 0]) ∧ Below w.heap.size w w' := gShow h hc (h.txt hp hn hc)
end

end Go.Proofs.YtnkpogjiiohapaaGreatDoor

/-! GNewA: New in general: the links. -/
namespace Go.Proofs.YtnkpogjiiohapaaGreatDoor
open Go.RowKit
attribute [local go_sem ↓] Go.wp_at_zero Go.wp_at_succ

set_option maxRecDepth 1000000 in
theorem run_mkChanG (W : World) : (Instr.makeChan 151 (.int .i64 12)).run Tryz.prog W = .ok (.chan (some W.heap.size)) (W.alloc (.chan 12 #[] false 0 0 false)) := by
  unfold Instr.makeChan
  go_simp
  decide +kernel

set_option maxRecDepth 1000000 in
set_option maxHeartbeats 1000000 in
theorem newLink_g (w : World) : Calls Tryz.prog 127 #[] w fun e w' => e = .returned (.pointer (some ⟨w.heap.size + 1, 0, none⟩)) ∧ isLink w' (w.heap.size + 1) w.heap.size [] false 0 0 ∧ Below w.heap.size w w' := by
  have ho := run_mkChanG w
  go_enter Tryz.func127, Tryz.ntmps127
  go_wp2
  go_ret
  have e1 : (w.alloc (.chan 12 #[] false 0 0 false)).heap.size = w.heap.size + 1 := by simp
  refine ⟨by simp, ⟨?_, ?_, by simp⟩, ((Below.refl _ w).alloc (Nat.le_refl _) _).alloc (by simp) _⟩
  · rw [← e1]; exact blk_new _ _
  · rw [alloc_old_r _ _ (by simp)]; exact heap_alloc_new w _

/-- The links made by now. -/
structure NewL (w wr : World) (b : Nat) (P : Nat → Nat → Prop) (lm : List (PId × Nat)) (gl gc : Nat → Nat → Nat) : Prop where
  map : ∃ es clk, isMap idV ptrV wr b lm es clk
  look : ∀ c d, P c d → lookI ((c : Int), (d : Int)) lm = some (gl c d)
  nolk : ∀ x y : Int, (¬ ∃ c d : Nat, P c d ∧ x = c ∧ y = d) → lookI (x, y) lm = none
  link : ∀ c d, P c d → isLink wr (gl c d) (gc c d) [] false 0 0
  inj : ∀ c d c' d', P c d → P c' d' → gc c d = gc c' d' → c = c' ∧ d = d'
  ge : ∀ c d, P c d → w.heap.size ≤ gl c d ∧ w.heap.size ≤ gc c d
  bge : w.heap.size ≤ b
  below : Below w.heap.size w wr
def hasNewL (w wr : World) (b : Nat) (P : Nat → Nat → Prop) : Prop := ∃ lm gl gc, NewL w wr b P lm gl gc

theorem NewL.congr {w wr : World} {b : Nat} {P P' : Nat → Nat → Prop} (h : hasNewL w wr b P) (hP : ∀ c d, P' c d ↔ P c d) : hasNewL w wr b P' := by
  have : P' = P := by funext c d; exact propext (hP c d)
  rw [this]; exact h
/-- ONE LINK MORE. -/
theorem NewL.put {w wr w2 : World} {b : Nat} {P : Nat → Nat → Prop} (h : hasNewL w wr b P) {k j g gch : Nat} (hn : ¬ P k j) (hb : Below wr.heap.size wr w2) (hl : isLink w2 g gch [] false 0 0) (hg : wr.heap.size ≤ g) (hgc : wr.heap.size ≤ gch) :
    ∃ w', (Instr.mapUpdate 117 (.map (some b)) (.agg #[.int .i64 (k : Int), .int .i64 (j : Int)]) (.pointer (some ⟨g, 0, none⟩))).run Tryz.prog w2 = .ok () w' ∧ hasNewL w w' b fun c d => P c d ∨ (c = k ∧ d = j) := by
  obtain ⟨lm, gl, gc, h⟩ := h
  obtain ⟨es, clk, hm⟩ := h.map
  obtain ⟨es', clk', hrun, hm'⟩ := run_putI endsKey (hm.keep hb) Tryz.underlying117 ((k : Int), (j : Int)) g
  have hbl := hm.lt
  have ht : Turned (fun k => k = b) w2 (putObj w2 b (.map es' clk')) := Turned.put _ rfl
  have hne : ∀ {gl gc : Nat} {v : World}, isLink v gl gc [] false 0 0 → v.heap[b]? = w2.heap[b]? → gl ≠ b ∧ gc ≠ b := fun {gl gc v} hl hv => by
    have hmb := (hm.keep hb).blk
    rw [← hv] at hmb
    refine ⟨fun e => ?_, fun e => ?_⟩
    · have := hl.blk; rw [e, hmb] at this; cases this
    · have := hl.ch; rw [e, hmb] at this; cases this
  have hkeep : ∀ {gl gc : Nat}, isLink w2 gl gc [] false 0 0 → isLink (putObj w2 b (.map es' clk')) gl gc [] false 0 0 := fun {gl gc} hl => by
    obtain ⟨h1, h2⟩ := hne hl rfl
    exact hl.keepB (putObj_other h1) (putObj_other h2)
  have hlt : ∀ c d, P c d → gl c d < wr.heap.size ∧ gc c d < wr.heap.size := fun c d hp => ⟨blk_lt (h.link c d hp).blk, (Array.getElem?_eq_some_iff.1 (h.link c d hp).ch).1⟩
  have hlo : ∀ c d, P c d → isLink w2 (gl c d) (gc c d) [] false 0 0 := fun c d hp => (h.link c d hp).keepB (hb.block _ (hlt c d hp).1) (hb.block _ (hlt c d hp).2)
  have hkj : ∀ c d, P c d → ¬ (c = k ∧ d = j) := fun c d hp e => by rw [e.1, e.2] at hp; exact hn hp
  refine ⟨_, hrun, putI ((k : Int), (j : Int)) g lm, fun c d => if c = k ∧ d = j then g else gl c d, fun c d => if c = k ∧ d = j then gch else gc c d, ⟨_, _, hm'⟩, fun c d hp => ?_, fun x y hno => ?_, fun c d hp => ?_, fun c d c' d' hp hp' e => ?_, fun c d hp => ?_, h.bge, ?_⟩
  · rw [look_put]
    by_cases e : c = k ∧ d = j
    · rw [if_pos (by rw [e.1, e.2]), if_pos e]
    · rw [if_neg (fun e' => e (by have h1 := congrArg Prod.fst e'; have h2 := congrArg Prod.snd e'; simp only at h1 h2; omega)), if_neg e]
      exact h.look c d (hp.resolve_right e)
  · rw [look_put, if_neg (fun e => hno ⟨k, j, .inr ⟨rfl, rfl⟩, congrArg Prod.fst e, congrArg Prod.snd e⟩)]
    exact h.nolk x y fun ⟨c, d, hp, e⟩ => hno ⟨c, d, .inl hp, e⟩
  · by_cases e : c = k ∧ d = j
    · simp only [e, and_self, if_true]
      exact hkeep hl
    · simp only [e, if_false]
      exact hkeep (hlo c d (hp.resolve_right e))
  · by_cases e1 : c = k ∧ d = j <;> by_cases e2 : c' = k ∧ d' = j
    · exact ⟨e1.1.trans e2.1.symm, e1.2.trans e2.2.symm⟩
    · simp only [e1, and_self, if_true, e2, if_false] at e
      have := (hlt c' d' (hp'.resolve_right e2)).2
      omega
    · simp only [e1, if_false, e2, and_self, if_true] at e
      have := (hlt c d (hp.resolve_right e1)).2
      omega
    · simp only [e1, if_false, e2] at e
      exact h.inj c d c' d' (hp.resolve_right e1) (hp'.resolve_right e2) e
  · have hws := h.below.size
    by_cases e : c = k ∧ d = j
    · simp only [e, and_self, if_true]
      omega
    · simp only [e, if_false]
      exact h.ge c d (hp.resolve_right e)
  · have hbw := h.below.trans (hb.mono h.below.size)
    have hbg := h.bge
    exact ⟨ht.os.trans hbw.os, ht.tape.trans hbw.tape, ht.output.trans hbw.output, Nat.le_trans hbw.size ht.size, fun k hk => (putObj_other (by omega)).trans (hbw.block k hk)⟩

set_option maxRecDepth 1000000 in
set_option maxHeartbeats 1000000 in
theorem newLinks_g (N : Nat) (hN : N ≤ 4) (w : World) : Calls Tryz.prog 71 #[.int .i64 N] w fun e w' => e = .returned (.map (some w.heap.size)) ∧ hasNewL w w' w.heap.size fun c d => c < N ∧ d < N ∧ c ≠ d := by
  have hmk := mk_map 117 w
  have HM0 := hid (show hasNewL w (w.alloc (.map #[] 0)) w.heap.size fun c d => c < 0 ∧ d < N ∧ c ≠ d from ⟨[], fun _ _ => 0, fun _ _ => 0, ⟨_, _, isMap.fresh idV ptrV w⟩, fun c d hp => by omega, fun _ _ _ => rfl, fun c d hp => by omega, fun c d _ _ hp => by omega, fun c d hp => by omega, Nat.le_refl _, (Below.refl w.heap.size w).alloc (Nat.le_refl _) (.map #[] 0)⟩)
  go_enter Tryz.func71, Tryz.ntmps71
  go_wp2_with fail
  go_loopw [8] (fun i wr => ∃ k : Nat, k ≤ N ∧ i = .int .i64 k ∧ hasNewL w wr w.heap.size fun c d => c < k ∧ d < N ∧ c ≠ d) (fun i _ => N - (intOf i).toNat)
  case atStart => exact ⟨0, Nat.zero_le _, rfl, HM0.out⟩
  case round =>
    obtain ⟨k, hk, rfl, hm⟩ := hrel
    have HM := hid hm; clear hm
    by_cases hlt : k < N
    · obtain ⟨wo, hwo⟩ : ∃ wo, wo = wr := ⟨_, rfl⟩
      subst hwo
      go_wp2_with fail
      go_loopw [12] (fun i wr => ∃ j : Nat, j ≤ N ∧ i = .int .i64 j ∧ hasNewL w wr w.heap.size fun c d => (c < k ∧ d < N ∧ c ≠ d) ∨ (c = k ∧ d < j ∧ c ≠ d)) (fun i _ => N - (intOf i).toNat)
      case atStart => exact ⟨0, Nat.zero_le _, rfl, NewL.congr HM.out (fun c d => by omega)⟩
      case round =>
        obtain ⟨j, hj, rfl, hm2⟩ := hrel
        have HM2 := hid hm2; clear hm2
        by_cases hjl : j < N
        · by_cases hjk : k = j
          · subst hjk
            go_wp2
            go_roundw
            case rel => exact ⟨k + 1, by omega, by go_num, NewL.congr HM2.out (fun c d => by omega)⟩
            case measure => simp [intOf]; omega
          · have hne : ¬ ((k : Int) = (j : Int)) := by omega
            go_wp2_with fail
            refine (newLink_g _).mono ?_
            rintro e w3 ⟨rfl, hl3, hb3⟩
            obtain ⟨w4, hrun, hm4⟩ := NewL.put HM2.out (k := k) (j := j) (by omega) hb3 hl3 (by omega) (by omega)
            have HM4 := hid hm4; clear hm4 hl3 hb3
            go_wp2
            go_roundw
            case rel => exact ⟨j + 1, by omega, by go_num, NewL.congr HM4.out (fun c d => by omega)⟩
            case measure => simp [intOf]; omega
        · go_wp2
          go_roundw
          case rel => exact ⟨k + 1, by omega, by go_num, NewL.congr HM2.out (fun c d => by omega)⟩
          case measure => simp [intOf]; omega
    · go_wp2
      go_ret
      exact ⟨rfl, NewL.congr HM.out (fun c d => by omega)⟩

end Go.Proofs.YtnkpogjiiohapaaGreatDoor
