/- Plain: a list as a heap, by a strict order. No Go text is walked here. -/
namespace Go.Proofs.Ytamkoimadenmeaa
set_option linter.unusedVariables false

/-- A strict order, of any two that are not the same one is first. -/
structure Strict {α : Type} (less : α → α → Bool) : Prop where
  irr : ∀ a, less a a = false
  trans : ∀ a b c, less a b = true → less b c = true → less a c = true
  tot : ∀ a b, less a b = false → less b a = false → a = b

variable {α : Type} {less : α → α → Bool}

theorem Strict.asym (S : Strict less) {a b : α} (h : less a b = true) : less b a = false := by
  cases h2 : less b a
  · rfl
  · have := S.trans a b a h h2
    rw [S.irr] at this
    cases this

theorem Strict.le_trans (S : Strict less) {a b c : α} (h1 : less b a = false) (h2 : less c b = false) : less c a = false := by
  cases h : less c a
  · rfl
  · cases h3 : less a b
    · have := S.tot a b h3 h1
      subst this
      rw [h] at h2; cases h2
    · have := S.trans c a b h h3
      rw [h2] at this; cases this

/-- What lies at one place is not behind what lies at another. -/
def LeO (less : α → α → Bool) (x y : Option α) : Prop := ∀ a b, x = some a → y = some b → less b a = false

theorem leO_none (x : Option α) : LeO less x none := fun _ _ _ h => by cases h

theorem LeO.refl (S : Strict less) (x : Option α) : LeO less x x := fun a b h1 h2 => by
  rw [h1] at h2
  cases h2
  exact S.irr a

theorem LeO.trans (S : Strict less) {x y z : Option α} (hy : y ≠ none) (h1 : LeO less x y) (h2 : LeO less y z) : LeO less x z := fun a c ha hc => by
  cases hb : y with
  | none => exact absurd hb hy
  | some b => exact S.le_trans (h1 a b ha hb) (h2 b c hb hc)

theorem some_at {xs : List α} {i : Nat} (h : i < xs.length) : xs[i]? ≠ none := by
  rw [List.getElem?_eq_getElem h]; exact fun h => by cases h

def swapL (xs : List α) (i j : Nat) (a b : α) : List α := (xs.set i b).set j a

theorem swapL_length (xs : List α) (i j : Nat) (a b : α) : (swapL xs i j a b).length = xs.length := by simp [swapL]

theorem swapL_at {xs : List α} {i j : Nat} {a b : α} (ha : xs[i]? = some a) (hb : xs[j]? = some b) (k : Nat) :
    (swapL xs i j a b)[k]? = if k = j then xs[i]? else if k = i then xs[j]? else xs[k]? := by
  have hi : i < xs.length := (List.getElem?_eq_some_iff.1 ha).1
  have hj : j < xs.length := (List.getElem?_eq_some_iff.1 hb).1
  unfold swapL
  rw [List.getElem?_set, List.getElem?_set]
  by_cases h1 : k = j
  · subst h1
    simp [hj, ha]
  · rw [if_neg (fun h => h1 h.symm), if_neg h1]
    by_cases h2 : k = i
    · subst h2
      simp [hi, hb]
    · rw [if_neg (fun h => h2 h.symm), if_neg h2]

theorem swapL_perm {xs : List α} {i j : Nat} {a b : α} (ha : xs[i]? = some a) (hb : xs[j]? = some b) : (swapL xs i j a b).Perm xs := by
  obtain ⟨hi, rfl⟩ := List.getElem?_eq_some_iff.1 ha
  obtain ⟨hj, rfl⟩ := List.getElem?_eq_some_iff.1 hb
  exact List.set_set_perm hi hj

def HeapAt (less : α → α → Bool) (xs : List α) (i : Nat) : Prop := 0 < i → LeO less xs[(i - 1) / 2]? xs[i]?
def Heap (less : α → α → Bool) (xs : List α) : Prop := ∀ i, HeapAt less xs i

/-- A heap but for one place, which may be ahead of what is above it. -/
structure RiseAt (less : α → α → Bool) (xs : List α) (p : Nat) : Prop where
  lt : p < xs.length
  heap : ∀ i, i ≠ p → HeapAt less xs i
  kids : 0 < p → ∀ c, 0 < c → (c - 1) / 2 = p → LeO less xs[(p - 1) / 2]? xs[c]?

theorem RiseAt.top {xs : List α} (h : RiseAt less xs 0) : Heap less xs := fun i => by
  by_cases hi : i = 0
  · intro h0; omega
  · exact h.heap i hi

theorem RiseAt.stays {xs : List α} {p : Nat} {a b : α} (h : RiseAt less xs p) (ha : xs[p]? = some a) (hb : xs[(p - 1) / 2]? = some b) (hl : less a b = false) : Heap less xs := fun i => by
  by_cases hi : i = p
  · subst hi
    intro h0 x y hx hy
    rw [hb] at hx; rw [ha] at hy
    cases hx; cases hy
    exact hl
  · exact h.heap i hi

theorem RiseAt.step (S : Strict less) {xs : List α} {p : Nat} {a b : α} (h : RiseAt less xs p) (h0 : 0 < p) (ha : xs[p]? = some a) (hb : xs[(p - 1) / 2]? = some b) (hl : less a b = true) :
    RiseAt less (swapL xs p ((p - 1) / 2) a b) ((p - 1) / 2) := by
  have hlt := h.lt
  refine ⟨by rw [swapL_length]; omega, fun i hi => ?_, fun hp c hc hcp => ?_⟩
  · intro h1
    rw [swapL_at ha hb, swapL_at ha hb]
    have hip : ¬ i = (p - 1) / 2 := hi
    rw [if_neg hip]
    by_cases e1 : i = p
    · subst e1
      rw [if_pos rfl, if_pos rfl]
      intro x y hx hy
      rw [ha] at hx; rw [hb] at hy
      cases hx; cases hy
      exact S.asym hl
    · rw [if_neg e1]
      by_cases e2 : (i - 1) / 2 = (p - 1) / 2
      · rw [if_pos e2]
        intro x y hx hy
        rw [ha] at hx
        cases hx
        have h3 := h.heap i e1 h1 b y (by rw [e2, hb]) hy
        exact S.le_trans (S.asym hl) h3
      · rw [if_neg e2]
        by_cases e3 : (i - 1) / 2 = p
        · rw [if_pos e3]
          exact h.kids h0 i h1 e3
        · rw [if_neg e3]
          exact h.heap i e1 h1
  · rw [swapL_at ha hb, swapL_at ha hb]
    have g1 : ¬ ((p - 1) / 2 - 1) / 2 = (p - 1) / 2 := by omega
    have g2 : ¬ ((p - 1) / 2 - 1) / 2 = p := by omega
    have g3 : ¬ c = (p - 1) / 2 := by omega
    rw [if_neg g1, if_neg g2, if_neg g3]
    have hpar := h.heap ((p - 1) / 2) (by omega) hp
    by_cases e1 : c = p
    · rw [if_pos e1]
      exact hpar
    · rw [if_neg e1]
      have h4 := h.heap c e1 hc
      rw [hcp] at h4
      exact LeO.trans S (some_at (by omega)) hpar h4

/-- A heap but for what is below one place. -/
structure SinkAt (less : α → α → Bool) (xs : List α) (p : Nat) : Prop where
  heap : ∀ i, (i - 1) / 2 ≠ p → HeapAt less xs i
  kids : 0 < p → ∀ c, 0 < c → (c - 1) / 2 = p → LeO less xs[(p - 1) / 2]? xs[c]?

/-- The first of a place and those below it. -/
structure FirstAt (less : α → α → Bool) (xs : List α) (p f : Nat) : Prop where
  one : f = p ∨ (f = 2 * p + 1 ∨ f = 2 * p + 2) ∧ f < xs.length
  own : LeO less xs[f]? xs[p]?
  kids : ∀ c, 0 < c → (c - 1) / 2 = p → LeO less xs[f]? xs[c]?

theorem SinkAt.stays {xs : List α} {p : Nat} (h : SinkAt less xs p) (hf : FirstAt less xs p p) : Heap less xs := fun i => by
  by_cases hi : (i - 1) / 2 = p
  · intro h0
    rw [hi]
    exact hf.kids i h0 hi
  · exact h.heap i hi

theorem SinkAt.step (S : Strict less) {xs : List α} {p f : Nat} {a b : α} (h : SinkAt less xs p) (hf : FirstAt less xs p f) (hne : f ≠ p) (ha : xs[p]? = some a) (hb : xs[f]? = some b) :
    SinkAt less (swapL xs p f a b) f := by
  have hfp : (f - 1) / 2 = p ∧ p < f := by
    rcases hf.one with h | ⟨h | h, _⟩ <;> omega
  refine ⟨fun i hi => ?_, fun h0 c hc hcf => ?_⟩
  · intro h1
    rw [swapL_at ha hb, swapL_at ha hb, if_neg hi]
    by_cases e1 : i = f
    · rw [if_pos e1]
      have : (i - 1) / 2 = p := by rw [e1]; exact hfp.1
      rw [if_pos this]
      exact hf.own
    · rw [if_neg e1]
      by_cases e2 : (i - 1) / 2 = p
      · rw [if_pos e2]
        rw [if_neg (show ¬ i = p by omega)]
        exact hf.kids i h1 e2
      · rw [if_neg e2]
        by_cases e3 : i = p
        · rw [if_pos e3]
          rw [e3] at h1 ⊢
          exact h.kids h1 f (by omega) hfp.1
        · rw [if_neg e3]
          exact h.heap i e2 h1
  · rw [hfp.1, swapL_at ha hb, swapL_at ha hb, if_neg (show ¬ p = f by omega), if_pos rfl, if_neg (show ¬ c = f by omega), if_neg (show ¬ c = p by omega)]
    have h3 := h.heap c (by omega) hc
    rw [hcf] at h3
    exact h3

theorem heap_root (S : Strict less) {xs : List α} (h : Heap less xs) : ∀ (n i : Nat), i ≤ n → i < xs.length → LeO less xs[0]? xs[i]?
  | 0, i, h0, hi => by
    obtain rfl : i = 0 := by omega
    exact LeO.refl S _
  | n + 1, i, hn, hi => by
    by_cases h0 : i = 0
    · subst h0; exact LeO.refl S _
    · exact LeO.trans S (some_at (by omega)) (heap_root S h n ((i - 1) / 2) (by omega) (by omega)) (h i (by omega))

theorem heap_first (S : Strict less) {xs : List α} {a : α} (h : Heap less xs) (h0 : xs[0]? = some a) : ∀ x ∈ xs, less x a = false := fun x hx => by
  obtain ⟨i, hi, rfl⟩ := List.getElem_of_mem hx
  exact heap_root S h i i (Nat.le_refl _) hi a xs[i] h0 (List.getElem?_eq_getElem hi)

/-- Something behind a heap is a heap but for it. -/
theorem heap_put {xs : List α} (h : Heap less xs) (a : α) : RiseAt less (xs ++ [a]) xs.length := by
  refine ⟨by simp, fun i hi => ?_, fun h0 c hc hcp => ?_⟩
  · intro h1
    by_cases hlt : i < xs.length
    · rw [List.getElem?_append_left (by omega), List.getElem?_append_left hlt]
      exact h i h1
    · rw [List.getElem?_eq_none (l := xs ++ [a]) (i := i) (by simp; omega)]
      exact leO_none _
  · rw [List.getElem?_eq_none (l := xs ++ [a]) (i := c) (by simp; omega)]
    exact leO_none _

/-- What is left when the first is taken: the last comes to its place. -/
def cutL (xs : List α) (last : α) : List α := (xs.set 0 last).take (xs.length - 1)

theorem cutL_length (xs : List α) (l : α) : (cutL xs l).length = xs.length - 1 := by simp [cutL]

theorem cutL_at (xs : List α) (l : α) (k : Nat) (hk : 0 < k) (hl : k < xs.length - 1) : (cutL xs l)[k]? = xs[k]? := by
  unfold cutL
  rw [List.getElem?_take, if_pos hl, List.getElem?_set, if_neg (by omega)]

theorem cutL_sink {xs : List α} (h : Heap less xs) (l : α) : SinkAt less (cutL xs l) 0 := by
  refine ⟨fun i hi => ?_, fun h0 => by omega⟩
  intro h1
  by_cases hlt : i < xs.length - 1
  · rw [cutL_at xs l _ (by omega) (by omega), cutL_at xs l i h1 hlt]
    exact h i h1
  · rw [List.getElem?_eq_none (l := cutL xs l) (i := i) (by rw [cutL_length]; omega)]
    exact leO_none _

theorem cutL_perm {xs : List α} {a l : α} (h0 : xs[0]? = some a) (hl : xs[xs.length - 1]? = some l) : (a :: cutL xs l).Perm xs := by
  obtain ⟨x, t, rfl⟩ : ∃ x t, xs = x :: t := by
    cases xs with
    | nil => simp at h0
    | cons x t => exact ⟨x, t, rfl⟩
  obtain rfl : x = a := by simpa using h0
  unfold cutL
  refine List.Perm.cons _ ?_
  rcases List.eq_nil_or_concat t with rfl | ⟨s, y, rfl⟩
  · simp
  · rw [List.concat_eq_append] at hl ⊢
    obtain rfl : l = y := by
      simp at hl
      exact hl.symm
    have e : ((x :: (s ++ [l])).set 0 l).take ((x :: (s ++ [l])).length - 1) = l :: s := by simp
    rw [e]
    exact (List.perm_append_singleton l s).symm

theorem heap_nil : Heap less ([] : List α) := fun i _ => by simp [leO_none]

/-- Not descending. -/
def Asc (less : α → α → Bool) (xs : List α) : Prop := xs.Pairwise fun a b => less b a = false

theorem asc_snoc {xs : List α} {a : α} (h : Asc less xs) (hx : ∀ x ∈ xs, less a x = false) : Asc less (xs ++ [a]) := by
  unfold Asc
  rw [List.pairwise_append]
  exact ⟨h, by simp, fun x hx' b hb => by simp at hb; subst hb; exact hx x hx'⟩

theorem asc_unique (S : Strict less) {xs ys : List α} (hx : Asc less xs) (hy : Asc less ys) (h : xs.Perm ys) : xs = ys :=
  List.Perm.eq_of_pairwise (le := fun a b => less b a = false) (fun a b _ _ h1 h2 => S.tot a b h2 h1) hx hy h

/-- Strictly ascending. -/
def Up (less : α → α → Bool) (xs : List α) : Prop := xs.Pairwise fun a b => less a b = true

theorem up_asc (S : Strict less) {xs : List α} (h : Up less xs) : Asc less xs := List.Pairwise.imp (fun h => S.asym h) h

theorem up_nodup (S : Strict less) {xs : List α} (h : Up less xs) : xs.Nodup :=
  List.Pairwise.imp (fun {a b} h e => by subst e; rw [S.irr] at h; cases h) h

theorem asc_up (S : Strict less) {xs : List α} (h : Asc less xs) (hn : xs.Nodup) : Up less xs :=
  List.Pairwise.imp (fun {a b} h => by
    obtain ⟨h1, h2⟩ := h
    cases h3 : less a b
    · exact absurd (S.tot a b h3 h1) h2
    · rfl) (List.Pairwise.and h hn)

theorem up_unique (S : Strict less) {xs ys : List α} (hx : Up less xs) (hy : Up less ys) (h : ∀ a, a ∈ xs ↔ a ∈ ys) : xs = ys :=
  asc_unique S (up_asc S hx) (up_asc S hy) ((List.perm_ext_iff_of_nodup (up_nodup S hx) (up_nodup S hy)).2 h)


/-! Put into order one by one. -/

theorem pairwise_at {R : α → α → Prop} {xs : List α} (h : xs.Pairwise R) {i j : Nat} (hij : i < j) (hj : j < xs.length) : R (xs[i]'(by omega)) xs[j] :=
  List.pairwise_iff_getElem.1 h i j (by omega) hj hij

theorem take_mem {xs : List α} {k : Nat} {a : α} (h : a ∈ xs.take k) : ∃ j, ∃ hj : j < xs.length, j < k ∧ xs[j] = a := by
  obtain ⟨j, hj, rfl⟩ := List.getElem_of_mem h
  rw [List.length_take] at hj
  exact ⟨j, by omega, by omega, by simp⟩

theorem drop_mem {xs : List α} {k : Nat} {a : α} (h : a ∈ xs.drop k) : ∃ j, ∃ hj : j < xs.length, k ≤ j ∧ xs[j] = a := by
  obtain ⟨j, hj, rfl⟩ := List.getElem_of_mem h
  simp at hj
  exact ⟨k + j, by omega, by omega, by simp⟩

theorem ins_pairwise {R : α → α → Prop} {xs : List α} {k : Nat} {e : α} (h : xs.Pairwise R) (h1 : ∀ j (hj : j < xs.length), k ≤ j → R e xs[j]) (h2 : ∀ j (hj : j < xs.length), j < k → R xs[j] e) :
    (xs.take k ++ e :: xs.drop k).Pairwise R := by
  rw [List.pairwise_append, List.pairwise_cons]
  have h3 := h
  rw [← List.take_append_drop k xs, List.pairwise_append] at h3
  refine ⟨h3.1, ⟨fun a ha => ?_, h3.2.1⟩, fun a ha b hb => ?_⟩
  · obtain ⟨j, hj, hk, rfl⟩ := drop_mem ha
    exact h1 j hj hk
  · rcases List.mem_cons.1 hb with rfl | hb
    · obtain ⟨j, hj, hk, rfl⟩ := take_mem ha
      exact h2 j hj hk
    · exact h3.2.2 a ha b hb

theorem ins_perm (xs : List α) (k : Nat) (e : α) : (xs.take k ++ e :: xs.drop k).Perm (e :: xs) := by
  have h := List.perm_middle (a := e) (l₁ := xs.take k) (l₂ := xs.drop k)
  rwa [List.take_append_drop] at h

theorem ins_mem (xs : List α) (k : Nat) (e a : α) : a ∈ xs.take k ++ e :: xs.drop k ↔ a = e ∨ a ∈ xs := by
  rw [(ins_perm xs k e).mem_iff, List.mem_cons]

/-- The place of e in what does not descend. -/
structure PlaceOf (less : α → α → Bool) (xs : List α) (e : α) (k : Nat) : Prop where
  le : k ≤ xs.length
  behind : ∀ j (hj : j < xs.length), k ≤ j → less e xs[j] = true

theorem PlaceOf.start (xs : List α) (e : α) : PlaceOf less xs e xs.length := ⟨Nat.le_refl _, fun j hj h => by omega⟩

theorem PlaceOf.step {xs : List α} {e : α} {k : Nat} (h : PlaceOf less xs e (k + 1)) (hl : less e (xs[k]'(by have := h.le; omega)) = true) : PlaceOf less xs e k :=
  ⟨by have := h.le; omega, fun j hj hk => by
    by_cases e1 : j = k
    · subst e1; exact hl
    · exact h.behind j hj (by omega)⟩

theorem asc_place (S : Strict less) {xs : List α} {e : α} {k : Nat} (h : Asc less xs) (hp : PlaceOf less xs e k) (hk : ∀ h0 : 0 < k, less e (xs[k - 1]'(by have := hp.le; omega)) = false) :
    Asc less (xs.take k ++ e :: xs.drop k) := by
  refine ins_pairwise h (fun j hj hkj => S.asym (hp.behind j hj hkj)) (fun j hj hjk => ?_)
  by_cases e1 : j = k - 1
  · subst e1; exact hk (by omega)
  · exact S.le_trans (pairwise_at h (show j < k - 1 by omega) (by have := hp.le; omega)) (hk (by omega))

theorem up_place (S : Strict less) {xs : List α} {e : α} {k : Nat} (h : Up less xs) (hp : PlaceOf less xs e k) (hk : ∀ h0 : 0 < k, less (xs[k - 1]'(by have := hp.le; omega)) e = true) :
    Up less (xs.take k ++ e :: xs.drop k) := by
  refine ins_pairwise h (fun j hj hkj => hp.behind j hj hkj) (fun j hj hjk => ?_)
  by_cases e1 : j = k - 1
  · subst e1; exact hk (by omega)
  · exact S.trans _ _ _ (pairwise_at h (show j < k - 1 by omega) (by have := hp.le; omega)) (hk (by omega))

/-! The order by the first number that is not the same. -/

def lexL : List Int → List Int → Bool
  | a :: s, b :: t => if a = b then lexL s t else decide (a < b)
  | _, _ => false

theorem lexL_irr : ∀ s, lexL s s = false
  | [] => rfl
  | a :: s => by simp [lexL, lexL_irr s]

theorem lexL_trans : ∀ s t u, s.length = t.length → t.length = u.length → lexL s t = true → lexL t u = true → lexL s u = true
  | [], _, _, _, _, h, _ => by simp [lexL] at h
  | a :: s, [], _, h1, _, _, _ => by simp at h1
  | a :: s, b :: t, [], _, h2, _, _ => by simp at h2
  | a :: s, b :: t, c :: u, h1, h2, h3, h4 => by
    simp only [lexL] at h3 h4 ⊢
    by_cases e1 : a = b
    · subst e1
      rw [if_pos rfl] at h3
      by_cases e2 : a = c
      · subst e2
        rw [if_pos rfl] at h4 ⊢
        exact lexL_trans s t u (by simpa using h1) (by simpa using h2) h3 h4
      · rw [if_neg e2] at h4 ⊢
        exact h4
    · rw [if_neg e1] at h3
      by_cases e2 : b = c
      · subst e2
        rw [if_neg e1]
        exact h3
      · rw [if_neg e2] at h4
        have g1 := of_decide_eq_true h3
        have g2 := of_decide_eq_true h4
        rw [if_neg (by omega)]
        exact decide_eq_true (by omega)

theorem lexL_tot : ∀ s t, s.length = t.length → lexL s t = false → lexL t s = false → s = t
  | [], [], _, _, _ => rfl
  | [], _ :: _, h, _, _ => by simp at h
  | _ :: _, [], h, _, _ => by simp at h
  | a :: s, b :: t, h, h1, h2 => by
    simp only [lexL] at h1 h2
    by_cases e1 : a = b
    · subst e1
      rw [if_pos rfl] at h1 h2
      rw [lexL_tot s t (by simpa using h) h1 h2]
    · rw [if_neg e1] at h1
      rw [if_neg (fun h => e1 h.symm)] at h2
      have g1 := of_decide_eq_false h1
      have g2 := of_decide_eq_false h2
      omega

theorem strict_by {β : Type} (f : β → List Int) (n : Nat) (hn : ∀ b, (f b).length = n) (hf : ∀ a b, f a = f b → a = b) : Strict (fun a b : β => lexL (f a) (f b)) :=
  ⟨fun a => lexL_irr _, fun a b c h1 h2 => lexL_trans _ _ _ (by rw [hn, hn]) (by rw [hn, hn]) h1 h2, fun a b h1 h2 => hf a b (lexL_tot _ _ (by rw [hn, hn]) h1 h2)⟩

end Go.Proofs.Ytamkoimadenmeaa
