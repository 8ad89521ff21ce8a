/- Marks of lists, plainly. -/
import Derived.Test.YtocgfngcgekciaaBase
namespace Go.Proofs.Ytocgfngcgekciaa
open Go.RowKit
set_option linter.unusedVariables false

section
variable {α : Type} (mark : Int → α → α) (sz : α → Int)
def gMark : Int → List α → List α
  | _, [] => []
  | k, x :: xs => mark k x :: gMark (k + sz x) xs
def gSz : List α → Int
  | [] => 0
  | x :: xs => sz x + gSz xs
theorem gMark_len : ∀ (xs : List α) (k : Int), (gMark mark sz k xs).length = xs.length
  | [], _ => rfl
  | x :: xs, k => by simp [gMark, gMark_len xs]
theorem gSz_snoc : ∀ (xs : List α) (x : α), gSz sz (xs ++ [x]) = gSz sz xs + sz x
  | [], x => by simp [gSz]
  | y :: ys, x => by simp only [List.cons_append, gSz, gSz_snoc ys x]; omega
theorem gMark_snoc : ∀ (xs : List α) (k : Int) (x : α), gMark mark sz k (xs ++ [x]) = gMark mark sz k xs ++ [mark (k + gSz sz xs) x]
  | [], k, x => by simp [gMark, gSz]
  | y :: ys, k, x => by
    simp only [List.cons_append, gMark, gSz, gMark_snoc ys]
    rw [show k + sz y + gSz sz ys = k + (sz y + gSz sz ys) by omega]
theorem gMark_at : ∀ (xs : List α) (k0 : Int) (k : Nat) (h : k < xs.length) (h' : k < (gMark mark sz k0 xs).length), (gMark mark sz k0 xs)[k] = mark (k0 + gSz sz (xs.take k)) xs[k]
  | [], _, k, h, _ => absurd h (Nat.not_lt_zero _)
  | x :: xs, k0, 0, _, _ => by simp [gMark, gSz]
  | x :: xs, k0, k + 1, h, h' => by
    simp only [gMark, List.getElem_cons_succ, List.take_succ_cons, gSz]
    rw [gMark_at xs (k0 + sz x) k (by simpa using h)]
    rw [show k0 + sz x + gSz sz (xs.take k) = k0 + (sz x + gSz sz (xs.take k)) by omega]
theorem gSz_pos (hp : ∀ x, 0 ≤ sz x) : ∀ (xs : List α), 0 ≤ gSz sz xs
  | [] => by simp [gSz]
  | x :: xs => by have h1 := hp x; have h2 := gSz_pos hp xs; simp only [gSz]; omega
theorem gSz_take (hp : ∀ x, 0 ≤ sz x) : ∀ (xs : List α) (k : Nat), gSz sz (xs.take k) ≤ gSz sz xs
  | [], k => by simp [gSz]
  | x :: xs, 0 => by have h1 := hp x; have h2 := gSz_pos sz hp xs; simp only [List.take_zero, gSz]; omega
  | x :: xs, k + 1 => by have h2 := gSz_take hp xs k; simp only [List.take_succ_cons, gSz]; omega
def gMix (k0 : Int) (xs : List α) (i : Nat) : List α := gMark mark sz k0 (xs.take i) ++ xs.drop i
theorem gMix_len (k0 : Int) (xs : List α) (i : Nat) (h : i ≤ xs.length) : (gMix mark sz k0 xs i).length = xs.length := by
  simp [gMix, gMark_len]; omega
theorem gMix_zero (k0 : Int) (xs : List α) : gMix mark sz k0 xs 0 = xs := by simp [gMix, gMark]
theorem gMix_all (k0 : Int) (xs : List α) : gMix mark sz k0 xs xs.length = gMark mark sz k0 xs := by simp [gMix]
theorem gMix_at (k0 : Int) (xs : List α) (i : Nat) (h : i < xs.length) (h' : i < (gMix mark sz k0 xs i).length) : (gMix mark sz k0 xs i)[i] = xs[i] := by
  have e : (gMark mark sz k0 (xs.take i)).length = i := by rw [gMark_len]; simp; omega
  simp only [gMix]
  rw [List.getElem_append_right (by omega)]
  simp [e]
theorem gMix_set (k0 : Int) (xs : List α) (i : Nat) (h : i < xs.length) : (gMix mark sz k0 xs i).set i (mark (k0 + gSz sz (xs.take i)) xs[i]) = gMix mark sz k0 xs (i + 1) := by
  have e : (gMark mark sz k0 (xs.take i)).length = i := by rw [gMark_len]; simp; omega
  have e2 : xs.drop i = xs[i] :: xs.drop (i + 1) := List.drop_eq_getElem_cons h
  simp only [gMix]
  rw [List.set_append_right _ _ (by omega), e, Nat.sub_self, e2, List.set_cons_zero, take_more xs i h, gMark_snoc]
  simp
end
end Go.Proofs.Ytocgfngcgekciaa
