/- impl.EventLess: slices.Compare at two rows of numbers of one length, and all below it. -/
import Derived.Test.YtamkoimadenmeaaRows
import Derived.Test.YtamkoimadenmeaaEv
import Derived.Deep.RegionWith
import Derived.Deep.DrawnRows
import Derived.WalkLawsBesides
namespace Go.Proofs.Ytamkoimadenmeaa
open Go.RowKit
set_option linter.unusedVariables false

theorem isNaN_any (x : Int) (w : World) : Calls Try.prog 22 #[.int .i64 x] w fun e w' => e = .returned (.bool false) ∧ w' = w := by
  have hx : (x != x) = false := by simp
  go_enter Try.func22, Try.ntmps22
  go_wp2
  go_ret
  exact ⟨rfl, rfl⟩

def cmpI (x y : Int) : Int := if x < y then -1 else if y < x then 1 else 0

theorem cmpCompare_any (x y : Int) (w : World) : Calls Try.prog 19 #[.int .i64 x, .int .i64 y] w fun e w' => e = .returned (.int .i64 (cmpI x y)) ∧ w' = w := by
  unfold cmpI
  by_cases h1 : x < y
  · rw [if_pos h1]
    go_enter Try.func19, Try.ntmps19
    go_wp2_with (go_at_call 22; refine (isNaN_any _ _).mono ?_; rintro e w' ⟨rfl, hw⟩; obtain rfl := hw.symm)
    go_ret
    exact ⟨rfl, rfl⟩
  · rw [if_neg h1]
    by_cases h2 : y < x
    · rw [if_pos h2]
      go_enter Try.func19, Try.ntmps19
      go_wp2_with (go_at_call 22; refine (isNaN_any _ _).mono ?_; rintro e w' ⟨rfl, hw⟩; obtain rfl := hw.symm)
      go_ret
      exact ⟨rfl, rfl⟩
    · rw [if_neg h2]
      go_enter Try.func19, Try.ntmps19
      go_wp2_with (go_at_call 22; refine (isNaN_any _ _).mono ?_; rintro e w' ⟨rfl, hw⟩; obtain rfl := hw.symm)
      go_ret
      exact ⟨rfl, rfl⟩

theorem cmpL_drop {s t : List Int} {k : Nat} (h1 : k < s.length) (h2 : k < t.length) : cmpL (s.drop k) (t.drop k) = if cmpI s[k] t[k] = 0 then cmpL (s.drop (k + 1)) (t.drop (k + 1)) else cmpI s[k] t[k] := by
  rw [List.drop_eq_getElem_cons h1, List.drop_eq_getElem_cons h2]
  simp only [cmpL, cmpI]
  by_cases e1 : s[k] < t[k]
  · simp [e1]
  · by_cases e2 : t[k] < s[k]
    · simp [e1, e2]
    · simp [e1, e2]

set_option maxHeartbeats 1000000 in
theorem Compare_any (b1 b2 : Nat) (s t : List Int) (n : Nat) (hs : s.length = n) (ht : t.length = n) (hn : n ≤ 1000) (w : World) (h1 : IntsAt w b1 0 s) (h2 : IntsAt w b2 0 t) :
    Calls Try.prog 16 #[.slice (some ⟨b1, 0, none⟩) n n, .slice (some ⟨b2, 0, none⟩) n n] w fun e w' => e = .returned (.int .i64 (cmpL s t)) ∧ w' = w := by
  have H1 := hide h1
  have H2 := hide h2
  have HS := hide hs
  have HT := hide ht
  clear h1 h2 hs ht
  go_enter Try.func16, Try.ntmps16
  go_wp2
  go_loop [11] (fun i => ∃ k : Nat, k ≤ n ∧ i = .int .i64 k ∧ Hid (cmpL (s.drop k) (t.drop k) = cmpL s t)) (fun i => n - (intOf i).toNat)
  case atStart => exact ⟨0, Nat.zero_le _, rfl, hide rfl⟩
  case round =>
    obtain ⟨k, hk, rfl, HK⟩ := hrel
    by_cases hlt : k < n
    · have hks : k < s.length := by rw [unhide HS]; exact hlt
      have hkt : k < t.length := by rw [unhide HT]; exact hlt
      have c1 := (unhide H1) k hks
      have c2 := (unhide H2) k hkt
      have HD := hide (cmpL_drop hks hkt)
      rw [Nat.zero_add] at c1 c2
      have hkn : ¬ (n : Int) ≤ (k : Int) := by omega
      generalize s[k] = x at *
      generalize t[k] = y at *
      clear hks hkt
      by_cases h0 : cmpI x y = 0
      · have hb : (cmpI x y != 0) = false := by simp [h0]
        go_wp2_with (go_at_call 19; refine (cmpCompare_any _ _ _).mono ?_; rintro e w' ⟨rfl, hw⟩; obtain rfl := hw.symm)
        go_round
        case rel => exact ⟨k + 1, by omega, by go_num, hide (by have := unhide HD; rw [if_pos h0] at this; rw [← this]; exact unhide HK)⟩
        case measure => simp [intOf]; omega
      · have hb : (cmpI x y != 0) = true := by simp [h0]
        go_wp2_with (go_at_call 19; refine (cmpCompare_any _ _ _).mono ?_; rintro e w' ⟨rfl, hw⟩; obtain rfl := hw.symm)
        go_ret
        exact ⟨ret_int (by have := unhide HD; rw [if_neg h0] at this; rw [← this]; exact unhide HK), rfl⟩
    · have hke : k = n := by omega
      subst hke
      go_wp2
      go_ret
      exact ⟨ret_int (by have := unhide HK; rw [List.drop_of_length_le (by rw [unhide HS]; exact Nat.le_refl _)] at this; simpa [cmpL] using this), rfl⟩

end Go.Proofs.Ytamkoimadenmeaa
