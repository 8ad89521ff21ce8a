/- Lists of numbers: the exact laws' mark and held of them. -/
import Derived.Test.YtiljjhipiinafaaViews1
namespace Go.Proofs.Ytiljjhipiinafaa
open Go.RowKit
set_option linter.unusedVariables false
set_option linter.unusedSimpArgs false

set_option maxRecDepth 100000 in
set_option maxHeartbeats 2000000 in
theorem markIntS_any (N t : Nat) (v : Value) (len : Nat) (k0 : Int) (w : World) (h : RoomFr N t 1 w v len) (hlen : len ≤ 1000000000) (h0 : 0 ≤ k0) (h1 : k0 ≤ 1000000000000000) :
    Calls Try.prog 71 #[v, .int .i64 k0] w fun e w' => e = .returned (.int .i64 (k0 + (len : Int))) ∧ RowsFr N t 1 w' v (markRows 1 k0 len) ∧ OnlyOf v w w' := by
  rcases h with ⟨rfl, rfl⟩ | ⟨g, cap, f0, rfl, hN, hl, hm, hr⟩
  · go_enter Try.func71, Try.ntmps71
    go_wp2_with fail
    go_loop [1, 5] (fun a i => a = .int .i64 k0 ∧ i = .int .i64 0) (fun _ _ => 0)
    case atStart => exact ⟨rfl, rfl⟩
    case round =>
      obtain ⟨rfl, rfl⟩ := hrel
      go_wp2
      go_ret
      exact ⟨ret_int (by simp), Or.inl ⟨rfl, rfl⟩, OnlyOf.refl _ _⟩
  · have HMX := hide hm
    unfold maxLen at hm
    have HR := hide hr
    have HN := hide hN
    clear hr hN
    have hcap : len ≤ cap := hl
    go_enter Try.func71, Try.ntmps71
    go_wp2_with fail
    go_loopw [1, 5] (fun a i wr => ∃ (k : Nat) (m : Int) (f : Nat → Value), k ≤ len ∧ i = .int .i64 k ∧ a = .int .i64 m ∧ Hid (m = k0 + (k : Int)) ∧ 0 ≤ m ∧ m ≤ 1000000000000000 + 1000000000 ∧ Hid (wr.rowIs g t (cap * 1) f) ∧ Hid (RowsIn 1 f (markRows 1 k0 len) k) ∧ Hid (OnlyOf (.slice (some ⟨g, 0, none⟩) len cap) w wr)) (fun _ i _ => len - (intOf i).toNat)
    case atStart => exact ⟨0, k0, f0, Nat.zero_le _, rfl, rfl, hide (by simp), h0, by omega, hide (unhide HR), hide (fun j _ h => absurd h (Nat.not_lt_zero _)), hide (OnlyOf.refl _ _)⟩
    case round =>
      obtain ⟨k, m, f, hk, rfl, rfl, HM, hm0, hm1, HROW, HIN, HO⟩ := hrel
      by_cases hlt : k < len
      · have hrow := unhide HROW
        have hkI : (k : Int) < (len : Int) := by omega
        have g0 : wr.cell? ⟨g, k, none⟩ = some (f k) := hrow.cell (i := k) (by omega)
        have z0 : wr.frozen? ⟨g, k, none⟩ = false := hrow.frozen k
        clear hrow
        have hm2 : m + 1 ≤ 1000000000000000 + 1000000000 := by have := unhide HM; omega
        go_wp2_with fail
        go_roundw
        case rel =>
          obtain ⟨f', q1, q2⟩ := row_step (n := 1) (rs := markRows 1 k0 len) (by rw [markRows_length]; exact hlt) [m] rfl (fun j hj => by
            rw [markRows_at 1 k0 len k (by rw [markRows_length]; exact hlt) j hj]
            have := unhide HM
            obtain rfl : j = 0 := by omega
            simp; omega) (unhide HROW) (unhide HIN)
          rw [show k * 1 = k from Nat.mul_one k] at q1
          exact ⟨k + 1, m + 1, f', by omega, by go_num, by go_num, hide (by have := unhide HM; omega), by omega, by omega, hide q1, hide q2, hide ((unhide HO).row k [m])⟩
        case measure => simp [intOf]; omega
      · have hke : k = len := by omega
        subst hke
        go_wp2_with fail
        go_ret
        exact ⟨ret_int (by have := unhide HM; omega), Or.inr ⟨g, cap, f, by rw [markRows_length], unhide HN, by rw [markRows_length]; exact hl, unhide HMX, unhide HROW, by rw [markRows_length]; exact unhide HIN⟩, unhide HO⟩

set_option maxRecDepth 100000 in
set_option maxHeartbeats 2000000 in
theorem heldIntS_any (v : Value) (len : Nat) (k0 : Int) (w : World) (h : RowsAt 1 w v (markRows 1 k0 len)) (hlen : len ≤ 1000000000) (h0 : 0 ≤ k0) (h1 : k0 ≤ 1000000000000000) :
    Calls Try.prog 75 #[v, .int .i64 k0] w fun e w' => e = .returned (.int .i64 (k0 + (len : Int))) ∧ w' = w := by
  obtain ⟨ad, cap, rfl, hl, hm, hc⟩ := h
  rw [markRows_length] at hl hm ⊢
  have HC := hide hc
  clear hc
  unfold maxLen at hm
  have hne : ∀ x : Int, (x != x) = false := by intro x; simp
  go_enter Try.func75, Try.ntmps75
  go_wp2_with fail
  go_loop [1, 5] (fun a i => ∃ (k : Nat) (m : Int), k ≤ len ∧ i = .int .i64 k ∧ a = .int .i64 m ∧ Hid (m = k0 + (k : Int)) ∧ 0 ≤ m ∧ m ≤ 1000000000000000 + 1000000000) (fun _ i => len - (intOf i).toNat)
  case atStart => exact ⟨0, k0, Nat.zero_le _, rfl, rfl, hide (by simp), h0, by omega⟩
  case round =>
    obtain ⟨k, m, hk, rfl, rfl, HM, hm0, hm1⟩ := hrel
    by_cases hlt : k < len
    · obtain ⟨b, off, had, c0⟩ : ∃ b off, ad = some ⟨b, off, none⟩ ∧ w.cell? ⟨b, off + k, none⟩ = some (.int .i64 m) := by
        rcases unhide HC with h | ⟨b, off, h1, h2⟩
        · have := congrArg List.length h
          rw [markRows_length] at this
          simp at this; omega
        · refine ⟨b, off, h1, ?_⟩
          have e := h2 k (by rw [markRows_length]; exact hlt) 0 (by omega)
          rw [markRows_at 1 k0 len k (by rw [markRows_length]; exact hlt) 0 (by omega)] at e
          rw [show off + k * 1 + 0 = off + k by omega] at e
          rw [e]
          have := unhide HM
          congr 2
          omega
      subst had
      have hkI : (k : Int) < (len : Int) := by omega
      have hm2 : m + 1 ≤ 1000000000000000 + 1000000000 := by have := unhide HM; omega
      go_wp2
      go_round
      case rel => exact ⟨k + 1, m + 1, by omega, by go_num, by go_num, hide (by have := unhide HM; omega), by omega, by omega⟩
      case measure => simp [intOf]; omega
    · have hke : k = len := by omega
      subst hke
      go_wp2
      go_ret
      exact ⟨ret_int (by have := unhide HM; omega), rfl⟩
end Go.Proofs.Ytiljjhipiinafaa
