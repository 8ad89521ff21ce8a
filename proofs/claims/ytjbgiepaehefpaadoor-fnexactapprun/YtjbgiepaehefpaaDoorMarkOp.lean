/- Contracts of the exact laws' functions over lists of Op: eq, sz, to, mark, held. -/
import Derived.Test.YtjbgiepaehefpaaDoorFlatMake
namespace Go.Proofs.YtjbgiepaehefpaaDoor
open Go.RowKit
set_option linter.unusedVariables false

set_option maxRecDepth 100000 in
set_option maxHeartbeats 2000000 in
theorem markOpS_any (N t : Nat) (v : Value) (len : Nat) (k0 : Int) (w : World) (h : RoomFr N t 5 w v len) (hlen : len ≤ 1000000000) (h0 : 0 ≤ k0) (h1 : k0 ≤ 1000000000000000) :
    Calls Tryd.prog 91 #[v, .int .i64 k0] w fun e w' => e = .returned (.int .i64 (k0 + 5 * len)) ∧ RowsFr N t 5 w' v (markRows 5 k0 len) ∧ OnlyOf v w w' := by
  rcases h with ⟨rfl, rfl⟩ | ⟨g, cap, f0, rfl, hN, hl, hm, hr⟩
  · go_enter Tryd.func91, Tryd.ntmps91
    go_wp2_with fail
    go_loop [1, 5] (fun a i => a = .int .i64 k0 ∧ i = .int .i64 0) (fun _ _ => 0)
    case atStart => exact ⟨rfl, rfl⟩
    case round =>
      obtain ⟨rfl, rfl⟩ := hrel
      go_wp2
      go_ret
      exact ⟨ret_int (by simp), Or.inl ⟨rfl, rfl⟩, OnlyOf.refl _ _⟩
  · have HMX := hide hm
    unfold maxLen at hm
    have HR := hide hr
    have HN := hide hN
    clear hr hN
    have hcap : len ≤ cap := hl
    go_enter Tryd.func91, Tryd.ntmps91
    go_wp2_with fail
    go_loopw [1, 5] (fun a i wr => ∃ (k : Nat) (m : Int) (f : Nat → Value), k ≤ len ∧ i = .int .i64 k ∧ a = .int .i64 m ∧ Hid (m = k0 + ((5 * k : Nat) : Int)) ∧ 0 ≤ m ∧ m ≤ 1000000000000000 + 5 * 1000000000 ∧ Hid (wr.rowIs g t (cap * 5) f) ∧ Hid (RowsIn 5 f (markRows 5 k0 len) k) ∧ Hid (OnlyOf (.slice (some ⟨g, 0, none⟩) len cap) w wr)) (fun _ i _ => len - (intOf i).toNat)
    case atStart => exact ⟨0, k0, f0, Nat.zero_le _, rfl, rfl, hide (by simp), h0, by omega, hide (unhide HR), hide (fun j _ h => absurd h (Nat.not_lt_zero _)), hide (OnlyOf.refl _ _)⟩
    case round =>
      obtain ⟨k, m, f, hk, rfl, rfl, HM, hm0, hm1, HROW, HIN, HO⟩ := hrel
      by_cases hlt : k < len
      · have hrow := unhide HROW
        have hkI : (k : Int) < (len : Int) := by omega
        have g0 := hrow.cell (i := k * 5) (by omega)
        have z0 := hrow.frozen (k * 5)
        have g1 := hrow.cell (i := k * 5 + 1) (by omega)
        have z1 := hrow.frozen (k * 5 + 1)
        have g2 := hrow.cell (i := k * 5 + 2) (by omega)
        have z2 := hrow.frozen (k * 5 + 2)
        have g3 := hrow.cell (i := k * 5 + 3) (by omega)
        have z3 := hrow.frozen (k * 5 + 3)
        have g4 := hrow.cell (i := k * 5 + 4) (by omega)
        have z4 := hrow.frozen (k * 5 + 4)
        clear hrow
        have hm2 : m + 5 ≤ 1000000000000000 + 5 * 1000000000 := by have := unhide HM; omega
        go_wp2_with fail
        go_roundw
        case rel =>
          obtain ⟨f', q1, q2⟩ := row_step (n := 5) (rs := markRows 5 k0 len) (by rw [markRows_length]; exact hlt) [m, m + 1, m + 1 + 1, m + 1 + 1 + 1, m + 1 + 1 + 1 + 1] rfl (fun j hj => by
          rw [markRows_at 5 k0 len k (by rw [markRows_length]; exact hlt) j hj]
          have := unhide HM
          match j, hj with
          | 0, _ => simp; omega
          | 1, _ => simp; omega
          | 2, _ => simp; omega
          | 3, _ => simp; omega
          | 4, _ => simp; omega
          ) (unhide HROW) (unhide HIN)
          exact ⟨k + 1, m + 5, f', by omega, by go_num, by go_num, hide (by have := unhide HM; omega), by omega, by omega, hide q1, hide q2, hide ((unhide HO).row (k * 5) [m, m + 1, m + 1 + 1, m + 1 + 1 + 1, m + 1 + 1 + 1 + 1])⟩
        case measure => simp [intOf]; omega
      · have hke : k = len := by omega
        subst hke
        go_wp2_with fail
        go_ret
        exact ⟨ret_int (by have := unhide HM; omega), Or.inr ⟨g, cap, f, by rw [markRows_length], unhide HN, by rw [markRows_length]; exact hl, unhide HMX, unhide HROW, by rw [markRows_length]; exact unhide HIN⟩, unhide HO⟩

end Go.Proofs.YtjbgiepaehefpaaDoor
