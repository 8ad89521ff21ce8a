/- impl's stateInForm, eventInForm, opsOfKind. -/
import Derived.Test.YtjbgiepaehefpaaDoorIm6
namespace Go.Proofs.YtjbgiepaehefpaaDoor
open Go.RowKit
set_option linter.unusedVariables false
set_option linter.unusedSimpArgs false

set_option maxRecDepth 100000 in
set_option maxHeartbeats 1600000 in
theorem stateInForm_any (s : StV) (w : World) :
    Calls Tryd.prog 84 #[stAgg s] w fun r w' => r = .returned (.bool (stOk s)) ∧ Below w.heap.size w w' := by
  obtain ⟨x, y, c⟩ := s
  have e : stOk ⟨x, y, c⟩ = (inR 0 999 x && inR 0 999 y && inR 0 12 c) := rfl
  rw [e]
  cases h0 : inR 0 999 x
  · go_enter Tryd.func84, Tryd.ntmps84
    go_wp2_with (first | (go_at_call 102; refine (isNum_any _ _).mono ?_; rintro e w' ⟨rfl, rfl⟩) | (go_at_call 104; refine (isProc_any _ _).mono ?_; rintro e w' ⟨rfl, rfl⟩) | (go_at_call 105; refine (isKind_any _ _).mono ?_; rintro e w' ⟨rfl, rfl⟩) | (go_at_call 103; refine (within_any _ _ _ _).mono ?_; rintro e w' ⟨rfl, rfl⟩))
    go_ret
    exact ⟨ret_bool rfl, (Below.refl _ _).alloc (Nat.le_refl _) _⟩
  · cases h1 : inR 0 999 y
    · go_enter Tryd.func84, Tryd.ntmps84
      go_wp2_with (first | (go_at_call 102; refine (isNum_any _ _).mono ?_; rintro e w' ⟨rfl, rfl⟩) | (go_at_call 104; refine (isProc_any _ _).mono ?_; rintro e w' ⟨rfl, rfl⟩) | (go_at_call 105; refine (isKind_any _ _).mono ?_; rintro e w' ⟨rfl, rfl⟩) | (go_at_call 103; refine (within_any _ _ _ _).mono ?_; rintro e w' ⟨rfl, rfl⟩))
      go_ret
      exact ⟨ret_bool rfl, (Below.refl _ _).alloc (Nat.le_refl _) _⟩
    · cases h2 : inR 0 12 c
      · go_enter Tryd.func84, Tryd.ntmps84
        go_wp2_with (first | (go_at_call 102; refine (isNum_any _ _).mono ?_; rintro e w' ⟨rfl, rfl⟩) | (go_at_call 104; refine (isProc_any _ _).mono ?_; rintro e w' ⟨rfl, rfl⟩) | (go_at_call 105; refine (isKind_any _ _).mono ?_; rintro e w' ⟨rfl, rfl⟩) | (go_at_call 103; refine (within_any _ _ _ _).mono ?_; rintro e w' ⟨rfl, rfl⟩))
        go_ret
        exact ⟨ret_bool rfl, (Below.refl _ _).alloc (Nat.le_refl _) _⟩
      · go_enter Tryd.func84, Tryd.ntmps84
        go_wp2_with (first | (go_at_call 102; refine (isNum_any _ _).mono ?_; rintro e w' ⟨rfl, rfl⟩) | (go_at_call 104; refine (isProc_any _ _).mono ?_; rintro e w' ⟨rfl, rfl⟩) | (go_at_call 105; refine (isKind_any _ _).mono ?_; rintro e w' ⟨rfl, rfl⟩) | (go_at_call 103; refine (within_any _ _ _ _).mono ?_; rintro e w' ⟨rfl, rfl⟩))
        go_ret
        exact ⟨ret_bool rfl, (Below.refl _ _).alloc (Nat.le_refl _) _⟩

set_option maxRecDepth 100000 in
set_option maxHeartbeats 1600000 in
theorem eventInForm_any (e : EvV) (w : World) :
    Calls Tryd.prog 85 #[evAgg e] w fun r w' => r = .returned (.bool (evOk e)) ∧ Below w.heap.size w w' := by
  obtain ⟨time, to, src, count, n, kind, arg⟩ := e
  have e : evOk ⟨time, to, src, count, n, kind, arg⟩ = (inR 0 40 time && inR 0 3 to && inR (-1) 3 src && inR 0 12 count && inR 0 3 n && inR 0 3 kind && inR 0 999 arg) := rfl
  rw [e]
  cases g10 : inR 0 40 time
  · go_enter Tryd.func85, Tryd.ntmps85
    go_wp2_with (first | (go_at_call 102; refine (isNum_any _ _).mono ?_; rintro e w' ⟨rfl, rfl⟩) | (go_at_call 104; refine (isProc_any _ _).mono ?_; rintro e w' ⟨rfl, rfl⟩) | (go_at_call 105; refine (isKind_any _ _).mono ?_; rintro e w' ⟨rfl, rfl⟩) | (go_at_call 103; refine (within_any _ _ _ _).mono ?_; rintro e w' ⟨rfl, rfl⟩))
    go_ret
    exact ⟨ret_bool rfl, (Below.refl _ _).alloc (Nat.le_refl _) _⟩
  · cases g21 : inR 0 3 to
    · go_enter Tryd.func85, Tryd.ntmps85
      go_wp2_with (first | (go_at_call 102; refine (isNum_any _ _).mono ?_; rintro e w' ⟨rfl, rfl⟩) | (go_at_call 104; refine (isProc_any _ _).mono ?_; rintro e w' ⟨rfl, rfl⟩) | (go_at_call 105; refine (isKind_any _ _).mono ?_; rintro e w' ⟨rfl, rfl⟩) | (go_at_call 103; refine (within_any _ _ _ _).mono ?_; rintro e w' ⟨rfl, rfl⟩))
      go_ret
      exact ⟨ret_bool rfl, (Below.refl _ _).alloc (Nat.le_refl _) _⟩
    · cases hp : inR 0 3 src
      · by_cases hm : src = -1
        · subst hm
          have hsrc : inR (-1) 3 (-1) = true := rfl
          rw [hsrc]
          cases g50 : inR 0 12 count
          · go_enter Tryd.func85, Tryd.ntmps85
            go_wp2_with (first | (go_at_call 102; refine (isNum_any _ _).mono ?_; rintro e w' ⟨rfl, rfl⟩) | (go_at_call 104; refine (isProc_any _ _).mono ?_; rintro e w' ⟨rfl, rfl⟩) | (go_at_call 105; refine (isKind_any _ _).mono ?_; rintro e w' ⟨rfl, rfl⟩) | (go_at_call 103; refine (within_any _ _ _ _).mono ?_; rintro e w' ⟨rfl, rfl⟩))
            go_ret
            exact ⟨ret_bool rfl, (Below.refl _ _).alloc (Nat.le_refl _) _⟩
          · cases g61 : inR 0 3 n
            · go_enter Tryd.func85, Tryd.ntmps85
              go_wp2_with (first | (go_at_call 102; refine (isNum_any _ _).mono ?_; rintro e w' ⟨rfl, rfl⟩) | (go_at_call 104; refine (isProc_any _ _).mono ?_; rintro e w' ⟨rfl, rfl⟩) | (go_at_call 105; refine (isKind_any _ _).mono ?_; rintro e w' ⟨rfl, rfl⟩) | (go_at_call 103; refine (within_any _ _ _ _).mono ?_; rintro e w' ⟨rfl, rfl⟩))
              go_ret
              exact ⟨ret_bool rfl, (Below.refl _ _).alloc (Nat.le_refl _) _⟩
            · cases g72 : inR 0 3 kind
              · go_enter Tryd.func85, Tryd.ntmps85
                go_wp2_with (first | (go_at_call 102; refine (isNum_any _ _).mono ?_; rintro e w' ⟨rfl, rfl⟩) | (go_at_call 104; refine (isProc_any _ _).mono ?_; rintro e w' ⟨rfl, rfl⟩) | (go_at_call 105; refine (isKind_any _ _).mono ?_; rintro e w' ⟨rfl, rfl⟩) | (go_at_call 103; refine (within_any _ _ _ _).mono ?_; rintro e w' ⟨rfl, rfl⟩))
                go_ret
                exact ⟨ret_bool rfl, (Below.refl _ _).alloc (Nat.le_refl _) _⟩
              · cases g83 : inR 0 999 arg
                · go_enter Tryd.func85, Tryd.ntmps85
                  go_wp2_with (first | (go_at_call 102; refine (isNum_any _ _).mono ?_; rintro e w' ⟨rfl, rfl⟩) | (go_at_call 104; refine (isProc_any _ _).mono ?_; rintro e w' ⟨rfl, rfl⟩) | (go_at_call 105; refine (isKind_any _ _).mono ?_; rintro e w' ⟨rfl, rfl⟩) | (go_at_call 103; refine (within_any _ _ _ _).mono ?_; rintro e w' ⟨rfl, rfl⟩))
                  go_ret
                  exact ⟨ret_bool rfl, (Below.refl _ _).alloc (Nat.le_refl _) _⟩
                · go_enter Tryd.func85, Tryd.ntmps85
                  go_wp2_with (first | (go_at_call 102; refine (isNum_any _ _).mono ?_; rintro e w' ⟨rfl, rfl⟩) | (go_at_call 104; refine (isProc_any _ _).mono ?_; rintro e w' ⟨rfl, rfl⟩) | (go_at_call 105; refine (isKind_any _ _).mono ?_; rintro e w' ⟨rfl, rfl⟩) | (go_at_call 103; refine (within_any _ _ _ _).mono ?_; rintro e w' ⟨rfl, rfl⟩))
                  go_ret
                  exact ⟨ret_bool rfl, (Below.refl _ _).alloc (Nat.le_refl _) _⟩
        · have hm' : (src == -1) = false := by simp [hm]
          have hsrc : inR (-1) 3 src = false := by simp [inR] at hp ⊢; omega
          rw [hsrc]
          go_enter Tryd.func85, Tryd.ntmps85
          go_wp2_with (first | (go_at_call 102; refine (isNum_any _ _).mono ?_; rintro e w' ⟨rfl, rfl⟩) | (go_at_call 104; refine (isProc_any _ _).mono ?_; rintro e w' ⟨rfl, rfl⟩) | (go_at_call 105; refine (isKind_any _ _).mono ?_; rintro e w' ⟨rfl, rfl⟩) | (go_at_call 103; refine (within_any _ _ _ _).mono ?_; rintro e w' ⟨rfl, rfl⟩))
          go_ret
          exact ⟨ret_bool rfl, (Below.refl _ _).alloc (Nat.le_refl _) _⟩
      · have hsrc : inR (-1) 3 src = true := by simp [inR] at hp ⊢; omega
        rw [hsrc]
        cases g40 : inR 0 12 count
        · go_enter Tryd.func85, Tryd.ntmps85
          go_wp2_with (first | (go_at_call 102; refine (isNum_any _ _).mono ?_; rintro e w' ⟨rfl, rfl⟩) | (go_at_call 104; refine (isProc_any _ _).mono ?_; rintro e w' ⟨rfl, rfl⟩) | (go_at_call 105; refine (isKind_any _ _).mono ?_; rintro e w' ⟨rfl, rfl⟩) | (go_at_call 103; refine (within_any _ _ _ _).mono ?_; rintro e w' ⟨rfl, rfl⟩))
          go_ret
          exact ⟨ret_bool rfl, (Below.refl _ _).alloc (Nat.le_refl _) _⟩
        · cases g51 : inR 0 3 n
          · go_enter Tryd.func85, Tryd.ntmps85
            go_wp2_with (first | (go_at_call 102; refine (isNum_any _ _).mono ?_; rintro e w' ⟨rfl, rfl⟩) | (go_at_call 104; refine (isProc_any _ _).mono ?_; rintro e w' ⟨rfl, rfl⟩) | (go_at_call 105; refine (isKind_any _ _).mono ?_; rintro e w' ⟨rfl, rfl⟩) | (go_at_call 103; refine (within_any _ _ _ _).mono ?_; rintro e w' ⟨rfl, rfl⟩))
            go_ret
            exact ⟨ret_bool rfl, (Below.refl _ _).alloc (Nat.le_refl _) _⟩
          · cases g62 : inR 0 3 kind
            · go_enter Tryd.func85, Tryd.ntmps85
              go_wp2_with (first | (go_at_call 102; refine (isNum_any _ _).mono ?_; rintro e w' ⟨rfl, rfl⟩) | (go_at_call 104; refine (isProc_any _ _).mono ?_; rintro e w' ⟨rfl, rfl⟩) | (go_at_call 105; refine (isKind_any _ _).mono ?_; rintro e w' ⟨rfl, rfl⟩) | (go_at_call 103; refine (within_any _ _ _ _).mono ?_; rintro e w' ⟨rfl, rfl⟩))
              go_ret
              exact ⟨ret_bool rfl, (Below.refl _ _).alloc (Nat.le_refl _) _⟩
            · cases g73 : inR 0 999 arg
              · go_enter Tryd.func85, Tryd.ntmps85
                go_wp2_with (first | (go_at_call 102; refine (isNum_any _ _).mono ?_; rintro e w' ⟨rfl, rfl⟩) | (go_at_call 104; refine (isProc_any _ _).mono ?_; rintro e w' ⟨rfl, rfl⟩) | (go_at_call 105; refine (isKind_any _ _).mono ?_; rintro e w' ⟨rfl, rfl⟩) | (go_at_call 103; refine (within_any _ _ _ _).mono ?_; rintro e w' ⟨rfl, rfl⟩))
                go_ret
                exact ⟨ret_bool rfl, (Below.refl _ _).alloc (Nat.le_refl _) _⟩
              · go_enter Tryd.func85, Tryd.ntmps85
                go_wp2_with (first | (go_at_call 102; refine (isNum_any _ _).mono ?_; rintro e w' ⟨rfl, rfl⟩) | (go_at_call 104; refine (isProc_any _ _).mono ?_; rintro e w' ⟨rfl, rfl⟩) | (go_at_call 105; refine (isKind_any _ _).mono ?_; rintro e w' ⟨rfl, rfl⟩) | (go_at_call 103; refine (within_any _ _ _ _).mono ?_; rintro e w' ⟨rfl, rfl⟩))
                go_ret
                exact ⟨ret_bool rfl, (Below.refl _ _).alloc (Nat.le_refl _) _⟩

def kindOps (kind : Int) : List RuleV → List OpV
  | [] => []
  | r :: t => if r.kind = kind then r.ops else kindOps kind t

theorem kindOps_at (kind : Int) (rs : List RuleV) (k : Nat) (h : k < rs.length) : kindOps kind (rs.drop k) = if rs[k].kind = kind then rs[k].ops else kindOps kind (rs.drop (k + 1)) := by
  rw [List.drop_eq_getElem_cons h, kindOps]

theorem opsAt_nil (w : World) : OpsAt w (.slice none 0 0) [] := ⟨none, 0, rfl, by simp, by simp [maxLen], Or.inl rfl⟩

set_option maxRecDepth 100000 in
set_option maxHeartbeats 1600000 in
theorem opsOfKind_any (w0 : World) (rs : List RuleV) (rv : Value) (kind : Int) (w : World) (ho : RulesAt w0 rv rs) (hb0 : Below w0.heap.size w0 w) :
    Calls Tryd.prog 87 #[.agg #[rv], .int .i64 kind] w fun e w' => ∃ v, e = .returned v ∧ OpsAt w0 v (kindOps kind rs) ∧ Below w.heap.size w w' := by
  obtain ⟨ad, cap, rfl, hlc, hm, hcells⟩ := ho
  unfold maxLen at hm
  have HC := hide hcells
  clear hcells
  have hbx : Below w.heap.size w (w.alloc (.cells #[.slice ad rs.length cap] 34)) := (Below.refl _ _).alloc (Nat.le_refl _) _
  go_enter Tryd.func87, Tryd.ntmps87
  go_wp2_with fail
  go_loopw [10] (fun i wr => ∃ k : Nat, k ≤ rs.length ∧ i = .int .i64 k ∧ kindOps kind rs = kindOps kind (rs.drop k) ∧ Below w.heap.size w wr) (fun i _ => rs.length - (intOf i).toNat)
  case atStart => exact ⟨0, Nat.zero_le _, rfl, rfl, hbx⟩
  case round =>
    obtain ⟨k, hk, rfl, hrun, hbr⟩ := hrel
    have HRUN := hide hrun
    clear hrun
    by_cases hlt : k < rs.length
    · obtain ⟨rb, roff, hrad, hcr⟩ : ∃ b off, ad = some ⟨b, off, none⟩ ∧ RuleCells w0 b (off + k * 2) rs[k] := by
        rcases unhide HC with h | ⟨b, off, h1, h2⟩
        · rw [h] at hlt; exact absurd hlt (Nat.not_lt_zero _)
        · exact ⟨b, off, h1, h2 k hlt⟩
      subst hrad
      have hat := kindOps_at kind rs k hlt
      obtain ⟨r, hr⟩ : ∃ r, r = rs[k] := ⟨_, rfl⟩
      rw [← hr] at hcr hat
      clear hr
      obtain ⟨kd, ops⟩ := r
      simp only at hat
      obtain ⟨q0w, ov, q1w, hops⟩ := hcr
      simp only at q0w hops
      have q0 := cell_on (below_then hb0 hbr) q0w
      have q1 := cell_on (below_then hb0 hbr) q1w
      clear q0w q1w
      have HOP := hide hops
      obtain ⟨oad, ocap, hov⟩ : ∃ oad ocap, ov = .slice oad ops.length ocap := by obtain ⟨x, y, h, _⟩ := hops; exact ⟨x, y, h⟩
      subst hov
      clear hops
      have HAT := hide hat
      clear hat
      have hkI : (k : Int) < (rs.length : Int) := by omega
      have hk0 : (0 : Int) ≤ (k : Int) := by omega
      by_cases hkd : kd = kind
      · have HKO : Hid (kindOps kind rs = ops) := hide (by rw [unhide HRUN, unhide HAT, if_pos hkd])
        go_wp2_with fail
        go_ret
        exact ⟨_, rfl, by rw [unhide HKO]; exact unhide HOP, hbr.alloc hbr.size _⟩
      · have HKO : Hid (kindOps kind rs = kindOps kind (rs.drop (k + 1))) := hide (by rw [unhide HRUN, unhide HAT, if_neg hkd])
        have hkd' : (kd == kind) = false := by simp [hkd]
        go_wp2_with fail
        go_roundw
        case rel => exact ⟨k + 1, by omega, by go_num, unhide HKO, hbr.alloc hbr.size _⟩
        case measure => simp [intOf]; omega
    · have hke : k = rs.length := by omega
      subst hke
      have hfin : kindOps kind rs = [] := by have := unhide HRUN; rwa [List.drop_length, kindOps] at this
      have HF := hide hfin
      clear hfin
      have hkn : ¬ (rs.length : Int) < (rs.length : Int) := by omega
      go_wp2_with fail
      go_ret
      exact ⟨_, rfl, by rw [unhide HF]; exact opsAt_nil w0, hbr⟩
end Go.Proofs.YtjbgiepaehefpaaDoor
