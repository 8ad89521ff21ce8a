/- Lists of numbers: the exact laws' sz and to of them; whether each is a number that may be (0 to 9999): impl.allHold of isNumber, numbersInForm, spec.l23List. -/
import Derived.Test.YtiljjhipiinafaaGreatViews1
import Derived.Test.YtiljjhipiinafaaGreatFlatMake
import Derived.Test.YtiljjhipiinafaaGreatHold1
namespace Go.Proofs.YtiljjhipiinafaaGreat
open Go.RowKit
set_option linter.unusedVariables false
set_option linter.unusedSimpArgs false

theorem isNumber_any (a : Int) (w : World) : Calls Tryz.prog 29 #[.int .i64 a] w fun e w' => e = .returned (.bool (inR 0 9999 a)) ∧ w' = w := by
  rcases Int.lt_or_le a 0 with h1 | h1
  · have h3 : ¬ 0 ≤ a := by omega
    rw [show inR 0 9999 a = false by simp [inR]; omega]
    clear h1
    go_enter Tryz.func29, Tryz.ntmps29
    go_wp2
    go_ret
    exact ⟨rfl, rfl⟩
  rcases Int.lt_or_le 9999 a with h2 | h2
  · have h3 : ¬ a ≤ 9999 := by omega
    rw [show inR 0 9999 a = false by simp [inR]; omega]
    clear h2
    go_enter Tryz.func29, Tryz.ntmps29
    go_wp2
    go_ret
    exact ⟨rfl, rfl⟩
  rw [show inR 0 9999 a = true by simp [inR]; omega]
  go_enter Tryz.func29, Tryz.ntmps29
  go_wp2
  go_ret
  exact ⟨rfl, rfl⟩

theorem isUntil_any (a : Int) (w : World) : Calls Tryz.prog 30 #[.int .i64 a] w fun e w' => e = .returned (.bool (inR 0 41 a)) ∧ w' = w := by
  rcases Int.lt_or_le a 0 with h1 | h1
  · have h3 : ¬ 0 ≤ a := by omega
    rw [show inR 0 41 a = false by simp [inR]; omega]
    clear h1
    go_enter Tryz.func30, Tryz.ntmps30
    go_wp2
    go_ret
    exact ⟨rfl, rfl⟩
  rcases Int.lt_or_le 41 a with h2 | h2
  · have h3 : ¬ a ≤ 41 := by omega
    rw [show inR 0 41 a = false by simp [inR]; omega]
    clear h2
    go_enter Tryz.func30, Tryz.ntmps30
    go_wp2
    go_ret
    exact ⟨rfl, rfl⟩
  rw [show inR 0 41 a = true by simp [inR]; omega]
  go_enter Tryz.func30, Tryz.ntmps30
  go_wp2
  go_ret
  exact ⟨rfl, rfl⟩

theorem isNode_one (a : Int) (w : World) : Calls Tryz.prog 28 #[.int .i64 a] w fun e w' => e = .returned (.bool (inR 0 2 a)) ∧ w' = w := by
  rcases Int.lt_or_le a 0 with h1 | h1
  · have h3 : ¬ 0 ≤ a := by omega
    rw [show inR 0 2 a = false by simp [inR]; omega]
    clear h1
    go_enter Tryz.func28, Tryz.ntmps28
    go_wp2
    go_ret
    exact ⟨rfl, rfl⟩
  rcases Int.lt_or_le 2 a with h2 | h2
  · have h3 : ¬ a ≤ 2 := by omega
    rw [show inR 0 2 a = false by simp [inR]; omega]
    clear h2
    go_enter Tryz.func28, Tryz.ntmps28
    go_wp2
    go_ret
    exact ⟨rfl, rfl⟩
  rw [show inR 0 2 a = true by simp [inR]; omega]
  go_enter Tryz.func28, Tryz.ntmps28
  go_wp2
  go_ret
  exact ⟨rfl, rfl⟩

theorem l22Max_any (w : World) : Calls Tryz.prog 51 #[] w fun e w' => e = .returned (.int .i64 9999) ∧ w' = w := by
  go_enter Tryz.func51, Tryz.ntmps51
  go_wp2
  go_ret
  exact ⟨rfl, rfl⟩

theorem NumsAt.sliced {w : World} {v : Value} {zs : List Int} (h : NumsAt w v zs) : ∃ a c, v = .slice a zs.length c := by
  obtain ⟨a, c, e, _⟩ := h
  rw [List.length_map] at e
  exact ⟨a, c, e⟩

theorem info_Int : (Tryz.prog.info? 3).map (fun i => (i.zero, i.size, i.bytes)) = some (some (.int .i64 0), 1, 8) := by kernel_rfl

/-- Whether a list of numbers is in form: none, or three, each from 0 to 9999. -/
def numsOk (zs : List Int) : Bool := (decide (zs.length = 0) || decide (zs.length = 3)) && zs.all (inR 0 9999)

set_option maxRecDepth 100000 in
set_option maxHeartbeats 1000000 in
theorem allHoldInt_any (v : Value) (zs : List Int) (w : World) (h : NumsAt w v zs) :
    Calls Tryz.prog 59 #[v, .func (.func 29) #[] #[]] w fun e w' => e = .returned (.bool (zs.all (inR 0 9999))) ∧ w' = w := by
  obtain ⟨ad, cap, e, hlc, hm, hc⟩ := h
  rw [List.length_map] at e hlc hm
  subst e
  unfold maxLen at hm
  have HC := hide hc
  clear hc
  go_enter Tryz.func59, Tryz.ntmps59
  go_wp2_with fail
  go_loop [9] (fun i => ∃ k : Nat, k ≤ zs.length ∧ i = .int .i64 k ∧ Hid ((zs.take k).all (inR 0 9999) = true)) (fun i => zs.length - (intOf i).toNat)
  case atStart => exact ⟨0, Nat.zero_le _, rfl, hide (by simp)⟩
  case round =>
    obtain ⟨k, hk, rfl, HA⟩ := hrel
    by_cases hlt : k < zs.length
    · obtain ⟨b, off, had, p1⟩ : ∃ b off, ad = some ⟨b, off, none⟩ ∧ w.cell? ⟨b, off + k, none⟩ = some (.int .i64 zs[k]) := by
        rcases unhide HC with h | ⟨b, off, h1, h2⟩
        · have : zs = [] := by simpa using h
          rw [this] at hlt; exact absurd hlt (Nat.not_lt_zero _)
        · have h3 := h2 k (by simpa using hlt) 0 (by omega)
          simp at h3
          exact ⟨b, off, h1, h3⟩
      have hkI : (k : Int) < (zs.length : Int) := by omega
      have hk0 : (0 : Int) ≤ (k : Int) := by omega
      subst had
      have HY := hide (fun h => all_take_more (inR 0 9999) zs k hlt (unhide HA) h)
      have HNO := hide (fun h => all_false_at (inR 0 9999) zs k hlt h)
      generalize zs[k] = z at *
      cases hok : inR 0 9999 z
      · go_wp2_with (go_at_call 29; refine (isNumber_any z _).mono ?_; rw [hok]; rintro e w' ⟨rfl, rfl⟩)
        go_ret
        exact ⟨ret_bool ((unhide HNO) hok).symm, rfl⟩
      · go_wp2_with (go_at_call 29; refine (isNumber_any z _).mono ?_; rw [hok]; rintro e w' ⟨rfl, rfl⟩)
        go_round
        case rel => exact ⟨k + 1, by omega, by go_num, hide ((unhide HY) hok)⟩
        case measure => (simp [intOf]; try omega)
    · have hke : k = zs.length := by omega
      subst hke
      go_wp2_with fail
      go_ret
      exact ⟨ret_bool (by have := unhide HA; rw [List.take_length] at this; exact this.symm), rfl⟩

theorem len_is (n m : Nat) : ((n : Int) == (m : Int)) = decide (n = m) := by
  rw [Bool.eq_iff_iff]; simp; omega
theorem len_not (n m : Nat) : ((n : Int) != (m : Int)) = !decide (n = m) := by
  rw [bne, len_is]

set_option maxRecDepth 100000 in
set_option maxHeartbeats 1000000 in
theorem numbersInForm_any (v : Value) (zs : List Int) (w : World) (h : NumsAt w v zs) :
    Calls Tryz.prog 31 #[v] w fun e w' => e = .returned (.bool (numsOk zs)) ∧ w' = w := by
  have H := hide h
  obtain ⟨a, c, rfl⟩ := h.sliced
  clear h
  by_cases h0 : zs.length = 0
  · have e0 : ((zs.length : Int) == 0) = true := by rw [show (0 : Int) = ((0 : Nat) : Int) from rfl, len_is]; simp [h0]
    have HR := hide (show numsOk zs = zs.all (inR 0 9999) by simp [numsOk, h0])
    clear h0
    go_enter Tryz.func31, Tryz.ntmps31
    go_wp2_with (go_at_call 59; refine (allHoldInt_any _ zs _ (unhide H)).mono ?_; rintro e w' ⟨rfl, rfl⟩)
    go_ret
    exact ⟨ret_bool (unhide HR).symm, rfl⟩
  have e0 : ((zs.length : Int) == 0) = false := by rw [show (0 : Int) = ((0 : Nat) : Int) from rfl, len_is]; simp [h0]
  by_cases h3 : zs.length = 3
  · have e3 : ((zs.length : Int) == 3) = true := by rw [show (3 : Int) = ((3 : Nat) : Int) from rfl, len_is]; simp [h3]
    have HR := hide (show numsOk zs = zs.all (inR 0 9999) by simp [numsOk, h3])
    clear h0 h3
    go_enter Tryz.func31, Tryz.ntmps31
    go_wp2_with (go_at_call 59; refine (allHoldInt_any _ zs _ (unhide H)).mono ?_; rintro e w' ⟨rfl, rfl⟩)
    go_ret
    exact ⟨ret_bool (unhide HR).symm, rfl⟩
  have e3 : ((zs.length : Int) == 3) = false := by rw [show (3 : Int) = ((3 : Nat) : Int) from rfl, len_is]; simp [h3]
  have HR := hide (show numsOk zs = false by simp [numsOk, h0, h3])
  clear h0 h3
  go_enter Tryz.func31, Tryz.ntmps31
  go_wp2_with fail
  go_ret
  exact ⟨ret_bool (unhide HR).symm, rfl⟩

theorem calls_as {P : Program} {f : Nat} {args : Array Value} {w : World} {a b : Bool} (h : Calls P f args w fun e w' => e = .returned (.bool a) ∧ w' = w) (e : b = a) : Calls P f args w fun e w' => e = .returned (.bool b) ∧ w' = w := by
  rw [e]; exact h

set_option maxRecDepth 100000 in
set_option maxHeartbeats 1000000 in
theorem l23List_any (v : Value) (zs : List Int) (w : World) (h : NumsAt w v zs) :
    Calls Tryz.prog 71 #[v] w fun e w' => e = .returned (.bool (numsOk zs)) ∧ Below w.heap.size w w' := by
  obtain ⟨ad, cap, e, hlc, hm, hc⟩ := h
  rw [List.length_map] at e hlc hm
  subst e
  unfold maxLen at hm
  have HC := hide hc
  clear hc
  obtain ⟨ne0, h0⟩ : ∃ b, b = ((zs.length : Int) != 0) := ⟨_, rfl⟩
  obtain ⟨ne3, h3⟩ : ∃ b, b = ((zs.length : Int) != 3) := ⟨_, rfl⟩
  rw [show (0 : Int) = ((0 : Nat) : Int) from rfl, len_not] at h0
  rw [show (3 : Int) = ((3 : Nat) : Int) from rfl, len_not] at h3
  by_cases hno : zs.length ≠ 0 ∧ zs.length ≠ 3
  · have e0 : ((zs.length : Int) != 0) = true := by rw [show (0 : Int) = ((0 : Nat) : Int) from rfl, len_not]; simp [hno.1]
    have e3 : ((zs.length : Int) != 3) = true := by rw [show (3 : Int) = ((3 : Nat) : Int) from rfl, len_not]; simp [hno.2]
    have HR := hide (show numsOk zs = false by simp [numsOk, hno.1, hno.2])
    clear hno h0 h3 ne0 ne3
    go_enter Tryz.func71, Tryz.ntmps71
    go_wp2_with fail
    go_ret
    exact ⟨ret_bool (unhide HR).symm, Below.refl _ _⟩
  have HR := hide (show numsOk zs = zs.all (inR 0 9999) by
    have : zs.length = 0 ∨ zs.length = 3 := by omega
    rcases this with h | h <;> simp [numsOk, h])
  clear h0 h3 ne0 ne3
  have main : ∀ (b0 b3 : Bool), ((zs.length : Int) != 0) = b0 → ((zs.length : Int) != 3) = b3 → (b0 && b3) = false → Calls Tryz.prog 71 #[.slice ad zs.length cap] w fun e w' => e = .returned (.bool (numsOk zs)) ∧ Below w.heap.size w w' := by
    intro b0 b3 e0 e3 hbb
    clear hno
    go_enter Tryz.func71, Tryz.ntmps71
    cases b0
    · clear hbb e3 b3
      go_wp2_with fail
      clear e0
      go_loopw [3] (fun i wr => ∃ k : Nat, k ≤ zs.length ∧ i = .int .i64 k ∧ Hid ((zs.take k).all (inR 0 9999) = true) ∧ Below w.heap.size w wr) (fun i _ => zs.length - (intOf i).toNat)
      case atStart => exact ⟨0, Nat.zero_le _, rfl, hide (by simp), Below.refl _ _⟩
      case round =>
        obtain ⟨k, hk, rfl, HA, hb⟩ := hrel
        by_cases hlt : k < zs.length
        · obtain ⟨b, off, had, p1⟩ : ∃ b off, ad = some ⟨b, off, none⟩ ∧ wr.cell? ⟨b, off + k, none⟩ = some (.int .i64 zs[k]) := by
            rcases unhide HC with h | ⟨b, off, h1, h2⟩
            · have : zs = [] := by simpa using h
              rw [this] at hlt; exact absurd hlt (Nat.not_lt_zero _)
            · have h3 := cell_on hb (h2 k (by simpa using hlt) 0 (by omega))
              simp at h3
              exact ⟨b, off, h1, h3⟩
          have hkI : (k : Int) < (zs.length : Int) := by omega
          have hk0 : (0 : Int) ≤ (k : Int) := by omega
          subst had
          have HY := hide (fun h => all_take_more (inR 0 9999) zs k hlt (unhide HA) h)
          have HNO := hide (fun h => all_false_at (inR 0 9999) zs k hlt h)
          generalize zs[k] = z at *
          have q1 : ∀ y : On wr, y.y.cell? ⟨b, off + k, none⟩ = some (.int .i64 z) := fun y => cell_on y.h p1
          clear p1
          obtain ⟨ok, hok⟩ : ∃ b, b = inR 0 9999 z := ⟨_, rfl⟩
          have HOK := hide hok
          clear hok
          go_wp2_with fail
          have hne : Nonempty (On wr) := ⟨⟨wr, Below.refl _ _⟩⟩
          refine wp_region_on (by kernel_rfl) (by kernel_rfl) ?_
          repeat (first | go_big_quiet_step ((first | (go_at_call 51; exact calls_on_same (l22Max_any _)) | (go_at_call 70; exact calls_on_same (calls_as (l6In_any z 0 9999 _) (unhide HOK))))) | quiet_step ((first | (go_at_call 51; exact calls_on_same (l22Max_any _)) | (go_at_call 70; exact calls_on_same (calls_as (l6In_any z 0 9999 _) (unhide HOK))))))
          refine wpQuiet_nil ?_
          intro _ hw'
          obtain ⟨nq, hw''⟩ := hw'
          subst hw''
          cases ok
          · go_wp2_with fail
            go_ret
            exact ⟨ret_bool ((unhide HR).trans ((unhide HNO) (unhide HOK).symm)).symm, below_then hb nq.h⟩
          · go_wp2_with fail
            go_roundw
            case rel => exact ⟨k + 1, by omega, by go_num, hide ((unhide HY) (unhide HOK).symm), below_then hb nq.h⟩
            case measure => (simp [intOf]; try omega)
        · have hke : k = zs.length := by omega
          subst hke
          go_wp2_with fail
          go_ret
          exact ⟨ret_bool (by have := unhide HA; rw [List.take_length] at this; exact ((unhide HR).trans this).symm), hb⟩
    · cases b3
      · clear hbb
        go_wp2_with fail
        clear e0 e3
        go_loopw [3] (fun i wr => ∃ k : Nat, k ≤ zs.length ∧ i = .int .i64 k ∧ Hid ((zs.take k).all (inR 0 9999) = true) ∧ Below w.heap.size w wr) (fun i _ => zs.length - (intOf i).toNat)
        case atStart => exact ⟨0, Nat.zero_le _, rfl, hide (by simp), Below.refl _ _⟩
        case round =>
          obtain ⟨k, hk, rfl, HA, hb⟩ := hrel
          by_cases hlt : k < zs.length
          · obtain ⟨b, off, had, p1⟩ : ∃ b off, ad = some ⟨b, off, none⟩ ∧ wr.cell? ⟨b, off + k, none⟩ = some (.int .i64 zs[k]) := by
              rcases unhide HC with h | ⟨b, off, h1, h2⟩
              · have : zs = [] := by simpa using h
                rw [this] at hlt; exact absurd hlt (Nat.not_lt_zero _)
              · have h3 := cell_on hb (h2 k (by simpa using hlt) 0 (by omega))
                simp at h3
                exact ⟨b, off, h1, h3⟩
            have hkI : (k : Int) < (zs.length : Int) := by omega
            have hk0 : (0 : Int) ≤ (k : Int) := by omega
            subst had
            have HY := hide (fun h => all_take_more (inR 0 9999) zs k hlt (unhide HA) h)
            have HNO := hide (fun h => all_false_at (inR 0 9999) zs k hlt h)
            generalize zs[k] = z at *
            have q1 : ∀ y : On wr, y.y.cell? ⟨b, off + k, none⟩ = some (.int .i64 z) := fun y => cell_on y.h p1
            clear p1
            obtain ⟨ok, hok⟩ : ∃ b, b = inR 0 9999 z := ⟨_, rfl⟩
            have HOK := hide hok
            clear hok
            go_wp2_with fail
            have hne : Nonempty (On wr) := ⟨⟨wr, Below.refl _ _⟩⟩
            refine wp_region_on (by kernel_rfl) (by kernel_rfl) ?_
            repeat (first | go_big_quiet_step ((first | (go_at_call 51; exact calls_on_same (l22Max_any _)) | (go_at_call 70; exact calls_on_same (calls_as (l6In_any z 0 9999 _) (unhide HOK))))) | quiet_step ((first | (go_at_call 51; exact calls_on_same (l22Max_any _)) | (go_at_call 70; exact calls_on_same (calls_as (l6In_any z 0 9999 _) (unhide HOK))))))
            refine wpQuiet_nil ?_
            intro _ hw'
            obtain ⟨nq, hw''⟩ := hw'
            subst hw''
            cases ok
            · go_wp2_with fail
              go_ret
              exact ⟨ret_bool ((unhide HR).trans ((unhide HNO) (unhide HOK).symm)).symm, below_then hb nq.h⟩
            · go_wp2_with fail
              go_roundw
              case rel => exact ⟨k + 1, by omega, by go_num, hide ((unhide HY) (unhide HOK).symm), below_then hb nq.h⟩
              case measure => (simp [intOf]; try omega)
          · have hke : k = zs.length := by omega
            subst hke
            go_wp2_with fail
            go_ret
            exact ⟨ret_bool (by have := unhide HA; rw [List.take_length] at this; exact ((unhide HR).trans this).symm), hb⟩
      · cases hbb
  exact main _ _ rfl rfl (by
    have : zs.length = 0 ∨ zs.length = 3 := by omega
    rcases this with h | h <;> simp [h])
end Go.Proofs.YtiljjhipiinafaaGreat
