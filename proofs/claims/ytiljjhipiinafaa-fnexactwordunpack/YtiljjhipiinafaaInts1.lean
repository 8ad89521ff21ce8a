/- Lists of numbers: the exact laws' sz and to of them; whether each is a number that may be (0 to 9999): impl.allHold of isNumber, numbersInForm, spec.l23List. -/
import Derived.Test.YtiljjhipiinafaaViews1
import Derived.Test.YtiljjhipiinafaaFlatMake
import Derived.Test.YtiljjhipiinafaaHold1
namespace Go.Proofs.Ytiljjhipiinafaa
open Go.RowKit
set_option linter.unusedVariables false
set_option linter.unusedSimpArgs false

theorem isNumber_any (a : Int) (w : World) : Calls Try.prog 45 #[.int .i64 a] w fun e w' => e = .returned (.bool (inR 0 9999 a)) ∧ w' = w := by
  rcases Int.lt_or_le a 0 with h1 | h1
  · have h3 : ¬ 0 ≤ a := by omega
    rw [show inR 0 9999 a = false by simp [inR]; omega]
    clear h1
    go_enter Try.func45, Try.ntmps45
    go_wp2
    go_ret
    exact ⟨rfl, rfl⟩
  rcases Int.lt_or_le 9999 a with h2 | h2
  · have h3 : ¬ a ≤ 9999 := by omega
    rw [show inR 0 9999 a = false by simp [inR]; omega]
    clear h2
    go_enter Try.func45, Try.ntmps45
    go_wp2
    go_ret
    exact ⟨rfl, rfl⟩
  rw [show inR 0 9999 a = true by simp [inR]; omega]
  go_enter Try.func45, Try.ntmps45
  go_wp2
  go_ret
  exact ⟨rfl, rfl⟩

theorem isUntil_any (a : Int) (w : World) : Calls Try.prog 46 #[.int .i64 a] w fun e w' => e = .returned (.bool (inR 0 41 a)) ∧ w' = w := by
  rcases Int.lt_or_le a 0 with h1 | h1
  · have h3 : ¬ 0 ≤ a := by omega
    rw [show inR 0 41 a = false by simp [inR]; omega]
    clear h1
    go_enter Try.func46, Try.ntmps46
    go_wp2
    go_ret
    exact ⟨rfl, rfl⟩
  rcases Int.lt_or_le 41 a with h2 | h2
  · have h3 : ¬ a ≤ 41 := by omega
    rw [show inR 0 41 a = false by simp [inR]; omega]
    clear h2
    go_enter Try.func46, Try.ntmps46
    go_wp2
    go_ret
    exact ⟨rfl, rfl⟩
  rw [show inR 0 41 a = true by simp [inR]; omega]
  go_enter Try.func46, Try.ntmps46
  go_wp2
  go_ret
  exact ⟨rfl, rfl⟩

theorem isNode_one (a : Int) (w : World) : Calls Try.prog 44 #[.int .i64 a] w fun e w' => e = .returned (.bool (inR 0 2 a)) ∧ w' = w := by
  rcases Int.lt_or_le a 0 with h1 | h1
  · have h3 : ¬ 0 ≤ a := by omega
    rw [show inR 0 2 a = false by simp [inR]; omega]
    clear h1
    go_enter Try.func44, Try.ntmps44
    go_wp2
    go_ret
    exact ⟨rfl, rfl⟩
  rcases Int.lt_or_le 2 a with h2 | h2
  · have h3 : ¬ a ≤ 2 := by omega
    rw [show inR 0 2 a = false by simp [inR]; omega]
    clear h2
    go_enter Try.func44, Try.ntmps44
    go_wp2
    go_ret
    exact ⟨rfl, rfl⟩
  rw [show inR 0 2 a = true by simp [inR]; omega]
  go_enter Try.func44, Try.ntmps44
  go_wp2
  go_ret
  exact ⟨rfl, rfl⟩

theorem l22Max_any (w : World) : Calls Try.prog 30 #[] w fun e w' => e = .returned (.int .i64 9999) ∧ w' = w := by
  go_enter Try.func30, Try.ntmps30
  go_wp2
  go_ret
  exact ⟨rfl, rfl⟩

theorem NumsAt.sliced {w : World} {v : Value} {zs : List Int} (h : NumsAt w v zs) : ∃ a c, v = .slice a zs.length c := by
  obtain ⟨a, c, e, _⟩ := h
  rw [List.length_map] at e
  exact ⟨a, c, e⟩

theorem szIntS_any (v : Value) (zs : List Int) (left : Int) (w : World) (h : NumsAt w v zs) (h0 : 0 ≤ left) (h1 : left ≤ 1048576) :
    Calls Try.prog 62 #[v, .int .i64 left] w fun e w' => ∃ r, e = .returned (.int .i64 r) ∧ (r = -1 ∧ left < zs.length ∨ 0 ≤ r ∧ r = left - zs.length) ∧ w' = w := by
  obtain ⟨ad, cap, e, hlc, hm, _⟩ := h
  rw [List.length_map] at e hlc hm
  subst e
  unfold maxLen at hm
  rcases Int.lt_or_le left (zs.length : Int) with h | h
  · go_enter Try.func62, Try.ntmps62
    go_wp2
    go_ret
    exact ⟨-1, rfl, Or.inl ⟨rfl, h⟩, rfl⟩
  · go_enter Try.func62, Try.ntmps62
    go_wp2
    go_ret
    exact ⟨_, rfl, Or.inr ⟨by omega, rfl⟩, rfl⟩

theorem slice_Int : Try.prog.underlying 23 = some (.slice 3) := by kernel_rfl
theorem info_Int : (Try.prog.info? 3).map (fun i => (i.zero, i.size, i.bytes)) = some (some (.int .i64 0), 1, 8) := by kernel_rfl

set_option maxRecDepth 100000 in
set_option maxHeartbeats 1000000 in
theorem toIntS_any (v : Value) (zs : List Int) (w : World) (h : NumsAt w v zs) (hlen : zs.length ≤ 1048576) :
    Calls Try.prog 65 #[v] w fun e w' => ∃ v', e = .returned v' ∧ RowsFr w.heap.size 3 1 w' v' (zs.map fun z => [z]) ∧ Below w.heap.size w w' := by
  obtain ⟨ad, cap, e, hlc, hm, hcells⟩ := h
  rw [List.length_map] at e hlc
  subst e
  have HMX := hide hm
  clear hm
  have hmk : ∀ w : World, (Instr.makeSlice 23 (.int .i64 (zs.length : Int)) (.int .i64 (zs.length : Int))).run Try.prog w = .ok (.slice (some ⟨w.heap.size, 0, none⟩) zs.length zs.length) (w.alloc (.cells (madeCells #[.int .i64 0] zs.length) 3)) := fun w => by
    have h := run_make_n (P := Try.prog) 23 3 _ 1 8 slice_Int info_Int zs.length (by omega) (by omega) w
    rw [Nat.mul_one] at h
    exact h
  have HC := hide hcells
  clear hcells
  go_enter Try.func65, Try.ntmps65
  go_wp2_with fail
  have hb1 : Below w.heap.size w (w.alloc (.cells (madeCells #[.int .i64 0] zs.length) 3)) := (Below.refl _ _).alloc (Nat.le_refl _) _
  obtain ⟨f1, hr1⟩ : ∃ f, (w.alloc (.cells (madeCells #[.int .i64 0] zs.length) 3)).rowIs w.heap.size 3 (zs.length * 1) f :=
    ⟨_, by rw [Nat.mul_one]; exact row_made w #[.int .i64 0] zs.length 3⟩
  clear hmk
  generalize w.alloc (.cells (madeCells #[.int .i64 0] zs.length) 3) = w1 at *
  go_loopw [4] (fun i wr => ∃ (k : Nat) (f : Nat → Value), k ≤ zs.length ∧ i = .int .i64 k ∧ Hid (wr.rowIs w.heap.size 3 (zs.length * 1) f) ∧ Hid (RowsIn 1 f (zs.map fun z => [z]) k) ∧ Below w.heap.size w wr) (fun i _ => zs.length - (intOf i).toNat)
  case atStart => exact ⟨0, _, Nat.zero_le _, rfl, hide hr1, hide (fun j _ h => absurd h (Nat.not_lt_zero _)), hb1⟩
  case round =>
    obtain ⟨k, f, hk, rfl, HROW, HIN, hb⟩ := hrel
    clear hr1
    by_cases hlt : k < zs.length
    · obtain ⟨b, off, had, p1⟩ : ∃ b off, ad = some ⟨b, off, none⟩ ∧ wr.cell? ⟨b, off + k, none⟩ = some (.int .i64 zs[k]) := by
        rcases unhide HC with h | ⟨b, off, h1, h2⟩
        · have : zs = [] := by simpa using h
          rw [this] at hlt; exact absurd hlt (Nat.not_lt_zero _)
        · have h3 := cell_on hb (h2 k (by simpa using hlt) 0 (by omega))
          simp at h3
          exact ⟨b, off, h1, h3⟩
      have hkI : (k : Int) < (zs.length : Int) := by omega
      have hk0 : (0 : Int) ≤ (k : Int) := by omega
      subst had
      have hrow := unhide HROW
      have g0 : wr.cell? ⟨w.heap.size, k, none⟩ = some (f k) := hrow.cell (i := k) (by omega)
      have z0 : wr.frozen? ⟨w.heap.size, k, none⟩ = false := hrow.frozen k
      clear hrow
      obtain ⟨z, hz⟩ : ∃ z, z = zs[k] := ⟨_, rfl⟩
      rw [← hz] at p1
      have HZ := hide hz
      clear hz
      go_wp2_with fail
      go_roundw
      case rel =>
        obtain ⟨f', q1, q2⟩ := row_step (n := 1) (rs := zs.map fun z => [z]) (by rw [List.length_map]; exact hlt) [z] rfl (fun j hj => by
          obtain rfl : j = 0 := by omega
          have := unhide HZ
          simp [this]) (unhide HROW) (unhide HIN)
        rw [show k * 1 = k from Nat.mul_one k] at q1
        exact ⟨k + 1, f', by omega, by go_num, hide q1, hide q2, setRow_below [z] k _ hb (Nat.le_refl _)⟩
      case measure => (simp [intOf]; try omega)
    · have hke : k = zs.length := by omega
      subst hke
      go_wp2_with fail
      go_ret
      exact ⟨.slice (some ⟨w.heap.size, 0, none⟩) zs.length zs.length, rfl, Or.inr ⟨w.heap.size, zs.length, f, congrArg (fun k => Value.slice (some ⟨w.heap.size, 0, none⟩) k zs.length) (List.length_map _).symm, Nat.le_refl _, Nat.le_of_eq (List.length_map _), Eq.mp (congrArg (fun k => k ≤ maxLen) (List.length_map _)) (unhide HMX), unhide HROW, Eq.mpr (congrArg (fun k => RowsIn 1 f (zs.map fun z => [z]) k) (List.length_map _)) (unhide HIN)⟩, hb⟩

/-- Whether a list of numbers is in form: none, or three, each from 0 to 9999. -/
def numsOk (zs : List Int) : Bool := (decide (zs.length = 0) || decide (zs.length = 3)) && zs.all (inR 0 9999)

set_option maxRecDepth 100000 in
set_option maxHeartbeats 1000000 in
theorem allHoldInt_any (v : Value) (zs : List Int) (w : World) (h : NumsAt w v zs) :
    Calls Try.prog 90 #[v, .func (.func 45) #[] #[]] w fun e w' => e = .returned (.bool (zs.all (inR 0 9999))) ∧ w' = w := by
  obtain ⟨ad, cap, e, hlc, hm, hc⟩ := h
  rw [List.length_map] at e hlc hm
  subst e
  unfold maxLen at hm
  have HC := hide hc
  clear hc
  go_enter Try.func90, Try.ntmps90
  go_wp2_with fail
  go_loop [9] (fun i => ∃ k : Nat, k ≤ zs.length ∧ i = .int .i64 k ∧ Hid ((zs.take k).all (inR 0 9999) = true)) (fun i => zs.length - (intOf i).toNat)
  case atStart => exact ⟨0, Nat.zero_le _, rfl, hide (by simp)⟩
  case round =>
    obtain ⟨k, hk, rfl, HA⟩ := hrel
    by_cases hlt : k < zs.length
    · obtain ⟨b, off, had, p1⟩ : ∃ b off, ad = some ⟨b, off, none⟩ ∧ w.cell? ⟨b, off + k, none⟩ = some (.int .i64 zs[k]) := by
        rcases unhide HC with h | ⟨b, off, h1, h2⟩
        · have : zs = [] := by simpa using h
          rw [this] at hlt; exact absurd hlt (Nat.not_lt_zero _)
        · have h3 := h2 k (by simpa using hlt) 0 (by omega)
          simp at h3
          exact ⟨b, off, h1, h3⟩
      have hkI : (k : Int) < (zs.length : Int) := by omega
      have hk0 : (0 : Int) ≤ (k : Int) := by omega
      subst had
      have HY := hide (fun h => all_take_more (inR 0 9999) zs k hlt (unhide HA) h)
      have HNO := hide (fun h => all_false_at (inR 0 9999) zs k hlt h)
      generalize zs[k] = z at *
      cases hok : inR 0 9999 z
      · go_wp2_with (go_at_call 45; refine (isNumber_any z _).mono ?_; rw [hok]; rintro e w' ⟨rfl, rfl⟩)
        go_ret
        exact ⟨ret_bool ((unhide HNO) hok).symm, rfl⟩
      · go_wp2_with (go_at_call 45; refine (isNumber_any z _).mono ?_; rw [hok]; rintro e w' ⟨rfl, rfl⟩)
        go_round
        case rel => exact ⟨k + 1, by omega, by go_num, hide ((unhide HY) hok)⟩
        case measure => (simp [intOf]; try omega)
    · have hke : k = zs.length := by omega
      subst hke
      go_wp2_with fail
      go_ret
      exact ⟨ret_bool (by have := unhide HA; rw [List.take_length] at this; exact this.symm), rfl⟩

theorem len_is (n m : Nat) : ((n : Int) == (m : Int)) = decide (n = m) := by
  rw [Bool.eq_iff_iff]; simp; omega
theorem len_not (n m : Nat) : ((n : Int) != (m : Int)) = !decide (n = m) := by
  rw [bne, len_is]

set_option maxRecDepth 100000 in
set_option maxHeartbeats 1000000 in
theorem numbersInForm_any (v : Value) (zs : List Int) (w : World) (h : NumsAt w v zs) :
    Calls Try.prog 47 #[v] w fun e w' => e = .returned (.bool (numsOk zs)) ∧ w' = w := by
  have H := hide h
  obtain ⟨a, c, rfl⟩ := h.sliced
  clear h
  by_cases h0 : zs.length = 0
  · have e0 : ((zs.length : Int) == 0) = true := by rw [show (0 : Int) = ((0 : Nat) : Int) from rfl, len_is]; simp [h0]
    have HR := hide (show numsOk zs = zs.all (inR 0 9999) by simp [numsOk, h0])
    clear h0
    go_enter Try.func47, Try.ntmps47
    go_wp2_with (go_at_call 90; refine (allHoldInt_any _ zs _ (unhide H)).mono ?_; rintro e w' ⟨rfl, rfl⟩)
    go_ret
    exact ⟨ret_bool (unhide HR).symm, rfl⟩
  have e0 : ((zs.length : Int) == 0) = false := by rw [show (0 : Int) = ((0 : Nat) : Int) from rfl, len_is]; simp [h0]
  by_cases h3 : zs.length = 3
  · have e3 : ((zs.length : Int) == 3) = true := by rw [show (3 : Int) = ((3 : Nat) : Int) from rfl, len_is]; simp [h3]
    have HR := hide (show numsOk zs = zs.all (inR 0 9999) by simp [numsOk, h3])
    clear h0 h3
    go_enter Try.func47, Try.ntmps47
    go_wp2_with (go_at_call 90; refine (allHoldInt_any _ zs _ (unhide H)).mono ?_; rintro e w' ⟨rfl, rfl⟩)
    go_ret
    exact ⟨ret_bool (unhide HR).symm, rfl⟩
  have e3 : ((zs.length : Int) == 3) = false := by rw [show (3 : Int) = ((3 : Nat) : Int) from rfl, len_is]; simp [h3]
  have HR := hide (show numsOk zs = false by simp [numsOk, h0, h3])
  clear h0 h3
  go_enter Try.func47, Try.ntmps47
  go_wp2_with fail
  go_ret
  exact ⟨ret_bool (unhide HR).symm, rfl⟩

theorem calls_as {P : Program} {f : Nat} {args : Array Value} {w : World} {a b : Bool} (h : Calls P f args w fun e w' => e = .returned (.bool a) ∧ w' = w) (e : b = a) : Calls P f args w fun e w' => e = .returned (.bool b) ∧ w' = w := by
  rw [e]; exact h

set_option maxRecDepth 100000 in
set_option maxHeartbeats 1000000 in
theorem l23List_any (v : Value) (zs : List Int) (w : World) (h : NumsAt w v zs) :
    Calls Try.prog 31 #[v] w fun e w' => e = .returned (.bool (numsOk zs)) ∧ Below w.heap.size w w' := by
  obtain ⟨ad, cap, e, hlc, hm, hc⟩ := h
  rw [List.length_map] at e hlc hm
  subst e
  unfold maxLen at hm
  have HC := hide hc
  clear hc
  obtain ⟨ne0, h0⟩ : ∃ b, b = ((zs.length : Int) != 0) := ⟨_, rfl⟩
  obtain ⟨ne3, h3⟩ : ∃ b, b = ((zs.length : Int) != 3) := ⟨_, rfl⟩
  rw [show (0 : Int) = ((0 : Nat) : Int) from rfl, len_not] at h0
  rw [show (3 : Int) = ((3 : Nat) : Int) from rfl, len_not] at h3
  by_cases hno : zs.length ≠ 0 ∧ zs.length ≠ 3
  · have e0 : ((zs.length : Int) != 0) = true := by rw [show (0 : Int) = ((0 : Nat) : Int) from rfl, len_not]; simp [hno.1]
    have e3 : ((zs.length : Int) != 3) = true := by rw [show (3 : Int) = ((3 : Nat) : Int) from rfl, len_not]; simp [hno.2]
    have HR := hide (show numsOk zs = false by simp [numsOk, hno.1, hno.2])
    clear hno h0 h3 ne0 ne3
    go_enter Try.func31, Try.ntmps31
    go_wp2_with fail
    go_ret
    exact ⟨ret_bool (unhide HR).symm, Below.refl _ _⟩
  have HR := hide (show numsOk zs = zs.all (inR 0 9999) by
    have : zs.length = 0 ∨ zs.length = 3 := by omega
    rcases this with h | h <;> simp [numsOk, h])
  clear h0 h3 ne0 ne3
  have main : ∀ (b0 b3 : Bool), ((zs.length : Int) != 0) = b0 → ((zs.length : Int) != 3) = b3 → (b0 && b3) = false → Calls Try.prog 31 #[.slice ad zs.length cap] w fun e w' => e = .returned (.bool (numsOk zs)) ∧ Below w.heap.size w w' := by
    intro b0 b3 e0 e3 hbb
    clear hno
    go_enter Try.func31, Try.ntmps31
    cases b0
    · clear hbb e3 b3
      go_wp2_with fail
      clear e0
      go_loopw [3] (fun i wr => ∃ k : Nat, k ≤ zs.length ∧ i = .int .i64 k ∧ Hid ((zs.take k).all (inR 0 9999) = true) ∧ Below w.heap.size w wr) (fun i _ => zs.length - (intOf i).toNat)
      case atStart => exact ⟨0, Nat.zero_le _, rfl, hide (by simp), Below.refl _ _⟩
      case round =>
        obtain ⟨k, hk, rfl, HA, hb⟩ := hrel
        by_cases hlt : k < zs.length
        · obtain ⟨b, off, had, p1⟩ : ∃ b off, ad = some ⟨b, off, none⟩ ∧ wr.cell? ⟨b, off + k, none⟩ = some (.int .i64 zs[k]) := by
            rcases unhide HC with h | ⟨b, off, h1, h2⟩
            · have : zs = [] := by simpa using h
              rw [this] at hlt; exact absurd hlt (Nat.not_lt_zero _)
            · have h3 := cell_on hb (h2 k (by simpa using hlt) 0 (by omega))
              simp at h3
              exact ⟨b, off, h1, h3⟩
          have hkI : (k : Int) < (zs.length : Int) := by omega
          have hk0 : (0 : Int) ≤ (k : Int) := by omega
          subst had
          have HY := hide (fun h => all_take_more (inR 0 9999) zs k hlt (unhide HA) h)
          have HNO := hide (fun h => all_false_at (inR 0 9999) zs k hlt h)
          generalize zs[k] = z at *
          have q1 : ∀ y : On wr, y.y.cell? ⟨b, off + k, none⟩ = some (.int .i64 z) := fun y => cell_on y.h p1
          clear p1
          obtain ⟨ok, hok⟩ : ∃ b, b = inR 0 9999 z := ⟨_, rfl⟩
          have HOK := hide hok
          clear hok
          go_wp2_with fail
          have hne : Nonempty (On wr) := ⟨⟨wr, Below.refl _ _⟩⟩
          refine wp_region_on (by kernel_rfl) (by kernel_rfl) ?_
          repeat (first | go_big_quiet_step ((first | (go_at_call 30; exact calls_on_same (l22Max_any _)) | (go_at_call 29; exact calls_on_same (calls_as (l6In_any z 0 9999 _) (unhide HOK))))) | quiet_step ((first | (go_at_call 30; exact calls_on_same (l22Max_any _)) | (go_at_call 29; exact calls_on_same (calls_as (l6In_any z 0 9999 _) (unhide HOK))))))
          refine wpQuiet_nil ?_
          intro _ hw'
          obtain ⟨nq, hw''⟩ := hw'
          subst hw''
          cases ok
          · go_wp2_with fail
            go_ret
            exact ⟨ret_bool ((unhide HR).trans ((unhide HNO) (unhide HOK).symm)).symm, below_then hb nq.h⟩
          · go_wp2_with fail
            go_roundw
            case rel => exact ⟨k + 1, by omega, by go_num, hide ((unhide HY) (unhide HOK).symm), below_then hb nq.h⟩
            case measure => (simp [intOf]; try omega)
        · have hke : k = zs.length := by omega
          subst hke
          go_wp2_with fail
          go_ret
          exact ⟨ret_bool (by have := unhide HA; rw [List.take_length] at this; exact ((unhide HR).trans this).symm), hb⟩
    · cases b3
      · clear hbb
        go_wp2_with fail
        clear e0 e3
        go_loopw [3] (fun i wr => ∃ k : Nat, k ≤ zs.length ∧ i = .int .i64 k ∧ Hid ((zs.take k).all (inR 0 9999) = true) ∧ Below w.heap.size w wr) (fun i _ => zs.length - (intOf i).toNat)
        case atStart => exact ⟨0, Nat.zero_le _, rfl, hide (by simp), Below.refl _ _⟩
        case round =>
          obtain ⟨k, hk, rfl, HA, hb⟩ := hrel
          by_cases hlt : k < zs.length
          · obtain ⟨b, off, had, p1⟩ : ∃ b off, ad = some ⟨b, off, none⟩ ∧ wr.cell? ⟨b, off + k, none⟩ = some (.int .i64 zs[k]) := by
              rcases unhide HC with h | ⟨b, off, h1, h2⟩
              · have : zs = [] := by simpa using h
                rw [this] at hlt; exact absurd hlt (Nat.not_lt_zero _)
              · have h3 := cell_on hb (h2 k (by simpa using hlt) 0 (by omega))
                simp at h3
                exact ⟨b, off, h1, h3⟩
            have hkI : (k : Int) < (zs.length : Int) := by omega
            have hk0 : (0 : Int) ≤ (k : Int) := by omega
            subst had
            have HY := hide (fun h => all_take_more (inR 0 9999) zs k hlt (unhide HA) h)
            have HNO := hide (fun h => all_false_at (inR 0 9999) zs k hlt h)
            generalize zs[k] = z at *
            have q1 : ∀ y : On wr, y.y.cell? ⟨b, off + k, none⟩ = some (.int .i64 z) := fun y => cell_on y.h p1
            clear p1
            obtain ⟨ok, hok⟩ : ∃ b, b = inR 0 9999 z := ⟨_, rfl⟩
            have HOK := hide hok
            clear hok
            go_wp2_with fail
            have hne : Nonempty (On wr) := ⟨⟨wr, Below.refl _ _⟩⟩
            refine wp_region_on (by kernel_rfl) (by kernel_rfl) ?_
            repeat (first | go_big_quiet_step ((first | (go_at_call 30; exact calls_on_same (l22Max_any _)) | (go_at_call 29; exact calls_on_same (calls_as (l6In_any z 0 9999 _) (unhide HOK))))) | quiet_step ((first | (go_at_call 30; exact calls_on_same (l22Max_any _)) | (go_at_call 29; exact calls_on_same (calls_as (l6In_any z 0 9999 _) (unhide HOK))))))
            refine wpQuiet_nil ?_
            intro _ hw'
            obtain ⟨nq, hw''⟩ := hw'
            subst hw''
            cases ok
            · go_wp2_with fail
              go_ret
              exact ⟨ret_bool ((unhide HR).trans ((unhide HNO) (unhide HOK).symm)).symm, below_then hb nq.h⟩
            · go_wp2_with fail
              go_roundw
              case rel => exact ⟨k + 1, by omega, by go_num, hide ((unhide HY) (unhide HOK).symm), below_then hb nq.h⟩
              case measure => (simp [intOf]; try omega)
          · have hke : k = zs.length := by omega
            subst hke
            go_wp2_with fail
            go_ret
            exact ⟨ret_bool (by have := unhide HA; rw [List.take_length] at this; exact ((unhide HR).trans this).symm), hb⟩
      · cases hbb
  exact main _ _ rfl rfl (by
    have : zs.length = 0 ∨ zs.length = 3 := by omega
    rcases this with h | h <;> simp [h])
end Go.Proofs.Ytiljjhipiinafaa
