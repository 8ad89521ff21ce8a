/- What is ok: impl.within, isKept, sectorInForm, slotInForm, areApart, SlotOk. -/
import Derived.Test.YtocgfngcgekciaaGrid3
namespace Go.Proofs.Ytocgfngcgekciaa
open Go.RowKit
set_option linter.unusedVariables false
set_option linter.unusedSimpArgs false

theorem within_any (n lo hi : Int) (w : World) :
    Calls Try.prog 72 #[.int .i64 n, .int .i64 lo, .int .i64 hi] w fun e w' => e = .returned (.bool (inR lo hi n)) ∧ w' = w := by
  by_cases h1 : lo ≤ n
  · by_cases h2 : n ≤ hi
    · go_enter Try.func72, Try.ntmps72
      go_wp2
      go_ret
      exact ⟨ret_bool (by simp [inR, h1, h2]), rfl⟩
    · have h3 : hi < n := by omega
      go_enter Try.func72, Try.ntmps72
      go_wp2
      go_ret
      exact ⟨ret_bool (by simp [inR]; omega), rfl⟩
  · go_enter Try.func72, Try.ntmps72
    go_wp2
    go_ret
    exact ⟨ret_bool (by simp [inR]; omega), rfl⟩

theorem l6In_any (n lo hi : Int) (w : World) :
    Calls Try.prog 71 #[.int .i64 n, .int .i64 lo, .int .i64 hi] w fun e w' => e = .returned (.bool (inR lo hi n)) ∧ w' = w := by
  by_cases h1 : lo ≤ n
  · by_cases h2 : n ≤ hi
    · go_enter Try.func71, Try.ntmps71
      go_wp2
      go_ret
      exact ⟨ret_bool (by simp [inR, h1, h2]), rfl⟩
    · go_enter Try.func71, Try.ntmps71
      go_wp2
      go_ret
      exact ⟨ret_bool (by simp [inR]; omega), rfl⟩
  · go_enter Try.func71, Try.ntmps71
    go_wp2
    go_ret
    exact ⟨ret_bool (by simp [inR]; omega), rfl⟩

theorem l22Max_any (w : World) : Calls Try.prog 45 #[] w fun e w' => e = .returned (.int .i64 9999) ∧ w' = w := by
  go_enter Try.func45, Try.ntmps45
  go_wp2
  go_ret
  exact ⟨rfl, rfl⟩

theorem calls_as {P : Program} {f : Nat} {args : Array Value} {w : World} {a b : Bool} (h : Calls P f args w fun e w' => e = .returned (.bool a) ∧ w' = w) (e : b = a) : Calls P f args w fun e w' => e = .returned (.bool b) ∧ w' = w := by
  rw [e]; exact h

theorem len_is (n m : Nat) : ((n : Int) == (m : Int)) = decide (n = m) := by
  rw [Bool.eq_iff_iff]; simp; omega

theorem len_not (n m : Nat) : ((n : Int) != (m : Int)) = !decide (n = m) := by
  rw [bne, len_is]

theorem isNumberS_any (a : Int) (w : World) : Calls Try.prog 91 #[.int .i64 a] w fun e w' => e = .returned (.bool (inR 0 9999 a)) ∧ w' = w := by
  go_enter Try.func91, Try.ntmps91
  go_wp2_with (go_at_call 72; refine (within_any _ _ _ _).mono ?_; rintro e w' ⟨rfl, rfl⟩)
  go_ret
  exact ⟨rfl, rfl⟩

theorem isKept_any (a : Int) (w : World) : Calls Try.prog 50 #[.int .i64 a] w fun e w' => e = .returned (.bool (inR (-1) 9999 a)) ∧ w' = w := by
  go_enter Try.func50, Try.ntmps50
  go_wp2_with (go_at_call 72; refine (within_any _ _ _ _).mono ?_; rintro e w' ⟨rfl, rfl⟩)
  go_ret
  exact ⟨rfl, rfl⟩

set_option maxRecDepth 100000 in
set_option maxHeartbeats 1000000 in
theorem allKept_any (v : Value) (zs : List Int) (w : World) (h : NumsAt w v zs) :
    Calls Try.prog 49 #[v, .func (.func 50) #[] #[]] w fun e w' => e = .returned (.bool (zs.all (inR (-1) 9999))) ∧ w' = w := by
  obtain ⟨ad, cap, e, hlc, hm, hc⟩ := h
  rw [List.length_map] at e hlc hm
  subst e
  unfold maxLen at hm
  have HC := hide hc
  clear hc
  go_enter Try.func49, Try.ntmps49
  go_wp2_with fail
  go_loop [9] (fun i => ∃ k : Nat, k ≤ zs.length ∧ i = .int .i64 k ∧ Hid ((zs.take k).all (inR (-1) 9999) = true)) (fun i => zs.length - (intOf i).toNat)
  case atStart => exact ⟨0, Nat.zero_le _, rfl, hide (by simp)⟩
  case round =>
    obtain ⟨k, hk, rfl, HA⟩ := hrel
    by_cases hlt : k < zs.length
    · obtain ⟨b, off, had, p1⟩ : ∃ b off, ad = some ⟨b, off, none⟩ ∧ w.cell? ⟨b, off + k, none⟩ = some (.int .i64 zs[k]) := by
        rcases unhide HC with h | ⟨b, off, h1, h2⟩
        · have : zs = [] := by simpa using h
          rw [this] at hlt; exact absurd hlt (Nat.not_lt_zero _)
        · have h3 := h2 k (by simpa using hlt) 0 (by omega)
          simp at h3
          exact ⟨b, off, h1, h3⟩
      have hkI : (k : Int) < (zs.length : Int) := by omega
      have hk0 : (0 : Int) ≤ (k : Int) := by omega
      subst had
      have HY := hide (fun h => all_take_more (inR (-1) 9999) zs k hlt (unhide HA) h)
      have HNO := hide (fun h => all_false_at (inR (-1) 9999) zs k hlt h)
      generalize zs[k] = z at *
      cases hok : inR (-1) 9999 z
      · go_wp2_with (go_at_call 50; refine (isKept_any z _).mono ?_; rw [hok]; rintro e w' ⟨rfl, rfl⟩)
        go_ret
        exact ⟨ret_bool ((unhide HNO) hok).symm, rfl⟩
      · go_wp2_with (go_at_call 50; refine (isKept_any z _).mono ?_; rw [hok]; rintro e w' ⟨rfl, rfl⟩)
        go_round
        case rel => exact ⟨k + 1, by omega, by go_num, hide ((unhide HY) hok)⟩
        case measure => (simp [intOf]; try omega)
    · have hke : k = zs.length := by omega
      subst hke
      go_wp2_with fail
      go_ret
      exact ⟨ret_bool (by have := unhide HA; rw [List.take_length] at this; exact this.symm), rfl⟩

def sectorOk (l : List Int) : Bool := decide (l.length ≤ 8) && l.all (inR (-1) 9999)
def headOk (n c : Int) : Bool := inR 0 9999 n && inR 0 1280 c
def slotOk (s : SlotV) : Bool := headOk s.num s.cnt && decide (s.rows.length = 160) && s.rows.all sectorOk
def apartB (a b : Int) : Bool := decide (a ≠ b) || decide (a = 0)
def diskOk (d : DiskV) : Bool := slotOk d.a && slotOk d.b && apartB d.a.num d.b.num

set_option maxRecDepth 100000 in
theorem sectorInForm_any (v : Value) (l : List Int) (w : World) (h : NumsAt w v l) :
    Calls Try.prog 78 #[v] w fun e w' => e = .returned (.bool (sectorOk l)) ∧ w' = w := by
  have H := hide h
  obtain ⟨a, c, rfl⟩ := h.sliced
  clear h
  by_cases h8 : l.length ≤ 8
  · have e8 : (l.length : Int) ≤ 8 := by omega
    have HR := hide (show sectorOk l = l.all (inR (-1) 9999) by simp [sectorOk, h8])
    clear h8
    go_enter Try.func78, Try.ntmps78
    go_wp2_with (go_at_call 49; refine (allKept_any _ l _ (unhide H)).mono ?_; rintro e w' ⟨rfl, rfl⟩)
    go_ret
    exact ⟨ret_bool (unhide HR).symm, rfl⟩
  · have e8 : ¬ (l.length : Int) ≤ 8 := by omega
    have HR := hide (show sectorOk l = false by simp [sectorOk, h8])
    clear h8
    go_enter Try.func78, Try.ntmps78
    go_wp2_with fail
    go_ret
    exact ⟨ret_bool (unhide HR).symm, rfl⟩

set_option maxRecDepth 100000 in
set_option maxHeartbeats 1000000 in
theorem allSectors_any (v : Value) (ls : List (List Int)) (w : World) (h : GridAt w v ls) :
    Calls Try.prog 77 #[v, .func (.func 78) #[] #[]] w fun e w' => e = .returned (.bool (ls.all sectorOk)) ∧ w' = w := by
  have hm := h.len
  obtain ⟨ad, cap, rfl⟩ := h.sliced
  unfold maxLen at hm
  have HC := hide h
  clear h
  go_enter Try.func77, Try.ntmps77
  go_wp2_with fail
  go_loop [9] (fun i => ∃ k : Nat, k ≤ ls.length ∧ i = .int .i64 k ∧ Hid ((ls.take k).all sectorOk = true)) (fun i => ls.length - (intOf i).toNat)
  case atStart => exact ⟨0, Nat.zero_le _, rfl, hide (by simp)⟩
  case round =>
    obtain ⟨k, hk, rfl, HA⟩ := hrel
    by_cases hlt : k < ls.length
    · obtain ⟨b, off, vd, had, p1, hp⟩ := (unhide HC).row hlt
      have hkI : (k : Int) < (ls.length : Int) := by omega
      have hk0 : (0 : Int) ≤ (k : Int) := by omega
      subst had
      have HY := hide (fun h => all_take_more sectorOk ls k hlt (unhide HA) h)
      have HNO := hide (fun h => all_false_at sectorOk ls k hlt h)
      have HP := hide hp
      obtain ⟨ea, ec, rfl⟩ := hp.sliced
      clear hp
      generalize ls[k] = z at *
      cases hok : sectorOk z
      · go_wp2_with (go_at_call 78; refine (sectorInForm_any _ z _ (unhide HP)).mono ?_; rw [hok]; rintro e w' ⟨rfl, rfl⟩)
        go_ret
        exact ⟨ret_bool ((unhide HNO) hok).symm, rfl⟩
      · go_wp2_with (go_at_call 78; refine (sectorInForm_any _ z _ (unhide HP)).mono ?_; rw [hok]; rintro e w' ⟨rfl, rfl⟩)
        go_round
        case rel => exact ⟨k + 1, by omega, by go_num, hide ((unhide HY) hok)⟩
        case measure => (simp [intOf]; try omega)
    · have hke : k = ls.length := by omega
      subst hke
      go_wp2_with fail
      go_ret
      exact ⟨ret_bool (by have := unhide HA; rw [List.take_length] at this; exact this.symm), rfl⟩

theorem headInForm_any (n c : Int) (w : World) : Calls Try.prog 76 #[.int .i64 n, .int .i64 c] w fun e w' => e = .returned (.bool (headOk n c)) ∧ w' = w := by
  go_enter Try.func76, Try.ntmps76
  go_wp2_with fail
  refine (isNumberS_any n w).mono ?_
  rintro e w' ⟨rfl, hw⟩
  obtain rfl := hw.symm
  cases h1 : inR 0 9999 n
  · go_wp2_with fail
    go_ret
    exact ⟨ret_bool (by simp [headOk, h1]), rfl⟩
  · go_wp2_with (go_at_call 72; refine (within_any _ _ _ _).mono ?_; rintro e w' ⟨rfl, rfl⟩)
    go_ret
    exact ⟨ret_bool (by simp [headOk, h1]), rfl⟩

theorem areApart_any (a b : Int) (w : World) : Calls Try.prog 53 #[.int .i64 a, .int .i64 b] w fun e w' => e = .returned (.bool (apartB a b)) ∧ w' = w := by
  by_cases h1 : a = b
  · have e1 : (a != b) = false := by simp [h1]
    have HR := hide (show apartB a b = decide (a = 0) by simp [apartB, h1])
    have e2 : (a == 0) = decide (a = 0) := by rw [Bool.eq_iff_iff]; simp
    clear h1
    generalize decide (a = 0) = r at *
    go_enter Try.func53, Try.ntmps53
    go_wp2
    go_ret
    exact ⟨ret_bool (unhide HR).symm, rfl⟩
  · have e1 : (a != b) = true := by simp [h1]
    have HR := hide (show apartB a b = true by simp [apartB, h1])
    clear h1
    go_enter Try.func53, Try.ntmps53
    go_wp2
    go_ret
    exact ⟨ret_bool (unhide HR).symm, rfl⟩

set_option maxRecDepth 100000 in
theorem slotInForm_any (s : SlotV) (v : Value) (w : World) (h : GridAt w v s.rows) :
    Calls Try.prog 52 #[slotAgg s v] w fun e w' => e = .returned (.bool (slotOk s)) ∧ Below w.heap.size w w' := by
  obtain ⟨a1, c1, rfl⟩ := h.sliced
  have hb0 : Below w.heap.size w (w.alloc (.cells #[.int .i64 s.num, .int .i64 s.cnt, .slice a1 s.rows.length c1] 25)) := (Below.refl _ _).alloc (Nat.le_refl _) _
  have K := hide (cellsAt_new w (slotCells s (.slice a1 s.rows.length c1)) 25)
  have H := hide (h.on hb0)
  have HB := hide hb0
  clear h hb0
  go_enter Try.func52, Try.ntmps52
  go_upto_region 1 with fail
  generalize (w.alloc (.cells #[.int .i64 s.num, .int .i64 s.cnt, .slice a1 s.rows.length c1] 25)) = W at *
  have m0 : W.cell? ⟨w.heap.size, 0, none⟩ = some (.int .i64 s.num) := (unhide K) 0 (by simp)
  have m1 : W.cell? ⟨w.heap.size, 1, none⟩ = some (.int .i64 s.cnt) := (unhide K) 1 (by simp)
  have m2 : W.cell? ⟨w.heap.size, 2, none⟩ = some (.slice a1 s.rows.length c1) := (unhide K) 2 (by simp)
  go_wp2_with fail
  refine (headInForm_any s.num s.cnt W).mono ?_
  rintro e w' ⟨rfl, hw⟩
  obtain rfl := hw.symm
  cases h1 : headOk s.num s.cnt
  · go_wp2_with fail
    go_ret
    exact ⟨ret_bool (by simp [slotOk, h1]), unhide HB⟩
  · by_cases h2 : s.rows.length = 160
    · have e2 : ((s.rows.length : Int) == 160) = true := by rw [h2]; rfl
      have HR := hide (show slotOk s = s.rows.all sectorOk by simp [slotOk, h1, h2])
      clear h2
      go_wp2_with (go_at_call 77; refine (allSectors_any _ s.rows _ (unhide H)).mono ?_; rintro e w' ⟨rfl, rfl⟩)
      go_ret
      exact ⟨ret_bool (unhide HR).symm, unhide HB⟩
    · have e2 : ((s.rows.length : Int) == 160) = false := by rw [Bool.eq_false_iff]; simp; omega
      have HR := hide (show slotOk s = false by simp [slotOk, h1, h2])
      clear h2
      go_wp2_with fail
      go_ret
      exact ⟨ret_bool (unhide HR).symm, unhide HB⟩

set_option maxRecDepth 100000 in
set_option maxHeartbeats 1000000 in
theorem implSlotOk_any (d : DiskV) (va vb : Value) (w : World) (h : DiskAt w d va vb) :
    Calls Try.prog 16 #[diskAgg d va vb] w fun e w' => e = .returned (.bool (diskOk d)) ∧ Below w.heap.size w w' := by
  obtain ⟨a1, c1, rfl⟩ := h.a.sliced
  obtain ⟨a2, c2, rfl⟩ := h.b.sliced
  have hb0 : Below w.heap.size w (w.alloc (.cells (diskCells d (.slice a1 d.a.rows.length c1) (.slice a2 d.b.rows.length c2)).toArray 27)) := (Below.refl _ _).alloc (Nat.le_refl _) _
  have K := hide (cellsAt_new w (diskCells d (.slice a1 d.a.rows.length c1) (.slice a2 d.b.rows.length c2)) 27)
  have H := hide (h.on hb0)
  have HB := hide hb0
  clear h hb0
  go_enter Try.func16, Try.ntmps16
  go_upto_region 1 with fail
  change Code.wp _ _ _ _ (w.alloc (.cells (diskCells d (.slice a1 d.a.rows.length c1) (.slice a2 d.b.rows.length c2)).toArray 27))
  generalize (w.alloc (.cells (diskCells d (.slice a1 d.a.rows.length c1) (.slice a2 d.b.rows.length c2)).toArray 27)) = W at *
  have m0 : W.cell? ⟨w.heap.size, 0, none⟩ = some (.int .i64 d.a.num) := (unhide K) 0 (by simp)
  have m1 : W.cell? ⟨w.heap.size, 1, none⟩ = some (.int .i64 d.a.cnt) := (unhide K) 1 (by simp)
  have m2 : W.cell? ⟨w.heap.size, 2, none⟩ = some (.slice a1 d.a.rows.length c1) := (unhide K) 2 (by simp)
  go_wp2_with fail
  refine (slotInForm_any d.a _ W (unhide H).a).mono ?_
  rintro e w1 ⟨rfl, hb1⟩
  clear m0 m1 m2
  have HB1 := hide (below_then (unhide HB) hb1)
  cases h1 : slotOk d.a
  · go_wp2_with fail
    go_ret
    exact ⟨ret_bool (by simp [diskOk, h1]), unhide HB1⟩
  have K1 := hide ((unhide K).on hb1)
  have H1 := hide ((unhide H).b.on hb1)
  clear hb1
  have m3 : w1.cell? ⟨w.heap.size, 3, none⟩ = some (.int .i64 d.b.num) := (unhide K1) 3 (by simp)
  have m4 : w1.cell? ⟨w.heap.size, 4, none⟩ = some (.int .i64 d.b.cnt) := (unhide K1) 4 (by simp)
  have m5 : w1.cell? ⟨w.heap.size, 5, none⟩ = some (.slice a2 d.b.rows.length c2) := (unhide K1) 5 (by simp)
  go_wp2_with fail
  refine (slotInForm_any d.b _ w1 (unhide H1)).mono ?_
  rintro e w2 ⟨rfl, hb2⟩
  clear m3 m4 m5
  have HB2 := hide (below_then (unhide HB1) hb2)
  cases h2 : slotOk d.b
  · go_wp2_with fail
    go_ret
    exact ⟨ret_bool (by simp [diskOk, h1, h2]), unhide HB2⟩
  have K2 := hide ((unhide K1).on hb2)
  clear hb2
  have m0 : w2.cell? ⟨w.heap.size, 0, none⟩ = some (.int .i64 d.a.num) := (unhide K2) 0 (by simp)
  have m3 : w2.cell? ⟨w.heap.size, 3, none⟩ = some (.int .i64 d.b.num) := (unhide K2) 3 (by simp)
  go_wp2_with (go_at_call 53; refine (areApart_any _ _ _).mono ?_; rintro e w' ⟨rfl, rfl⟩)
  go_ret
  exact ⟨ret_bool (by simp [diskOk, h1, h2]), unhide HB2⟩
end Go.Proofs.Ytocgfngcgekciaa
