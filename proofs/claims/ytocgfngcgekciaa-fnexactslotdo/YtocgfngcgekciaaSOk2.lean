/- What is ok by the specification: l31Nums, l31SlotOk, SlotOk. -/
import Derived.Test.YtocgfngcgekciaaSOk
import Derived.Test.YtocgfngcgekciaaHeld
import Derived.BigQuiet
namespace Go.Proofs.Ytocgfngcgekciaa
open Go.RowKit
set_option linter.unusedVariables false
set_option linter.unusedSimpArgs false


set_option maxRecDepth 100000 in
set_option maxHeartbeats 1000000 in
theorem l31Nums_any (v : Value) (zs : List Int) (w : World) (h : NumsAt w v zs) :
    Calls Try.prog 47 #[v] w fun e w' => e = .returned (.bool (zs.all (inR (-1) 9999))) ∧ Below w.heap.size w w' := by
  obtain ⟨ad, cap, e, hlc, hm, hc⟩ := h
  rw [List.length_map] at e hlc hm
  subst e
  unfold maxLen at hm
  have HC := hide hc
  clear hc
  go_enter Try.func47, Try.ntmps47
  go_wp2_with fail
  go_loopw [3] (fun i wr => ∃ k : Nat, k ≤ zs.length ∧ i = .int .i64 k ∧ Hid ((zs.take k).all (inR (-1) 9999) = true) ∧ Below w.heap.size w wr) (fun i _ => zs.length - (intOf i).toNat)
  case atStart => exact ⟨0, Nat.zero_le _, rfl, hide (by simp), Below.refl _ _⟩
  case round =>
    obtain ⟨k, hk, rfl, HA, hb⟩ := hrel
    by_cases hlt : k < zs.length
    · obtain ⟨b, off, had, p1⟩ : ∃ b off, ad = some ⟨b, off, none⟩ ∧ wr.cell? ⟨b, off + k, none⟩ = some (.int .i64 zs[k]) := by
        rcases unhide HC with h | ⟨b, off, h1, h2⟩
        · have : zs = [] := by simpa using h
          rw [this] at hlt; exact absurd hlt (Nat.not_lt_zero _)
        · have h3 := cell_on hb (h2 k (by simpa using hlt) 0 (by omega))
          simp at h3
          exact ⟨b, off, h1, h3⟩
      have hkI : (k : Int) < (zs.length : Int) := by omega
      have hk0 : (0 : Int) ≤ (k : Int) := by omega
      subst had
      have HY := hide (fun h => all_take_more (inR (-1) 9999) zs k hlt (unhide HA) h)
      have HNO := hide (fun h => all_false_at (inR (-1) 9999) zs k hlt h)
      generalize zs[k] = z at *
      have q1 : ∀ y : On wr, y.y.cell? ⟨b, off + k, none⟩ = some (.int .i64 z) := fun y => cell_on y.h p1
      clear p1
      obtain ⟨ok, hok⟩ : ∃ b, b = inR (-1) 9999 z := ⟨_, rfl⟩
      have HOK := hide hok
      clear hok
      go_wp2_with fail
      have hne : Nonempty (On wr) := ⟨⟨wr, Below.refl _ _⟩⟩
      refine wp_region_on (by kernel_rfl) (by kernel_rfl) ?_
      repeat (first | go_big_quiet_step ((first | (go_at_call 45; exact calls_on_same (l22Max_any _)) | (go_at_call 71; exact calls_on_same (calls_as (l6In_any z (-1) 9999 _) (unhide HOK))))) | quiet_step ((first | (go_at_call 45; exact calls_on_same (l22Max_any _)) | (go_at_call 71; exact calls_on_same (calls_as (l6In_any z (-1) 9999 _) (unhide HOK))))))
      refine wpQuiet_nil ?_
      intro _ hw'
      obtain ⟨nq, hw''⟩ := hw'
      subst hw''
      cases ok
      · go_wp2_with fail
        go_ret
        exact ⟨ret_bool ((unhide HNO) (unhide HOK).symm).symm, below_then hb nq.h⟩
      · go_wp2_with fail
        go_roundw
        case rel => exact ⟨k + 1, by omega, by go_num, hide ((unhide HY) (unhide HOK).symm), below_then hb nq.h⟩
        case measure => (simp [intOf]; try omega)
    · have hke : k = zs.length := by omega
      subst hke
      go_wp2_with fail
      go_ret
      exact ⟨ret_bool (by have := unhide HA; rw [List.take_length] at this; exact this.symm), hb⟩

set_option maxRecDepth 100000 in
set_option maxHeartbeats 2000000 in
theorem l31SlotOk_any (s : SlotV) (v : Value) (w : World) (h : GridAt w v s.rows) :
    Calls Try.prog 54 #[slotAgg s v] w fun e w' => e = .returned (.bool (slotOk s)) ∧ Below w.heap.size w w' := by
  have hm := h.len
  obtain ⟨a1, c1, rfl⟩ := h.sliced
  have hb0 : Below w.heap.size w (w.alloc (.cells #[.int .i64 s.num, .int .i64 s.cnt, .slice a1 s.rows.length c1] 25)) := (Below.refl _ _).alloc (Nat.le_refl _) _
  have K := hide (cellsAt_new w (slotCells s (.slice a1 s.rows.length c1)) 25)
  have H := hide (h.on hb0)
  have HB := hide hb0
  unfold maxLen at hm
  clear h hb0
  go_enter Try.func54, Try.ntmps54
  go_upto_region 1 with fail
  generalize (w.alloc (.cells #[.int .i64 s.num, .int .i64 s.cnt, .slice a1 s.rows.length c1] 25)) = W at *
  generalize hq : w.heap.size = q at *
  obtain ⟨n1, hn1⟩ : ∃ b, b = inR 0 9999 s.num := ⟨_, rfl⟩
  have HN1 := hide hn1
  have hne : Nonempty (On W) := ⟨⟨W, Below.refl _ _⟩⟩
  have q0 : ∀ y : On W, y.y.cell? ⟨q, 0, none⟩ = some (.int .i64 s.num) := fun y => cell_on y.h ((unhide K) 0 (by simp))
  have q2 : ∀ y : On W, y.y.cell? ⟨q, 2, none⟩ = some (.slice a1 s.rows.length c1) := fun y => cell_on y.h ((unhide K) 2 (by simp))
  obtain ⟨ne, hne2⟩ : ∃ b, b = ((s.rows.length : Int) != 160) := ⟨_, rfl⟩
  have e160 : ((s.rows.length : Int) != 160) = ne := hne2.symm
  have HE : Hid (ne = !decide (s.rows.length = 160)) := hide (by rw [hne2, show (160 : Int) = ((160 : Nat) : Int) from rfl, len_not])
  clear hn1 hne2
  cases n1
  · refine wp_region_on (by kernel_rfl) (by kernel_rfl) ?_
    repeat (first | go_big_quiet_step ((first | (go_at_call 45; exact calls_on_same (l22Max_any _)) | (go_at_call 71; exact calls_on_same (calls_as (l6In_any s.num 0 9999 _) (unhide HN1))))) | quiet_step ((first | (go_at_call 45; exact calls_on_same (l22Max_any _)) | (go_at_call 71; exact calls_on_same (calls_as (l6In_any s.num 0 9999 _) (unhide HN1))))))
    refine wpQuiet_nil ?_
    intro _ hw'
    obtain ⟨nq, hw''⟩ := hw'
    subst hw''
    go_wp2_with fail
    go_ret
    exact ⟨ret_bool (by simp [slotOk, headOk, ← unhide HN1]), below_then (hq ▸ unhide HB) nq.h⟩
  cases ne
  rotate_left
  · refine wp_region_on (by kernel_rfl) (by kernel_rfl) ?_
    repeat (first | go_big_quiet_step ((first | (go_at_call 45; exact calls_on_same (l22Max_any _)) | (go_at_call 71; exact calls_on_same (calls_as (l6In_any s.num 0 9999 _) (unhide HN1))))) | quiet_step ((first | (go_at_call 45; exact calls_on_same (l22Max_any _)) | (go_at_call 71; exact calls_on_same (calls_as (l6In_any s.num 0 9999 _) (unhide HN1))))))
    refine wpQuiet_nil ?_
    intro _ hw'
    obtain ⟨nq, hw''⟩ := hw'
    subst hw''
    go_wp2_with fail
    go_ret
    refine ⟨ret_bool ?_, below_then (hq ▸ unhide HB) nq.h⟩
    have h160 : s.rows.length ≠ 160 := by have := unhide HE; simpa using this
    simp [slotOk, h160]
  refine wp_region_on (by kernel_rfl) (by kernel_rfl) ?_
  repeat (first | go_big_quiet_step ((first | (go_at_call 45; exact calls_on_same (l22Max_any _)) | (go_at_call 71; exact calls_on_same (calls_as (l6In_any s.num 0 9999 _) (unhide HN1))))) | quiet_step ((first | (go_at_call 45; exact calls_on_same (l22Max_any _)) | (go_at_call 71; exact calls_on_same (calls_as (l6In_any s.num 0 9999 _) (unhide HN1))))))
  refine wpQuiet_nil ?_
  intro _ hw'
  obtain ⟨nq, hw''⟩ := hw'
  subst hw''
  have HBq : Hid (Below w.heap.size w nq.y) := hide (below_then (hq ▸ unhide HB) nq.h)
  replace K := hide ((unhide K).on nq.h)
  replace H := hide ((unhide H).on nq.h)
  have HS1 : Hid (slotOk s = (inR 0 1280 s.cnt && s.rows.all sectorOk)) := hide (by
    have h160 : s.rows.length = 160 := by have := unhide HE; simpa using this
    have hn : inR 0 9999 s.num = true := (unhide HN1).symm
    simp [slotOk, headOk, h160, hn])
  clear q0 q2 e160 HB hne
  generalize nq.y = W2 at *
  go_wp2_with fail
  go_loopw [3] (fun i wr => ∃ k : Nat, k ≤ s.rows.length ∧ i = .int .i64 k ∧ Hid ((s.rows.take k).all sectorOk = true) ∧ Hid (Below W2.heap.size W2 wr)) (fun i _ => s.rows.length - (intOf i).toNat)
  case atStart => exact ⟨0, Nat.zero_le _, rfl, hide (by simp), hide (Below.refl _ _)⟩
  case round =>
    obtain ⟨k, hk, rfl, HA, HBR⟩ := hrel
    have m2 : wr.cell? ⟨q, 2, none⟩ = some (.slice a1 s.rows.length c1) := ((unhide K).on (unhide HBR)) 2 (by simp)
    by_cases hlt : k < s.rows.length
    · obtain ⟨b, off, vd, had, p1, hp⟩ := ((unhide H).on (unhide HBR)).row hlt
      have hkI : (k : Int) < (s.rows.length : Int) := by omega
      have hk0 : (0 : Int) ≤ (k : Int) := by omega
      subst had
      have HP := hide hp
      obtain ⟨ea, ec, rfl⟩ := hp.sliced
      have HY := hide (fun h => all_take_more sectorOk s.rows k hlt (unhide HA) h)
      have HNO := hide (fun h => all_false_at sectorOk s.rows k hlt h)
      clear hp
      generalize s.rows[k] = z at *
      by_cases h8 : z.length ≤ 8
      · have e8 : ¬ (8 : Int) < (z.length : Int) := by omega
        have HR := hide (show sectorOk z = z.all (inR (-1) 9999) by simp [sectorOk, h8])
        clear h8
        go_wp2_with fail
        refine (l31Nums_any _ z wr (unhide HP)).mono ?_
        rintro e w3 ⟨rfl, hb3⟩
        clear m2 p1
        have HB3 := hide (below_then (unhide HBR) hb3)
        clear hb3
        cases hz : z.all (inR (-1) 9999)
        · go_wp2_with fail
          go_ret
          refine ⟨ret_bool ?_, below_then (unhide HBq) (unhide HB3)⟩
          rw [unhide HS1, (unhide HNO) ((unhide HR).trans hz)]
          simp
        · go_wp2_with fail
          go_roundw
          case rel => exact ⟨k + 1, by omega, by go_num, hide ((unhide HY) ((unhide HR).trans hz)), HB3⟩
          case measure => (simp [intOf]; try omega)
      · have e8 : (8 : Int) < (z.length : Int) := by omega
        have HR := hide (show sectorOk z = false by simp [sectorOk, h8])
        clear h8
        go_wp2_with fail
        go_ret
        refine ⟨ret_bool ?_, below_then (unhide HBq) (unhide HBR)⟩
        rw [unhide HS1, (unhide HNO) (unhide HR)]
        simp
    · have hke : k = s.rows.length := by omega
      subst hke
      have m1 : wr.cell? ⟨q, 1, none⟩ = some (.int .i64 s.cnt) := ((unhide K).on (unhide HBR)) 1 (by simp)
      go_wp2_with (go_at_call 71; refine (l6In_any _ _ _ _).mono ?_; rintro e w' ⟨rfl, rfl⟩)
      go_ret
      refine ⟨ret_bool ?_, below_then (unhide HBq) (unhide HBR)⟩
      have := unhide HA
      rw [List.take_length] at this
      rw [unhide HS1, this, Bool.and_true]

set_option maxRecDepth 100000 in
set_option maxHeartbeats 1000000 in
theorem specSlotOk_any (d : DiskV) (va vb : Value) (w : World) (h : DiskAt w d va vb) :
    Calls Try.prog 17 #[diskAgg d va vb] w fun e w' => e = .returned (.bool (diskOk d)) ∧ Below w.heap.size w w' := by
  obtain ⟨a1, c1, rfl⟩ := h.a.sliced
  obtain ⟨a2, c2, rfl⟩ := h.b.sliced
  have hb0 : Below w.heap.size w (w.alloc (.cells (diskCells d (.slice a1 d.a.rows.length c1) (.slice a2 d.b.rows.length c2)).toArray 27)) := (Below.refl _ _).alloc (Nat.le_refl _) _
  have K := hide (cellsAt_new w (diskCells d (.slice a1 d.a.rows.length c1) (.slice a2 d.b.rows.length c2)) 27)
  have H := hide (h.on hb0)
  have HB := hide hb0
  clear h hb0
  go_enter Try.func17, Try.ntmps17
  go_upto_region 1 with fail
  change Code.wp _ _ _ _ (w.alloc (.cells (diskCells d (.slice a1 d.a.rows.length c1) (.slice a2 d.b.rows.length c2)).toArray 27))
  generalize (w.alloc (.cells (diskCells d (.slice a1 d.a.rows.length c1) (.slice a2 d.b.rows.length c2)).toArray 27)) = W at *
  have m0 : W.cell? ⟨w.heap.size, 0, none⟩ = some (.int .i64 d.a.num) := (unhide K) 0 (by simp)
  have m1 : W.cell? ⟨w.heap.size, 1, none⟩ = some (.int .i64 d.a.cnt) := (unhide K) 1 (by simp)
  have m2 : W.cell? ⟨w.heap.size, 2, none⟩ = some (.slice a1 d.a.rows.length c1) := (unhide K) 2 (by simp)
  go_wp2_with fail
  refine (l31SlotOk_any d.a _ W (unhide H).a).mono ?_
  rintro e w1 ⟨rfl, hb1⟩
  clear m0 m1 m2
  have HB1 := hide (below_then (unhide HB) hb1)
  cases h1 : slotOk d.a
  · go_wp2_with fail
    go_ret
    exact ⟨ret_bool (by simp [diskOk, h1]), unhide HB1⟩
  have K1 := hide ((unhide K).on hb1)
  have H1 := hide ((unhide H).b.on hb1)
  clear hb1
  have m3 : w1.cell? ⟨w.heap.size, 3, none⟩ = some (.int .i64 d.b.num) := (unhide K1) 3 (by simp)
  have m4 : w1.cell? ⟨w.heap.size, 4, none⟩ = some (.int .i64 d.b.cnt) := (unhide K1) 4 (by simp)
  have m5 : w1.cell? ⟨w.heap.size, 5, none⟩ = some (.slice a2 d.b.rows.length c2) := (unhide K1) 5 (by simp)
  go_wp2_with fail
  refine (l31SlotOk_any d.b _ w1 (unhide H1)).mono ?_
  rintro e w2 ⟨rfl, hb2⟩
  clear m3 m4 m5
  have HB2 := hide (below_then (unhide HB1) hb2)
  cases h2 : slotOk d.b
  · go_wp2_with fail
    go_ret
    exact ⟨ret_bool (by simp [diskOk, h1, h2]), unhide HB2⟩
  have K2 := hide ((unhide K1).on hb2)
  clear hb2
  have m0 : w2.cell? ⟨w.heap.size, 0, none⟩ = some (.int .i64 d.a.num) := (unhide K2) 0 (by simp)
  have m3 : w2.cell? ⟨w.heap.size, 3, none⟩ = some (.int .i64 d.b.num) := (unhide K2) 3 (by simp)
  have HD : Hid (diskOk d = apartB d.a.num d.b.num) := hide (by simp [diskOk, h1, h2])
  by_cases hab : d.a.num = d.b.num
  · have e1 : (d.a.num != d.b.num) = false := by simp [hab]
    have e2 : (d.a.num == 0) = decide (d.a.num = 0) := by rw [Bool.eq_iff_iff]; simp
    have HR := hide (show apartB d.a.num d.b.num = decide (d.a.num = 0) by simp [apartB, hab])
    clear hab
    generalize decide (d.a.num = 0) = r at *
    go_wp2_with fail
    go_ret
    exact ⟨ret_bool ((unhide HD).trans (unhide HR)).symm, unhide HB2⟩
  · have e1 : (d.a.num != d.b.num) = true := by simp [hab]
    have HR := hide (show apartB d.a.num d.b.num = true by simp [apartB, hab])
    clear hab
    go_wp2_with fail
    go_ret
    exact ⟨ret_bool ((unhide HD).trans (unhide HR)).symm, unhide HB2⟩
end Go.Proofs.Ytocgfngcgekciaa
