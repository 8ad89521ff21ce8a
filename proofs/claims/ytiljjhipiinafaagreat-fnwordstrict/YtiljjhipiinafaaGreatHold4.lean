/- Lists in order: spec's l2Outs. -/
import Derived.Test.YtiljjhipiinafaaGreatHold3
import Derived.Deep.Cut
namespace Go.Proofs.YtiljjhipiinafaaGreat
open Go.RowKit
set_option linter.unusedVariables false
set_option linter.unusedSimpArgs false

set_option maxRecDepth 100000 in
set_option maxHeartbeats 3000000 in
theorem l2Outs_any (v : Value) (l : List OutV) (most : Int) (w : World) (h : RowsAt 5 w v (l.map outRow)) :
    Calls Tryz.prog 74 #[v, .int .i64 most] w fun e w' => e = .returned (.bool (inOrder outOk outLess l most)) ∧ Below w.heap.size w w' := by
  obtain ⟨ad, cap, hv, hlc, hm, hc⟩ := h
  rw [List.length_map] at hv hlc hm
  subst hv
  unfold maxLen at hm
  have HC := hide hc
  clear hc
  by_cases hmost : most < (l.length : Int)
  · rw [inOrder_len hmost]
    go_enter Tryz.func74, Tryz.ntmps74
    go_wp2_with fail
    go_ret
    exact ⟨rfl, Below.refl _ _⟩
  have hmo : (l.length : Int) ≤ most := by omega
  obtain ⟨R, hR⟩ : ∃ R, R = inOrder outOk outLess l most := ⟨_, rfl⟩
  rw [← hR]
  have HR := hide hR
  clear hR
  go_enter Tryz.func74, Tryz.ntmps74
  go_wp2_with fail
  go_loopw [5] (fun i wr => ∃ k : Nat, k ≤ l.length ∧ i = .int .i64 k ∧ Hid (∀ j (hj : j < l.length), j < k → outOk l[j] = true ∧ (∀ p (e : j = p + 1), outLess (l[p]'(by omega)) l[j] = true)) ∧ Below w.heap.size w wr) (fun i _ => l.length - (intOf i).toNat)
  case atStart => exact ⟨0, Nat.zero_le _, rfl, hide (fun j _ h => by omega), Below.refl _ _⟩
  case round =>
    obtain ⟨k, hk, rfl, HA, hb⟩ := hrel
    by_cases hlt : k < l.length
    · obtain ⟨b, off, had, hcc⟩ : ∃ b off, ad = some ⟨b, off, none⟩ ∧ ∀ k (hk : k < l.length) j, j < 5 → wr.cell? ⟨b, off + k * 5 + j, none⟩ = some (.int .i64 ((outRow l[k]).getD j 0)) := by
        rcases unhide HC with h | ⟨b, off, h1, h2⟩
        · rw [List.map_eq_nil_iff] at h; rw [h] at hlt; exact absurd hlt (Nat.not_lt_zero _)
        · refine ⟨b, off, h1, fun k hk j hj => cell_on hb ?_⟩
          have := h2 k (by rw [List.length_map]; exact hk) j hj
          rwa [List.getElem_map] at this
      subst had
      have hc2 := hcc k hlt
      have HNF := hide (fun h => (unhide HR).trans (inOrder_form (less := outLess) (most := most) hlt h))
      have HYF : Hid (outOk l[k] = true → (∀ p (e : k = p + 1), outLess (l[p]'(by omega)) l[k] = true) → ∀ j (hj : j < l.length), j < k + 1 → outOk l[j] = true ∧ (∀ p (e : j = p + 1), outLess (l[p]'(by omega)) l[j] = true)) := hide (fun h1 h2 j hj hjk => by
        by_cases e : j = k
        · subst e; exact ⟨h1, h2⟩
        · exact (unhide HA) j hj (by omega))
      obtain ⟨Y, hY⟩ : ∃ Y, Y = l[k] := ⟨_, rfl⟩
      rw [← hY] at hc2 HNF HYF
      have HYK := hide hY
      clear hY
      obtain ⟨y0, y1, y2, y3, y4⟩ := Y
      simp only [outRow] at hc2
      have hkI : (k : Int) < (l.length : Int) := by omega
      have hkn : (0 : Int) ≤ (k : Int) := by omega
      have c0 : wr.cell? ⟨b, off + k * 5, none⟩ = some (.int .i64 y0) := (by have := hc2 0 (by omega); simpa using this)
      have c1 : wr.cell? ⟨b, off + k * 5 + 1, none⟩ = some (.int .i64 y1) := (by have := hc2 1 (by omega); simpa using this)
      have c2 : wr.cell? ⟨b, off + k * 5 + 2, none⟩ = some (.int .i64 y2) := (by have := hc2 2 (by omega); simpa using this)
      have c3 : wr.cell? ⟨b, off + k * 5 + 3, none⟩ = some (.int .i64 y3) := (by have := hc2 3 (by omega); simpa using this)
      have c4 : wr.cell? ⟨b, off + k * 5 + 4, none⟩ = some (.int .i64 y4) := (by have := hc2 4 (by omega); simpa using this)
      have hbW : Below w.heap.size w (wr.alloc (.cells #[.int .i64 y0, .int .i64 y1, .int .i64 y2, .int .i64 y3, .int .i64 y4] 60)) := hb.alloc hb.size _
      have q20 : ∀ y : On (wr.alloc (.cells #[.int .i64 y0, .int .i64 y1, .int .i64 y2, .int .i64 y3, .int .i64 y4] 60)), y.y.cell? ⟨wr.heap.size, 0, none⟩ = some (.int .i64 y0) := fun y => cell_on y.h (by simp [go_sem])
      have q21 : ∀ y : On (wr.alloc (.cells #[.int .i64 y0, .int .i64 y1, .int .i64 y2, .int .i64 y3, .int .i64 y4] 60)), y.y.cell? ⟨wr.heap.size, 1, none⟩ = some (.int .i64 y1) := fun y => cell_on y.h (by simp [go_sem])
      have q22 : ∀ y : On (wr.alloc (.cells #[.int .i64 y0, .int .i64 y1, .int .i64 y2, .int .i64 y3, .int .i64 y4] 60)), y.y.cell? ⟨wr.heap.size, 2, none⟩ = some (.int .i64 y2) := fun y => cell_on y.h (by simp [go_sem])
      have q23 : ∀ y : On (wr.alloc (.cells #[.int .i64 y0, .int .i64 y1, .int .i64 y2, .int .i64 y3, .int .i64 y4] 60)), y.y.cell? ⟨wr.heap.size, 3, none⟩ = some (.int .i64 y3) := fun y => cell_on y.h (by simp [go_sem])
      have q24 : ∀ y : On (wr.alloc (.cells #[.int .i64 y0, .int .i64 y1, .int .i64 y2, .int .i64 y3, .int .i64 y4] 60)), y.y.cell? ⟨wr.heap.size, 4, none⟩ = some (.int .i64 y4) := fun y => cell_on y.h (by simp [go_sem])
      cases g0 : inR 0 40 y0
      · have hok : outOk ⟨y0, y1, y2, y3, y4⟩ = false := by simp [outOk, g0]
        have HOK := hide hok
        clear hok hc2 hcc
        go_upto_region 7 with fail
        generalize wr.alloc (.cells #[.int .i64 y0, .int .i64 y1, .int .i64 y2, .int .i64 y3, .int .i64 y4] 60) = W at *
        have hne : Nonempty (On W) := ⟨⟨W, Below.refl _ _⟩⟩
        refine wp_region_on (by kernel_rfl) (by kernel_rfl) ?_
        repeat (first | go_big_quiet_step ((first | (go_at_call 70; exact calls_on_same (l6In_any _ _ _ _)) | (go_at_call 88; exact calls_on_same (l1Proc_any _ _)) | (go_at_call 89; exact calls_on_same (l1Num_any _ _)))) | quiet_step ((first | (go_at_call 70; exact calls_on_same (l6In_any _ _ _ _)) | (go_at_call 88; exact calls_on_same (l1Proc_any _ _)) | (go_at_call 89; exact calls_on_same (l1Num_any _ _)))))
        refine wpQuiet_nil ?_
        intro _ hw'
        obtain ⟨nq, hw''⟩ := hw'
        subst hw''
        go_wp2_with fail
        go_ret
        exact ⟨ret_bool ((unhide HNF) (unhide HOK)).symm, below_then hbW nq.h⟩
      · cases g1 : inR 0 3 y1
        · have hok : outOk ⟨y0, y1, y2, y3, y4⟩ = false := by simp [outOk, g0, g1]
          have HOK := hide hok
          clear hok hc2 hcc
          go_upto_region 7 with fail
          generalize wr.alloc (.cells #[.int .i64 y0, .int .i64 y1, .int .i64 y2, .int .i64 y3, .int .i64 y4] 60) = W at *
          have hne : Nonempty (On W) := ⟨⟨W, Below.refl _ _⟩⟩
          refine wp_region_on (by kernel_rfl) (by kernel_rfl) ?_
          repeat (first | go_big_quiet_step ((first | (go_at_call 70; exact calls_on_same (l6In_any _ _ _ _)) | (go_at_call 88; exact calls_on_same (l1Proc_any _ _)) | (go_at_call 89; exact calls_on_same (l1Num_any _ _)))) | quiet_step ((first | (go_at_call 70; exact calls_on_same (l6In_any _ _ _ _)) | (go_at_call 88; exact calls_on_same (l1Proc_any _ _)) | (go_at_call 89; exact calls_on_same (l1Num_any _ _)))))
          refine wpQuiet_nil ?_
          intro _ hw'
          obtain ⟨nq, hw''⟩ := hw'
          subst hw''
          go_wp2_with fail
          go_ret
          exact ⟨ret_bool ((unhide HNF) (unhide HOK)).symm, below_then hbW nq.h⟩
        · cases g2 : inR 0 11 y2
          · have hok : outOk ⟨y0, y1, y2, y3, y4⟩ = false := by simp [outOk, g0, g1, g2]
            have HOK := hide hok
            clear hok hc2 hcc
            go_upto_region 7 with fail
            generalize wr.alloc (.cells #[.int .i64 y0, .int .i64 y1, .int .i64 y2, .int .i64 y3, .int .i64 y4] 60) = W at *
            have hne : Nonempty (On W) := ⟨⟨W, Below.refl _ _⟩⟩
            refine wp_region_on (by kernel_rfl) (by kernel_rfl) ?_
            repeat (first | go_big_quiet_step ((first | (go_at_call 70; exact calls_on_same (l6In_any _ _ _ _)) | (go_at_call 88; exact calls_on_same (l1Proc_any _ _)) | (go_at_call 89; exact calls_on_same (l1Num_any _ _)))) | quiet_step ((first | (go_at_call 70; exact calls_on_same (l6In_any _ _ _ _)) | (go_at_call 88; exact calls_on_same (l1Proc_any _ _)) | (go_at_call 89; exact calls_on_same (l1Num_any _ _)))))
            refine wpQuiet_nil ?_
            intro _ hw'
            obtain ⟨nq, hw''⟩ := hw'
            subst hw''
            go_wp2_with fail
            go_ret
            exact ⟨ret_bool ((unhide HNF) (unhide HOK)).symm, below_then hbW nq.h⟩
          · cases g3 : inR 0 1 y3
            · have hok : outOk ⟨y0, y1, y2, y3, y4⟩ = false := by simp [outOk, g0, g1, g2, g3]
              have HOK := hide hok
              clear hok hc2 hcc
              go_upto_region 7 with fail
              generalize wr.alloc (.cells #[.int .i64 y0, .int .i64 y1, .int .i64 y2, .int .i64 y3, .int .i64 y4] 60) = W at *
              have hne : Nonempty (On W) := ⟨⟨W, Below.refl _ _⟩⟩
              refine wp_region_on (by kernel_rfl) (by kernel_rfl) ?_
              repeat (first | go_big_quiet_step ((first | (go_at_call 70; exact calls_on_same (l6In_any _ _ _ _)) | (go_at_call 88; exact calls_on_same (l1Proc_any _ _)) | (go_at_call 89; exact calls_on_same (l1Num_any _ _)))) | quiet_step ((first | (go_at_call 70; exact calls_on_same (l6In_any _ _ _ _)) | (go_at_call 88; exact calls_on_same (l1Proc_any _ _)) | (go_at_call 89; exact calls_on_same (l1Num_any _ _)))))
              refine wpQuiet_nil ?_
              intro _ hw'
              obtain ⟨nq, hw''⟩ := hw'
              subst hw''
              go_wp2_with fail
              go_ret
              exact ⟨ret_bool ((unhide HNF) (unhide HOK)).symm, below_then hbW nq.h⟩
            · cases g4 : inR 0 999 y4
              · have hok : outOk ⟨y0, y1, y2, y3, y4⟩ = false := by simp [outOk, g0, g1, g2, g3, g4]
                have HOK := hide hok
                clear hok hc2 hcc
                go_upto_region 7 with fail
                generalize wr.alloc (.cells #[.int .i64 y0, .int .i64 y1, .int .i64 y2, .int .i64 y3, .int .i64 y4] 60) = W at *
                have hne : Nonempty (On W) := ⟨⟨W, Below.refl _ _⟩⟩
                refine wp_region_on (by kernel_rfl) (by kernel_rfl) ?_
                repeat (first | go_big_quiet_step ((first | (go_at_call 70; exact calls_on_same (l6In_any _ _ _ _)) | (go_at_call 88; exact calls_on_same (l1Proc_any _ _)) | (go_at_call 89; exact calls_on_same (l1Num_any _ _)))) | quiet_step ((first | (go_at_call 70; exact calls_on_same (l6In_any _ _ _ _)) | (go_at_call 88; exact calls_on_same (l1Proc_any _ _)) | (go_at_call 89; exact calls_on_same (l1Num_any _ _)))))
                refine wpQuiet_nil ?_
                intro _ hw'
                obtain ⟨nq, hw''⟩ := hw'
                subst hw''
                go_wp2_with fail
                go_ret
                exact ⟨ret_bool ((unhide HNF) (unhide HOK)).symm, below_then hbW nq.h⟩
              · have hok : outOk ⟨y0, y1, y2, y3, y4⟩ = true := by simp [outOk, g0, g1, g2, g3, g4]
                have HOK := hide hok
                clear hok
                rcases Nat.eq_zero_or_pos k with hk0 | hkp
                · subst hk0
                  clear hc2 hcc
                  simp only [Nat.zero_mul, Nat.add_zero] at c0 c1 c2 c3 c4
                  go_upto_region 7 with fail
                  generalize wr.alloc (.cells #[.int .i64 y0, .int .i64 y1, .int .i64 y2, .int .i64 y3, .int .i64 y4] 60) = W at *
                  have hne : Nonempty (On W) := ⟨⟨W, Below.refl _ _⟩⟩
                  refine wp_region_on (by kernel_rfl) (by kernel_rfl) ?_
                  repeat (first | go_big_quiet_step ((first | (go_at_call 70; exact calls_on_same (l6In_any _ _ _ _)) | (go_at_call 88; exact calls_on_same (l1Proc_any _ _)) | (go_at_call 89; exact calls_on_same (l1Num_any _ _)))) | quiet_step ((first | (go_at_call 70; exact calls_on_same (l6In_any _ _ _ _)) | (go_at_call 88; exact calls_on_same (l1Proc_any _ _)) | (go_at_call 89; exact calls_on_same (l1Num_any _ _)))))
                  refine wpQuiet_nil ?_
                  intro _ hw'
                  obtain ⟨nq, hw''⟩ := hw'
                  subst hw''
                  go_wp2_with fail
                  go_roundw
                  case rel => exact ⟨1, by omega, by go_num, hide ((unhide HYF) (unhide HOK) (fun p e => absurd e (by omega))), below_then hbW nq.h⟩
                  case measure => simp [intOf]; omega
                · obtain ⟨p, rfl⟩ : ∃ p, k = p + 1 := ⟨k - 1, by omega⟩
                  have hp' : p < l.length := by omega
                  have hc1 := hcc p hp'
                  have HNA : Hid (outLess (l[p]'hp') ⟨y0, y1, y2, y3, y4⟩ = false → R = false) := hide (fun h => (unhide HR).trans (by rw [unhide HYK] at h; exact inOrder_asc hlt h))
                  have HYA : Hid (outLess (l[p]'hp') ⟨y0, y1, y2, y3, y4⟩ = true → ∀ p' (e : p + 1 = p' + 1), outLess (l[p']'(by omega)) ⟨y0, y1, y2, y3, y4⟩ = true) := hide (fun h p' e => by
                    obtain rfl : p' = p := by omega
                    exact h)
                  obtain ⟨X, hX⟩ : ∃ X, X = l[p]'hp' := ⟨_, rfl⟩
                  rw [← hX] at hc1 HNA HYA
                  clear hX
                  obtain ⟨x0, x1, x2, x3, x4⟩ := X
                  simp only [outRow] at hc1
                  have hm7 : (0 : Int) < (p : Int) + 1 := by omega
                  have hpl : (p : Int) < (l.length : Int) := by omega
                  have hpk : (p : Int) + 1 < (l.length : Int) := by omega
                  clear hkp
                  have q10 : ∀ y : On (wr.alloc (.cells #[.int .i64 y0, .int .i64 y1, .int .i64 y2, .int .i64 y3, .int .i64 y4] 60)), y.y.cell? ⟨b, off + p * 5, none⟩ = some (.int .i64 x0) := fun y => cell_on y.h (cell_on ((Below.refl wr.heap.size wr).alloc (Nat.le_refl _) _) (by have := hc1 0 (by omega); simpa using this))
                  have q11 : ∀ y : On (wr.alloc (.cells #[.int .i64 y0, .int .i64 y1, .int .i64 y2, .int .i64 y3, .int .i64 y4] 60)), y.y.cell? ⟨b, off + p * 5 + 1, none⟩ = some (.int .i64 x1) := fun y => cell_on y.h (cell_on ((Below.refl wr.heap.size wr).alloc (Nat.le_refl _) _) (by have := hc1 1 (by omega); simpa using this))
                  have q12 : ∀ y : On (wr.alloc (.cells #[.int .i64 y0, .int .i64 y1, .int .i64 y2, .int .i64 y3, .int .i64 y4] 60)), y.y.cell? ⟨b, off + p * 5 + 2, none⟩ = some (.int .i64 x2) := fun y => cell_on y.h (cell_on ((Below.refl wr.heap.size wr).alloc (Nat.le_refl _) _) (by have := hc1 2 (by omega); simpa using this))
                  have q13 : ∀ y : On (wr.alloc (.cells #[.int .i64 y0, .int .i64 y1, .int .i64 y2, .int .i64 y3, .int .i64 y4] 60)), y.y.cell? ⟨b, off + p * 5 + 3, none⟩ = some (.int .i64 x3) := fun y => cell_on y.h (cell_on ((Below.refl wr.heap.size wr).alloc (Nat.le_refl _) _) (by have := hc1 3 (by omega); simpa using this))
                  have q14 : ∀ y : On (wr.alloc (.cells #[.int .i64 y0, .int .i64 y1, .int .i64 y2, .int .i64 y3, .int .i64 y4] 60)), y.y.cell? ⟨b, off + p * 5 + 4, none⟩ = some (.int .i64 x4) := fun y => cell_on y.h (cell_on ((Below.refl wr.heap.size wr).alloc (Nat.le_refl _) _) (by have := hc1 4 (by omega); simpa using this))
                  clear hc1 hc2 hcc
                  cases hle : outLess ⟨x0, x1, x2, x3, x4⟩ ⟨y0, y1, y2, y3, y4⟩
                  · have kle : ∀ w : World, Calls Tryz.prog 77 #[outAgg ⟨x0, x1, x2, x3, x4⟩, outAgg ⟨y0, y1, y2, y3, y4⟩] w fun r w' => r = .returned (.bool false) ∧ Below w.heap.size w w' := fun w => by have := specOutLess_any ⟨x0, x1, x2, x3, x4⟩ ⟨y0, y1, y2, y3, y4⟩ w; rwa [hle] at this
                    go_upto_region 7 with fail
                    generalize wr.alloc (.cells #[.int .i64 y0, .int .i64 y1, .int .i64 y2, .int .i64 y3, .int .i64 y4] 60) = W at *
                    have hne : Nonempty (On W) := ⟨⟨W, Below.refl _ _⟩⟩
                    refine wp_region_on (by kernel_rfl) (by kernel_rfl) ?_
                    repeat (first | go_big_quiet_step ((first | (go_at_call 70; exact calls_on_same (l6In_any _ _ _ _)) | (go_at_call 88; exact calls_on_same (l1Proc_any _ _)) | (go_at_call 89; exact calls_on_same (l1Num_any _ _)) | (go_at_call 77; exact calls_on (kle _)))) | quiet_step ((first | (go_at_call 70; exact calls_on_same (l6In_any _ _ _ _)) | (go_at_call 88; exact calls_on_same (l1Proc_any _ _)) | (go_at_call 89; exact calls_on_same (l1Num_any _ _)) | (go_at_call 77; exact calls_on (kle _)))))
                    refine wpQuiet_nil ?_
                    intro _ hw'
                    obtain ⟨nq, hw''⟩ := hw'
                    subst hw''
                    go_wp2_with fail
                    go_ret
                    exact ⟨ret_bool ((unhide HNA) hle).symm, below_then hbW nq.h⟩
                  · have kle : ∀ w : World, Calls Tryz.prog 77 #[outAgg ⟨x0, x1, x2, x3, x4⟩, outAgg ⟨y0, y1, y2, y3, y4⟩] w fun r w' => r = .returned (.bool true) ∧ Below w.heap.size w w' := fun w => by have := specOutLess_any ⟨x0, x1, x2, x3, x4⟩ ⟨y0, y1, y2, y3, y4⟩ w; rwa [hle] at this
                    go_upto_region 7 with fail
                    generalize wr.alloc (.cells #[.int .i64 y0, .int .i64 y1, .int .i64 y2, .int .i64 y3, .int .i64 y4] 60) = W at *
                    have hne : Nonempty (On W) := ⟨⟨W, Below.refl _ _⟩⟩
                    refine wp_region_on (by kernel_rfl) (by kernel_rfl) ?_
                    repeat (first | go_big_quiet_step ((first | (go_at_call 70; exact calls_on_same (l6In_any _ _ _ _)) | (go_at_call 88; exact calls_on_same (l1Proc_any _ _)) | (go_at_call 89; exact calls_on_same (l1Num_any _ _)) | (go_at_call 77; exact calls_on (kle _)))) | quiet_step ((first | (go_at_call 70; exact calls_on_same (l6In_any _ _ _ _)) | (go_at_call 88; exact calls_on_same (l1Proc_any _ _)) | (go_at_call 89; exact calls_on_same (l1Num_any _ _)) | (go_at_call 77; exact calls_on (kle _)))))
                    refine wpQuiet_nil ?_
                    intro _ hw'
                    obtain ⟨nq, hw''⟩ := hw'
                    subst hw''
                    go_wp2_with fail
                    go_roundw
                    case rel => exact ⟨p + 1 + 1, by omega, by go_num, hide ((unhide HYF) (unhide HOK) ((unhide HYA) hle)), below_then hbW nq.h⟩
                    case measure => simp [intOf]; omega
    · have hke : k = l.length := by omega
      have HFIN := hide ((unhide HR).trans (inOrder_yes hmo (fun j hj => (unhide HA) j hj (by omega))))
      clear hke
      have hkn : ¬ (k : Int) < (l.length : Int) := by omega
      go_wp2_with fail
      go_ret
      exact ⟨ret_bool (unhide HFIN).symm, hb⟩

end Go.Proofs.YtiljjhipiinafaaGreat
