/- slices.Grow of none, slices.Concat of lists of numbers. -/
import Derived.Test.YtocgfngcgekciaaGrid3
import Derived.Test.YtocgfngcgekciaaSOk
import Derived.Lib.AppendZeros
import Derived.LoopTactic
namespace Go.Proofs.Ytocgfngcgekciaa
open Go.RowKit
set_option linter.unusedVariables false
set_option linter.unusedSimpArgs false


set_option maxRecDepth 100000 in
set_option maxHeartbeats 1000000 in
theorem grow_any (n : Nat) (w : World) (hn : n ≤ 1048576) :
    Calls Try.prog 79 #[.slice none 0 0, .int .i64 (n : Int)] w fun e w' => ∃ a c, e = .returned (.slice a 0 c) ∧ w'.ownsRow w.heap.size 3 1 (.slice a 0 c) 0 [] ∧ Below w.heap.size w w' := by
  obtain ⟨i7, hi7, hz0, hz1, hz2⟩ := infoT_parts info_cpInt
  by_cases h0 : n = 0
  · subst h0
    go_enter Try.func79, Try.ntmps79
    go_wp2
    go_ret
    exact ⟨none, 0, rfl, World.ownsRow_nil _ _ _ _, Below.refl _ _⟩
  have h0n : 0 < n := by omega
  have hI : (0 : Int) < (n : Int) := by omega
  have hI0 : ¬ (n : Int) < 0 := by omega
  have hrun := Lib.run_append_nil_zeros (P := Try.prog) w 28 3 28 3 i7 (.int .i64 0) .i64 .i64 slice_cpInt Try.underlying3 hi7 hz0 n h0n (by omega) (by omega) (by rw [hz2]; omega)
  have hge := grownCap_ge w n 0 3
  have hcm := grownCap_le_maxLen w n 0 3 (by unfold maxLen; omega)
  have hown := World.ownsRow_made (base := w.heap.size) (e := 3) (size := 1) w.drew (Builtin.zeroCells (Value.int .i64 0).cells n ++ Builtin.zeroCells (Value.int .i64 0).cells (grownCap w n 0 3 - n)) (grownCap w n 0 3) (by simp) hcm (by
    simp only [Array.size_append, size_zeroCells, Value.cells]
    show n * 1 + (grownCap w n 0 3 - n) * 1 = grownCap w n 0 3 * 1
    omega)
  have HO := hide hown
  have HB := hide (((Below.refl w.heap.size w).drew).alloc (Nat.le_refl _) (.cells (Builtin.zeroCells (Value.int .i64 0).cells n ++ Builtin.zeroCells (Value.int .i64 0).cells (grownCap w n 0 3 - n)) 3))
  have HRUN := hide hrun
  clear hown hrun
  go_enter Try.func79, Try.ntmps79
  go_wp2_with (at_builtin; refine Lib.wpList_append_run _ rfl _ _ _ _ rfl _ _ rfl rfl _ _ (unhide HRUN) ?_)
  go_ret
  exact ⟨_, _, rfl, unhide HO, unhide HB⟩

theorem flat_gSz : ∀ (ls : List (List Int)), gSz szN ls = (ls.flatten.length : Int)
  | [] => by simp [gSz]
  | x :: xs => by simp only [gSz, flat_gSz xs, List.flatten_cons, List.length_append, szN]; omega
theorem flat_snoc (ls : List (List Int)) (k : Nat) (h : k < ls.length) : (ls.take (k + 1)).flatten = (ls.take k).flatten ++ ls[k] := by
  rw [take_more ls k h, List.flatten_append]; simp

set_option maxRecDepth 100000 in
set_option maxHeartbeats 2000000 in
theorem concat_any (v : Value) (ls : List (List Int)) (w : World) (h : GridAt w v ls) (hlen : gSz szN ls ≤ 1048576) :
    Calls Try.prog 55 #[v] w fun e w' => ∃ v', e = .returned v' ∧ RowsFr w.heap.size 3 1 w' v' (ls.flatten.map fun z => [z]) ∧ Below w.heap.size w w' := by
  obtain ⟨i7, hi7, hz70, hz71, hz72⟩ := infoT_parts info_cpInt
  have hm := h.len
  obtain ⟨ad, cap, rfl⟩ := h.sliced
  unfold maxLen at hm
  have HC := hide h
  have HTOT : Hid (∀ i, gSz szN (ls.take i) ≤ 1048576 ∧ 0 ≤ gSz szN (ls.take i)) := hide (fun i => by
    have h2 := gSz_take szN szN_pos ls i
    have h3 := gSz_pos szN szN_pos (ls.take i)
    omega)
  clear h
  go_enter Try.func55, Try.ntmps55
  go_wp2_with fail
  go_loop [3, 11] (fun a i => ∃ (k : Nat) (m : Int), k ≤ ls.length ∧ i = .int .i64 k ∧ a = .int .i64 m ∧ Hid (m = gSz szN (ls.take k)) ∧ 0 ≤ m ∧ m ≤ 1048576) (fun _ i => ls.length - (intOf i).toNat)
  case atStart => exact ⟨0, 0, Nat.zero_le _, rfl, rfl, hide (by simp [gSz]), by omega, by omega⟩
  case round =>
    obtain ⟨k, m, hk, rfl, rfl, HM, hm0, hm1⟩ := hrel
    by_cases hlt : k < ls.length
    · obtain ⟨b, off, vd, had, p1, hp⟩ := (unhide HC).row hlt
      have hkI : (k : Int) < (ls.length : Int) := by omega
      have hk0 : (0 : Int) ≤ (k : Int) := by omega
      subst had
      obtain ⟨ea, ec, rfl⟩ := hp.sliced
      have htot := (unhide HTOT) (k + 1)
      have HT := hide (show gSz szN (ls.take (k + 1)) = m + (ls[k].length : Int) by rw [take_more ls k hlt, gSz_snoc, unhide HM]; rfl)
      rw [unhide HT] at htot
      obtain ⟨ht1, ht2⟩ := htot
      clear hp
      generalize ls[k] = z at *
      have hn0 : ¬ m + (z.length : Int) < 0 := by omega
      go_wp2_with fail
      go_round
      case rel => exact ⟨k + 1, m + (z.length : Int), by omega, by go_num, by go_num, hide (unhide HT).symm, ht2, ht1⟩
      case measure => (simp [intOf]; try omega)
    · have hke : k = ls.length := by omega
      have hkI : ¬ (k : Int) < (ls.length : Int) := by omega
      have HM2 : Hid (m = gSz szN ls) := hide (by have := unhide HM; rw [hke, List.take_length] at this; exact this)
      obtain ⟨n, hn⟩ : ∃ n : Nat, m = (n : Int) := ⟨m.toNat, by omega⟩
      subst hn
      clear HM
      go_wp2_with fail
      refine (grow_any n w (by omega)).mono ?_
      rintro e w1 ⟨ga, gc, rfl, hown1, hb1⟩
      have HO1 := hide hown1
      have HB1 := hide hb1
      clear hown1 hb1
      go_wp2_with fail
      go_loopw [6, 27] (fun a i wr => ∃ (k : Nat) (va : Option Addr) (vc vn : Nat), k ≤ ls.length ∧ i = .int .i64 k ∧ a = .slice va vn vc ∧ Hid (vn = (ls.take k).flatten.length) ∧ Hid (wr.ownsRow w.heap.size 3 1 (.slice va vn vc) vn (flatCells ((ls.take k).flatten.map fun z => [z]))) ∧ Hid (Below w.heap.size w wr)) (fun _ i _ => ls.length - (intOf i).toNat)
      case atStart => exact ⟨0, ga, gc, 0, Nat.zero_le _, rfl, rfl, hide (by simp), hide (by simpa [flatCells] using unhide HO1), HB1⟩
      case round =>
        obtain ⟨k, va, vc, vn, hk, rfl, rfl, HVN, HO, HB⟩ := hrel
        by_cases hlt : k < ls.length
        · obtain ⟨b, off, vd, had, p1, hp⟩ := ((unhide HC).on (unhide HB)).row hlt
          have hkI : (k : Int) < (ls.length : Int) := by omega
          have hk0 : (0 : Int) ≤ (k : Int) := by omega
          subst had
          obtain ⟨ea, ec, rfl⟩ := hp.sliced
          have HP := hide hp
          have HFS := hide (flat_snoc ls k hlt)
          have hsum : vn + ls[k].length ≤ 1048576 := by
            have h1 := ((unhide HTOT) (k + 1)).1
            rw [flat_gSz, flat_snoc ls k hlt, List.length_append] at h1
            have := unhide HVN
            omega
          clear hp
          generalize ls[k] = z at *
          have hbase : w.heap.size ≤ wr.heap.size := (unhide HB).size
          go_wp2_with (at_builtin; refine wpList_append_rows wr (by rfl) _ _ _ (by rfl) w.heap.size 3 i7 _ 1 8 slice_cpInt hi7 hz70 hz71 hz72 (by rfl) (by omega) (.slice va vn vc) vn _ (by rfl) (unhide HO) (z.map fun z => [z]) _ (by rfl) (unhide HP) (rowlenInt z) (by rw [List.length_map]; unfold maxLen; omega) (by rw [List.length_map]; omega) hbase ?_; intro v2 w2 hown hgrow; have HOW := hide hown; have HBW := hide (Below.grown (unhide HB) hgrow hbase (fun k hk => ((unhide HO).lt k hk).1)); clear hown hgrow)
          have hsl : ∃ a c, v2 = .slice a (vn + z.length) c := by
            have e := unhide HOW
            rw [List.length_map] at e
            rcases e.2 with ⟨h1, h2⟩ | ⟨g, cp, cur, h1, _⟩
            · exact ⟨none, 0, by rw [h1, h2]⟩
            · exact ⟨_, _, h1⟩
          obtain ⟨a2, c2, rfl⟩ := hsl
          go_roundw
          case rel =>
            refine ⟨k + 1, a2, c2, vn + z.length, by omega, by go_num, rfl, hide ?_, hide ?_, HBW⟩
            · rw [unhide HFS, List.length_append, unhide HVN]
            · have e := unhide HOW
              rw [List.length_map] at e
              rw [unhide HFS, List.map_append]
              unfold flatCells at e ⊢
              rw [List.flatMap_append]
              exact e
          case measure => (simp [intOf]; try omega)
        · have hke : k = ls.length := by omega
          subst hke
          go_wp2_with fail
          go_ret
          refine ⟨_, rfl, ?_, unhide HB⟩
          have e := unhide HO
          rw [List.take_length] at e
          have hv := unhide HVN
          rw [List.take_length] at hv
          have hv2 : vn = (ls.flatten.map fun z => [z]).length := by rw [List.length_map]; exact hv
          rw [hv2] at e ⊢
          exact RowsFr.of_owns (rowlenInt _) e
end Go.Proofs.Ytocgfngcgekciaa
