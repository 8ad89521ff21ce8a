/- impl.othersOf: the other nodes. -/
import Derived.Test.YtimkamgghkjhhaaCopyI
namespace Go.Proofs.Ytimkamgghkjhhaa
open Go.RowKit
set_option linter.unusedVariables false
set_option linter.unusedSimpArgs false

def othersTo (id : Int) (k : Nat) : List Int := ((List.range k).map fun i : Nat => (i : Int)).filter fun p => decide (p ≠ id)
theorem othersTo_in (id : Int) (k : Nat) (h : (k : Int) ≠ id) : othersTo id (k + 1) = othersTo id k ++ [(k : Int)] := by
  simp [othersTo, List.range_succ, List.filter_append]
  simpa using h
theorem othersTo_out (id : Int) (k : Nat) (h : ¬ (k : Int) ≠ id) : othersTo id (k + 1) = othersTo id k := by
  simp [othersTo, List.range_succ, List.filter_append]
  simpa using h
theorem othersTo_len (id : Int) (k : Nat) : (othersTo id k).length ≤ k := by
  have h := List.length_filter_le (fun p => decide (p ≠ id)) ((List.range k).map fun i : Nat => (i : Int))
  simpa [othersTo] using h

set_option maxRecDepth 100000 in
set_option maxHeartbeats 1000000 in
theorem othersOf_any (id : Int) (w : World) :
    Calls Try.prog 118 #[.int .i64 id] w fun e w' => ∃ v, e = .returned v ∧ RowsFr w.heap.size 3 1 w' v ((othersTo id 3).map fun z => [z]) ∧ Below w.heap.size w w' := by
  obtain ⟨i1, hi1, hz0, hz1, hz2⟩ := infoT_parts info_cpInt
  go_enter Try.func118, Try.ntmps118
  go_wp2_with fail
  go_loopw [3, 5] (fun v i wr => ∃ (k : Nat) (va : Option Addr) (vc : Nat), k ≤ 3 ∧ v = .slice va (othersTo id k).length vc ∧ i = .int .i64 k ∧ Hid (RowsFr w.heap.size 3 1 wr (.slice va (othersTo id k).length vc) ((othersTo id k).map fun z => [z])) ∧ Hid (Below w.heap.size w wr)) (fun _ i _ => 3 - (intOf i).toNat)
  case atStart => exact ⟨0, none, 0, Nat.zero_le _, rfl, rfl, hide (Or.inl ⟨rfl, rfl⟩), hide (Below.refl _ _)⟩
  case round =>
    obtain ⟨k, va, vc, hk, rfl, rfl, HR, HB⟩ := hrel
    obtain ⟨zs, hzs⟩ : ∃ zs, zs = othersTo id k := ⟨_, rfl⟩
    have hzl : zs.length ≤ 3 := by rw [hzs]; exact Nat.le_trans (othersTo_len id k) hk
    have HZ := hide hzs
    rw [← hzs] at HR ⊢
    clear hzs
    have hsz := (unhide HB).size
    by_cases hlt : k < 3
    · have hkI : (k : Int) < 3 := by omega
      by_cases hn : (k : Int) ≠ id
      · have HN := hide hn
        have hn1 : ((k : Int) != id) = true := by simp [hn]
        clear hn
        have hbA : Below wr.heap.size wr (wr.alloc (.cells #[.int .i64 k] 3)) := (Below.refl _ _).alloc (Nat.le_refl _) _
        have hownA : (wr.alloc (.cells #[.int .i64 k] 3)).ownsRow w.heap.size 3 1 (.slice va zs.length vc) zs.length (flatCells (zs.map fun z => [z])) := by
          have e := ownsOn hbA ((unhide HR).owns (by omega) (rowlenInt zs))
          rwa [List.length_map] at e
        have HBA := hide hbA
        clear hbA
        go_wp2_with (at_builtin; refine wpList_append_lies _ (by rfl) _ _ _ (by rfl) w.heap.size 3 i1 _ 1 8 slice_cpInt hi1 hz0 hz1 hz2 (by rfl) (by omega) (.slice va zs.length vc) zs.length (flatCells (zs.map fun z => [z])) (by rfl) hownA ⟨wr.heap.size, 0, none⟩ 1 1 [.int .i64 k] (by rfl) (by rfl) (World.news_of_block (cs := #[.int .i64 k]) (t := 3) (fr := (0, 0)) (heap_alloc_new wr _)) (by simp [Value.oneCell']) (by omega) (by unfold maxLen; omega) (by omega) (by simp; omega) (wr.heap.size + 1) (by simp) ?_; intro gg cap w3 hown3 hgrow hat hlt3)
        have hb3 : Below w.heap.size w w3 := Below.grown (below_then (unhide HB) (unhide HBA)) hgrow (by simp; omega) (fun b hb => ((unhide HR).blk b hb).1)
        have hr3 : RowsFr w.heap.size 3 1 w3 (.slice (some ⟨gg, 0, none⟩) (zs.length + 1) cap) ((zs ++ [(k : Int)]).map fun z => [z]) := by
          rw [List.map_append]
          refine rowsFr_snoc (n := 1) (fun r hr => ?_) (by rw [List.length_map]; exact hown3)
          have := rowlenInt (zs ++ [(k : Int)]); rw [List.map_append] at this; exact this r hr
        have HB3 := hide hb3
        have HR3 := hide hr3
        clear hb3 hr3 hown3 hgrow hat hlt3 hownA
        go_wp2_with fail
        go_roundw
        case rel =>
          have e1 : othersTo id (k + 1) = zs ++ [(k : Int)] := by rw [othersTo_in id k (unhide HN), unhide HZ]
          exact ⟨k + 1, some ⟨gg, 0, none⟩, cap, by omega, by rw [e1]; simp, by go_num, hide (by rw [e1]; simpa using unhide HR3), HB3⟩
        case measure => simp [intOf]; omega
      · have HN := hide hn
        have hn1 : ((k : Int) != id) = false := by simpa using hn
        clear hn
        go_wp2_with fail
        go_roundw
        case rel =>
          have e1 : othersTo id (k + 1) = zs := by rw [othersTo_out id k (unhide HN), unhide HZ]
          exact ⟨k + 1, va, vc, by omega, by rw [e1], by go_num, hide (by rw [e1]; exact unhide HR), HB⟩
        case measure => simp [intOf]; omega
    · have hke : k = 3 := by omega
      subst hke
      go_wp2_with fail
      go_ret
      exact ⟨_, rfl, by rw [← unhide HZ]; exact unhide HR, unhide HB⟩
end Go.Proofs.Ytimkamgghkjhhaa
