/- nodeKeeps.blank: a node that knows what it keeps, and nothing else. -/
import Derived.Test.YtimkamgghkjhhaaKeep1
import Derived.Test.YtimkamgghkjhhaaFlatMake
import Derived.Test.YtimkamgghkjhhaaHeld
import Derived.Test.YtimkamgghkjhhaaBox
import Derived.Test.YtimkamgghkjhhaaApp2
import Derived.Carry
import Derived.Deep.Cut
namespace Go.Proofs.Ytimkamgghkjhhaa
open Go.RowKit
set_option linter.unusedVariables false
set_option linter.unusedSimpArgs false

theorem slice_PastSS : Try.prog.underlying 69 = some (.slice 35) := by kernel_rfl
theorem info_PastS : (Try.prog.info? 35).map (fun i => (i.zero, i.size, i.bytes)) = some (some (.slice none 0 0), 1, 24) := by kernel_rfl

def Blanked (id inc g led : Int) (ba ka oa : Option Addr) (n bc kn kc on oc : Nat) (w : World) (e : Ending) (w' : World) : Prop :=
  ∃ p d m, e = .returned (.pointer (some ⟨p, 0, none⟩)) ∧ w'.rowIs p 73 16 (fun i => ([.int .i64 id, .int .i64 inc, .int .i64 g, .slice ba n bc, .slice ka kn kc, .slice oa on oc, .int .i64 led, .bool false, .slice (some ⟨d, 0, none⟩) n n, .int .i64 0, .map (some (m)), .int .i64 0, .int .i64 0, .int .i64 0, .int .i64 0, .int .i64 41] : List Value).getD i undef) ∧
      w'.rowIs d 35 n (fun _ => .slice none 0 0) ∧ w'.heap[m]? = some (.map #[] 0) ∧ w.heap.size ≤ p ∧ w.heap.size ≤ d ∧ w.heap.size ≤ m ∧ p ≠ d ∧ p ≠ m ∧ d ≠ m ∧ Below w.heap.size w w'

set_option maxRecDepth 100000 in
set_option maxHeartbeats 2000000 in
theorem blank_any (id inc g led : Int) (ba ka oa : Option Addr) (n bc kn kc on oc : Nat) (w : World) (hn : n ≤ 1000) :
    Calls Try.prog 30 #[.agg #[.int .i64 id, .int .i64 inc, .int .i64 g, .slice ba n bc, .slice ka kn kc, .slice oa on oc, .int .i64 led]] w fun e w' => Blanked id inc g led ba ka oa n bc kn kc on oc w e w' := by
  have hmk : ∀ w : World, (Instr.makeSlice 69 (.int .i64 (n : Int)) (.int .i64 (n : Int))).run Try.prog w = .ok (.slice (some ⟨w.heap.size, 0, none⟩) n n) (w.alloc (.cells (madeCells #[.slice none 0 0] n) 35)) := fun w => by
    have e := run_make_n (P := Try.prog) 69 35 _ 1 24 slice_PastSS info_PastS n (by omega) (by omega) w
    rw [Nat.mul_one] at e
    exact e
  have hmm : ∀ (t : TypeId) (w : World), (Instr.makeMap t none).run Try.prog w = .ok (.map (some w.heap.size)) (w.alloc (.map #[] 0)) := fun t w => run_makeMap t w
  have hb0 : Below w.heap.size w (w.alloc (.cells #[.int .i64 id, .int .i64 inc, .int .i64 g, .slice ba n bc, .slice ka kn kc, .slice oa on oc, .int .i64 led] 62)) := (Below.refl _ _).alloc (Nat.le_refl _) _
  have cA : CellsAt (w.alloc (.cells #[.int .i64 id, .int .i64 inc, .int .i64 g, .slice ba n bc, .slice ka kn kc, .slice oa on oc, .int .i64 led] 62)) w.heap.size 0 [.int .i64 id, .int .i64 inc, .int .i64 g, .slice ba n bc, .slice ka kn kc, .slice oa on oc, .int .i64 led] := cellsAt_new w [.int .i64 id, .int .i64 inc, .int .i64 g, .slice ba n bc, .slice ka kn kc, .slice oa on oc, .int .i64 led] 62
  have hs0 : (w.alloc (.cells #[.int .i64 id, .int .i64 inc, .int .i64 g, .slice ba n bc, .slice ka kn kc, .slice oa on oc, .int .i64 led] 62)).heap.size = w.heap.size + 1 := by simp
  have HB0 := hide hb0
  have HA := hide cA
  have HS0 := hide hs0
  clear hb0 cA hs0
  go_enter Try.func30, Try.ntmps30
  go_upto_region 1 with fail
  generalize (w.alloc (.cells #[.int .i64 id, .int .i64 inc, .int .i64 g, .slice ba n bc, .slice ka kn kc, .slice oa on oc, .int .i64 led] 62)) = X at *
  refine wp_region_last (L := 8) (S := fun w' : World => w'.cell? ⟨w.heap.size, 0, none⟩ = some (.int .i64 id) ∧ w'.cell? ⟨w.heap.size, 1, none⟩ = some (.int .i64 inc) ∧ w'.cell? ⟨w.heap.size, 2, none⟩ = some (.int .i64 g) ∧ w'.cell? ⟨w.heap.size, 3, none⟩ = some (.slice ba n bc) ∧ w'.cell? ⟨w.heap.size, 4, none⟩ = some (.slice ka kn kc) ∧ w'.cell? ⟨w.heap.size, 5, none⟩ = some (.slice oa on oc) ∧ w'.cell? ⟨w.heap.size, 6, none⟩ = some (.int .i64 led)) (by kernel_rfl) ?_
  have hHeld : (fun w' : World => w'.cell? ⟨w.heap.size, 0, none⟩ = some (.int .i64 id) ∧ w'.cell? ⟨w.heap.size, 1, none⟩ = some (.int .i64 inc) ∧ w'.cell? ⟨w.heap.size, 2, none⟩ = some (.int .i64 g) ∧ w'.cell? ⟨w.heap.size, 3, none⟩ = some (.slice ba n bc) ∧ w'.cell? ⟨w.heap.size, 4, none⟩ = some (.slice ka kn kc) ∧ w'.cell? ⟨w.heap.size, 5, none⟩ = some (.slice oa on oc) ∧ w'.cell? ⟨w.heap.size, 6, none⟩ = some (.int .i64 led)) X.drew := ⟨((unhide HA).on (Below.refl _ _).drew) 0 (by simp), ((unhide HA).on (Below.refl _ _).drew) 1 (by simp), ((unhide HA).on (Below.refl _ _).drew) 2 (by simp), ((unhide HA).on (Below.refl _ _).drew) 3 (by simp), ((unhide HA).on (Below.refl _ _).drew) 4 (by simp), ((unhide HA).on (Below.refl _ _).drew) 5 (by simp), ((unhide HA).on (Below.refl _ _).drew) 6 (by simp)⟩
  refine wpAnyL_take (i := 0) (v := ?_) (by kernel_rfl) rfl (by kernel_rfl) (by kernel_rfl) (by kernel_rfl) (fun _ _ _ h => h) hHeld (Or.inl ⟨by kernel_rfl, ?_⟩) ?_
  rotate_left
  · (intro w hSw; (try dsimp only at hSw); obtain ⟨s0, s1, s2, s3, s4, s5, s6⟩ := hSw; go_simp; try with_reducible rfl)
  refine wpAnyL_take (i := 1) (v := ?_) (by kernel_rfl) rfl (by kernel_rfl) (by kernel_rfl) (by kernel_rfl) (fun _ _ _ h => h) hHeld (Or.inl ⟨by kernel_rfl, ?_⟩) ?_
  rotate_left
  · (intro w hSw; (try dsimp only at hSw); obtain ⟨s0, s1, s2, s3, s4, s5, s6⟩ := hSw; go_simp; try with_reducible rfl)
  refine wpAnyL_take (i := 2) (v := ?_) (by kernel_rfl) rfl (by kernel_rfl) (by kernel_rfl) (by kernel_rfl) (fun _ _ _ h => h) hHeld (Or.inl ⟨by kernel_rfl, ?_⟩) ?_
  rotate_left
  · (intro w hSw; (try dsimp only at hSw); obtain ⟨s0, s1, s2, s3, s4, s5, s6⟩ := hSw; go_simp; try with_reducible rfl)
  refine wpAnyL_take (i := 3) (v := ?_) (by kernel_rfl) rfl (by kernel_rfl) (by kernel_rfl) (by kernel_rfl) (fun _ _ _ h => h) hHeld (Or.inl ⟨by kernel_rfl, ?_⟩) ?_
  rotate_left
  · (intro w hSw; (try dsimp only at hSw); obtain ⟨s0, s1, s2, s3, s4, s5, s6⟩ := hSw; go_simp; try with_reducible rfl)
  refine wpAnyL_two (i := 4) (j := 5) (by kernel_rfl) rfl rfl (fun K hK => ?_) (fun K hK => ?_)
  · skip
    go_simp
    have hy1 : Below X.heap.size X (X.drew.alloc (.cells (madeCells #[.slice none 0 0] n) 35)) := ((Below.refl _ _).drew).alloc (by simp) _
    refine held_on hK ?_ (fun hHeld => ?_)
    · exact ⟨((unhide HA).on hy1) 0 (by simp), ((unhide HA).on hy1) 1 (by simp), ((unhide HA).on hy1) 2 (by simp), ((unhide HA).on hy1) 3 (by simp), ((unhide HA).on hy1) 4 (by simp), ((unhide HA).on hy1) 5 (by simp), ((unhide HA).on hy1) 6 (by simp)⟩
    clear hK K
    refine wpAnyL_one (i := 5) (by kernel_rfl) rfl (fun K hK => ?_)
    go_simp
    have hy2 : Below X.heap.size X ((X.drew.alloc (.cells (madeCells #[.slice none 0 0] n) 35)).alloc (.map #[] 0)) := hy1.alloc (by simp) _
    refine held_on hK ?_ (fun hHeld => ?_)
    · exact ⟨((unhide HA).on hy2) 0 (by simp), ((unhide HA).on hy2) 1 (by simp), ((unhide HA).on hy2) 2 (by simp), ((unhide HA).on hy2) 3 (by simp), ((unhide HA).on hy2) 4 (by simp), ((unhide HA).on hy2) 5 (by simp), ((unhide HA).on hy2) 6 (by simp)⟩
    clear hK K
    refine wpAnyL_one (i := 6) (by kernel_rfl) rfl (fun K hK => ?_)
    go_simp
    refine held_on hK ?_ (fun hHeld => ?_)
    · exact hHeld
    clear hK K
    refine wpAnyL_one (i := 7) (by kernel_rfl) rfl (fun K hK => ?_)
    go_simp
    have hy3 : Below X.heap.size X (((X.drew.alloc (.cells (madeCells #[.slice none 0 0] n) 35)).alloc (.map #[] 0)).alloc (.cells #[.int .i64 id, .int .i64 inc, .int .i64 g, .slice ba n bc, .slice ka kn kc, .slice oa on oc, .int .i64 led, .bool false, .slice (some ⟨X.heap.size, 0, none⟩) n n, .int .i64 0, .map (some (X.heap.size + 1)), .int .i64 0, .int .i64 0, .int .i64 0, .int .i64 0, .int .i64 41] 73)) := hy2.alloc (by simp; omega) _
    refine held_on hK ?_ (fun hHeld => ?_)
    · exact ⟨((unhide HA).on hy3) 0 (by simp), ((unhide HA).on hy3) 1 (by simp), ((unhide HA).on hy3) 2 (by simp), ((unhide HA).on hy3) 3 (by simp), ((unhide HA).on hy3) 4 (by simp), ((unhide HA).on hy3) 5 (by simp), ((unhide HA).on hy3) 6 (by simp)⟩
    clear hK K
    refine wpAnyL_end (by kernel_rfl) rfl (fun K hK => ?_)
    go_simp
    refine hK.out _ _ ?_
    clear hK K
    refine wpAnyL_done (by kernel_rfl) ?_ _
    go_wp2_with fail
    go_ret
    have hss := unhide HS0
    have hs1 : (X.drew.alloc (.cells (madeCells #[.slice none 0 0] n) 35)).heap.size = X.heap.size + 1 := by simp
    have hs2 : ((X.drew.alloc (.cells (madeCells #[.slice none 0 0] n) 35)).alloc (.map #[] 0)).heap.size = X.heap.size + 1 + 1 := by simp
    have rp := row_new ((X.drew.alloc (.cells (madeCells #[.slice none 0 0] n) 35)).alloc (.map #[] 0)) [.int .i64 id, .int .i64 inc, .int .i64 g, .slice ba n bc, .slice ka kn kc, .slice oa on oc, .int .i64 led, .bool false, .slice (some ⟨X.heap.size, 0, none⟩) n n, .int .i64 0, .map (some (X.heap.size + 1)), .int .i64 0, .int .i64 0, .int .i64 0, .int .i64 0, .int .i64 41] 73
    rw [hs2] at rp
    have rd := row_made X.drew #[.slice none 0 0] n 35
    have hm := heap_alloc_new (X.drew.alloc (.cells (madeCells #[.slice none 0 0] n) 35)) (.map #[] 0)
    rw [hs1] at hm
    have rd2 : (X.drew.alloc (.cells (madeCells #[.slice none 0 0] n) 35)).rowIs X.heap.size 35 n _ := rd
    unfold Blanked
    refine ⟨X.heap.size + 1 + 1, X.heap.size, X.heap.size + 1, rfl, rp, ?_, ?_, by omega, by omega, by omega, by omega, by omega, by omega, below_then (unhide HB0) hy3⟩
    · refine (rd.of_block ?_).congr (fun i _ => by
        show (#[Value.slice none 0 0] : Array Value)[i % 1]! = _
        rw [Nat.mod_one]; rfl)
      exact (((Below.refl _ (X.drew.alloc (.cells (madeCells #[.slice none 0 0] n) 35))).alloc (Nat.le_refl _) _).alloc (by simp) _).block X.heap.size (by simp)
    · exact (((Below.refl _ ((X.drew.alloc (.cells (madeCells #[.slice none 0 0] n) 35)).alloc (.map #[] 0))).alloc (Nat.le_refl _) _).block (X.heap.size + 1) (by simp)).trans hm
  · skip
    go_simp
    have hy1 : Below X.heap.size X (X.drew.alloc (.map #[] 0)) := ((Below.refl _ _).drew).alloc (by simp) _
    refine held_on hK ?_ (fun hHeld => ?_)
    · exact ⟨((unhide HA).on hy1) 0 (by simp), ((unhide HA).on hy1) 1 (by simp), ((unhide HA).on hy1) 2 (by simp), ((unhide HA).on hy1) 3 (by simp), ((unhide HA).on hy1) 4 (by simp), ((unhide HA).on hy1) 5 (by simp), ((unhide HA).on hy1) 6 (by simp)⟩
    clear hK K
    refine wpAnyL_one (i := 4) (by kernel_rfl) rfl (fun K hK => ?_)
    go_simp
    have hy2 : Below X.heap.size X ((X.drew.alloc (.map #[] 0)).alloc (.cells (madeCells #[.slice none 0 0] n) 35)) := hy1.alloc (by simp) _
    refine held_on hK ?_ (fun hHeld => ?_)
    · exact ⟨((unhide HA).on hy2) 0 (by simp), ((unhide HA).on hy2) 1 (by simp), ((unhide HA).on hy2) 2 (by simp), ((unhide HA).on hy2) 3 (by simp), ((unhide HA).on hy2) 4 (by simp), ((unhide HA).on hy2) 5 (by simp), ((unhide HA).on hy2) 6 (by simp)⟩
    clear hK K
    refine wpAnyL_one (i := 6) (by kernel_rfl) rfl (fun K hK => ?_)
    go_simp
    refine held_on hK ?_ (fun hHeld => ?_)
    · exact hHeld
    clear hK K
    refine wpAnyL_one (i := 7) (by kernel_rfl) rfl (fun K hK => ?_)
    go_simp
    have hy3 : Below X.heap.size X (((X.drew.alloc (.map #[] 0)).alloc (.cells (madeCells #[.slice none 0 0] n) 35)).alloc (.cells #[.int .i64 id, .int .i64 inc, .int .i64 g, .slice ba n bc, .slice ka kn kc, .slice oa on oc, .int .i64 led, .bool false, .slice (some ⟨X.heap.size + 1, 0, none⟩) n n, .int .i64 0, .map (some (X.heap.size)), .int .i64 0, .int .i64 0, .int .i64 0, .int .i64 0, .int .i64 41] 73)) := hy2.alloc (by simp; omega) _
    refine held_on hK ?_ (fun hHeld => ?_)
    · exact ⟨((unhide HA).on hy3) 0 (by simp), ((unhide HA).on hy3) 1 (by simp), ((unhide HA).on hy3) 2 (by simp), ((unhide HA).on hy3) 3 (by simp), ((unhide HA).on hy3) 4 (by simp), ((unhide HA).on hy3) 5 (by simp), ((unhide HA).on hy3) 6 (by simp)⟩
    clear hK K
    refine wpAnyL_end (by kernel_rfl) rfl (fun K hK => ?_)
    go_simp
    refine hK.out _ _ ?_
    clear hK K
    refine wpAnyL_done (by kernel_rfl) ?_ _
    go_wp2_with fail
    go_ret
    have hss := unhide HS0
    have hs1 : (X.drew.alloc (.map #[] 0)).heap.size = X.heap.size + 1 := by simp
    have hs2 : ((X.drew.alloc (.map #[] 0)).alloc (.cells (madeCells #[.slice none 0 0] n) 35)).heap.size = X.heap.size + 1 + 1 := by simp
    have rp := row_new ((X.drew.alloc (.map #[] 0)).alloc (.cells (madeCells #[.slice none 0 0] n) 35)) [.int .i64 id, .int .i64 inc, .int .i64 g, .slice ba n bc, .slice ka kn kc, .slice oa on oc, .int .i64 led, .bool false, .slice (some ⟨X.heap.size + 1, 0, none⟩) n n, .int .i64 0, .map (some (X.heap.size)), .int .i64 0, .int .i64 0, .int .i64 0, .int .i64 0, .int .i64 41] 73
    rw [hs2] at rp
    have rd := row_made (X.drew.alloc (.map #[] 0)) #[.slice none 0 0] n 35
    have hm := heap_alloc_new X.drew (.map #[] 0)
    rw [hs1] at rd
    have hm2 : (X.drew.alloc (.map #[] 0)).heap[X.heap.size]? = some (.map #[] 0) := hm
    unfold Blanked
    refine ⟨X.heap.size + 1 + 1, X.heap.size + 1, X.heap.size, rfl, rp, ?_, ?_, by omega, by omega, by omega, by omega, by omega, by omega, below_then (unhide HB0) hy3⟩
    · refine (rd.of_block ?_).congr (fun i _ => by
        show (#[Value.slice none 0 0] : Array Value)[i % 1]! = _
        rw [Nat.mod_one]; rfl)
      exact ((Below.refl _ ((X.drew.alloc (.map #[] 0)).alloc (.cells (madeCells #[.slice none 0 0] n) 35))).alloc (Nat.le_refl _) _).block (X.heap.size + 1) (by simp)
    · exact ((((Below.refl _ (X.drew.alloc (.map #[] 0))).alloc (Nat.le_refl _) _).alloc (by simp) _).block X.heap.size (by simp)).trans hm2
end Go.Proofs.Ytimkamgghkjhhaa
