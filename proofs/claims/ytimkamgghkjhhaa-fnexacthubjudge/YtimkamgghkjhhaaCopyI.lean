/- impl.copyList of numbers. -/
import Derived.Test.YtimkamgghkjhhaaViews1
import Derived.Test.YtimkamgghkjhhaaCopy1
namespace Go.Proofs.Ytimkamgghkjhhaa
open Go.RowKit
set_option linter.unusedVariables false
set_option linter.unusedSimpArgs false

theorem slice_cpInt : Try.prog.underlying 29 = some (.slice 3) := by kernel_rfl
theorem info_cpInt : (Try.prog.info? 3).map (fun i => (i.zero, i.size, i.bytes)) = some (some (.int .i64 0), 1, 8) := by kernel_rfl
theorem rowlenInt (l : List Int) : ∀ r ∈ l.map (fun z => [z]), r.length = 1 := fun r hr => by
  obtain ⟨x, _, rfl⟩ := List.mem_map.1 hr
  rfl
set_option maxRecDepth 100000 in
set_option maxHeartbeats 1000000 in
theorem copyListInt_any (v : Value) (l : List Int) (w : World) (h : NumsAt w v l) (hlen : l.length ≤ 1048576) :
    Calls Try.prog 64 #[v] w fun e w' => ∃ v', e = .returned v' ∧ RowsFr w.heap.size 3 1 w' v' (l.map fun z => [z]) ∧ Below w.heap.size w w' := by
  obtain ⟨i7, hi7, hz70, hz71, hz72⟩ := infoT_parts info_cpInt
  have H := hide h
  obtain ⟨a1, c1, h1, _⟩ := h
  rw [List.length_map] at h1
  subst h1
  have hbase : w.heap.size ≤ w.heap.size := Nat.le_refl _
  go_enter Try.func64, Try.ntmps64
  go_wp2_with (at_builtin; refine wpList_append_rows w (by rfl) _ _ _ (by rfl) w.heap.size 3 i7 _ 1 8 slice_cpInt hi7 hz70 hz71 hz72 (by rfl) (by omega) (.slice none 0 0) 0 [] (by rfl) (World.ownsRow_nil w _ _ _) (l.map fun z => [z]) _ (by rfl) (unhide H) (rowlenInt l) (by rw [List.length_map]; unfold maxLen; omega) (by rw [List.length_map]; omega) hbase ?_; intro v2 w2 hown hgrow)
  have hb2 : Below w.heap.size w w2 := Below.grown (Below.refl _ _) hgrow (Nat.le_refl _) (fun k hk => by simp [Value.ownBlock] at hk)
  have HB2 := hide hb2
  have HO := hide hown
  clear hb2 hown hgrow
  go_wp2_with fail
  go_ret
  refine ⟨_, rfl, ?_, unhide HB2⟩
  have e := unhide HO
  rw [Nat.zero_add, List.nil_append] at e
  exact RowsFr.of_owns (rowlenInt l) e
end Go.Proofs.Ytimkamgghkjhhaa
