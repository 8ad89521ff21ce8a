/- What a node keeps, as a struct whose lists are appended to; impl.AppFirst, impl.isNode. -/
import Derived.Test.YtimkamgghkjhhaaProcs1
import Derived.Test.YtimkamgghkjhhaaCopyW
import Derived.Test.YtimkamgghkjhhaaHeapC
namespace Go.Proofs.Ytimkamgghkjhhaa
open Go.RowKit
set_option linter.unusedVariables false
set_option linter.unusedSimpArgs false

abbrev keepCells (id inc g led : Int) (vb vk vo : Value) : List Value := [.int .i64 id, .int .i64 inc, .int .i64 g, vb, vk, vo, .int .i64 led]
abbrev keepRow (id : Int) (vb vk : Value) : Nat → Value := fun i => (keepCells id 1 0 0 vb vk (.slice none 0 0)).getD i undef

theorem keepRow_bases {w : World} {q : Nat} {id : Int} {vb vk u : Value} (h : w.rowIs q 62 7 (keepRow id vb vk)) : (w.setCell ⟨q, 3, none⟩ u).rowIs q 62 7 (keepRow id u vk) :=
  (setVals_row [u] 3 w _ h).congr (fun i hi => by
    match i, hi with
    | 0, _ => rfl
    | 1, _ => rfl
    | 2, _ => rfl
    | 3, _ => rfl
    | 4, _ => rfl
    | 5, _ => rfl
    | 6, _ => rfl)
theorem keepRow_kept {w : World} {q : Nat} {id : Int} {vb vk u : Value} (h : w.rowIs q 62 7 (keepRow id vb vk)) : (w.setCell ⟨q, 4, none⟩ u).rowIs q 62 7 (keepRow id vb u) :=
  (setVals_row [u] 4 w _ h).congr (fun i hi => by
    match i, hi with
    | 0, _ => rfl
    | 1, _ => rfl
    | 2, _ => rfl
    | 3, _ => rfl
    | 4, _ => rfl
    | 5, _ => rfl
    | 6, _ => rfl)

structure KeepMem (q B : Nat) (w : World) (id : Int) (vb vk : Value) (n : Nat) (ks : List EvV) : Prop where
  row : w.rowIs q 62 7 (keepRow id vb vk)
  ob : RowsFr B 34 3 w vb (List.replicate n [0, 0, 0])
  ok : RowsFr B 65 7 w vk (ks.map evRow)
  ne : Apart vb vk

theorem apart_or {a b : Value} (h : Apart a b) : b.ownBlock = none ∨ b.ownBlock ≠ a.ownBlock := by
  cases e : b.ownBlock with
  | none => exact Or.inl rfl
  | some g => exact Or.inr (fun e2 => h g e2.symm e)

theorem KeepMem.on {q B : Nat} {w w' : World} {id : Int} {vb vk : Value} {n : Nat} {ks : List EvV} (hb : Below w.heap.size w w') (h : KeepMem q B w id vb vk n ks) : KeepMem q B w' id vb vk n ks :=
  ⟨h.row.of_block (hb.block q h.row.lt), h.ob.on hb, h.ok.on hb, h.ne⟩

theorem KeepMem.bases {q B : Nat} {W A w1 : World} {id : Int} {vb vk : Value} {n : Nat} {ks : List EvV} {gg cap : Nat} (h : KeepMem q B W id vb vk n ks) (hq : q < B) (hB : B ≤ W.heap.size) (hbA : Below W.heap.size W A) (hgrow : A.grownBy w1 vb.ownBlock)
    (hown : w1.ownsRow B 34 3 (.slice (some ⟨gg, 0, none⟩) (n + 1) cap) (n + 1) (flatCells (List.replicate n [0, 0, 0]) ++ [.int .i64 0, .int .i64 0, .int .i64 0])) (hat : vb.ownBlock = some gg ∨ gg = A.heap.size) :
    KeepMem q B (w1.setCell ⟨q, 3, none⟩ (.slice (some ⟨gg, 0, none⟩) (n + 1) cap)) id (.slice (some ⟨gg, 0, none⟩) (n + 1) cap) vk (n + 1) ks ∧ Both q vb W (w1.setCell ⟨q, 3, none⟩ (.slice (some ⟨gg, 0, none⟩) (n + 1) cap)) := by
  have hbb := h.ob.blk
  have hku := h.ok.blk
  have hsA := hbA.size
  have h1 : Both q vb W w1 := Both.grown hbA hgrow (fun g hg => (hbb g hg).2)
  have h2 : Both q vb W (w1.setCell ⟨q, 3, none⟩ (.slice (some ⟨gg, 0, none⟩) (n + 1) cap)) := h1.set
  have hgg : B ≤ gg := by
    rcases hat with e | e
    · exact (hbb gg e).1
    · omega
  have e : w1.heap[q]? = W.heap[q]? := (hgrow.block q (by omega) (fun e => by have := (hbb q e.symm).1; omega)).trans (hbA.block q (by omega))
  have hr : RowsFr B 34 3 w1 (.slice (some ⟨gg, 0, none⟩) (n + 1) cap) (List.replicate n [0, 0, 0] ++ [[0, 0, 0]]) := by
    refine rowsFr_snoc (n := 3) (fun r hr => ?_) (by rw [List.length_replicate]; exact hown)
    rcases List.mem_append.1 hr with h3 | h3
    · rw [List.eq_of_mem_replicate h3]; rfl
    · rw [List.mem_singleton.1 h3]; rfl
  refine ⟨⟨keepRow_bases (h.row.of_block e), ?_, h2.rows h.ok (fun e => by have := (hku q e).1; omega) (apart_or h.ne), ?_⟩, h2⟩
  · rw [List.replicate_succ']
    exact hr.block (fun g hg _ => Below.heap_setCell w1 ⟨q, 3, none⟩ _ g (fun e2 => by
      have : gg = g := by simpa [Value.ownBlock] using hg
      have e3 : g = q := e2
      omega))
  · intro g a b
    have hg : gg = g := by simpa [Value.ownBlock] using a
    subst hg
    rcases hat with e2 | e2
    · exact h.ne gg e2 b
    · have := (hku gg b).2; omega

theorem KeepMem.kept {q B : Nat} {W A w1 : World} {id : Int} {vb vk : Value} {n : Nat} {ks : List EvV} {gg cap : Nat} {x : EvV} (h : KeepMem q B W id vb vk n ks) (hq : q < B) (hB : B ≤ W.heap.size) (hbA : Below W.heap.size W A) (hgrow : A.grownBy w1 vk.ownBlock)
    (hown : w1.ownsRow B 65 7 (.slice (some ⟨gg, 0, none⟩) (ks.length + 1) cap) (ks.length + 1) (flatCells (ks.map evRow) ++ evCells x)) (hat : vk.ownBlock = some gg ∨ gg = A.heap.size) :
    KeepMem q B (w1.setCell ⟨q, 4, none⟩ (.slice (some ⟨gg, 0, none⟩) (ks.length + 1) cap)) id vb (.slice (some ⟨gg, 0, none⟩) (ks.length + 1) cap) n (ks ++ [x]) ∧ Both q vk W (w1.setCell ⟨q, 4, none⟩ (.slice (some ⟨gg, 0, none⟩) (ks.length + 1) cap)) := by
  have hbb := h.ok.blk
  have hku := h.ob.blk
  have hsA := hbA.size
  have h1 : Both q vk W w1 := Both.grown hbA hgrow (fun g hg => (hbb g hg).2)
  have h2 : Both q vk W (w1.setCell ⟨q, 4, none⟩ (.slice (some ⟨gg, 0, none⟩) (ks.length + 1) cap)) := h1.set
  have hgg : B ≤ gg := by
    rcases hat with e | e
    · exact (hbb gg e).1
    · omega
  have e : w1.heap[q]? = W.heap[q]? := (hgrow.block q (by omega) (fun e => by have := (hbb q e.symm).1; omega)).trans (hbA.block q (by omega))
  have hr : RowsFr B 65 7 w1 (.slice (some ⟨gg, 0, none⟩) (ks.length + 1) cap) (ks.map evRow ++ [evRow x]) := by
    refine rowsFr_snoc (n := 7) (fun r hr => ?_) (by rw [List.length_map]; exact hown)
    rcases List.mem_append.1 hr with h3 | h3
    · obtain ⟨y, _, rfl⟩ := List.mem_map.1 h3; rfl
    · rw [List.mem_singleton.1 h3]; rfl
  refine ⟨⟨keepRow_kept (h.row.of_block e), h2.rows h.ob (fun e => by have := (hku q e).1; omega) (apart_or (fun g a b => h.ne g b a)), ?_, ?_⟩, h2⟩
  · rw [List.map_append, List.map_cons, List.map_nil]
    exact hr.block (fun g hg _ => Below.heap_setCell w1 ⟨q, 4, none⟩ _ g (fun e2 => by
      have : gg = g := by simpa [Value.ownBlock] using hg
      have e3 : g = q := e2
      omega))
  · intro g b a
    have hg : gg = g := by simpa [Value.ownBlock] using a
    subst hg
    rcases hat with e2 | e2
    · exact h.ne gg b e2
    · have := (hku gg b).2; omega

abbrev firstVals (p : Int) : Array Value := #[.int .i64 0, .int .i64 p, .int .i64 (-1), .int .i64 0, .int .i64 p, .int .i64 0, .int .i64 p]
def firstEv (p : Int) : EvV := ⟨0, p, -1, 0, p, 0, p⟩

theorem implAppFirst_in (p : Int) (h1 : 0 ≤ p) (h2 : p ≤ 3) (w : World) :
    Calls Try.prog 29 #[.int .i64 p] w fun e w' => e = .returned (.agg (firstVals p)) ∧ Below w.heap.size w w' := by
  go_enter Try.func29, Try.ntmps29
  go_wp2_with (first | (go_at_call 25; go_in) | (go_at_call 46; go_in))
  exact bodyPost_ret (v := .agg (firstVals p)) (by simp [results, Try.results29, go_sem]) rfl ⟨rfl, (Below.refl _ _).alloc (Nat.le_refl _) _⟩

theorem isNode_any (a : Int) (w : World) : Calls Try.prog 27 #[.int .i64 a] w fun e w' => e = .returned (.bool (inR 0 2 a)) ∧ w' = w := by
  rcases Int.lt_or_le a 0 with h1 | h1
  · have h3 : ¬ 0 ≤ a := by omega
    rw [show inR 0 2 a = false by simp [inR]; omega]
    clear h1
    go_enter Try.func27, Try.ntmps27
    go_wp2
    go_ret
    exact ⟨rfl, rfl⟩
  rcases Int.lt_or_le 2 a with h2 | h2
  · have h3 : ¬ a ≤ 2 := by omega
    rw [show inR 0 2 a = false by simp [inR]; omega]
    clear h2
    go_enter Try.func27, Try.ntmps27
    go_wp2
    go_ret
    exact ⟨rfl, rfl⟩
  rw [show inR 0 2 a = true by simp [inR]; omega]
  go_enter Try.func27, Try.ntmps27
  go_wp2
  go_ret
  exact ⟨rfl, rfl⟩
end Go.Proofs.Ytimkamgghkjhhaa
