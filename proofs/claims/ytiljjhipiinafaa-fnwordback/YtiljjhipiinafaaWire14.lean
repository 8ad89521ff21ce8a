/- The reader of impl: event, out, the head of a word. -/
import Derived.Test.YtiljjhipiinafaaWire13
namespace Go.Proofs.Ytiljjhipiinafaa
open Go.RowKit
set_option linter.unusedVariables false
set_option linter.unusedSimpArgs false

theorem setVals_rdI {w0 w : World} {q r o : Nat} {vb : Value} {bs : List Int} {p : Nat} {f : Option (Int × Int)} (h : RdI w0 w q vb bs p f) (hr : q < r) : ∀ (xs : List Value), RdI w0 (setVals w r o xs) q vb bs p f
  | [] => h
  | x :: xs => setVals_rdI (o := o + 1) (h.set (o := o) (x := x) hr) hr xs
theorem only2_setVals (q r : Nat) : ∀ (o : Nat) (w : World) (xs : List Value), Only2 q r w (setVals w r o xs)
  | _, w, [] => Only2.refl q r w
  | o, w, x :: xs => by
    have h := only2_setVals q r (o + 1) (w.setCell ⟨r, o, none⟩ x) xs
    have h0 := (Only2.refl q r w).set (o := o) x
    exact ⟨h.os.trans h0.os, h.tape.trans h0.tape, h.output.trans h0.output, Nat.le_trans h0.size h.size, fun b h1 h2 hl => (h.other b h1 h2 (by simpa using hl)).trans (h0.other b h1 h2 hl)⟩

set_option maxRecDepth 100000 in
set_option maxHeartbeats 2000000 in
theorem eventOfRow_any (z0 z1 z2 z3 z4 z5 z6 : Int) (w : World) :
    Calls Try.prog 101 #[.agg #[.int .i64 z0, .int .i64 z1, .int .i64 z2, .int .i64 z3, .int .i64 z4, .int .i64 z5, .int .i64 z6]] w fun r w' => r = .returned (.agg #[.int .i64 z0, .int .i64 z1, .int .i64 z2, .int .i64 z3, .int .i64 z4, .int .i64 z5, .int .i64 z6]) ∧ Below w.heap.size w w' := by
  go_enter Try.func101, Try.ntmps101
  go_wp2
  exact bodyPost_ret (v := .agg #[.int .i64 z0, .int .i64 z1, .int .i64 z2, .int .i64 z3, .int .i64 z4, .int .i64 z5, .int .i64 z6]) (by simp [results, Try.results101, go_sem]) rfl ⟨rfl, ((Below.refl _ _).alloc (Nat.le_refl _) _).alloc (by simp) _⟩

set_option maxRecDepth 100000 in
set_option maxHeartbeats 2000000 in
theorem outOfRow_any (z0 z1 z2 z3 z4 : Int) (w : World) :
    Calls Try.prog 102 #[.agg #[.int .i64 z0, .int .i64 z1, .int .i64 z2, .int .i64 z3, .int .i64 z4]] w fun r w' => r = .returned (.agg #[.int .i64 z0, .int .i64 z1, .int .i64 z2, .int .i64 z3, .int .i64 z4]) ∧ Below w.heap.size w w' := by
  go_enter Try.func102, Try.ntmps102
  go_wp2
  exact bodyPost_ret (v := .agg #[.int .i64 z0, .int .i64 z1, .int .i64 z2, .int .i64 z3, .int .i64 z4]) (by simp [results, Try.results102, go_sem]) rfl ⟨rfl, ((Below.refl _ _).alloc (Nat.le_refl _) _).alloc (by simp) _⟩

set_option maxRecDepth 100000 in
set_option maxHeartbeats 2000000 in
theorem wordOfHead_any (z0 z1 z2 z3 z4 z5 z6 : Int) (w : World) :
    Calls Try.prog 51 #[.agg #[.int .i64 z0, .int .i64 z1, .int .i64 z2, .int .i64 z3, .int .i64 z4, .int .i64 z5, .int .i64 z6]] w fun r w' => r = .returned (.agg #[.int .i64 z0, .int .i64 z1, .int .i64 z2, .int .i64 z3, .int .i64 z4, .int .i64 z5, .int .i64 z6, .slice none 0 0, .slice none 0 0, .slice none 0 0, .slice none 0 0]) ∧ Below w.heap.size w w' := by
  go_enter Try.func51, Try.ntmps51
  go_wp2
  exact bodyPost_ret (v := .agg #[.int .i64 z0, .int .i64 z1, .int .i64 z2, .int .i64 z3, .int .i64 z4, .int .i64 z5, .int .i64 z6, .slice none 0 0, .slice none 0 0, .slice none 0 0, .slice none 0 0]) (by simp [results, Try.results51, go_sem]) rfl ⟨rfl, ((Below.refl _ _).alloc (Nat.le_refl _) _).alloc (by simp) _⟩

theorem len7 {l : List Int} (h : l.length = 7) : ∃ z0 z1 z2 z3 z4 z5 z6, l = [z0, z1, z2, z3, z4, z5, z6] := by
  match l, h with
  | [z0, z1, z2, z3, z4, z5, z6], _ => exact ⟨z0, z1, z2, z3, z4, z5, z6, rfl⟩

set_option maxRecDepth 100000 in
set_option maxHeartbeats 4000000 in
theorem eventI_any (w0 w : World) (q : Nat) (vb : Value) (bs : List Int) (p : Nat) (f : Option (Int × Int)) (h : RdI w0 w q vb bs p f) :
    Calls Try.prog 55 #[.pointer (some ⟨q, 0, none⟩)] w fun r w' => ∃ (e : EvV) (p' : Nat) (f' : Option (Int × Int)), r = .returned (evAgg e) ∧ RdI w0 w' q vb bs p' f' ∧ OnlyB q w w' ∧ Took bs p f p' f' (evRow e) := by
  have hb0 : Below w.heap.size w (w.alloc (.cells #[.int .i64 0, .int .i64 0, .int .i64 0, .int .i64 0, .int .i64 0, .int .i64 0, .int .i64 0] 53)) := (Below.refl _ _).alloc (Nat.le_refl _) _
  have hs0 : (w.alloc (.cells #[.int .i64 0, .int .i64 0, .int .i64 0, .int .i64 0, .int .i64 0, .int .i64 0, .int .i64 0] 53)).heap.size = w.heap.size + 1 := by simp
  have hb1 : Below (w.heap.size + 1) (w.alloc (.cells #[.int .i64 0, .int .i64 0, .int .i64 0, .int .i64 0, .int .i64 0, .int .i64 0, .int .i64 0] 53)) ((w.alloc (.cells #[.int .i64 0, .int .i64 0, .int .i64 0, .int .i64 0, .int .i64 0, .int .i64 0, .int .i64 0] 53)).alloc (.cells #[.int .i64 0, .int .i64 0, .int .i64 0, .int .i64 0, .int .i64 0, .int .i64 0, .int .i64 0] 113)) := by
    have e : Below (w.alloc (.cells #[.int .i64 0, .int .i64 0, .int .i64 0, .int .i64 0, .int .i64 0, .int .i64 0, .int .i64 0] 53)).heap.size (w.alloc (.cells #[.int .i64 0, .int .i64 0, .int .i64 0, .int .i64 0, .int .i64 0, .int .i64 0, .int .i64 0] 53)) ((w.alloc (.cells #[.int .i64 0, .int .i64 0, .int .i64 0, .int .i64 0, .int .i64 0, .int .i64 0, .int .i64 0] 53)).alloc (.cells #[.int .i64 0, .int .i64 0, .int .i64 0, .int .i64 0, .int .i64 0, .int .i64 0, .int .i64 0] 113)) := (Below.refl _ _).alloc (Nat.le_refl _) _
    rwa [hs0] at e
  have hr0 : (w.alloc (.cells #[.int .i64 0, .int .i64 0, .int .i64 0, .int .i64 0, .int .i64 0, .int .i64 0, .int .i64 0] 53)).rowIs w.heap.size 53 7 (fun _ => .int .i64 0) := World.rowIs_alloc w #[.int .i64 0, .int .i64 0, .int .i64 0, .int .i64 0, .int .i64 0, .int .i64 0, .int .i64 0] 53 (fun _ => .int .i64 0) (fun i hi => by
    simp only [List.size_toArray, List.length_cons, List.length_nil] at hi
    rcases (show i = 0 ∨ i = 1 ∨ i = 2 ∨ i = 3 ∨ i = 4 ∨ i = 5 ∨ i = 6 by omega) with rfl | rfl | rfl | rfl | rfl | rfl | rfl <;> rfl)
  have hr1 : ((w.alloc (.cells #[.int .i64 0, .int .i64 0, .int .i64 0, .int .i64 0, .int .i64 0, .int .i64 0, .int .i64 0] 53)).alloc (.cells #[.int .i64 0, .int .i64 0, .int .i64 0, .int .i64 0, .int .i64 0, .int .i64 0, .int .i64 0] 113)).rowIs (w.heap.size + 1) 113 7 (fun _ => .int .i64 0) := by
    have e := World.rowIs_alloc (w.alloc (.cells #[.int .i64 0, .int .i64 0, .int .i64 0, .int .i64 0, .int .i64 0, .int .i64 0, .int .i64 0] 53)) #[.int .i64 0, .int .i64 0, .int .i64 0, .int .i64 0, .int .i64 0, .int .i64 0, .int .i64 0] 113 (fun _ => .int .i64 0) (fun i hi => by
      simp only [List.size_toArray, List.length_cons, List.length_nil] at hi
      rcases (show i = 0 ∨ i = 1 ∨ i = 2 ∨ i = 3 ∨ i = 4 ∨ i = 5 ∨ i = 6 by omega) with rfl | rfl | rfl | rfl | rfl | rfl | rfl <;> rfl)
    rwa [hs0] at e
  have hr0' := hr0.of_block (hb1.block w.heap.size (by omega))
  have hlt := h.lt
  have hw1 : Below w.heap.size w ((w.alloc (.cells #[.int .i64 0, .int .i64 0, .int .i64 0, .int .i64 0, .int .i64 0, .int .i64 0, .int .i64 0] 53)).alloc (.cells #[.int .i64 0, .int .i64 0, .int .i64 0, .int .i64 0, .int .i64 0, .int .i64 0, .int .i64 0] 113)) := hb0.trans (hb1.mono (by omega))
  have H := hide (h.on hw1)
  have HW := hide hw1
  have HLT := hide hlt
  have HR0 := hide hr0'
  have HR1 := hide hr1
  have HSZ : Hid (((w.alloc (.cells #[.int .i64 0, .int .i64 0, .int .i64 0, .int .i64 0, .int .i64 0, .int .i64 0, .int .i64 0] 53)).alloc (.cells #[.int .i64 0, .int .i64 0, .int .i64 0, .int .i64 0, .int .i64 0, .int .i64 0, .int .i64 0] 113)).heap.size = w.heap.size + 2) := hide (by simp)
  clear h hb0 hs0 hb1 hr0 hr1 hr0' hlt hw1
  go_enter Try.func55, Try.ntmps55
  go_wp2_with fail
  generalize ((w.alloc (.cells #[.int .i64 0, .int .i64 0, .int .i64 0, .int .i64 0, .int .i64 0, .int .i64 0, .int .i64 0] 53)).alloc (.cells #[.int .i64 0, .int .i64 0, .int .i64 0, .int .i64 0, .int .i64 0, .int .i64 0, .int .i64 0] 113)) = X1 at *
  refine (rowI_any w0 _ q (w.heap.size + 1) 113 7 _ vb bs p f (unhide H) (by have := unhide HLT; omega) (unhide HR1) (by omega)).mono ?_
  rintro r w2 ⟨rfl, zs, p2, f2, hl, hrow2, hR2, hO2, hT2⟩
  obtain ⟨z0, z1, z2, z3, z4, z5, z6, rfl⟩ := len7 hl
  have hs2 := hO2.size
  have hrA := (unhide HR0).of_block (hO2.other w.heap.size (by have := unhide HLT; omega) (by omega) (by have := unhide HSZ; omega))
  have HO2 := hide (OnlyB.then2 ⟨(unhide HW).size, fun b _ hl => (unhide HW).block b hl, (unhide HW).mono (Nat.le_of_lt (unhide HLT))⟩ hO2 (unhide HLT) (by omega))
  have HR2 := hide hR2
  have HT2 := hide hT2
  have HRA := hide hrA
  have HS2 : Hid (w.heap.size + 2 ≤ w2.heap.size) := hide (by have := unhide HSZ; omega)
  have c0 := hrow2.cell (i := 0) (by omega)
  have c1 := hrow2.cell (i := 1) (by omega)
  have c2 := hrow2.cell (i := 2) (by omega)
  have c3 := hrow2.cell (i := 3) (by omega)
  have c4 := hrow2.cell (i := 4) (by omega)
  have c5 := hrow2.cell (i := 5) (by omega)
  have c6 := hrow2.cell (i := 6) (by omega)
  clear hl hrow2 hR2 hO2 hT2 hs2 hrA HR0 HR1 HW H HSZ
  simp only [List.getD_cons_zero, List.getD_cons_succ] at c0 c1 c2 c3 c4 c5 c6
  go_wp2_with fail
  clear c0 c1 c2 c3 c4 c5 c6
  refine (eventOfRow_any z0 z1 z2 z3 z4 z5 z6 _).mono ?_
  rintro r w3 ⟨rfl, hb3⟩
  have hrB := (unhide HRA).of_block (hb3.block w.heap.size (by have := unhide HS2; omega))
  have HR3 := hide ((unhide HR2).on hb3)
  have HO3 := hide ((unhide HO2).then (by have := unhide HLT; have := unhide HS2; omega) hb3)
  have r0 : w3.cell? ⟨w.heap.size, 0, none⟩ = some (.int .i64 0) := hrB.cell (i := 0) (by omega)
  have s0 : w3.frozen? ⟨w.heap.size, 0, none⟩ = false := hrB.frozen 0
  have r1 : w3.cell? ⟨w.heap.size, 1, none⟩ = some (.int .i64 0) := hrB.cell (i := 1) (by omega)
  have s1 : w3.frozen? ⟨w.heap.size, 1, none⟩ = false := hrB.frozen 1
  have r2 : w3.cell? ⟨w.heap.size, 2, none⟩ = some (.int .i64 0) := hrB.cell (i := 2) (by omega)
  have s2 : w3.frozen? ⟨w.heap.size, 2, none⟩ = false := hrB.frozen 2
  have r3 : w3.cell? ⟨w.heap.size, 3, none⟩ = some (.int .i64 0) := hrB.cell (i := 3) (by omega)
  have s3 : w3.frozen? ⟨w.heap.size, 3, none⟩ = false := hrB.frozen 3
  have r4 : w3.cell? ⟨w.heap.size, 4, none⟩ = some (.int .i64 0) := hrB.cell (i := 4) (by omega)
  have s4 : w3.frozen? ⟨w.heap.size, 4, none⟩ = false := hrB.frozen 4
  have r5 : w3.cell? ⟨w.heap.size, 5, none⟩ = some (.int .i64 0) := hrB.cell (i := 5) (by omega)
  have s5 : w3.frozen? ⟨w.heap.size, 5, none⟩ = false := hrB.frozen 5
  have r6 : w3.cell? ⟨w.heap.size, 6, none⟩ = some (.int .i64 0) := hrB.cell (i := 6) (by omega)
  have s6 : w3.frozen? ⟨w.heap.size, 6, none⟩ = false := hrB.frozen 6
  clear hrB hb3 HRA
  have HR4 := hide (setVals_rdI (o := 0) (unhide HR3) (r := w.heap.size) (unhide HLT) [.int .i64 z0, .int .i64 z1, .int .i64 z2, .int .i64 z3, .int .i64 z4, .int .i64 z5, .int .i64 z6])
  have HO4 := hide ((unhide HO3).then2 (only2_setVals q w.heap.size 0 w3 [.int .i64 z0, .int .i64 z1, .int .i64 z2, .int .i64 z3, .int .i64 z4, .int .i64 z5, .int .i64 z6]) (unhide HLT) (Nat.le_refl _))
  go_wp2_with fail
  exact bodyPost_ret (v := .agg #[.int .i64 z0, .int .i64 z1, .int .i64 z2, .int .i64 z3, .int .i64 z4, .int .i64 z5, .int .i64 z6]) (by simp [results, Try.results55, go_sem, r0, r1, r2, r3, r4, r5, r6]) rfl ⟨⟨z0, z1, z2, z3, z4, z5, z6⟩, p2, f2, rfl, unhide HR4, unhide HO4, unhide HT2⟩

theorem len5 {l : List Int} (h : l.length = 5) : ∃ z0 z1 z2 z3 z4, l = [z0, z1, z2, z3, z4] := by
  match l, h with
  | [z0, z1, z2, z3, z4], _ => exact ⟨z0, z1, z2, z3, z4, rfl⟩

set_option maxRecDepth 100000 in
set_option maxHeartbeats 4000000 in
theorem outI_any (w0 w : World) (q : Nat) (vb : Value) (bs : List Int) (p : Nat) (f : Option (Int × Int)) (h : RdI w0 w q vb bs p f) :
    Calls Try.prog 57 #[.pointer (some ⟨q, 0, none⟩)] w fun r w' => ∃ (e : OutV) (p' : Nat) (f' : Option (Int × Int)), r = .returned (outAgg e) ∧ RdI w0 w' q vb bs p' f' ∧ OnlyB q w w' ∧ Took bs p f p' f' (outRow e) := by
  have hb0 : Below w.heap.size w (w.alloc (.cells #[.int .i64 0, .int .i64 0, .int .i64 0, .int .i64 0, .int .i64 0] 56)) := (Below.refl _ _).alloc (Nat.le_refl _) _
  have hs0 : (w.alloc (.cells #[.int .i64 0, .int .i64 0, .int .i64 0, .int .i64 0, .int .i64 0] 56)).heap.size = w.heap.size + 1 := by simp
  have hb1 : Below (w.heap.size + 1) (w.alloc (.cells #[.int .i64 0, .int .i64 0, .int .i64 0, .int .i64 0, .int .i64 0] 56)) ((w.alloc (.cells #[.int .i64 0, .int .i64 0, .int .i64 0, .int .i64 0, .int .i64 0] 56)).alloc (.cells #[.int .i64 0, .int .i64 0, .int .i64 0, .int .i64 0, .int .i64 0] 116)) := by
    have e : Below (w.alloc (.cells #[.int .i64 0, .int .i64 0, .int .i64 0, .int .i64 0, .int .i64 0] 56)).heap.size (w.alloc (.cells #[.int .i64 0, .int .i64 0, .int .i64 0, .int .i64 0, .int .i64 0] 56)) ((w.alloc (.cells #[.int .i64 0, .int .i64 0, .int .i64 0, .int .i64 0, .int .i64 0] 56)).alloc (.cells #[.int .i64 0, .int .i64 0, .int .i64 0, .int .i64 0, .int .i64 0] 116)) := (Below.refl _ _).alloc (Nat.le_refl _) _
    rwa [hs0] at e
  have hr0 : (w.alloc (.cells #[.int .i64 0, .int .i64 0, .int .i64 0, .int .i64 0, .int .i64 0] 56)).rowIs w.heap.size 56 5 (fun _ => .int .i64 0) := World.rowIs_alloc w #[.int .i64 0, .int .i64 0, .int .i64 0, .int .i64 0, .int .i64 0] 56 (fun _ => .int .i64 0) (fun i hi => by
    simp only [List.size_toArray, List.length_cons, List.length_nil] at hi
    rcases (show i = 0 ∨ i = 1 ∨ i = 2 ∨ i = 3 ∨ i = 4 by omega) with rfl | rfl | rfl | rfl | rfl <;> rfl)
  have hr1 : ((w.alloc (.cells #[.int .i64 0, .int .i64 0, .int .i64 0, .int .i64 0, .int .i64 0] 56)).alloc (.cells #[.int .i64 0, .int .i64 0, .int .i64 0, .int .i64 0, .int .i64 0] 116)).rowIs (w.heap.size + 1) 116 5 (fun _ => .int .i64 0) := by
    have e := World.rowIs_alloc (w.alloc (.cells #[.int .i64 0, .int .i64 0, .int .i64 0, .int .i64 0, .int .i64 0] 56)) #[.int .i64 0, .int .i64 0, .int .i64 0, .int .i64 0, .int .i64 0] 116 (fun _ => .int .i64 0) (fun i hi => by
      simp only [List.size_toArray, List.length_cons, List.length_nil] at hi
      rcases (show i = 0 ∨ i = 1 ∨ i = 2 ∨ i = 3 ∨ i = 4 by omega) with rfl | rfl | rfl | rfl | rfl <;> rfl)
    rwa [hs0] at e
  have hr0' := hr0.of_block (hb1.block w.heap.size (by omega))
  have hlt := h.lt
  have hw1 : Below w.heap.size w ((w.alloc (.cells #[.int .i64 0, .int .i64 0, .int .i64 0, .int .i64 0, .int .i64 0] 56)).alloc (.cells #[.int .i64 0, .int .i64 0, .int .i64 0, .int .i64 0, .int .i64 0] 116)) := hb0.trans (hb1.mono (by omega))
  have H := hide (h.on hw1)
  have HW := hide hw1
  have HLT := hide hlt
  have HR0 := hide hr0'
  have HR1 := hide hr1
  have HSZ : Hid (((w.alloc (.cells #[.int .i64 0, .int .i64 0, .int .i64 0, .int .i64 0, .int .i64 0] 56)).alloc (.cells #[.int .i64 0, .int .i64 0, .int .i64 0, .int .i64 0, .int .i64 0] 116)).heap.size = w.heap.size + 2) := hide (by simp)
  clear h hb0 hs0 hb1 hr0 hr1 hr0' hlt hw1
  go_enter Try.func57, Try.ntmps57
  go_wp2_with fail
  generalize ((w.alloc (.cells #[.int .i64 0, .int .i64 0, .int .i64 0, .int .i64 0, .int .i64 0] 56)).alloc (.cells #[.int .i64 0, .int .i64 0, .int .i64 0, .int .i64 0, .int .i64 0] 116)) = X1 at *
  refine (rowI_any w0 _ q (w.heap.size + 1) 116 5 _ vb bs p f (unhide H) (by have := unhide HLT; omega) (unhide HR1) (by omega)).mono ?_
  rintro r w2 ⟨rfl, zs, p2, f2, hl, hrow2, hR2, hO2, hT2⟩
  obtain ⟨z0, z1, z2, z3, z4, rfl⟩ := len5 hl
  have hs2 := hO2.size
  have hrA := (unhide HR0).of_block (hO2.other w.heap.size (by have := unhide HLT; omega) (by omega) (by have := unhide HSZ; omega))
  have HO2 := hide (OnlyB.then2 ⟨(unhide HW).size, fun b _ hl => (unhide HW).block b hl, (unhide HW).mono (Nat.le_of_lt (unhide HLT))⟩ hO2 (unhide HLT) (by omega))
  have HR2 := hide hR2
  have HT2 := hide hT2
  have HRA := hide hrA
  have HS2 : Hid (w.heap.size + 2 ≤ w2.heap.size) := hide (by have := unhide HSZ; omega)
  have c0 := hrow2.cell (i := 0) (by omega)
  have c1 := hrow2.cell (i := 1) (by omega)
  have c2 := hrow2.cell (i := 2) (by omega)
  have c3 := hrow2.cell (i := 3) (by omega)
  have c4 := hrow2.cell (i := 4) (by omega)
  clear hl hrow2 hR2 hO2 hT2 hs2 hrA HR0 HR1 HW H HSZ
  simp only [List.getD_cons_zero, List.getD_cons_succ] at c0 c1 c2 c3 c4
  go_wp2_with fail
  clear c0 c1 c2 c3 c4
  refine (outOfRow_any z0 z1 z2 z3 z4 _).mono ?_
  rintro r w3 ⟨rfl, hb3⟩
  have hrB := (unhide HRA).of_block (hb3.block w.heap.size (by have := unhide HS2; omega))
  have HR3 := hide ((unhide HR2).on hb3)
  have HO3 := hide ((unhide HO2).then (by have := unhide HLT; have := unhide HS2; omega) hb3)
  have r0 : w3.cell? ⟨w.heap.size, 0, none⟩ = some (.int .i64 0) := hrB.cell (i := 0) (by omega)
  have s0 : w3.frozen? ⟨w.heap.size, 0, none⟩ = false := hrB.frozen 0
  have r1 : w3.cell? ⟨w.heap.size, 1, none⟩ = some (.int .i64 0) := hrB.cell (i := 1) (by omega)
  have s1 : w3.frozen? ⟨w.heap.size, 1, none⟩ = false := hrB.frozen 1
  have r2 : w3.cell? ⟨w.heap.size, 2, none⟩ = some (.int .i64 0) := hrB.cell (i := 2) (by omega)
  have s2 : w3.frozen? ⟨w.heap.size, 2, none⟩ = false := hrB.frozen 2
  have r3 : w3.cell? ⟨w.heap.size, 3, none⟩ = some (.int .i64 0) := hrB.cell (i := 3) (by omega)
  have s3 : w3.frozen? ⟨w.heap.size, 3, none⟩ = false := hrB.frozen 3
  have r4 : w3.cell? ⟨w.heap.size, 4, none⟩ = some (.int .i64 0) := hrB.cell (i := 4) (by omega)
  have s4 : w3.frozen? ⟨w.heap.size, 4, none⟩ = false := hrB.frozen 4
  clear hrB hb3 HRA
  have HR4 := hide (setVals_rdI (o := 0) (unhide HR3) (r := w.heap.size) (unhide HLT) [.int .i64 z0, .int .i64 z1, .int .i64 z2, .int .i64 z3, .int .i64 z4])
  have HO4 := hide ((unhide HO3).then2 (only2_setVals q w.heap.size 0 w3 [.int .i64 z0, .int .i64 z1, .int .i64 z2, .int .i64 z3, .int .i64 z4]) (unhide HLT) (Nat.le_refl _))
  go_wp2_with fail
  exact bodyPost_ret (v := .agg #[.int .i64 z0, .int .i64 z1, .int .i64 z2, .int .i64 z3, .int .i64 z4]) (by simp [results, Try.results57, go_sem, r0, r1, r2, r3, r4]) rfl ⟨⟨z0, z1, z2, z3, z4⟩, p2, f2, rfl, unhide HR4, unhide HO4, unhide HT2⟩

end Go.Proofs.Ytiljjhipiinafaa
