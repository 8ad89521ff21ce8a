/- The reader of impl: event, out, the head of a word. -/
import Derived.Test.YtiljjhipiinafaaGreatWrA
import Derived.Test.YtiljjhipiinafaaGreatWordM
import Derived.Deep.Cut
namespace Go.Proofs.YtiljjhipiinafaaGreat
open Go.RowKit
set_option linter.unusedVariables false
set_option linter.unusedSimpArgs false

theorem setVals_rdI {w0 w : World} {q r o : Nat} {vb : Value} {bs : List Int} {p : Nat} {f : Option (Int × Int)} (h : RdI w0 w q vb bs p f) (hr : q < r) : ∀ (xs : List Value), RdI w0 (setVals w r o xs) q vb bs p f
  | [] => h
  | x :: xs => setVals_rdI (o := o + 1) (h.set (o := o) (x := x) hr) hr xs
theorem only2_setVals (q r : Nat) : ∀ (o : Nat) (w : World) (xs : List Value), Only2 q r w (setVals w r o xs)
  | _, w, [] => Only2.refl q r w
  | o, w, x :: xs => by
    have h := only2_setVals q r (o + 1) (w.setCell ⟨r, o, none⟩ x) xs
    have h0 := (Only2.refl q r w).set (o := o) x
    exact ⟨h.os.trans h0.os, h.tape.trans h0.tape, h.output.trans h0.output, Nat.le_trans h0.size h.size, fun b h1 h2 hl => (h.other b h1 h2 (by simpa using hl)).trans (h0.other b h1 h2 hl)⟩

set_option maxRecDepth 100000 in
set_option maxHeartbeats 2000000 in
theorem eventOfRow_any (z0 z1 z2 z3 z4 z5 z6 : Int) (w : World) :
    Calls Tryz.prog 56 #[.agg #[.int .i64 z0, .int .i64 z1, .int .i64 z2, .int .i64 z3, .int .i64 z4, .int .i64 z5, .int .i64 z6]] w fun r w' => r = .returned (.agg #[.int .i64 z0, .int .i64 z1, .int .i64 z2, .int .i64 z3, .int .i64 z4, .int .i64 z5, .int .i64 z6]) ∧ Below w.heap.size w w' := by
  go_enter Tryz.func56, Tryz.ntmps56
  go_wp2
  exact bodyPost_ret (v := .agg #[.int .i64 z0, .int .i64 z1, .int .i64 z2, .int .i64 z3, .int .i64 z4, .int .i64 z5, .int .i64 z6]) (by simp [results, Tryz.results56, go_sem]) rfl ⟨rfl, ((Below.refl _ _).alloc (Nat.le_refl _) _).alloc (by simp) _⟩

set_option maxRecDepth 100000 in
set_option maxHeartbeats 2000000 in
theorem outOfRow_any (z0 z1 z2 z3 z4 : Int) (w : World) :
    Calls Tryz.prog 57 #[.agg #[.int .i64 z0, .int .i64 z1, .int .i64 z2, .int .i64 z3, .int .i64 z4]] w fun r w' => r = .returned (.agg #[.int .i64 z0, .int .i64 z1, .int .i64 z2, .int .i64 z3, .int .i64 z4]) ∧ Below w.heap.size w w' := by
  go_enter Tryz.func57, Tryz.ntmps57
  go_wp2
  exact bodyPost_ret (v := .agg #[.int .i64 z0, .int .i64 z1, .int .i64 z2, .int .i64 z3, .int .i64 z4]) (by simp [results, Tryz.results57, go_sem]) rfl ⟨rfl, ((Below.refl _ _).alloc (Nat.le_refl _) _).alloc (by simp) _⟩

set_option maxRecDepth 100000 in
set_option maxHeartbeats 2000000 in
theorem wordOfHead_any (z0 z1 z2 z3 z4 z5 z6 : Int) (w : World) :
    Calls Tryz.prog 16 #[.agg #[.int .i64 z0, .int .i64 z1, .int .i64 z2, .int .i64 z3, .int .i64 z4, .int .i64 z5, .int .i64 z6]] w fun r w' => r = .returned (.agg #[.int .i64 z0, .int .i64 z1, .int .i64 z2, .int .i64 z3, .int .i64 z4, .int .i64 z5, .int .i64 z6, .slice none 0 0, .slice none 0 0, .slice none 0 0, .slice none 0 0]) ∧ Below w.heap.size w w' := by
  go_enter Tryz.func16, Tryz.ntmps16
  go_wp2
  exact bodyPost_ret (v := .agg #[.int .i64 z0, .int .i64 z1, .int .i64 z2, .int .i64 z3, .int .i64 z4, .int .i64 z5, .int .i64 z6, .slice none 0 0, .slice none 0 0, .slice none 0 0, .slice none 0 0]) (by simp [results, Tryz.results16, go_sem]) rfl ⟨rfl, ((Below.refl _ _).alloc (Nat.le_refl _) _).alloc (by simp) _⟩

theorem len7 {l : List Int} (h : l.length = 7) : ∃ z0 z1 z2 z3 z4 z5 z6, l = [z0, z1, z2, z3, z4, z5, z6] := by
  match l, h with
  | [z0, z1, z2, z3, z4, z5, z6], _ => exact ⟨z0, z1, z2, z3, z4, z5, z6, rfl⟩

set_option maxRecDepth 100000 in
set_option maxHeartbeats 4000000 in
theorem eventI_any (w0 w : World) (q : Nat) (vb : Value) (bs : List Int) (p : Nat) (f : Option (Int × Int)) (h : RdI w0 w q vb bs p f) :
    Calls Tryz.prog 20 #[.pointer (some ⟨q, 0, none⟩)] w fun r w' => ∃ (e : EvV) (p' : Nat) (f' : Option (Int × Int)), r = .returned (evAgg e) ∧ RdI w0 w' q vb bs p' f' ∧ OnlyB q w w' ∧ Took bs p f p' f' (evRow e) := by
  have hb0 : Below w.heap.size w (w.alloc (.cells #[.int .i64 0, .int .i64 0, .int .i64 0, .int .i64 0, .int .i64 0, .int .i64 0, .int .i64 0] 56)) := (Below.refl _ _).alloc (Nat.le_refl _) _
  have hs0 : (w.alloc (.cells #[.int .i64 0, .int .i64 0, .int .i64 0, .int .i64 0, .int .i64 0, .int .i64 0, .int .i64 0] 56)).heap.size = w.heap.size + 1 := by simp
  have hb1 : Below (w.heap.size + 1) (w.alloc (.cells #[.int .i64 0, .int .i64 0, .int .i64 0, .int .i64 0, .int .i64 0, .int .i64 0, .int .i64 0] 56)) ((w.alloc (.cells #[.int .i64 0, .int .i64 0, .int .i64 0, .int .i64 0, .int .i64 0, .int .i64 0, .int .i64 0] 56)).alloc (.cells #[.int .i64 0, .int .i64 0, .int .i64 0, .int .i64 0, .int .i64 0, .int .i64 0, .int .i64 0] 93)) := by
    have e : Below (w.alloc (.cells #[.int .i64 0, .int .i64 0, .int .i64 0, .int .i64 0, .int .i64 0, .int .i64 0, .int .i64 0] 56)).heap.size (w.alloc (.cells #[.int .i64 0, .int .i64 0, .int .i64 0, .int .i64 0, .int .i64 0, .int .i64 0, .int .i64 0] 56)) ((w.alloc (.cells #[.int .i64 0, .int .i64 0, .int .i64 0, .int .i64 0, .int .i64 0, .int .i64 0, .int .i64 0] 56)).alloc (.cells #[.int .i64 0, .int .i64 0, .int .i64 0, .int .i64 0, .int .i64 0, .int .i64 0, .int .i64 0] 93)) := (Below.refl _ _).alloc (Nat.le_refl _) _
    rwa [hs0] at e
  have hr0 : (w.alloc (.cells #[.int .i64 0, .int .i64 0, .int .i64 0, .int .i64 0, .int .i64 0, .int .i64 0, .int .i64 0] 56)).rowIs w.heap.size 56 7 (fun _ => .int .i64 0) := World.rowIs_alloc w #[.int .i64 0, .int .i64 0, .int .i64 0, .int .i64 0, .int .i64 0, .int .i64 0, .int .i64 0] 56 (fun _ => .int .i64 0) (fun i hi => by
    simp only [List.size_toArray, List.length_cons, List.length_nil] at hi
    rcases (show i = 0 ∨ i = 1 ∨ i = 2 ∨ i = 3 ∨ i = 4 ∨ i = 5 ∨ i = 6 by omega) with rfl | rfl | rfl | rfl | rfl | rfl | rfl <;> rfl)
  have hr1 : ((w.alloc (.cells #[.int .i64 0, .int .i64 0, .int .i64 0, .int .i64 0, .int .i64 0, .int .i64 0, .int .i64 0] 56)).alloc (.cells #[.int .i64 0, .int .i64 0, .int .i64 0, .int .i64 0, .int .i64 0, .int .i64 0, .int .i64 0] 93)).rowIs (w.heap.size + 1) 93 7 (fun _ => .int .i64 0) := by
    have e := World.rowIs_alloc (w.alloc (.cells #[.int .i64 0, .int .i64 0, .int .i64 0, .int .i64 0, .int .i64 0, .int .i64 0, .int .i64 0] 56)) #[.int .i64 0, .int .i64 0, .int .i64 0, .int .i64 0, .int .i64 0, .int .i64 0, .int .i64 0] 93 (fun _ => .int .i64 0) (fun i hi => by
      simp only [List.size_toArray, List.length_cons, List.length_nil] at hi
      rcases (show i = 0 ∨ i = 1 ∨ i = 2 ∨ i = 3 ∨ i = 4 ∨ i = 5 ∨ i = 6 by omega) with rfl | rfl | rfl | rfl | rfl | rfl | rfl <;> rfl)
    rwa [hs0] at e
  have hr0' := hr0.of_block (hb1.block w.heap.size (by omega))
  have hlt := h.lt
  have hw1 : Below w.heap.size w ((w.alloc (.cells #[.int .i64 0, .int .i64 0, .int .i64 0, .int .i64 0, .int .i64 0, .int .i64 0, .int .i64 0] 56)).alloc (.cells #[.int .i64 0, .int .i64 0, .int .i64 0, .int .i64 0, .int .i64 0, .int .i64 0, .int .i64 0] 93)) := hb0.trans (hb1.mono (by omega))
  have H := hide (h.on hw1)
  have HW := hide hw1
  have HLT := hide hlt
  have HR0 := hide hr0'
  have HR1 := hide hr1
  have HSZ : Hid (((w.alloc (.cells #[.int .i64 0, .int .i64 0, .int .i64 0, .int .i64 0, .int .i64 0, .int .i64 0, .int .i64 0] 56)).alloc (.cells #[.int .i64 0, .int .i64 0, .int .i64 0, .int .i64 0, .int .i64 0, .int .i64 0, .int .i64 0] 93)).heap.size = w.heap.size + 2) := hide (by simp)
  clear h hb0 hs0 hb1 hr0 hr1 hr0' hlt hw1
  go_enter Tryz.func20, Tryz.ntmps20
  go_wp2_with fail
  generalize ((w.alloc (.cells #[.int .i64 0, .int .i64 0, .int .i64 0, .int .i64 0, .int .i64 0, .int .i64 0, .int .i64 0] 56)).alloc (.cells #[.int .i64 0, .int .i64 0, .int .i64 0, .int .i64 0, .int .i64 0, .int .i64 0, .int .i64 0] 93)) = X1 at *
  refine (rowI_any w0 _ q (w.heap.size + 1) 93 7 _ vb bs p f (unhide H) (by have := unhide HLT; omega) (unhide HR1) (by omega)).mono ?_
  rintro r w2 ⟨rfl, zs, p2, f2, hl, hrow2, hR2, hO2, hT2⟩
  obtain ⟨z0, z1, z2, z3, z4, z5, z6, rfl⟩ := len7 hl
  have hs2 := hO2.size
  have hrA := (unhide HR0).of_block (hO2.other w.heap.size (by have := unhide HLT; omega) (by omega) (by have := unhide HSZ; omega))
  have HO2 := hide (OnlyB.then2 ⟨(unhide HW).size, fun b _ hl => (unhide HW).block b hl, (unhide HW).mono (Nat.le_of_lt (unhide HLT))⟩ hO2 (unhide HLT) (by omega))
  have HR2 := hide hR2
  have HT2 := hide hT2
  have HRA := hide hrA
  have HS2 : Hid (w.heap.size + 2 ≤ w2.heap.size) := hide (by have := unhide HSZ; omega)
  have c0 := hrow2.cell (i := 0) (by omega)
  have c1 := hrow2.cell (i := 1) (by omega)
  have c2 := hrow2.cell (i := 2) (by omega)
  have c3 := hrow2.cell (i := 3) (by omega)
  have c4 := hrow2.cell (i := 4) (by omega)
  have c5 := hrow2.cell (i := 5) (by omega)
  have c6 := hrow2.cell (i := 6) (by omega)
  clear hl hrow2 hR2 hO2 hT2 hs2 hrA HR0 HR1 HW H HSZ
  simp only [List.getD_cons_zero, List.getD_cons_succ] at c0 c1 c2 c3 c4 c5 c6
  go_wp2_with fail
  clear c0 c1 c2 c3 c4 c5 c6
  refine (eventOfRow_any z0 z1 z2 z3 z4 z5 z6 _).mono ?_
  rintro r w3 ⟨rfl, hb3⟩
  have hrB := (unhide HRA).of_block (hb3.block w.heap.size (by have := unhide HS2; omega))
  have HR3 := hide ((unhide HR2).on hb3)
  have HO3 := hide ((unhide HO2).then (by have := unhide HLT; have := unhide HS2; omega) hb3)
  have r0 : w3.cell? ⟨w.heap.size, 0, none⟩ = some (.int .i64 0) := hrB.cell (i := 0) (by omega)
  have s0 : w3.frozen? ⟨w.heap.size, 0, none⟩ = false := hrB.frozen 0
  have r1 : w3.cell? ⟨w.heap.size, 1, none⟩ = some (.int .i64 0) := hrB.cell (i := 1) (by omega)
  have s1 : w3.frozen? ⟨w.heap.size, 1, none⟩ = false := hrB.frozen 1
  have r2 : w3.cell? ⟨w.heap.size, 2, none⟩ = some (.int .i64 0) := hrB.cell (i := 2) (by omega)
  have s2 : w3.frozen? ⟨w.heap.size, 2, none⟩ = false := hrB.frozen 2
  have r3 : w3.cell? ⟨w.heap.size, 3, none⟩ = some (.int .i64 0) := hrB.cell (i := 3) (by omega)
  have s3 : w3.frozen? ⟨w.heap.size, 3, none⟩ = false := hrB.frozen 3
  have r4 : w3.cell? ⟨w.heap.size, 4, none⟩ = some (.int .i64 0) := hrB.cell (i := 4) (by omega)
  have s4 : w3.frozen? ⟨w.heap.size, 4, none⟩ = false := hrB.frozen 4
  have r5 : w3.cell? ⟨w.heap.size, 5, none⟩ = some (.int .i64 0) := hrB.cell (i := 5) (by omega)
  have s5 : w3.frozen? ⟨w.heap.size, 5, none⟩ = false := hrB.frozen 5
  have r6 : w3.cell? ⟨w.heap.size, 6, none⟩ = some (.int .i64 0) := hrB.cell (i := 6) (by omega)
  have s6 : w3.frozen? ⟨w.heap.size, 6, none⟩ = false := hrB.frozen 6
  clear hrB hb3 HRA
  have HR4 := hide (setVals_rdI (o := 0) (unhide HR3) (r := w.heap.size) (unhide HLT) [.int .i64 z0, .int .i64 z1, .int .i64 z2, .int .i64 z3, .int .i64 z4, .int .i64 z5, .int .i64 z6])
  have HO4 := hide ((unhide HO3).then2 (only2_setVals q w.heap.size 0 w3 [.int .i64 z0, .int .i64 z1, .int .i64 z2, .int .i64 z3, .int .i64 z4, .int .i64 z5, .int .i64 z6]) (unhide HLT) (Nat.le_refl _))
  go_wp2_with fail
  exact bodyPost_ret (v := .agg #[.int .i64 z0, .int .i64 z1, .int .i64 z2, .int .i64 z3, .int .i64 z4, .int .i64 z5, .int .i64 z6]) (by simp [results, Tryz.results20, go_sem, r0, r1, r2, r3, r4, r5, r6]) rfl ⟨⟨z0, z1, z2, z3, z4, z5, z6⟩, p2, f2, rfl, unhide HR4, unhide HO4, unhide HT2⟩

theorem len5 {l : List Int} (h : l.length = 5) : ∃ z0 z1 z2 z3 z4, l = [z0, z1, z2, z3, z4] := by
  match l, h with
  | [z0, z1, z2, z3, z4], _ => exact ⟨z0, z1, z2, z3, z4, rfl⟩

set_option maxRecDepth 100000 in
set_option maxHeartbeats 4000000 in
theorem outI_any (w0 w : World) (q : Nat) (vb : Value) (bs : List Int) (p : Nat) (f : Option (Int × Int)) (h : RdI w0 w q vb bs p f) :
    Calls Tryz.prog 22 #[.pointer (some ⟨q, 0, none⟩)] w fun r w' => ∃ (e : OutV) (p' : Nat) (f' : Option (Int × Int)), r = .returned (outAgg e) ∧ RdI w0 w' q vb bs p' f' ∧ OnlyB q w w' ∧ Took bs p f p' f' (outRow e) := by
  have hb0 : Below w.heap.size w (w.alloc (.cells #[.int .i64 0, .int .i64 0, .int .i64 0, .int .i64 0, .int .i64 0] 60)) := (Below.refl _ _).alloc (Nat.le_refl _) _
  have hs0 : (w.alloc (.cells #[.int .i64 0, .int .i64 0, .int .i64 0, .int .i64 0, .int .i64 0] 60)).heap.size = w.heap.size + 1 := by simp
  have hb1 : Below (w.heap.size + 1) (w.alloc (.cells #[.int .i64 0, .int .i64 0, .int .i64 0, .int .i64 0, .int .i64 0] 60)) ((w.alloc (.cells #[.int .i64 0, .int .i64 0, .int .i64 0, .int .i64 0, .int .i64 0] 60)).alloc (.cells #[.int .i64 0, .int .i64 0, .int .i64 0, .int .i64 0, .int .i64 0] 96)) := by
    have e : Below (w.alloc (.cells #[.int .i64 0, .int .i64 0, .int .i64 0, .int .i64 0, .int .i64 0] 60)).heap.size (w.alloc (.cells #[.int .i64 0, .int .i64 0, .int .i64 0, .int .i64 0, .int .i64 0] 60)) ((w.alloc (.cells #[.int .i64 0, .int .i64 0, .int .i64 0, .int .i64 0, .int .i64 0] 60)).alloc (.cells #[.int .i64 0, .int .i64 0, .int .i64 0, .int .i64 0, .int .i64 0] 96)) := (Below.refl _ _).alloc (Nat.le_refl _) _
    rwa [hs0] at e
  have hr0 : (w.alloc (.cells #[.int .i64 0, .int .i64 0, .int .i64 0, .int .i64 0, .int .i64 0] 60)).rowIs w.heap.size 60 5 (fun _ => .int .i64 0) := World.rowIs_alloc w #[.int .i64 0, .int .i64 0, .int .i64 0, .int .i64 0, .int .i64 0] 60 (fun _ => .int .i64 0) (fun i hi => by
    simp only [List.size_toArray, List.length_cons, List.length_nil] at hi
    rcases (show i = 0 ∨ i = 1 ∨ i = 2 ∨ i = 3 ∨ i = 4 by omega) with rfl | rfl | rfl | rfl | rfl <;> rfl)
  have hr1 : ((w.alloc (.cells #[.int .i64 0, .int .i64 0, .int .i64 0, .int .i64 0, .int .i64 0] 60)).alloc (.cells #[.int .i64 0, .int .i64 0, .int .i64 0, .int .i64 0, .int .i64 0] 96)).rowIs (w.heap.size + 1) 96 5 (fun _ => .int .i64 0) := by
    have e := World.rowIs_alloc (w.alloc (.cells #[.int .i64 0, .int .i64 0, .int .i64 0, .int .i64 0, .int .i64 0] 60)) #[.int .i64 0, .int .i64 0, .int .i64 0, .int .i64 0, .int .i64 0] 96 (fun _ => .int .i64 0) (fun i hi => by
      simp only [List.size_toArray, List.length_cons, List.length_nil] at hi
      rcases (show i = 0 ∨ i = 1 ∨ i = 2 ∨ i = 3 ∨ i = 4 by omega) with rfl | rfl | rfl | rfl | rfl <;> rfl)
    rwa [hs0] at e
  have hr0' := hr0.of_block (hb1.block w.heap.size (by omega))
  have hlt := h.lt
  have hw1 : Below w.heap.size w ((w.alloc (.cells #[.int .i64 0, .int .i64 0, .int .i64 0, .int .i64 0, .int .i64 0] 60)).alloc (.cells #[.int .i64 0, .int .i64 0, .int .i64 0, .int .i64 0, .int .i64 0] 96)) := hb0.trans (hb1.mono (by omega))
  have H := hide (h.on hw1)
  have HW := hide hw1
  have HLT := hide hlt
  have HR0 := hide hr0'
  have HR1 := hide hr1
  have HSZ : Hid (((w.alloc (.cells #[.int .i64 0, .int .i64 0, .int .i64 0, .int .i64 0, .int .i64 0] 60)).alloc (.cells #[.int .i64 0, .int .i64 0, .int .i64 0, .int .i64 0, .int .i64 0] 96)).heap.size = w.heap.size + 2) := hide (by simp)
  clear h hb0 hs0 hb1 hr0 hr1 hr0' hlt hw1
  go_enter Tryz.func22, Tryz.ntmps22
  go_wp2_with fail
  generalize ((w.alloc (.cells #[.int .i64 0, .int .i64 0, .int .i64 0, .int .i64 0, .int .i64 0] 60)).alloc (.cells #[.int .i64 0, .int .i64 0, .int .i64 0, .int .i64 0, .int .i64 0] 96)) = X1 at *
  refine (rowI_any w0 _ q (w.heap.size + 1) 96 5 _ vb bs p f (unhide H) (by have := unhide HLT; omega) (unhide HR1) (by omega)).mono ?_
  rintro r w2 ⟨rfl, zs, p2, f2, hl, hrow2, hR2, hO2, hT2⟩
  obtain ⟨z0, z1, z2, z3, z4, rfl⟩ := len5 hl
  have hs2 := hO2.size
  have hrA := (unhide HR0).of_block (hO2.other w.heap.size (by have := unhide HLT; omega) (by omega) (by have := unhide HSZ; omega))
  have HO2 := hide (OnlyB.then2 ⟨(unhide HW).size, fun b _ hl => (unhide HW).block b hl, (unhide HW).mono (Nat.le_of_lt (unhide HLT))⟩ hO2 (unhide HLT) (by omega))
  have HR2 := hide hR2
  have HT2 := hide hT2
  have HRA := hide hrA
  have HS2 : Hid (w.heap.size + 2 ≤ w2.heap.size) := hide (by have := unhide HSZ; omega)
  have c0 := hrow2.cell (i := 0) (by omega)
  have c1 := hrow2.cell (i := 1) (by omega)
  have c2 := hrow2.cell (i := 2) (by omega)
  have c3 := hrow2.cell (i := 3) (by omega)
  have c4 := hrow2.cell (i := 4) (by omega)
  clear hl hrow2 hR2 hO2 hT2 hs2 hrA HR0 HR1 HW H HSZ
  simp only [List.getD_cons_zero, List.getD_cons_succ] at c0 c1 c2 c3 c4
  go_wp2_with fail
  clear c0 c1 c2 c3 c4
  refine (outOfRow_any z0 z1 z2 z3 z4 _).mono ?_
  rintro r w3 ⟨rfl, hb3⟩
  have hrB := (unhide HRA).of_block (hb3.block w.heap.size (by have := unhide HS2; omega))
  have HR3 := hide ((unhide HR2).on hb3)
  have HO3 := hide ((unhide HO2).then (by have := unhide HLT; have := unhide HS2; omega) hb3)
  have r0 : w3.cell? ⟨w.heap.size, 0, none⟩ = some (.int .i64 0) := hrB.cell (i := 0) (by omega)
  have s0 : w3.frozen? ⟨w.heap.size, 0, none⟩ = false := hrB.frozen 0
  have r1 : w3.cell? ⟨w.heap.size, 1, none⟩ = some (.int .i64 0) := hrB.cell (i := 1) (by omega)
  have s1 : w3.frozen? ⟨w.heap.size, 1, none⟩ = false := hrB.frozen 1
  have r2 : w3.cell? ⟨w.heap.size, 2, none⟩ = some (.int .i64 0) := hrB.cell (i := 2) (by omega)
  have s2 : w3.frozen? ⟨w.heap.size, 2, none⟩ = false := hrB.frozen 2
  have r3 : w3.cell? ⟨w.heap.size, 3, none⟩ = some (.int .i64 0) := hrB.cell (i := 3) (by omega)
  have s3 : w3.frozen? ⟨w.heap.size, 3, none⟩ = false := hrB.frozen 3
  have r4 : w3.cell? ⟨w.heap.size, 4, none⟩ = some (.int .i64 0) := hrB.cell (i := 4) (by omega)
  have s4 : w3.frozen? ⟨w.heap.size, 4, none⟩ = false := hrB.frozen 4
  clear hrB hb3 HRA
  have HR4 := hide (setVals_rdI (o := 0) (unhide HR3) (r := w.heap.size) (unhide HLT) [.int .i64 z0, .int .i64 z1, .int .i64 z2, .int .i64 z3, .int .i64 z4])
  have HO4 := hide ((unhide HO3).then2 (only2_setVals q w.heap.size 0 w3 [.int .i64 z0, .int .i64 z1, .int .i64 z2, .int .i64 z3, .int .i64 z4]) (unhide HLT) (Nat.le_refl _))
  go_wp2_with fail
  exact bodyPost_ret (v := .agg #[.int .i64 z0, .int .i64 z1, .int .i64 z2, .int .i64 z3, .int .i64 z4]) (by simp [results, Tryz.results22, go_sem, r0, r1, r2, r3, r4]) rfl ⟨⟨z0, z1, z2, z3, z4⟩, p2, f2, rfl, unhide HR4, unhide HO4, unhide HT2⟩

end Go.Proofs.YtiljjhipiinafaaGreat

/- The reader of impl: lists. -/
namespace Go.Proofs.YtiljjhipiinafaaGreat
open Go.RowKit
set_option linter.unusedVariables false
set_option linter.unusedSimpArgs false

/-- What reading a list comes to. -/
structure TookL {α : Type} (row : α → List Int) (bs : List Int) (most : Int) (p : Nat) (f : Option (Int × Int)) (p' : Nat) (f' : Option (Int × Int)) (xs : List α) : Prop where
  len : (xs.length : Int) ≤ most
  keep : f ≠ none → f' = f ∧ p' = p
  sound : f' = none → (∀ z ∈ xs.flatMap row, -1 ≤ z) ∧ ((∀ z ∈ xs.flatMap row, z ≤ 9999) → bs.drop p = packI ((xs.length : Int) :: xs.flatMap row) ++ bs.drop p')
  comp : f = none → ∀ ys : List α, (ys.length : Int) ≤ most → NumsIn bs p ((ys.length : Int) :: ys.flatMap row) → xs = ys ∧ p' = p + (packI ((ys.length : Int) :: ys.flatMap row)).length ∧ f' = none

theorem flat_inj {α : Type} {row : α → List Int} {m : Nat} (hl : ∀ a, (row a).length = m) (hi : ∀ a b, row a = row b → a = b) : ∀ xs ys : List α, xs.length = ys.length → xs.flatMap row = ys.flatMap row → xs = ys
  | [], [], _, _ => rfl
  | [], _ :: _, h, _ => by simp at h
  | _ :: _, [], h, _ => by simp at h
  | x :: xs, y :: ys, h, e => by
    simp only [List.flatMap_cons] at e
    have h1 := List.append_inj e (by rw [hl, hl])
    rw [hi x y h1.1, flat_inj hl hi xs ys (by simpa using h) h1.2]

theorem packI_cons (n : Int) (l : List Int) : packI (n :: l) = packI [n] ++ packI l := packI_app [n] l

theorem TookL.of {α : Type} {row : α → List Int} {m : Nat} (hl : ∀ a, (row a).length = m) (hi : ∀ a b, row a = row b → a = b) {bs : List Int} {most : Int} {p pc p' : Nat} {f fc f' : Option (Int × Int)} {n : Int} {xs : List α}
    (hm : most ≤ 9999) (hc : TookC bs most p f pc fc n) (ht : Took bs pc fc p' f' (xs.flatMap row)) (hn : (xs.length : Int) = n) : TookL row bs most p f p' f' xs := by
  refine ⟨by have := hc.rng; omega, fun hf => ?_, fun hf => ?_, fun hf ys hy hin => ?_⟩
  · obtain ⟨h1, h2⟩ := hc.keep hf
    obtain ⟨h3, h4⟩ := ht.keep (by rw [h1]; exact hf)
    exact ⟨h3.trans h1, h4.trans h2⟩
  · obtain ⟨h1, h2⟩ := ht.sound hf
    refine ⟨h1, fun hz => ?_⟩
    rw [packI_cons, hn, hc.sound (ht.none_of hf), h2 hz, List.append_assoc]
  · have h1 := hin.at 0 (by simp)
    simp only [List.take_zero, packI_nil, List.length_nil, Nat.add_zero, List.getElem_cons_zero] at h1
    obtain ⟨h2, h3, h4⟩ := hc.comp hf ys.length h1 (by omega) hy
    have hr := NumsIn.right (us := [(ys.length : Int)]) (cs := ys.flatMap row) hin
    rw [packI_one] at hr
    have hxy : xs.length = ys.length := by omega
    obtain ⟨h5, h6, h7⟩ := ht.comp h4 (ys.flatMap row) (by rw [flatTo_len hl, flatTo_len hl, hxy]) (by rw [h3]; exact hr)
    refine ⟨flat_inj hl hi xs ys hxy h5, ?_, h7⟩
    rw [h6, h3, packI_cons, packI_one, List.length_append]; omega

def intRow (z : Int) : List Int := [z]
theorem slice_EvR : Tryz.prog.underlying 25 = some (.slice 56) := by kernel_rfl
theorem infoEvR : ∃ i, Tryz.prog.info? 56 = some i ∧ i.zero = some (.agg #[.int .i64 0, .int .i64 0, .int .i64 0, .int .i64 0, .int .i64 0, .int .i64 0, .int .i64 0]) ∧ i.size = 7 ∧ i.bytes = 56 := by
  have hh : (Tryz.prog.info? 56).map (fun i => (i.zero, i.size, i.bytes)) = some (some (.agg #[.int .i64 0, .int .i64 0, .int .i64 0, .int .i64 0, .int .i64 0, .int .i64 0, .int .i64 0]), 7, 56) := by kernel_rfl
  obtain ⟨i, hi, h⟩ := Option.map_eq_some_iff.1 hh
  simp only [Prod.mk.injEq] at h
  exact ⟨i, hi, h.1, h.2.1, h.2.2⟩
theorem infoOuR : ∃ i, Tryz.prog.info? 60 = some i ∧ i.zero = some (.agg #[.int .i64 0, .int .i64 0, .int .i64 0, .int .i64 0, .int .i64 0]) ∧ i.size = 5 ∧ i.bytes = 40 := by
  obtain ⟨i, hi, h⟩ := Option.map_eq_some_iff.1 info_OutW
  simp only [Prod.mk.injEq] at h
  exact ⟨i, hi, h.1, h.2.1, h.2.2⟩

theorem Int_len : ∀ a : Int, (intRow a).length = 1 := fun _ => rfl
theorem Int_inj : ∀ a b : Int, intRow a = intRow b → a = b := fun a b h => by simpa [intRow] using h

set_option maxRecDepth 100000 in
set_option maxHeartbeats 4000000 in
theorem readInt_any (w0 w : World) (q : Nat) (vb : Value) (bs : List Int) (p : Nat) (f : Option (Int × Int)) (most : Int) (hm0 : 0 ≤ most) (hm : most ≤ 100) (h : RdI w0 w q vb bs p f) :
    Calls Tryz.prog 17 #[.pointer (some ⟨q, 0, none⟩), .int .i64 most, .func (.func 18) #[.pointer (some ⟨q, 0, none⟩)] #[]] w fun r w' => ∃ (v : Value), r = .returned v ∧ ∃ (xs : List Int) (p' : Nat) (f' : Option (Int × Int)), w'.ownsRow w.heap.size 3 1 v xs.length (flatCells (xs.map intRow)) ∧ RdI w0 w' q vb bs p' f' ∧ OnlyB q w w' ∧ TookL intRow bs most p f p' f' xs := by
  obtain ⟨i1, hi1, hz0, hz1, hz2⟩ := infoI_parts
  have hlt := h.lt
  have HLT := hide hlt
  have H := hide h
  clear h hlt
  go_enter Tryz.func17, Tryz.ntmps17
  go_wp2_with fail
  refine (countI_any w0 _ q vb bs p f most hm0 (by omega) (unhide H)).mono ?_
  rintro r w1 ⟨n, pc, fc, rfl, hR1, hO1, hC⟩
  have hnr := hC.rng
  have HR1 := hide hR1
  have HO1 := hide hO1
  have HC := hide hC
  clear hR1 hO1 hC H
  obtain ⟨N, rfl⟩ := Int.eq_ofNat_of_zero_le hnr.1
  go_wp2_with fail
  go_loopw [7, 11] (fun u i wr => ∃ (k : Nat) (xs : List Int) (p1 : Nat) (f1 : Option (Int × Int)), k ≤ N ∧ i = .int .i64 k ∧ Hid (xs.length = k) ∧ Hid (wr.ownsRow w.heap.size 3 1 u xs.length (flatCells (xs.map intRow))) ∧ Hid (RdI w0 wr q vb bs p1 f1) ∧ Hid (OnlyB q w wr) ∧ Hid (Took bs pc fc p1 f1 (xs.flatMap intRow))) (fun _ i _ => N - (intOf i).toNat)
  case atStart => exact ⟨0, [], pc, fc, Nat.zero_le _, rfl, hide rfl, hide (World.ownsRow_nil _ _ _ _), HR1, HO1, hide (Took.nil _ _ _)⟩
  case round =>
    obtain ⟨k, xs, p1, f1, hk, rfl, HL, HO, HR, HB, HT⟩ := hrel
    by_cases hkn : k < N
    · have hkI : (k : Int) < (N : Int) := by omega
      go_wp2_with fail
      refine (numberI_any w0 _ q vb bs p1 f1 (unhide HR)).mono ?_
      rintro r w3 ⟨x, p3, f3, rfl, hR3, hO3, hT3⟩
      have HO3 := hide (owns_onlyB hO3 (unhide HLT) (unhide HO))
      have HR3 := hide hR3
      have HB3 := hide ((unhide HB).trans hO3)
      have HT3 := hide (show Took bs pc fc p3 f3 ((xs ++ [x]).flatMap intRow) by
        have e := (unhide HT).trans hT3
        rw [List.flatMap_append, show [x].flatMap intRow = intRow x by simp]
        exact e)
      clear hR3 hO3 hT3 HO HR HB HT
      have hxl : xs.length ≤ 100 := by rw [unhide HL]; omega
      have hbA : Below w3.heap.size w3 (w3.alloc (.cells #[.int .i64 x] 3)) := (Below.refl _ _).alloc (Nat.le_refl _) _
      have hownA := ownsOn hbA (unhide HO3)
      have HBA := hide hbA
      have hsz := (unhide HB3).size
      clear hbA
      go_wp2_with (at_builtin; refine wpList_append_lies _ (by rfl) _ _ _ (by rfl) w.heap.size 3 i1 _ 1 8 slice_IntW hi1 hz0 hz1 hz2 (by rfl) (by omega) _ xs.length (flatCells (xs.map intRow)) (by rfl) hownA ⟨w3.heap.size, 0, none⟩ 1 1 [.int .i64 x] (by rfl) (by rfl) (World.news_of_block (cs := #[.int .i64 x]) (t := 3) (fr := (0, 0)) (heap_alloc_new w3 _)) (by simp [Value.oneCell']) (by omega) (by unfold maxLen; omega) (by omega) (by simp; omega) (w3.heap.size + 1) (by simp) ?_; intro gg cap w4 hown4 hgrow hat hlt4)
      have HG4 := hide (Gr.of (n := xs.length + 1) (cap := cap) (unhide HBA) hgrow hat)
      have HO4 := hide (show w4.ownsRow w.heap.size 3 1 (.slice (some ⟨gg, 0, none⟩) (xs.length + 1) cap) (xs ++ [x]).length (flatCells ((xs ++ [x]).map intRow)) by
        rw [List.length_append, List.map_append]
        have e : flatCells (xs.map intRow ++ [x].map intRow) = flatCells (xs.map intRow) ++ [.int .i64 x] := by simp [flatCells, intRow]
        rw [e]
        exact hown4)
      have HV : Hid (∀ g, Value.ownBlock _ = some g → w.heap.size ≤ g) := hide (fun g e => ((unhide HO3).lt g e).1)
      have HR4 := hide ((unhide HR3).gr (unhide HG4) (fun g e => by have := (unhide HV) g e; have := unhide HLT; omega))
      have HB4 := hide ((unhide HB3).gr (unhide HG4) (unhide HLT) (unhide HV))
      clear hown4 hgrow hat hlt4 hownA
      go_wp2_with fail
      go_roundw
      case rel => exact ⟨k + 1, xs ++ [x], p3, f3, by omega, by go_num, hide (by rw [List.length_append, unhide HL]; rfl), HO4, HR4, HB4, HT3⟩
      case measure => simp [intOf]; omega
    · obtain rfl : k = N := by omega
      go_wp2_with fail
      go_ret
      exact ⟨_, rfl, xs, p1, f1, unhide HO, unhide HR, unhide HB, TookL.of Int_len Int_inj (by omega) (unhide HC) (unhide HT) (by rw [unhide HL])⟩

theorem Ev_len : ∀ a : EvV, (evRow a).length = 7 := fun _ => rfl
theorem Ev_inj : ∀ a b : EvV, evRow a = evRow b → a = b := fun a b h => by
  obtain ⟨a0, a1, a2, a3, a4, a5, a6⟩ := a
  obtain ⟨b0, b1, b2, b3, b4, b5, b6⟩ := b
  simp only [evRow, List.cons.injEq, and_true] at h
  obtain ⟨rfl, rfl, rfl, rfl, rfl, rfl, rfl⟩ := h
  rfl

set_option maxRecDepth 100000 in
set_option maxHeartbeats 4000000 in
theorem readEv_any (w0 w : World) (q : Nat) (vb : Value) (bs : List Int) (p : Nat) (f : Option (Int × Int)) (most : Int) (hm0 : 0 ≤ most) (hm : most ≤ 100) (h : RdI w0 w q vb bs p f) :
    Calls Tryz.prog 19 #[.pointer (some ⟨q, 0, none⟩), .int .i64 most, .func (.func 20) #[.pointer (some ⟨q, 0, none⟩)] #[]] w fun r w' => ∃ (v : Value), r = .returned v ∧ ∃ (xs : List EvV) (p' : Nat) (f' : Option (Int × Int)), w'.ownsRow w.heap.size 56 7 v xs.length (flatCells (xs.map evRow)) ∧ RdI w0 w' q vb bs p' f' ∧ OnlyB q w w' ∧ TookL evRow bs most p f p' f' xs := by
  obtain ⟨i1, hi1, hz0, hz1, hz2⟩ := infoEvR
  have hlt := h.lt
  have HLT := hide hlt
  have H := hide h
  clear h hlt
  go_enter Tryz.func19, Tryz.ntmps19
  go_wp2_with fail
  refine (countI_any w0 _ q vb bs p f most hm0 (by omega) (unhide H)).mono ?_
  rintro r w1 ⟨n, pc, fc, rfl, hR1, hO1, hC⟩
  have hnr := hC.rng
  have HR1 := hide hR1
  have HO1 := hide hO1
  have HC := hide hC
  clear hR1 hO1 hC H
  obtain ⟨N, rfl⟩ := Int.eq_ofNat_of_zero_le hnr.1
  go_wp2_with fail
  go_loopw [7, 11] (fun u i wr => ∃ (k : Nat) (xs : List EvV) (p1 : Nat) (f1 : Option (Int × Int)), k ≤ N ∧ i = .int .i64 k ∧ Hid (xs.length = k) ∧ Hid (wr.ownsRow w.heap.size 56 7 u xs.length (flatCells (xs.map evRow))) ∧ Hid (RdI w0 wr q vb bs p1 f1) ∧ Hid (OnlyB q w wr) ∧ Hid (Took bs pc fc p1 f1 (xs.flatMap evRow))) (fun _ i _ => N - (intOf i).toNat)
  case atStart => exact ⟨0, [], pc, fc, Nat.zero_le _, rfl, hide rfl, hide (World.ownsRow_nil _ _ _ _), HR1, HO1, hide (Took.nil _ _ _)⟩
  case round =>
    obtain ⟨k, xs, p1, f1, hk, rfl, HL, HO, HR, HB, HT⟩ := hrel
    by_cases hkn : k < N
    · have hkI : (k : Int) < (N : Int) := by omega
      go_wp2_with fail
      refine (eventI_any w0 _ q vb bs p1 f1 (unhide HR)).mono ?_
      rintro r w3 ⟨x, p3, f3, rfl, hR3, hO3, hT3⟩
      have HO3 := hide (owns_onlyB hO3 (unhide HLT) (unhide HO))
      have HR3 := hide hR3
      have HB3 := hide ((unhide HB).trans hO3)
      have HT3 := hide (show Took bs pc fc p3 f3 ((xs ++ [x]).flatMap evRow) by
        have e := (unhide HT).trans hT3
        rw [List.flatMap_append, show [x].flatMap evRow = evRow x by simp]
        exact e)
      clear hR3 hO3 hT3 HO HR HB HT
      have hxl : xs.length ≤ 100 := by rw [unhide HL]; omega
      have hbA : Below w3.heap.size w3 (w3.alloc (.cells #[.int .i64 x.time, .int .i64 x.to, .int .i64 x.src, .int .i64 x.count, .int .i64 x.n, .int .i64 x.kind, .int .i64 x.arg] 56)) := (Below.refl _ _).alloc (Nat.le_refl _) _
      have hownA := ownsOn hbA (unhide HO3)
      have HBA := hide hbA
      have hsz := (unhide HB3).size
      clear hbA
      go_wp2_with (at_builtin; refine wpList_append_lies _ (by rfl) _ _ _ (by rfl) w.heap.size 56 i1 _ 7 56 slice_EvR hi1 hz0 hz1 hz2 (by rfl) (by omega) _ xs.length (flatCells (xs.map evRow)) (by rfl) hownA ⟨w3.heap.size, 0, none⟩ 1 1 [.int .i64 x.time, .int .i64 x.to, .int .i64 x.src, .int .i64 x.count, .int .i64 x.n, .int .i64 x.kind, .int .i64 x.arg] (by rfl) (by rfl) (World.news_of_block (cs := #[.int .i64 x.time, .int .i64 x.to, .int .i64 x.src, .int .i64 x.count, .int .i64 x.n, .int .i64 x.kind, .int .i64 x.arg]) (t := 56) (fr := (0, 0)) (heap_alloc_new w3 _)) (by simp [Value.oneCell']) (by omega) (by unfold maxLen; omega) (by omega) (by simp; omega) (w3.heap.size + 1) (by simp) ?_; intro gg cap w4 hown4 hgrow hat hlt4)
      have HG4 := hide (Gr.of (n := xs.length + 1) (cap := cap) (unhide HBA) hgrow hat)
      have HO4 := hide (show w4.ownsRow w.heap.size 56 7 (.slice (some ⟨gg, 0, none⟩) (xs.length + 1) cap) (xs ++ [x]).length (flatCells ((xs ++ [x]).map evRow)) by
        rw [List.length_append, List.map_append]
        have e : flatCells (xs.map evRow ++ [x].map evRow) = flatCells (xs.map evRow) ++ [.int .i64 x.time, .int .i64 x.to, .int .i64 x.src, .int .i64 x.count, .int .i64 x.n, .int .i64 x.kind, .int .i64 x.arg] := by simp [flatCells, evRow]
        rw [e]
        exact hown4)
      have HV : Hid (∀ g, Value.ownBlock _ = some g → w.heap.size ≤ g) := hide (fun g e => ((unhide HO3).lt g e).1)
      have HR4 := hide ((unhide HR3).gr (unhide HG4) (fun g e => by have := (unhide HV) g e; have := unhide HLT; omega))
      have HB4 := hide ((unhide HB3).gr (unhide HG4) (unhide HLT) (unhide HV))
      clear hown4 hgrow hat hlt4 hownA
      go_wp2_with fail
      go_roundw
      case rel => exact ⟨k + 1, xs ++ [x], p3, f3, by omega, by go_num, hide (by rw [List.length_append, unhide HL]; rfl), HO4, HR4, HB4, HT3⟩
      case measure => simp [intOf]; omega
    · obtain rfl : k = N := by omega
      go_wp2_with fail
      go_ret
      exact ⟨_, rfl, xs, p1, f1, unhide HO, unhide HR, unhide HB, TookL.of Ev_len Ev_inj (by omega) (unhide HC) (unhide HT) (by rw [unhide HL])⟩

theorem Ou_len : ∀ a : OutV, (outRow a).length = 5 := fun _ => rfl
theorem Ou_inj : ∀ a b : OutV, outRow a = outRow b → a = b := fun a b h => by
  obtain ⟨a0, a1, a2, a3, a4⟩ := a
  obtain ⟨b0, b1, b2, b3, b4⟩ := b
  simp only [outRow, List.cons.injEq, and_true] at h
  obtain ⟨rfl, rfl, rfl, rfl, rfl⟩ := h
  rfl

set_option maxRecDepth 100000 in
set_option maxHeartbeats 4000000 in
theorem readOu_any (w0 w : World) (q : Nat) (vb : Value) (bs : List Int) (p : Nat) (f : Option (Int × Int)) (most : Int) (hm0 : 0 ≤ most) (hm : most ≤ 100) (h : RdI w0 w q vb bs p f) :
    Calls Tryz.prog 21 #[.pointer (some ⟨q, 0, none⟩), .int .i64 most, .func (.func 22) #[.pointer (some ⟨q, 0, none⟩)] #[]] w fun r w' => ∃ (v : Value), r = .returned v ∧ ∃ (xs : List OutV) (p' : Nat) (f' : Option (Int × Int)), w'.ownsRow w.heap.size 60 5 v xs.length (flatCells (xs.map outRow)) ∧ RdI w0 w' q vb bs p' f' ∧ OnlyB q w w' ∧ TookL outRow bs most p f p' f' xs := by
  obtain ⟨i1, hi1, hz0, hz1, hz2⟩ := infoOuR
  have hlt := h.lt
  have HLT := hide hlt
  have H := hide h
  clear h hlt
  go_enter Tryz.func21, Tryz.ntmps21
  go_wp2_with fail
  refine (countI_any w0 _ q vb bs p f most hm0 (by omega) (unhide H)).mono ?_
  rintro r w1 ⟨n, pc, fc, rfl, hR1, hO1, hC⟩
  have hnr := hC.rng
  have HR1 := hide hR1
  have HO1 := hide hO1
  have HC := hide hC
  clear hR1 hO1 hC H
  obtain ⟨N, rfl⟩ := Int.eq_ofNat_of_zero_le hnr.1
  go_wp2_with fail
  go_loopw [7, 11] (fun u i wr => ∃ (k : Nat) (xs : List OutV) (p1 : Nat) (f1 : Option (Int × Int)), k ≤ N ∧ i = .int .i64 k ∧ Hid (xs.length = k) ∧ Hid (wr.ownsRow w.heap.size 60 5 u xs.length (flatCells (xs.map outRow))) ∧ Hid (RdI w0 wr q vb bs p1 f1) ∧ Hid (OnlyB q w wr) ∧ Hid (Took bs pc fc p1 f1 (xs.flatMap outRow))) (fun _ i _ => N - (intOf i).toNat)
  case atStart => exact ⟨0, [], pc, fc, Nat.zero_le _, rfl, hide rfl, hide (World.ownsRow_nil _ _ _ _), HR1, HO1, hide (Took.nil _ _ _)⟩
  case round =>
    obtain ⟨k, xs, p1, f1, hk, rfl, HL, HO, HR, HB, HT⟩ := hrel
    by_cases hkn : k < N
    · have hkI : (k : Int) < (N : Int) := by omega
      go_wp2_with fail
      refine (outI_any w0 _ q vb bs p1 f1 (unhide HR)).mono ?_
      rintro r w3 ⟨x, p3, f3, rfl, hR3, hO3, hT3⟩
      have HO3 := hide (owns_onlyB hO3 (unhide HLT) (unhide HO))
      have HR3 := hide hR3
      have HB3 := hide ((unhide HB).trans hO3)
      have HT3 := hide (show Took bs pc fc p3 f3 ((xs ++ [x]).flatMap outRow) by
        have e := (unhide HT).trans hT3
        rw [List.flatMap_append, show [x].flatMap outRow = outRow x by simp]
        exact e)
      clear hR3 hO3 hT3 HO HR HB HT
      have hxl : xs.length ≤ 100 := by rw [unhide HL]; omega
      have hbA : Below w3.heap.size w3 (w3.alloc (.cells #[.int .i64 x.time, .int .i64 x.proc, .int .i64 x.count, .int .i64 x.n, .int .i64 x.value] 60)) := (Below.refl _ _).alloc (Nat.le_refl _) _
      have hownA := ownsOn hbA (unhide HO3)
      have HBA := hide hbA
      have hsz := (unhide HB3).size
      clear hbA
      go_wp2_with (at_builtin; refine wpList_append_lies _ (by rfl) _ _ _ (by rfl) w.heap.size 60 i1 _ 5 40 slice_OutW hi1 hz0 hz1 hz2 (by rfl) (by omega) _ xs.length (flatCells (xs.map outRow)) (by rfl) hownA ⟨w3.heap.size, 0, none⟩ 1 1 [.int .i64 x.time, .int .i64 x.proc, .int .i64 x.count, .int .i64 x.n, .int .i64 x.value] (by rfl) (by rfl) (World.news_of_block (cs := #[.int .i64 x.time, .int .i64 x.proc, .int .i64 x.count, .int .i64 x.n, .int .i64 x.value]) (t := 60) (fr := (0, 0)) (heap_alloc_new w3 _)) (by simp [Value.oneCell']) (by omega) (by unfold maxLen; omega) (by omega) (by simp; omega) (w3.heap.size + 1) (by simp) ?_; intro gg cap w4 hown4 hgrow hat hlt4)
      have HG4 := hide (Gr.of (n := xs.length + 1) (cap := cap) (unhide HBA) hgrow hat)
      have HO4 := hide (show w4.ownsRow w.heap.size 60 5 (.slice (some ⟨gg, 0, none⟩) (xs.length + 1) cap) (xs ++ [x]).length (flatCells ((xs ++ [x]).map outRow)) by
        rw [List.length_append, List.map_append]
        have e : flatCells (xs.map outRow ++ [x].map outRow) = flatCells (xs.map outRow) ++ [.int .i64 x.time, .int .i64 x.proc, .int .i64 x.count, .int .i64 x.n, .int .i64 x.value] := by simp [flatCells, outRow]
        rw [e]
        exact hown4)
      have HV : Hid (∀ g, Value.ownBlock _ = some g → w.heap.size ≤ g) := hide (fun g e => ((unhide HO3).lt g e).1)
      have HR4 := hide ((unhide HR3).gr (unhide HG4) (fun g e => by have := (unhide HV) g e; have := unhide HLT; omega))
      have HB4 := hide ((unhide HB3).gr (unhide HG4) (unhide HLT) (unhide HV))
      clear hown4 hgrow hat hlt4 hownA
      go_wp2_with fail
      go_roundw
      case rel => exact ⟨k + 1, xs ++ [x], p3, f3, by omega, by go_num, hide (by rw [List.length_append, unhide HL]; rfl), HO4, HR4, HB4, HT3⟩
      case measure => simp [intOf]; omega
    · obtain rfl : k = N := by omega
      go_wp2_with fail
      go_ret
      exact ⟨_, rfl, xs, p1, f1, unhide HO, unhide HR, unhide HB, TookL.of Ou_len Ou_inj (by omega) (unhide HC) (unhide HT) (by rw [unhide HL])⟩

end Go.Proofs.YtiljjhipiinafaaGreat

/- The reader of impl: isOver; what has been read is the word, plainly. -/
namespace Go.Proofs.YtiljjhipiinafaaGreat
open Go.RowKit
set_option linter.unusedVariables false
set_option linter.unusedSimpArgs false

set_option maxRecDepth 100000 in
set_option maxHeartbeats 4000000 in
theorem isOver_any (w0 w : World) (q : Nat) (vb : Value) (bs : List Int) (p : Nat) (f : Option (Int × Int)) (h : RdI w0 w q vb bs p f) :
    Calls Tryz.prog 23 #[.pointer (some ⟨q, 0, none⟩)] w fun e w' => ∃ b : Bool, e = .returned (.bool b) ∧ OnlyB q w w' ∧ (b = true ↔ f = none ∧ p = bs.length) := by
  cases f with
  | some ak =>
    obtain ⟨a, k⟩ := ak
    have k2 : w.cell? ⟨q, 2, none⟩ = some (faultV a k) := h.c2
    go_enter Tryz.func23, Tryz.ntmps23
    go_wp2
    go_ret
    exact ⟨false, rfl, ⟨Nat.le_refl _, fun _ _ _ => rfl, Below.refl _ _⟩, by simp⟩
  | none =>
    have k2 : w.cell? ⟨q, 2, none⟩ = some .nilIface := h.c2
    have hlt := h.lt
    have HLT := hide hlt
    have H := hide h
    clear h hlt
    go_enter Tryz.func23, Tryz.ntmps23
    go_wp2_with fail
    refine (numberI_none w0 _ q vb bs p (unhide H)).mono ?_
    rintro e w1 ⟨n, rfl, hO, ⟨L, hL1, hpL, hn, hs, hR, hc⟩ | ⟨rfl, a, k, hR, hk, hno⟩⟩
    · have c2 : w1.cell? ⟨q, 2, none⟩ = some .nilIface := hR.c2
      have HO := hide hO
      clear k2 hO hR hc hs hn
      go_wp2_with fail
      refine (errorsIs_nil _).mono ?_
      rintro e w2 ⟨rfl, hw2⟩
      obtain rfl := hw2.symm
      go_wp2_with fail
      go_ret
      refine ⟨false, rfl, unhide HO, ⟨(fun h => by cases h), fun h => ?_⟩⟩
      have := h.2
      omega
    · have c2 : w1.cell? ⟨q, 2, none⟩ = some (faultV a k) := hR.c2
      have HO := hide hO
      clear k2 hO hR
      go_wp2_with fail
      refine (errorsIs_any a k _).mono ?_
      rintro e w2 ⟨rfl, hb2⟩
      have HO2 := hide ((unhide HO).then (by have := (unhide HO).size; have := unhide HLT; omega) hb2)
      obtain ⟨b, hb⟩ : ∃ b, b = (k == 1) := ⟨_, rfl⟩
      have HB := hide hb
      rw [← hb]
      clear hb hb2
      go_wp2_with fail
      go_ret
      refine ⟨b, rfl, unhide HO2, ?_⟩
      rw [unhide HB, beq_iff_eq, hk]
      simp

theorem flat_int : ∀ l : List Int, l.flatMap intRow = l
  | [] => rfl
  | a :: t => by rw [List.flatMap_cons, flat_int t]; rfl

/-- What has been read is the word whose bytes these are, and no other. -/
theorem unpack_plain {bs : List Int} {p0 p1 p2 p3 p4 : Nat} {f0 f1 f2 f3 f4 : Option (Int × Int)} {n : WordV}
    (t0 : Took bs 0 none p0 f0 (headNums n)) (t1 : TookL intRow bs 3 p0 f0 p1 f1 n.incs) (t2 : TookL intRow bs 3 p1 f1 p2 f2 n.vers) (t3 : TookL evRow bs 100 p2 f2 p3 f3 n.evs) (t4 : TookL outRow bs 96 p3 f3 p4 f4 n.outs) :
    (f4 = none → p4 = bs.length → wordOk n = true → packW n = bs) ∧ (∀ n0, wordOk n0 = true → packW n0 = bs → f4 = none ∧ p4 = bs.length ∧ n = n0) := by
  have none_of : ∀ {α : Type} {row : α → List Int} {m : Int} {p p' : Nat} {f f' : Option (Int × Int)} {xs : List α}, TookL row bs m p f p' f' xs → f' = none → f = none := by
    intro α row m p p' f f' xs h hf
    cases f with
    | none => rfl
    | some x => have := (h.keep (by simp)).1; rw [hf] at this; cases this
  refine ⟨fun h4 hp hok => ?_, fun n0 hok hpk => ?_⟩
  · have h3 := none_of t4 h4
    have h2 := none_of t3 h3
    have h1 := none_of t2 h2
    have h0 := none_of t1 h1
    have hi := wordOk_in hok
    have e0 := (t0.sound h0).2 (fun z hz => (hi.head z hz).2)
    have e1 := (t1.sound h1).2 (fun z hz => by rw [flat_int] at hz; exact (hi.incs.2 z hz).2)
    have e2 := (t2.sound h2).2 (fun z hz => by rw [flat_int] at hz; exact (hi.vers.2 z hz).2)
    have e3 := (t3.sound h3).2 (fun z hz => by obtain ⟨e, he, hz⟩ := List.mem_flatMap.1 hz; exact (hi.evs.2 e he z hz).2)
    have e4 := (t4.sound h4).2 (fun z hz => by obtain ⟨e, he, hz⟩ := List.mem_flatMap.1 hz; exact (hi.outs.2 e he z hz).2)
    rw [flat_int] at e1 e2
    rw [hp, List.drop_length, List.append_nil] at e4
    rw [List.drop_zero, e1, e2, e3, e4] at e0
    rw [e0]
    unfold packW wordNums
    simp only [packI_app]
  · have hi := wordOk_in hok
    have hin : NumsIn bs 0 (wordNums n0) := ⟨fun z hz => by
      simp only [wordNums, List.mem_append, List.mem_cons, List.mem_flatMap] at hz
      have := hi.incs.1; have := hi.vers.1; have := hi.evs.1; have := hi.outs.1
      rcases hz with hz | (hz | hz) | (hz | hz) | (hz | ⟨e, he, hz⟩) | hz | ⟨e, he, hz⟩
      · have := hi.head z hz; omega
      · omega
      · have := hi.incs.2 z hz; omega
      · omega
      · have := hi.vers.2 z hz; omega
      · omega
      · exact hi.evs.2 e he z hz
      · omega
      · have := hi.outs.2 e he z hz; omega, [], by rw [List.drop_zero, ← hpk]; unfold packW; rw [List.append_nil]⟩
    unfold wordNums at hin
    obtain ⟨a0, b0, c0⟩ := t0.comp rfl (headNums n0) rfl hin.left
    have i1 := hin.right
    rw [← b0] at i1
    obtain ⟨a1, b1, c1⟩ := t1.comp c0 n0.incs (by have := hi.incs.1; omega) (by rw [flat_int]; exact i1.left)
    have i2 := i1.right
    rw [flat_int] at b1
    rw [← b1] at i2
    obtain ⟨a2, b2, c2⟩ := t2.comp c1 n0.vers (by have := hi.vers.1; omega) (by rw [flat_int]; exact i2.left)
    have i3 := i2.right
    rw [flat_int] at b2
    rw [← b2] at i3
    obtain ⟨a3, b3, c3⟩ := t3.comp c2 n0.evs (by have := hi.evs.1; omega) i3.left
    have i4 := i3.right
    rw [← b3] at i4
    obtain ⟨a4, b4, c4⟩ := t4.comp c3 n0.outs (by have := hi.outs.1; omega) i4
    refine ⟨c4, ?_, ?_⟩
    · rw [← hpk]
      unfold packW wordNums
      simp only [packI_app, List.length_append]
      omega
    · obtain ⟨k, fr, ds, ic, vr, rd, g, is, vs, es, os⟩ := n
      obtain ⟨k', fr', ds', ic', vr', rd', g', is', vs', es', os'⟩ := n0
      simp only at a1 a2 a3 a4
      simp only [headNums, List.cons.injEq, and_true] at a0
      obtain ⟨r0, r1, r2, r3, r4, r5, r6⟩ := a0
      subst r0 r1 r2 r3 r4 r5 r6 a1 a2 a3 a4
      rfl
end Go.Proofs.YtiljjhipiinafaaGreat

/- impl.WordUnpack. -/
namespace Go.Proofs.YtiljjhipiinafaaGreat
open Go.RowKit
set_option linter.unusedVariables false
set_option linter.unusedSimpArgs false

def zeroW : WordV := ⟨0, 0, 0, 0, 0, 0, 0, [], [], [], []⟩

/-- What unpacking comes to: the word whose bytes these are; nothing, where there is none. -/
def UnpackOf (w : World) (bs : List Int) (e : Ending) (w' : World) : Prop :=
  ∃ (n : WordV) (ok : Bool) (ui uv ue uo : Value), e = .returned (.tuple #[wordAgg n ui uv ue uo, .bool ok]) ∧ WordFr w.heap.size w' n ui uv ue uo ∧ Apart4 ui uv ue uo ∧ Below w.heap.size w w' ∧
    ((ok = true ∧ wordOk n = true ∧ packW n = bs ∧ ∀ n0, wordOk n0 = true → packW n0 = bs → n = n0) ∨ (ok = false ∧ n = zeroW ∧ ∀ n0, wordOk n0 = true → packW n0 ≠ bs))

theorem sliced_own {w : World} {B t m k : Nat} {v : Value} {xs : List Value} (h : w.ownsRow B t m v k xs) : ∃ a c, v = .slice a k c := by
  obtain ⟨_, ⟨rfl, rfl⟩ | ⟨g, cap, cur, rfl, _⟩⟩ := h
  · exact ⟨_, _, rfl⟩
  · exact ⟨_, _, rfl⟩

theorem own_fr {α : Type} {row : α → List Int} {w : World} {B N t m : Nat} {v : Value} {xs : List α} (h : w.ownsRow B t m v xs.length (flatCells (xs.map row))) (hl : ∀ r ∈ xs.map row, r.length = m) (hN : N ≤ B) : RowsFr N t m w v (xs.map row) :=
  (RowsFr.of_owns hl (by rw [List.length_map]; exact h)).less hN

theorem wordFr_zero (N : Nat) (w : World) : WordFr N w zeroW (.slice none 0 0) (.slice none 0 0) (.slice none 0 0) (.slice none 0 0) :=
  ⟨Or.inl ⟨rfl, rfl⟩, Or.inl ⟨rfl, rfl⟩, Or.inl ⟨rfl, rfl⟩, Or.inl ⟨rfl, rfl⟩⟩
theorem apart_nil : Apart4 (.slice none 0 0) (.slice none 0 0) (.slice none 0 0) (.slice none 0 0) :=
  ⟨(fun g h => by cases h), (fun g h => by cases h), (fun g h => by cases h), (fun g h => by cases h), (fun g h => by cases h), (fun g h => by cases h)⟩

set_option maxRecDepth 100000 in
set_option maxHeartbeats 8000000 in
theorem implWordUnpack_any (v : Value) (bs : List Int) (w : World) (h : BytesAt w v bs) (hlen : bs.length ≤ 1048576) :
    Calls Tryz.prog 6 #[v] w fun e w' => UnpackOf w bs e w' := by
  have hby := h.by
  obtain ⟨ad, cap, rfl, hlc, hcm, hrg, hnil, _⟩ := h
  have hs0 : (w.alloc (.cells #[.int .i64 0, .int .i64 0, .int .i64 0, .int .i64 0, .int .i64 0, .int .i64 0, .int .i64 0, .slice none 0 0, .slice none 0 0, .slice none 0 0, .slice none 0 0] 28)).heap.size = w.heap.size + 1 := by simp
  have hs1 : ((w.alloc (.cells #[.int .i64 0, .int .i64 0, .int .i64 0, .int .i64 0, .int .i64 0, .int .i64 0, .int .i64 0, .slice none 0 0, .slice none 0 0, .slice none 0 0, .slice none 0 0] 28)).alloc (.cells #[.slice ad bs.length cap, .int .i64 0, .nilIface] 47)).heap.size = w.heap.size + 2 := by simp
  have hb0 : Below w.heap.size w (w.alloc (.cells #[.int .i64 0, .int .i64 0, .int .i64 0, .int .i64 0, .int .i64 0, .int .i64 0, .int .i64 0, .slice none 0 0, .slice none 0 0, .slice none 0 0, .slice none 0 0] 28)) := (Below.refl _ _).alloc (Nat.le_refl _) _
  have hb1 : Below (w.alloc (.cells #[.int .i64 0, .int .i64 0, .int .i64 0, .int .i64 0, .int .i64 0, .int .i64 0, .int .i64 0, .slice none 0 0, .slice none 0 0, .slice none 0 0, .slice none 0 0] 28)).heap.size (w.alloc (.cells #[.int .i64 0, .int .i64 0, .int .i64 0, .int .i64 0, .int .i64 0, .int .i64 0, .int .i64 0, .slice none 0 0, .slice none 0 0, .slice none 0 0, .slice none 0 0] 28)) ((w.alloc (.cells #[.int .i64 0, .int .i64 0, .int .i64 0, .int .i64 0, .int .i64 0, .int .i64 0, .int .i64 0, .slice none 0 0, .slice none 0 0, .slice none 0 0, .slice none 0 0] 28)).alloc (.cells #[.slice ad bs.length cap, .int .i64 0, .nilIface] 47)) := (Below.refl _ _).alloc (Nat.le_refl _) _
  have hb2 : Below ((w.alloc (.cells #[.int .i64 0, .int .i64 0, .int .i64 0, .int .i64 0, .int .i64 0, .int .i64 0, .int .i64 0, .slice none 0 0, .slice none 0 0, .slice none 0 0, .slice none 0 0] 28)).alloc (.cells #[.slice ad bs.length cap, .int .i64 0, .nilIface] 47)).heap.size ((w.alloc (.cells #[.int .i64 0, .int .i64 0, .int .i64 0, .int .i64 0, .int .i64 0, .int .i64 0, .int .i64 0, .slice none 0 0, .slice none 0 0, .slice none 0 0, .slice none 0 0] 28)).alloc (.cells #[.slice ad bs.length cap, .int .i64 0, .nilIface] 47)) (((w.alloc (.cells #[.int .i64 0, .int .i64 0, .int .i64 0, .int .i64 0, .int .i64 0, .int .i64 0, .int .i64 0, .slice none 0 0, .slice none 0 0, .slice none 0 0, .slice none 0 0] 28)).alloc (.cells #[.slice ad bs.length cap, .int .i64 0, .nilIface] 47)).alloc (.cells #[.int .i64 0, .int .i64 0, .int .i64 0, .int .i64 0, .int .i64 0, .int .i64 0, .int .i64 0] 49)) := (Below.refl _ _).alloc (Nat.le_refl _) _
  have hb02 := below_then (below_then hb0 hb1) hb2
  have r0 := (row_new w [.int .i64 0, .int .i64 0, .int .i64 0, .int .i64 0, .int .i64 0, .int .i64 0, .int .i64 0, .slice none 0 0, .slice none 0 0, .slice none 0 0, .slice none 0 0] 28).of_block ((below_then hb1 hb2).block w.heap.size (by rw [hs0]; omega))
  have r1 := (row_new (w.alloc (.cells #[.int .i64 0, .int .i64 0, .int .i64 0, .int .i64 0, .int .i64 0, .int .i64 0, .int .i64 0, .slice none 0 0, .slice none 0 0, .slice none 0 0, .slice none 0 0] 28)) [.slice ad bs.length cap, .int .i64 0, .nilIface] 47).of_block (hb2.block (w.alloc (.cells #[.int .i64 0, .int .i64 0, .int .i64 0, .int .i64 0, .int .i64 0, .int .i64 0, .int .i64 0, .slice none 0 0, .slice none 0 0, .slice none 0 0, .slice none 0 0] 28)).heap.size (by rw [hs0, hs1]; omega))
  have r2 := row_new ((w.alloc (.cells #[.int .i64 0, .int .i64 0, .int .i64 0, .int .i64 0, .int .i64 0, .int .i64 0, .int .i64 0, .slice none 0 0, .slice none 0 0, .slice none 0 0, .slice none 0 0] 28)).alloc (.cells #[.slice ad bs.length cap, .int .i64 0, .nilIface] 47)) [.int .i64 0, .int .i64 0, .int .i64 0, .int .i64 0, .int .i64 0, .int .i64 0, .int .i64 0] 49
  rw [hs0] at r1
  rw [hs1] at r2
  have hRD : RdI w (((w.alloc (.cells #[.int .i64 0, .int .i64 0, .int .i64 0, .int .i64 0, .int .i64 0, .int .i64 0, .int .i64 0, .slice none 0 0, .slice none 0 0, .slice none 0 0, .slice none 0 0] 28)).alloc (.cells #[.slice ad bs.length cap, .int .i64 0, .nilIface] 47)).alloc (.cells #[.int .i64 0, .int .i64 0, .int .i64 0, .int .i64 0, .int .i64 0, .int .i64 0, .int .i64 0] 49)) (w.heap.size + 1) (.slice ad bs.length cap) bs 0 none :=
    ⟨hby, fun a n c e => by simp only [Value.slice.injEq] at e; obtain ⟨rfl, _, rfl⟩ := e; exact ⟨hcm, hnil⟩, hrg, hlen, Nat.le_succ _, hb02, r1.cell (i := 0) (by simp), r1.cell (i := 1) (by simp), r1.cell (i := 2) (by simp), fun i => r1.frozen i, Nat.zero_le _⟩
  have HRD := hide hRD
  have HR0 := hide r0
  have HR2 := hide r2
  have HB2 := hide hb02
  have HS2 : Hid ((((w.alloc (.cells #[.int .i64 0, .int .i64 0, .int .i64 0, .int .i64 0, .int .i64 0, .int .i64 0, .int .i64 0, .slice none 0 0, .slice none 0 0, .slice none 0 0, .slice none 0 0] 28)).alloc (.cells #[.slice ad bs.length cap, .int .i64 0, .nilIface] 47)).alloc (.cells #[.int .i64 0, .int .i64 0, .int .i64 0, .int .i64 0, .int .i64 0, .int .i64 0, .int .i64 0] 49)).heap.size = w.heap.size + 3) := hide (by simp)
  clear hs0 hs1 hb0 hb1 hb2 hb02 r0 r1 r2 hRD hby hlc hcm hrg hnil
  go_enter Tryz.func6, Tryz.ntmps6
  go_wp2_with fail
  change Hid (World.rowIs (((w.alloc (.cells #[.int .i64 0, .int .i64 0, .int .i64 0, .int .i64 0, .int .i64 0, .int .i64 0, .int .i64 0, .slice none 0 0, .slice none 0 0, .slice none 0 0, .slice none 0 0] 28)).alloc (.cells #[.slice ad bs.length cap, .int .i64 0, .nilIface] 47)).alloc (.cells #[.int .i64 0, .int .i64 0, .int .i64 0, .int .i64 0, .int .i64 0, .int .i64 0, .int .i64 0] 49)) w.heap.size 28 11 _) at HR0
  change Hid (World.rowIs (((w.alloc (.cells #[.int .i64 0, .int .i64 0, .int .i64 0, .int .i64 0, .int .i64 0, .int .i64 0, .int .i64 0, .slice none 0 0, .slice none 0 0, .slice none 0 0, .slice none 0 0] 28)).alloc (.cells #[.slice ad bs.length cap, .int .i64 0, .nilIface] 47)).alloc (.cells #[.int .i64 0, .int .i64 0, .int .i64 0, .int .i64 0, .int .i64 0, .int .i64 0, .int .i64 0] 49)) (w.heap.size + 2) 49 7 _) at HR2
  generalize (((w.alloc (.cells #[.int .i64 0, .int .i64 0, .int .i64 0, .int .i64 0, .int .i64 0, .int .i64 0, .int .i64 0, .slice none 0 0, .slice none 0 0, .slice none 0 0, .slice none 0 0] 28)).alloc (.cells #[.slice ad bs.length cap, .int .i64 0, .nilIface] 47)).alloc (.cells #[.int .i64 0, .int .i64 0, .int .i64 0, .int .i64 0, .int .i64 0, .int .i64 0, .int .i64 0] 49)) = X2 at *
  refine (rowI_any w _ (w.heap.size + 1) (w.heap.size + 2) 49 7 _ _ bs 0 none (unhide HRD) (by omega) (unhide HR2) (by omega)).mono ?_
  rintro e w3 ⟨rfl, zs, p0, f0, hl, hrow3, hR3, hO3, hT0⟩
  obtain ⟨z0, z1, z2, z3, z4, z5, z6, rfl⟩ := len7 hl
  have hs3 := hO3.size
  have HR0b := hide ((unhide HR0).of_block (hO3.other w.heap.size (by omega) (by omega) (by have := unhide HS2; omega)))
  have HB3 : Hid (Below w.heap.size w w3) := hide ((unhide HB2).trans ⟨hO3.os, hO3.tape, hO3.output, hO3.size, fun b hb => hO3.other b (by omega) (by omega) (by have := unhide HS2; omega)⟩)
  have HR3 := hide hR3
  have HT0 := hide hT0
  have HS3 : Hid (w.heap.size + 3 ≤ w3.heap.size) := hide (by have := unhide HS2; omega)
  have c0 := hrow3.cell (i := 0) (by omega)
  have c1 := hrow3.cell (i := 1) (by omega)
  have c2 := hrow3.cell (i := 2) (by omega)
  have c3 := hrow3.cell (i := 3) (by omega)
  have c4 := hrow3.cell (i := 4) (by omega)
  have c5 := hrow3.cell (i := 5) (by omega)
  have c6 := hrow3.cell (i := 6) (by omega)
  clear hl hrow3 hR3 hO3 hT0 hs3 HR0 HR2 HRD HB2 HS2
  simp only [List.getD_cons_zero, List.getD_cons_succ] at c0 c1 c2 c3 c4 c5 c6
  go_wp2_with fail
  clear c0 c1 c2 c3 c4 c5 c6
  refine (wordOfHead_any z0 z1 z2 z3 z4 z5 z6 _).mono ?_
  rintro e w4 ⟨rfl, hb4⟩
  have hs4 := hb4.size
  have hbA : Below w4.heap.size w4 (w4.alloc (.cells #[.int .i64 z0, .int .i64 z1, .int .i64 z2, .int .i64 z3, .int .i64 z4, .int .i64 z5, .int .i64 z6, .slice none 0 0, .slice none 0 0, .slice none 0 0, .slice none 0 0] 28)) := (Below.refl _ _).alloc (Nat.le_refl _) _
  have hb45 := below_then hb4 hbA
  have RW := hide (row_new w4 [.int .i64 z0, .int .i64 z1, .int .i64 z2, .int .i64 z3, .int .i64 z4, .int .i64 z5, .int .i64 z6, .slice none 0 0, .slice none 0 0, .slice none 0 0, .slice none 0 0] 28)
  have RR := hide ((unhide HR0b).of_block (hb45.block w.heap.size (by have := unhide HS3; omega)))
  have RD := hide ((unhide HR3).on hb45)
  have HB := hide ((unhide HB3).trans (hb45.mono (by have := unhide HS3; omega)))
  have HS : Hid ((w4.alloc (.cells #[.int .i64 z0, .int .i64 z1, .int .i64 z2, .int .i64 z3, .int .i64 z4, .int .i64 z5, .int .i64 z6, .slice none 0 0, .slice none 0 0, .slice none 0 0, .slice none 0 0] 28)).heap.size = w4.heap.size + 1) := hide (by simp)
  have HQ : Hid (w.heap.size + 3 ≤ w4.heap.size) := hide (by have := unhide HS3; omega)
  clear hs4 hb4 hbA hb45 HR0b HR3 HB3 HS3
  go_upto_region 5 with fail
  change Hid (World.rowIs (w4.alloc (.cells #[.int .i64 z0, .int .i64 z1, .int .i64 z2, .int .i64 z3, .int .i64 z4, .int .i64 z5, .int .i64 z6, .slice none 0 0, .slice none 0 0, .slice none 0 0, .slice none 0 0] 28)) w4.heap.size 28 11 _) at RW
  replace HS : Hid (w4.heap.size + 1 ≤ (w4.alloc (.cells #[.int .i64 z0, .int .i64 z1, .int .i64 z2, .int .i64 z3, .int .i64 z4, .int .i64 z5, .int .i64 z6, .slice none 0 0, .slice none 0 0, .slice none 0 0, .slice none 0 0] 28)).heap.size) := hide (by have := unhide HS; omega)
  generalize (w4.alloc (.cells #[.int .i64 z0, .int .i64 z1, .int .i64 z2, .int .i64 z3, .int .i64 z4, .int .i64 z5, .int .i64 z6, .slice none 0 0, .slice none 0 0, .slice none 0 0, .slice none 0 0] 28)) = W0 at *
  generalize w4.heap.size = rw at *
  go_wp2_with fail
  refine (readInt_any w _ (w.heap.size + 1) _ bs p0 f0 3 (by omega) (by omega) (unhide RD)).mono ?_
  rintro e v0 ⟨u, rfl, x0, p1, f1, hown, hR, hO, hT⟩
  obtain ⟨a0, c0, rfl⟩ := sliced_own hown
  have HT1 := hide hT
  have hrs : rw < W0.heap.size := unhide HS
  have hsz := hO.size
  have ro := (unhide RW).of_block (hO.other rw (by have := unhide HQ; omega) hrs)
  have g0 : v0.cell? ⟨rw, 7, none⟩ = some (.slice none 0 0) := ro.cell (i := 7) (by omega)
  have z0_ : v0.frozen? ⟨rw, 7, none⟩ = false := ro.frozen 7
  replace RW : Hid ((v0.setCell ⟨rw, 7, none⟩ (.slice a0 x0.length c0)).rowIs rw 28 11 (fun i => [.int .i64 z0, .int .i64 z1, .int .i64 z2, .int .i64 z3, .int .i64 z4, .int .i64 z5, .int .i64 z6, .slice a0 x0.length c0, .slice none 0 0, .slice none 0 0, .slice none 0 0].getD i undef)) := hide (rowL_set ro 7 (by simp) _)
  replace RR := hide (((unhide RR).of_block (hO.other w.heap.size (by omega) (by have := unhide HQ; omega))).of_block (Below.heap_setCell v0 ⟨rw, 7, none⟩ (.slice a0 x0.length c0) w.heap.size (show w.heap.size ≠ rw by have := unhide HQ; omega)))
  replace RD := hide (hR.set (o := 7) (x := .slice a0 x0.length c0) (show w.heap.size + 1 < rw by have := unhide HQ; omega))
  replace HB := hide (((unhide HB).trans (hO.below.mono (Nat.le_succ _))).setCell (p := ⟨rw, 7, none⟩) (show w.heap.size ≤ rw by have := unhide HQ; omega) (.slice a0 x0.length c0))
  have BS0 : Hid (rw < W0.heap.size) := hide hrs
  have OW0 := hide (ownsRow_setCell_other hown (a := ⟨rw, 7, none⟩) (fun e => by have h3 := (hown.lt rw e).1; omega) (.slice a0 x0.length c0))
  replace HS : Hid (rw < (v0.setCell ⟨rw, 7, none⟩ (.slice a0 x0.length c0)).heap.size) := hide (by rw [show (v0.setCell ⟨rw, 7, none⟩ (.slice a0 x0.length c0)).heap.size = v0.heap.size from by simp]; omega)
  clear hown hR hO hT hrs hsz ro
  go_upto_region 6 with fail
  clear g0 z0_
  generalize v0.setCell ⟨rw, 7, none⟩ (.slice a0 x0.length c0) = W1 at *
  go_wp2_with fail
  refine (readInt_any w _ (w.heap.size + 1) _ bs p1 f1 3 (by omega) (by omega) (unhide RD)).mono ?_
  rintro e v1 ⟨u, rfl, x1, p2, f2, hown, hR, hO, hT⟩
  obtain ⟨a1, c1, rfl⟩ := sliced_own hown
  have HT2 := hide hT
  have hrs : rw < W1.heap.size := unhide HS
  have hsz := hO.size
  have D01 : Hid (∀ g, Value.ownBlock (.slice a0 x0.length c0) = some g → Value.ownBlock (.slice a1 x1.length c1) ≠ some g) := hide (fun g h1 h2 => by have h3 := ((unhide OW0).lt g h1).2; have h4 := (hown.lt g h2).1; omega)
  have ro := (unhide RW).of_block (hO.other rw (by have := unhide HQ; omega) hrs)
  have g0 : v1.cell? ⟨rw, 8, none⟩ = some (.slice none 0 0) := ro.cell (i := 8) (by omega)
  have z0_ : v1.frozen? ⟨rw, 8, none⟩ = false := ro.frozen 8
  replace RW : Hid ((v1.setCell ⟨rw, 8, none⟩ (.slice a1 x1.length c1)).rowIs rw 28 11 (fun i => [.int .i64 z0, .int .i64 z1, .int .i64 z2, .int .i64 z3, .int .i64 z4, .int .i64 z5, .int .i64 z6, .slice a0 x0.length c0, .slice a1 x1.length c1, .slice none 0 0, .slice none 0 0].getD i undef)) := hide (rowL_set ro 8 (by simp) _)
  replace RR := hide (((unhide RR).of_block (hO.other w.heap.size (by omega) (by have := unhide HQ; omega))).of_block (Below.heap_setCell v1 ⟨rw, 8, none⟩ (.slice a1 x1.length c1) w.heap.size (show w.heap.size ≠ rw by have := unhide HQ; omega)))
  replace RD := hide (hR.set (o := 8) (x := .slice a1 x1.length c1) (show w.heap.size + 1 < rw by have := unhide HQ; omega))
  replace HB := hide (((unhide HB).trans (hO.below.mono (Nat.le_succ _))).setCell (p := ⟨rw, 8, none⟩) (show w.heap.size ≤ rw by have := unhide HQ; omega) (.slice a1 x1.length c1))
  replace OW0 := hide (ownsRow_setCell_other (owns_onlyB hO (by have := unhide HQ; have := unhide BS0; omega) (unhide OW0)) (a := ⟨rw, 8, none⟩) (fun e => by have h3 := ((unhide OW0).lt rw e).1; have := unhide BS0; omega) (.slice a1 x1.length c1))
  have BS1 : Hid (rw < W1.heap.size) := hide hrs
  have OW1 := hide (ownsRow_setCell_other hown (a := ⟨rw, 8, none⟩) (fun e => by have h3 := (hown.lt rw e).1; omega) (.slice a1 x1.length c1))
  replace HS : Hid (rw < (v1.setCell ⟨rw, 8, none⟩ (.slice a1 x1.length c1)).heap.size) := hide (by rw [show (v1.setCell ⟨rw, 8, none⟩ (.slice a1 x1.length c1)).heap.size = v1.heap.size from by simp]; omega)
  clear hown hR hO hT hrs hsz ro
  go_upto_region 7 with fail
  clear g0 z0_
  generalize v1.setCell ⟨rw, 8, none⟩ (.slice a1 x1.length c1) = W2 at *
  go_wp2_with fail
  refine (readEv_any w _ (w.heap.size + 1) _ bs p2 f2 100 (by omega) (by omega) (unhide RD)).mono ?_
  rintro e v2 ⟨u, rfl, x2, p3, f3, hown, hR, hO, hT⟩
  obtain ⟨a2, c2, rfl⟩ := sliced_own hown
  have HT3 := hide hT
  have hrs : rw < W2.heap.size := unhide HS
  have hsz := hO.size
  have D02 : Hid (∀ g, Value.ownBlock (.slice a0 x0.length c0) = some g → Value.ownBlock (.slice a2 x2.length c2) ≠ some g) := hide (fun g h1 h2 => by have h3 := ((unhide OW0).lt g h1).2; have h4 := (hown.lt g h2).1; omega)
  have D12 : Hid (∀ g, Value.ownBlock (.slice a1 x1.length c1) = some g → Value.ownBlock (.slice a2 x2.length c2) ≠ some g) := hide (fun g h1 h2 => by have h3 := ((unhide OW1).lt g h1).2; have h4 := (hown.lt g h2).1; omega)
  have ro := (unhide RW).of_block (hO.other rw (by have := unhide HQ; omega) hrs)
  have g0 : v2.cell? ⟨rw, 9, none⟩ = some (.slice none 0 0) := ro.cell (i := 9) (by omega)
  have z0_ : v2.frozen? ⟨rw, 9, none⟩ = false := ro.frozen 9
  replace RW : Hid ((v2.setCell ⟨rw, 9, none⟩ (.slice a2 x2.length c2)).rowIs rw 28 11 (fun i => [.int .i64 z0, .int .i64 z1, .int .i64 z2, .int .i64 z3, .int .i64 z4, .int .i64 z5, .int .i64 z6, .slice a0 x0.length c0, .slice a1 x1.length c1, .slice a2 x2.length c2, .slice none 0 0].getD i undef)) := hide (rowL_set ro 9 (by simp) _)
  replace RR := hide (((unhide RR).of_block (hO.other w.heap.size (by omega) (by have := unhide HQ; omega))).of_block (Below.heap_setCell v2 ⟨rw, 9, none⟩ (.slice a2 x2.length c2) w.heap.size (show w.heap.size ≠ rw by have := unhide HQ; omega)))
  replace RD := hide (hR.set (o := 9) (x := .slice a2 x2.length c2) (show w.heap.size + 1 < rw by have := unhide HQ; omega))
  replace HB := hide (((unhide HB).trans (hO.below.mono (Nat.le_succ _))).setCell (p := ⟨rw, 9, none⟩) (show w.heap.size ≤ rw by have := unhide HQ; omega) (.slice a2 x2.length c2))
  replace OW0 := hide (ownsRow_setCell_other (owns_onlyB hO (by have := unhide HQ; have := unhide BS0; omega) (unhide OW0)) (a := ⟨rw, 9, none⟩) (fun e => by have h3 := ((unhide OW0).lt rw e).1; have := unhide BS0; omega) (.slice a2 x2.length c2))
  replace OW1 := hide (ownsRow_setCell_other (owns_onlyB hO (by have := unhide HQ; have := unhide BS1; omega) (unhide OW1)) (a := ⟨rw, 9, none⟩) (fun e => by have h3 := ((unhide OW1).lt rw e).1; have := unhide BS1; omega) (.slice a2 x2.length c2))
  have BS2 : Hid (rw < W2.heap.size) := hide hrs
  have OW2 := hide (ownsRow_setCell_other hown (a := ⟨rw, 9, none⟩) (fun e => by have h3 := (hown.lt rw e).1; omega) (.slice a2 x2.length c2))
  replace HS : Hid (rw < (v2.setCell ⟨rw, 9, none⟩ (.slice a2 x2.length c2)).heap.size) := hide (by rw [show (v2.setCell ⟨rw, 9, none⟩ (.slice a2 x2.length c2)).heap.size = v2.heap.size from by simp]; omega)
  clear hown hR hO hT hrs hsz ro
  go_upto_region 8 with fail
  clear g0 z0_
  generalize v2.setCell ⟨rw, 9, none⟩ (.slice a2 x2.length c2) = W3 at *
  go_wp2_with fail
  refine (readOu_any w _ (w.heap.size + 1) _ bs p3 f3 96 (by omega) (by omega) (unhide RD)).mono ?_
  rintro e v3 ⟨u, rfl, x3, p4, f4, hown, hR, hO, hT⟩
  obtain ⟨a3, c3, rfl⟩ := sliced_own hown
  have HT4 := hide hT
  have hrs : rw < W3.heap.size := unhide HS
  have hsz := hO.size
  have D03 : Hid (∀ g, Value.ownBlock (.slice a0 x0.length c0) = some g → Value.ownBlock (.slice a3 x3.length c3) ≠ some g) := hide (fun g h1 h2 => by have h3 := ((unhide OW0).lt g h1).2; have h4 := (hown.lt g h2).1; omega)
  have D13 : Hid (∀ g, Value.ownBlock (.slice a1 x1.length c1) = some g → Value.ownBlock (.slice a3 x3.length c3) ≠ some g) := hide (fun g h1 h2 => by have h3 := ((unhide OW1).lt g h1).2; have h4 := (hown.lt g h2).1; omega)
  have D23 : Hid (∀ g, Value.ownBlock (.slice a2 x2.length c2) = some g → Value.ownBlock (.slice a3 x3.length c3) ≠ some g) := hide (fun g h1 h2 => by have h3 := ((unhide OW2).lt g h1).2; have h4 := (hown.lt g h2).1; omega)
  have ro := (unhide RW).of_block (hO.other rw (by have := unhide HQ; omega) hrs)
  have g0 : v3.cell? ⟨rw, 10, none⟩ = some (.slice none 0 0) := ro.cell (i := 10) (by omega)
  have z0_ : v3.frozen? ⟨rw, 10, none⟩ = false := ro.frozen 10
  replace RW : Hid ((v3.setCell ⟨rw, 10, none⟩ (.slice a3 x3.length c3)).rowIs rw 28 11 (fun i => [.int .i64 z0, .int .i64 z1, .int .i64 z2, .int .i64 z3, .int .i64 z4, .int .i64 z5, .int .i64 z6, .slice a0 x0.length c0, .slice a1 x1.length c1, .slice a2 x2.length c2, .slice a3 x3.length c3].getD i undef)) := hide (rowL_set ro 10 (by simp) _)
  replace RR := hide (((unhide RR).of_block (hO.other w.heap.size (by omega) (by have := unhide HQ; omega))).of_block (Below.heap_setCell v3 ⟨rw, 10, none⟩ (.slice a3 x3.length c3) w.heap.size (show w.heap.size ≠ rw by have := unhide HQ; omega)))
  replace RD := hide (hR.set (o := 10) (x := .slice a3 x3.length c3) (show w.heap.size + 1 < rw by have := unhide HQ; omega))
  replace HB := hide (((unhide HB).trans (hO.below.mono (Nat.le_succ _))).setCell (p := ⟨rw, 10, none⟩) (show w.heap.size ≤ rw by have := unhide HQ; omega) (.slice a3 x3.length c3))
  replace OW0 := hide (ownsRow_setCell_other (owns_onlyB hO (by have := unhide HQ; have := unhide BS0; omega) (unhide OW0)) (a := ⟨rw, 10, none⟩) (fun e => by have h3 := ((unhide OW0).lt rw e).1; have := unhide BS0; omega) (.slice a3 x3.length c3))
  replace OW1 := hide (ownsRow_setCell_other (owns_onlyB hO (by have := unhide HQ; have := unhide BS1; omega) (unhide OW1)) (a := ⟨rw, 10, none⟩) (fun e => by have h3 := ((unhide OW1).lt rw e).1; have := unhide BS1; omega) (.slice a3 x3.length c3))
  replace OW2 := hide (ownsRow_setCell_other (owns_onlyB hO (by have := unhide HQ; have := unhide BS2; omega) (unhide OW2)) (a := ⟨rw, 10, none⟩) (fun e => by have h3 := ((unhide OW2).lt rw e).1; have := unhide BS2; omega) (.slice a3 x3.length c3))
  have BS3 : Hid (rw < W3.heap.size) := hide hrs
  have OW3 := hide (ownsRow_setCell_other hown (a := ⟨rw, 10, none⟩) (fun e => by have h3 := (hown.lt rw e).1; omega) (.slice a3 x3.length c3))
  replace HS : Hid (rw < (v3.setCell ⟨rw, 10, none⟩ (.slice a3 x3.length c3)).heap.size) := hide (by rw [show (v3.setCell ⟨rw, 10, none⟩ (.slice a3 x3.length c3)).heap.size = v3.heap.size from by simp]; omega)
  clear hown hR hO hT hrs hsz ro
  go_upto_region 9 with fail
  clear g0 z0_
  generalize v3.setCell ⟨rw, 10, none⟩ (.slice a3 x3.length c3) = W4 at *
  go_wp2_with fail
  refine (isOver_any w _ (w.heap.size + 1) _ bs p4 f4 (unhide RD)).mono ?_
  rintro e w10 ⟨b, rfl, hO, hbb⟩
  have hrs : rw < W4.heap.size := unhide HS
  have hsz := hO.size
  replace RW := hide ((unhide RW).of_block (hO.other rw (by have := unhide HQ; omega) hrs))
  replace RR := hide ((unhide RR).of_block (hO.other w.heap.size (by omega) (by have := unhide HQ; omega)))
  replace HB := hide ((unhide HB).trans (hO.below.mono (Nat.le_succ _)))
  replace OW0 := hide (owns_onlyB hO (by have := unhide HQ; have := unhide BS0; omega) (unhide OW0))
  replace OW1 := hide (owns_onlyB hO (by have := unhide HQ; have := unhide BS1; omega) (unhide OW1))
  replace OW2 := hide (owns_onlyB hO (by have := unhide HQ; have := unhide BS2; omega) (unhide OW2))
  replace OW3 := hide (owns_onlyB hO (by have := unhide HQ; have := unhide BS3; omega) (unhide OW3))
  have HBB := hide hbb
  have HPL := hide (unpack_plain (n := ⟨z0, z1, z2, z3, z4, z5, z6, x0, x1, x2, x3⟩) (unhide HT0) (unhide HT1) (unhide HT2) (unhide HT3) (unhide HT4))
  have HWF : Hid (WordFr (w.heap.size + 1) w10 ⟨z0, z1, z2, z3, z4, z5, z6, x0, x1, x2, x3⟩ (.slice a0 x0.length c0) (.slice a1 x1.length c1) (.slice a2 x2.length c2) (.slice a3 x3.length c3)) := hide ⟨own_fr (unhide OW0) (fun r hr => by obtain ⟨z, _, rfl⟩ := List.mem_map.1 hr; rfl) (by have := unhide BS0; have := unhide HQ; omega), own_fr (unhide OW1) (fun r hr => by obtain ⟨z, _, rfl⟩ := List.mem_map.1 hr; rfl) (by have := unhide BS1; have := unhide HQ; omega), own_fr (unhide OW2) (fun r hr => by obtain ⟨z, _, rfl⟩ := List.mem_map.1 hr; rfl) (by have := unhide BS2; have := unhide HQ; omega), own_fr (unhide OW3) (fun r hr => by obtain ⟨z, _, rfl⟩ := List.mem_map.1 hr; rfl) (by have := unhide BS3; have := unhide HQ; omega)⟩
  have HAP : Hid (Apart4 (.slice a0 x0.length c0) (.slice a1 x1.length c1) (.slice a2 x2.length c2) (.slice a3 x3.length c3)) := hide ⟨unhide D01, unhide D02, unhide D03, unhide D12, unhide D13, unhide D23⟩
  have HSA : Hid (rw < w10.heap.size) := hide (by omega)
  clear OW0 OW1 OW2 OW3 BS0 BS1 BS2 BS3 D01 D02 D03 D12 D13 D23 HT0 HT1 HT2 HT3 HT4 RD hO hrs hsz hbb HS
  cases b with
  | false =>
    have y0 : w10.cell? ⟨w.heap.size, 0, none⟩ = some (.int .i64 0) := (unhide RR).cell (i := 0) (by omega)
    have yf0 : w10.frozen? ⟨w.heap.size, 0, none⟩ = false := (unhide RR).frozen 0
    have y1 : w10.cell? ⟨w.heap.size, 1, none⟩ = some (.int .i64 0) := (unhide RR).cell (i := 1) (by omega)
    have yf1 : w10.frozen? ⟨w.heap.size, 1, none⟩ = false := (unhide RR).frozen 1
    have y2 : w10.cell? ⟨w.heap.size, 2, none⟩ = some (.int .i64 0) := (unhide RR).cell (i := 2) (by omega)
    have yf2 : w10.frozen? ⟨w.heap.size, 2, none⟩ = false := (unhide RR).frozen 2
    have y3 : w10.cell? ⟨w.heap.size, 3, none⟩ = some (.int .i64 0) := (unhide RR).cell (i := 3) (by omega)
    have yf3 : w10.frozen? ⟨w.heap.size, 3, none⟩ = false := (unhide RR).frozen 3
    have y4 : w10.cell? ⟨w.heap.size, 4, none⟩ = some (.int .i64 0) := (unhide RR).cell (i := 4) (by omega)
    have yf4 : w10.frozen? ⟨w.heap.size, 4, none⟩ = false := (unhide RR).frozen 4
    have y5 : w10.cell? ⟨w.heap.size, 5, none⟩ = some (.int .i64 0) := (unhide RR).cell (i := 5) (by omega)
    have yf5 : w10.frozen? ⟨w.heap.size, 5, none⟩ = false := (unhide RR).frozen 5
    have y6 : w10.cell? ⟨w.heap.size, 6, none⟩ = some (.int .i64 0) := (unhide RR).cell (i := 6) (by omega)
    have yf6 : w10.frozen? ⟨w.heap.size, 6, none⟩ = false := (unhide RR).frozen 6
    have y7 : w10.cell? ⟨w.heap.size, 7, none⟩ = some (.slice none 0 0) := (unhide RR).cell (i := 7) (by omega)
    have yf7 : w10.frozen? ⟨w.heap.size, 7, none⟩ = false := (unhide RR).frozen 7
    have y8 : w10.cell? ⟨w.heap.size, 8, none⟩ = some (.slice none 0 0) := (unhide RR).cell (i := 8) (by omega)
    have yf8 : w10.frozen? ⟨w.heap.size, 8, none⟩ = false := (unhide RR).frozen 8
    have y9 : w10.cell? ⟨w.heap.size, 9, none⟩ = some (.slice none 0 0) := (unhide RR).cell (i := 9) (by omega)
    have yf9 : w10.frozen? ⟨w.heap.size, 9, none⟩ = false := (unhide RR).frozen 9
    have y10 : w10.cell? ⟨w.heap.size, 10, none⟩ = some (.slice none 0 0) := (unhide RR).cell (i := 10) (by omega)
    have yf10 : w10.frozen? ⟨w.heap.size, 10, none⟩ = false := (unhide RR).frozen 10
    have EB := hide (setVals_below [.int .i64 0, .int .i64 0, .int .i64 0, .int .i64 0, .int .i64 0, .int .i64 0, .int .i64 0, .slice none 0 0, .slice none 0 0, .slice none 0 0, .slice none 0 0] 0 w10 (unhide HB) (Nat.le_refl w.heap.size))
    go_wp2_with fail
    refine bodyPost_ret (v := .tuple #[wordAgg zeroW (.slice none 0 0) (.slice none 0 0) (.slice none 0 0) (.slice none 0 0), .bool false]) (by simp [results, Tryz.results6, go_sem, zeroW, y0, y1, y2, y3, y4, y5, y6, y7, y8, y9, y10]) rfl ⟨zeroW, false, _, _, _, _, rfl, wordFr_zero _ _, apart_nil, unhide EB, Or.inr ⟨rfl, rfl, fun n0 ho hp => ?_⟩⟩
    obtain ⟨h1, h2, _⟩ := (unhide HPL).2 n0 ho hp
    have := (unhide HBB).2 ⟨h1, h2⟩
    cases this
  | true =>
    obtain ⟨R, hR⟩ : ∃ R, R = wordOk ⟨z0, z1, z2, z3, z4, z5, z6, x0, x1, x2, x3⟩ := ⟨_, rfl⟩
    have HR := hide hR
    clear hR
    have m0 : w10.cell? ⟨rw, 0, none⟩ = some (.int .i64 z0) := (unhide RW).cell (i := 0) (by omega)
    have m1 : w10.cell? ⟨rw, 1, none⟩ = some (.int .i64 z1) := (unhide RW).cell (i := 1) (by omega)
    have m2 : w10.cell? ⟨rw, 2, none⟩ = some (.int .i64 z2) := (unhide RW).cell (i := 2) (by omega)
    have m3 : w10.cell? ⟨rw, 3, none⟩ = some (.int .i64 z3) := (unhide RW).cell (i := 3) (by omega)
    have m4 : w10.cell? ⟨rw, 4, none⟩ = some (.int .i64 z4) := (unhide RW).cell (i := 4) (by omega)
    have m5 : w10.cell? ⟨rw, 5, none⟩ = some (.int .i64 z5) := (unhide RW).cell (i := 5) (by omega)
    have m6 : w10.cell? ⟨rw, 6, none⟩ = some (.int .i64 z6) := (unhide RW).cell (i := 6) (by omega)
    have m7 : w10.cell? ⟨rw, 7, none⟩ = some (.slice a0 x0.length c0) := (unhide RW).cell (i := 7) (by omega)
    have m8 : w10.cell? ⟨rw, 8, none⟩ = some (.slice a1 x1.length c1) := (unhide RW).cell (i := 8) (by omega)
    have m9 : w10.cell? ⟨rw, 9, none⟩ = some (.slice a2 x2.length c2) := (unhide RW).cell (i := 9) (by omega)
    have m10 : w10.cell? ⟨rw, 10, none⟩ = some (.slice a3 x3.length c3) := (unhide RW).cell (i := 10) (by omega)
    go_wp2_with fail
    clear m0 m1 m2 m3 m4 m5 m6 m7 m8 m9 m10
    refine (implWordOk_any ⟨z0, z1, z2, z3, z4, z5, z6, x0, x1, x2, x3⟩ _ _ _ _ _ (unhide HWF).at).mono ?_
    rintro e w11 ⟨rfl, hb11⟩
    rw [← unhide HR]
    have hrb := (unhide RR).of_block (hb11.block w.heap.size (by have := unhide HSA; have := unhide HQ; omega))
    have hrw := (unhide RW).of_block (hb11.block rw (unhide HSA))
    have HB11 := hide ((unhide HB).trans (hb11.mono (by have := unhide HSA; have := unhide HQ; omega)))
    have HWF11 := hide ((unhide HWF).on hb11)
    clear hb11 RR RW HB HWF
    have y0 : w11.cell? ⟨w.heap.size, 0, none⟩ = some (.int .i64 0) := (hrb).cell (i := 0) (by omega)
    have yf0 : w11.frozen? ⟨w.heap.size, 0, none⟩ = false := (hrb).frozen 0
    have y1 : w11.cell? ⟨w.heap.size, 1, none⟩ = some (.int .i64 0) := (hrb).cell (i := 1) (by omega)
    have yf1 : w11.frozen? ⟨w.heap.size, 1, none⟩ = false := (hrb).frozen 1
    have y2 : w11.cell? ⟨w.heap.size, 2, none⟩ = some (.int .i64 0) := (hrb).cell (i := 2) (by omega)
    have yf2 : w11.frozen? ⟨w.heap.size, 2, none⟩ = false := (hrb).frozen 2
    have y3 : w11.cell? ⟨w.heap.size, 3, none⟩ = some (.int .i64 0) := (hrb).cell (i := 3) (by omega)
    have yf3 : w11.frozen? ⟨w.heap.size, 3, none⟩ = false := (hrb).frozen 3
    have y4 : w11.cell? ⟨w.heap.size, 4, none⟩ = some (.int .i64 0) := (hrb).cell (i := 4) (by omega)
    have yf4 : w11.frozen? ⟨w.heap.size, 4, none⟩ = false := (hrb).frozen 4
    have y5 : w11.cell? ⟨w.heap.size, 5, none⟩ = some (.int .i64 0) := (hrb).cell (i := 5) (by omega)
    have yf5 : w11.frozen? ⟨w.heap.size, 5, none⟩ = false := (hrb).frozen 5
    have y6 : w11.cell? ⟨w.heap.size, 6, none⟩ = some (.int .i64 0) := (hrb).cell (i := 6) (by omega)
    have yf6 : w11.frozen? ⟨w.heap.size, 6, none⟩ = false := (hrb).frozen 6
    have y7 : w11.cell? ⟨w.heap.size, 7, none⟩ = some (.slice none 0 0) := (hrb).cell (i := 7) (by omega)
    have yf7 : w11.frozen? ⟨w.heap.size, 7, none⟩ = false := (hrb).frozen 7
    have y8 : w11.cell? ⟨w.heap.size, 8, none⟩ = some (.slice none 0 0) := (hrb).cell (i := 8) (by omega)
    have yf8 : w11.frozen? ⟨w.heap.size, 8, none⟩ = false := (hrb).frozen 8
    have y9 : w11.cell? ⟨w.heap.size, 9, none⟩ = some (.slice none 0 0) := (hrb).cell (i := 9) (by omega)
    have yf9 : w11.frozen? ⟨w.heap.size, 9, none⟩ = false := (hrb).frozen 9
    have y10 : w11.cell? ⟨w.heap.size, 10, none⟩ = some (.slice none 0 0) := (hrb).cell (i := 10) (by omega)
    have yf10 : w11.frozen? ⟨w.heap.size, 10, none⟩ = false := (hrb).frozen 10
    cases R with
    | false =>
      clear hrb hrw
      have EB := hide (setVals_below [.int .i64 0, .int .i64 0, .int .i64 0, .int .i64 0, .int .i64 0, .int .i64 0, .int .i64 0, .slice none 0 0, .slice none 0 0, .slice none 0 0, .slice none 0 0] 0 w11 (unhide HB11) (Nat.le_refl w.heap.size))
      go_wp2_with fail
      refine bodyPost_ret (v := .tuple #[wordAgg zeroW (.slice none 0 0) (.slice none 0 0) (.slice none 0 0) (.slice none 0 0), .bool false]) (by simp [results, Tryz.results6, go_sem, zeroW, y0, y1, y2, y3, y4, y5, y6, y7, y8, y9, y10]) rfl ⟨zeroW, false, _, _, _, _, rfl, wordFr_zero _ _, apart_nil, unhide EB, Or.inr ⟨rfl, rfl, fun n0 ho hp => ?_⟩⟩
      obtain ⟨_, _, h3⟩ := (unhide HPL).2 n0 ho hp
      have h4 := unhide HR
      rw [h3, ho] at h4
      cases h4
    | true =>
      have m0 : w11.cell? ⟨rw, 0, none⟩ = some (.int .i64 z0) := (hrw).cell (i := 0) (by omega)
      have m1 : w11.cell? ⟨rw, 1, none⟩ = some (.int .i64 z1) := (hrw).cell (i := 1) (by omega)
      have m2 : w11.cell? ⟨rw, 2, none⟩ = some (.int .i64 z2) := (hrw).cell (i := 2) (by omega)
      have m3 : w11.cell? ⟨rw, 3, none⟩ = some (.int .i64 z3) := (hrw).cell (i := 3) (by omega)
      have m4 : w11.cell? ⟨rw, 4, none⟩ = some (.int .i64 z4) := (hrw).cell (i := 4) (by omega)
      have m5 : w11.cell? ⟨rw, 5, none⟩ = some (.int .i64 z5) := (hrw).cell (i := 5) (by omega)
      have m6 : w11.cell? ⟨rw, 6, none⟩ = some (.int .i64 z6) := (hrw).cell (i := 6) (by omega)
      have m7 : w11.cell? ⟨rw, 7, none⟩ = some (.slice a0 x0.length c0) := (hrw).cell (i := 7) (by omega)
      have m8 : w11.cell? ⟨rw, 8, none⟩ = some (.slice a1 x1.length c1) := (hrw).cell (i := 8) (by omega)
      have m9 : w11.cell? ⟨rw, 9, none⟩ = some (.slice a2 x2.length c2) := (hrw).cell (i := 9) (by omega)
      have m10 : w11.cell? ⟨rw, 10, none⟩ = some (.slice a3 x3.length c3) := (hrw).cell (i := 10) (by omega)
      clear hrb hrw
      have EB := hide (setVals_below [.int .i64 z0, .int .i64 z1, .int .i64 z2, .int .i64 z3, .int .i64 z4, .int .i64 z5, .int .i64 z6, .slice a0 x0.length c0, .slice a1 x1.length c1, .slice a2 x2.length c2, .slice a3 x3.length c3] 0 w11 (unhide HB11) (Nat.le_refl w.heap.size))
      have EF := hide (((unhide HWF11).setV (r := w.heap.size) (o := 0) (Nat.lt_succ_self _) [.int .i64 z0, .int .i64 z1, .int .i64 z2, .int .i64 z3, .int .i64 z4, .int .i64 z5, .int .i64 z6, .slice a0 x0.length c0, .slice a1 x1.length c1, .slice a2 x2.length c2, .slice a3 x3.length c3]).less (M := w.heap.size) (Nat.le_succ _))
      go_wp2_with fail
      refine bodyPost_ret (v := .tuple #[wordAgg ⟨z0, z1, z2, z3, z4, z5, z6, x0, x1, x2, x3⟩ (.slice a0 x0.length c0) (.slice a1 x1.length c1) (.slice a2 x2.length c2) (.slice a3 x3.length c3), .bool true]) (by simp [results, Tryz.results6, go_sem, y0, y1, y2, y3, y4, y5, y6, y7, y8, y9, y10]) rfl ⟨⟨z0, z1, z2, z3, z4, z5, z6, x0, x1, x2, x3⟩, true, _, _, _, _, rfl, unhide EF, unhide HAP, unhide EB, Or.inl ⟨rfl, (unhide HR).symm, ?_, fun n0 ho hp => ((unhide HPL).2 n0 ho hp).2.2⟩⟩
      obtain ⟨h1, h2⟩ := (unhide HBB).1 (by first | trivial | rfl)
      exact (unhide HPL).1 h1 h2 (unhide HR).symm
end Go.Proofs.YtiljjhipiinafaaGreat
