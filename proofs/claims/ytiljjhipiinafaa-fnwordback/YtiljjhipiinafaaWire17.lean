/- impl.WordUnpack. -/
import Derived.Test.YtiljjhipiinafaaWire16
import Derived.Test.YtiljjhipiinafaaWordM
import Derived.Deep.Cut
namespace Go.Proofs.Ytiljjhipiinafaa
open Go.RowKit
set_option linter.unusedVariables false
set_option linter.unusedSimpArgs false

def zeroW : WordV := ⟨0, 0, 0, 0, 0, 0, 0, [], [], [], []⟩

/-- What unpacking comes to: the word whose bytes these are; nothing, where there is none. -/
def UnpackOf (w : World) (bs : List Int) (e : Ending) (w' : World) : Prop :=
  ∃ (n : WordV) (ok : Bool) (ui uv ue uo : Value), e = .returned (.tuple #[wordAgg n ui uv ue uo, .bool ok]) ∧ WordFr w.heap.size w' n ui uv ue uo ∧ Apart4 ui uv ue uo ∧ Below w.heap.size w w' ∧
    ((ok = true ∧ wordOk n = true ∧ packW n = bs ∧ ∀ n0, wordOk n0 = true → packW n0 = bs → n = n0) ∨ (ok = false ∧ n = zeroW ∧ ∀ n0, wordOk n0 = true → packW n0 ≠ bs))

theorem sliced_own {w : World} {B t m k : Nat} {v : Value} {xs : List Value} (h : w.ownsRow B t m v k xs) : ∃ a c, v = .slice a k c := by
  obtain ⟨_, ⟨rfl, rfl⟩ | ⟨g, cap, cur, rfl, _⟩⟩ := h
  · exact ⟨_, _, rfl⟩
  · exact ⟨_, _, rfl⟩

theorem own_fr {α : Type} {row : α → List Int} {w : World} {B N t m : Nat} {v : Value} {xs : List α} (h : w.ownsRow B t m v xs.length (flatCells (xs.map row))) (hl : ∀ r ∈ xs.map row, r.length = m) (hN : N ≤ B) : RowsFr N t m w v (xs.map row) :=
  (RowsFr.of_owns hl (by rw [List.length_map]; exact h)).less hN

theorem wordFr_zero (N : Nat) (w : World) : WordFr N w zeroW (.slice none 0 0) (.slice none 0 0) (.slice none 0 0) (.slice none 0 0) :=
  ⟨Or.inl ⟨rfl, rfl⟩, Or.inl ⟨rfl, rfl⟩, Or.inl ⟨rfl, rfl⟩, Or.inl ⟨rfl, rfl⟩⟩
theorem apart_nil : Apart4 (.slice none 0 0) (.slice none 0 0) (.slice none 0 0) (.slice none 0 0) :=
  ⟨(fun g h => by cases h), (fun g h => by cases h), (fun g h => by cases h), (fun g h => by cases h), (fun g h => by cases h), (fun g h => by cases h)⟩

set_option maxRecDepth 100000 in
set_option maxHeartbeats 8000000 in
theorem implWordUnpack_any (v : Value) (bs : List Int) (w : World) (h : BytesAt w v bs) (hlen : bs.length ≤ 1048576) :
    Calls Try.prog 11 #[v] w fun e w' => UnpackOf w bs e w' := by
  have hby := h.by
  obtain ⟨ad, cap, rfl, hlc, hcm, hrg, hnil, _⟩ := h
  have hs0 : (w.alloc (.cells #[.int .i64 0, .int .i64 0, .int .i64 0, .int .i64 0, .int .i64 0, .int .i64 0, .int .i64 0, .slice none 0 0, .slice none 0 0, .slice none 0 0, .slice none 0 0] 27)).heap.size = w.heap.size + 1 := by simp
  have hs1 : ((w.alloc (.cells #[.int .i64 0, .int .i64 0, .int .i64 0, .int .i64 0, .int .i64 0, .int .i64 0, .int .i64 0, .slice none 0 0, .slice none 0 0, .slice none 0 0, .slice none 0 0] 27)).alloc (.cells #[.slice ad bs.length cap, .int .i64 0, .nilIface] 79)).heap.size = w.heap.size + 2 := by simp
  have hb0 : Below w.heap.size w (w.alloc (.cells #[.int .i64 0, .int .i64 0, .int .i64 0, .int .i64 0, .int .i64 0, .int .i64 0, .int .i64 0, .slice none 0 0, .slice none 0 0, .slice none 0 0, .slice none 0 0] 27)) := (Below.refl _ _).alloc (Nat.le_refl _) _
  have hb1 : Below (w.alloc (.cells #[.int .i64 0, .int .i64 0, .int .i64 0, .int .i64 0, .int .i64 0, .int .i64 0, .int .i64 0, .slice none 0 0, .slice none 0 0, .slice none 0 0, .slice none 0 0] 27)).heap.size (w.alloc (.cells #[.int .i64 0, .int .i64 0, .int .i64 0, .int .i64 0, .int .i64 0, .int .i64 0, .int .i64 0, .slice none 0 0, .slice none 0 0, .slice none 0 0, .slice none 0 0] 27)) ((w.alloc (.cells #[.int .i64 0, .int .i64 0, .int .i64 0, .int .i64 0, .int .i64 0, .int .i64 0, .int .i64 0, .slice none 0 0, .slice none 0 0, .slice none 0 0, .slice none 0 0] 27)).alloc (.cells #[.slice ad bs.length cap, .int .i64 0, .nilIface] 79)) := (Below.refl _ _).alloc (Nat.le_refl _) _
  have hb2 : Below ((w.alloc (.cells #[.int .i64 0, .int .i64 0, .int .i64 0, .int .i64 0, .int .i64 0, .int .i64 0, .int .i64 0, .slice none 0 0, .slice none 0 0, .slice none 0 0, .slice none 0 0] 27)).alloc (.cells #[.slice ad bs.length cap, .int .i64 0, .nilIface] 79)).heap.size ((w.alloc (.cells #[.int .i64 0, .int .i64 0, .int .i64 0, .int .i64 0, .int .i64 0, .int .i64 0, .int .i64 0, .slice none 0 0, .slice none 0 0, .slice none 0 0, .slice none 0 0] 27)).alloc (.cells #[.slice ad bs.length cap, .int .i64 0, .nilIface] 79)) (((w.alloc (.cells #[.int .i64 0, .int .i64 0, .int .i64 0, .int .i64 0, .int .i64 0, .int .i64 0, .int .i64 0, .slice none 0 0, .slice none 0 0, .slice none 0 0, .slice none 0 0] 27)).alloc (.cells #[.slice ad bs.length cap, .int .i64 0, .nilIface] 79)).alloc (.cells #[.int .i64 0, .int .i64 0, .int .i64 0, .int .i64 0, .int .i64 0, .int .i64 0, .int .i64 0] 64)) := (Below.refl _ _).alloc (Nat.le_refl _) _
  have hb02 := below_then (below_then hb0 hb1) hb2
  have r0 := (row_new w [.int .i64 0, .int .i64 0, .int .i64 0, .int .i64 0, .int .i64 0, .int .i64 0, .int .i64 0, .slice none 0 0, .slice none 0 0, .slice none 0 0, .slice none 0 0] 27).of_block ((below_then hb1 hb2).block w.heap.size (by rw [hs0]; omega))
  have r1 := (row_new (w.alloc (.cells #[.int .i64 0, .int .i64 0, .int .i64 0, .int .i64 0, .int .i64 0, .int .i64 0, .int .i64 0, .slice none 0 0, .slice none 0 0, .slice none 0 0, .slice none 0 0] 27)) [.slice ad bs.length cap, .int .i64 0, .nilIface] 79).of_block (hb2.block (w.alloc (.cells #[.int .i64 0, .int .i64 0, .int .i64 0, .int .i64 0, .int .i64 0, .int .i64 0, .int .i64 0, .slice none 0 0, .slice none 0 0, .slice none 0 0, .slice none 0 0] 27)).heap.size (by rw [hs0, hs1]; omega))
  have r2 := row_new ((w.alloc (.cells #[.int .i64 0, .int .i64 0, .int .i64 0, .int .i64 0, .int .i64 0, .int .i64 0, .int .i64 0, .slice none 0 0, .slice none 0 0, .slice none 0 0, .slice none 0 0] 27)).alloc (.cells #[.slice ad bs.length cap, .int .i64 0, .nilIface] 79)) [.int .i64 0, .int .i64 0, .int .i64 0, .int .i64 0, .int .i64 0, .int .i64 0, .int .i64 0] 64
  rw [hs0] at r1
  rw [hs1] at r2
  have hRD : RdI w (((w.alloc (.cells #[.int .i64 0, .int .i64 0, .int .i64 0, .int .i64 0, .int .i64 0, .int .i64 0, .int .i64 0, .slice none 0 0, .slice none 0 0, .slice none 0 0, .slice none 0 0] 27)).alloc (.cells #[.slice ad bs.length cap, .int .i64 0, .nilIface] 79)).alloc (.cells #[.int .i64 0, .int .i64 0, .int .i64 0, .int .i64 0, .int .i64 0, .int .i64 0, .int .i64 0] 64)) (w.heap.size + 1) (.slice ad bs.length cap) bs 0 none :=
    ⟨hby, fun a n c e => by simp only [Value.slice.injEq] at e; obtain ⟨rfl, _, rfl⟩ := e; exact ⟨hcm, hnil⟩, hrg, hlen, Nat.le_succ _, hb02, r1.cell (i := 0) (by simp), r1.cell (i := 1) (by simp), r1.cell (i := 2) (by simp), fun i => r1.frozen i, Nat.zero_le _⟩
  have HRD := hide hRD
  have HR0 := hide r0
  have HR2 := hide r2
  have HB2 := hide hb02
  have HS2 : Hid ((((w.alloc (.cells #[.int .i64 0, .int .i64 0, .int .i64 0, .int .i64 0, .int .i64 0, .int .i64 0, .int .i64 0, .slice none 0 0, .slice none 0 0, .slice none 0 0, .slice none 0 0] 27)).alloc (.cells #[.slice ad bs.length cap, .int .i64 0, .nilIface] 79)).alloc (.cells #[.int .i64 0, .int .i64 0, .int .i64 0, .int .i64 0, .int .i64 0, .int .i64 0, .int .i64 0] 64)).heap.size = w.heap.size + 3) := hide (by simp)
  clear hs0 hs1 hb0 hb1 hb2 hb02 r0 r1 r2 hRD hby hlc hcm hrg hnil
  go_enter Try.func11, Try.ntmps11
  go_wp2_with fail
  change Hid (World.rowIs (((w.alloc (.cells #[.int .i64 0, .int .i64 0, .int .i64 0, .int .i64 0, .int .i64 0, .int .i64 0, .int .i64 0, .slice none 0 0, .slice none 0 0, .slice none 0 0, .slice none 0 0] 27)).alloc (.cells #[.slice ad bs.length cap, .int .i64 0, .nilIface] 79)).alloc (.cells #[.int .i64 0, .int .i64 0, .int .i64 0, .int .i64 0, .int .i64 0, .int .i64 0, .int .i64 0] 64)) w.heap.size 27 11 _) at HR0
  change Hid (World.rowIs (((w.alloc (.cells #[.int .i64 0, .int .i64 0, .int .i64 0, .int .i64 0, .int .i64 0, .int .i64 0, .int .i64 0, .slice none 0 0, .slice none 0 0, .slice none 0 0, .slice none 0 0] 27)).alloc (.cells #[.slice ad bs.length cap, .int .i64 0, .nilIface] 79)).alloc (.cells #[.int .i64 0, .int .i64 0, .int .i64 0, .int .i64 0, .int .i64 0, .int .i64 0, .int .i64 0] 64)) (w.heap.size + 2) 64 7 _) at HR2
  generalize (((w.alloc (.cells #[.int .i64 0, .int .i64 0, .int .i64 0, .int .i64 0, .int .i64 0, .int .i64 0, .int .i64 0, .slice none 0 0, .slice none 0 0, .slice none 0 0, .slice none 0 0] 27)).alloc (.cells #[.slice ad bs.length cap, .int .i64 0, .nilIface] 79)).alloc (.cells #[.int .i64 0, .int .i64 0, .int .i64 0, .int .i64 0, .int .i64 0, .int .i64 0, .int .i64 0] 64)) = X2 at *
  refine (rowI_any w _ (w.heap.size + 1) (w.heap.size + 2) 64 7 _ _ bs 0 none (unhide HRD) (by omega) (unhide HR2) (by omega)).mono ?_
  rintro e w3 ⟨rfl, zs, p0, f0, hl, hrow3, hR3, hO3, hT0⟩
  obtain ⟨z0, z1, z2, z3, z4, z5, z6, rfl⟩ := len7 hl
  have hs3 := hO3.size
  have HR0b := hide ((unhide HR0).of_block (hO3.other w.heap.size (by omega) (by omega) (by have := unhide HS2; omega)))
  have HB3 : Hid (Below w.heap.size w w3) := hide ((unhide HB2).trans ⟨hO3.os, hO3.tape, hO3.output, hO3.size, fun b hb => hO3.other b (by omega) (by omega) (by have := unhide HS2; omega)⟩)
  have HR3 := hide hR3
  have HT0 := hide hT0
  have HS3 : Hid (w.heap.size + 3 ≤ w3.heap.size) := hide (by have := unhide HS2; omega)
  have c0 := hrow3.cell (i := 0) (by omega)
  have c1 := hrow3.cell (i := 1) (by omega)
  have c2 := hrow3.cell (i := 2) (by omega)
  have c3 := hrow3.cell (i := 3) (by omega)
  have c4 := hrow3.cell (i := 4) (by omega)
  have c5 := hrow3.cell (i := 5) (by omega)
  have c6 := hrow3.cell (i := 6) (by omega)
  clear hl hrow3 hR3 hO3 hT0 hs3 HR0 HR2 HRD HB2 HS2
  simp only [List.getD_cons_zero, List.getD_cons_succ] at c0 c1 c2 c3 c4 c5 c6
  go_wp2_with fail
  clear c0 c1 c2 c3 c4 c5 c6
  refine (wordOfHead_any z0 z1 z2 z3 z4 z5 z6 _).mono ?_
  rintro e w4 ⟨rfl, hb4⟩
  have hs4 := hb4.size
  have hbA : Below w4.heap.size w4 (w4.alloc (.cells #[.int .i64 z0, .int .i64 z1, .int .i64 z2, .int .i64 z3, .int .i64 z4, .int .i64 z5, .int .i64 z6, .slice none 0 0, .slice none 0 0, .slice none 0 0, .slice none 0 0] 27)) := (Below.refl _ _).alloc (Nat.le_refl _) _
  have hb45 := below_then hb4 hbA
  have RW := hide (row_new w4 [.int .i64 z0, .int .i64 z1, .int .i64 z2, .int .i64 z3, .int .i64 z4, .int .i64 z5, .int .i64 z6, .slice none 0 0, .slice none 0 0, .slice none 0 0, .slice none 0 0] 27)
  have RR := hide ((unhide HR0b).of_block (hb45.block w.heap.size (by have := unhide HS3; omega)))
  have RD := hide ((unhide HR3).on hb45)
  have HB := hide ((unhide HB3).trans (hb45.mono (by have := unhide HS3; omega)))
  have HS : Hid ((w4.alloc (.cells #[.int .i64 z0, .int .i64 z1, .int .i64 z2, .int .i64 z3, .int .i64 z4, .int .i64 z5, .int .i64 z6, .slice none 0 0, .slice none 0 0, .slice none 0 0, .slice none 0 0] 27)).heap.size = w4.heap.size + 1) := hide (by simp)
  have HQ : Hid (w.heap.size + 3 ≤ w4.heap.size) := hide (by have := unhide HS3; omega)
  clear hs4 hb4 hbA hb45 HR0b HR3 HB3 HS3
  go_upto_region 5 with fail
  change Hid (World.rowIs (w4.alloc (.cells #[.int .i64 z0, .int .i64 z1, .int .i64 z2, .int .i64 z3, .int .i64 z4, .int .i64 z5, .int .i64 z6, .slice none 0 0, .slice none 0 0, .slice none 0 0, .slice none 0 0] 27)) w4.heap.size 27 11 _) at RW
  replace HS : Hid (w4.heap.size + 1 ≤ (w4.alloc (.cells #[.int .i64 z0, .int .i64 z1, .int .i64 z2, .int .i64 z3, .int .i64 z4, .int .i64 z5, .int .i64 z6, .slice none 0 0, .slice none 0 0, .slice none 0 0, .slice none 0 0] 27)).heap.size) := hide (by have := unhide HS; omega)
  generalize (w4.alloc (.cells #[.int .i64 z0, .int .i64 z1, .int .i64 z2, .int .i64 z3, .int .i64 z4, .int .i64 z5, .int .i64 z6, .slice none 0 0, .slice none 0 0, .slice none 0 0, .slice none 0 0] 27)) = W0 at *
  generalize w4.heap.size = rw at *
  go_wp2_with fail
  refine (readInt_any w _ (w.heap.size + 1) _ bs p0 f0 3 (by omega) (by omega) (unhide RD)).mono ?_
  rintro e v0 ⟨u, rfl, x0, p1, f1, hown, hR, hO, hT⟩
  obtain ⟨a0, c0, rfl⟩ := sliced_own hown
  have HT1 := hide hT
  have hrs : rw < W0.heap.size := unhide HS
  have hsz := hO.size
  have ro := (unhide RW).of_block (hO.other rw (by have := unhide HQ; omega) hrs)
  have g0 : v0.cell? ⟨rw, 7, none⟩ = some (.slice none 0 0) := ro.cell (i := 7) (by omega)
  have z0_ : v0.frozen? ⟨rw, 7, none⟩ = false := ro.frozen 7
  replace RW : Hid ((v0.setCell ⟨rw, 7, none⟩ (.slice a0 x0.length c0)).rowIs rw 27 11 (fun i => [.int .i64 z0, .int .i64 z1, .int .i64 z2, .int .i64 z3, .int .i64 z4, .int .i64 z5, .int .i64 z6, .slice a0 x0.length c0, .slice none 0 0, .slice none 0 0, .slice none 0 0].getD i undef)) := hide (rowL_set ro 7 (by simp) _)
  replace RR := hide (((unhide RR).of_block (hO.other w.heap.size (by omega) (by have := unhide HQ; omega))).of_block (Below.heap_setCell v0 ⟨rw, 7, none⟩ (.slice a0 x0.length c0) w.heap.size (show w.heap.size ≠ rw by have := unhide HQ; omega)))
  replace RD := hide (hR.set (o := 7) (x := .slice a0 x0.length c0) (show w.heap.size + 1 < rw by have := unhide HQ; omega))
  replace HB := hide (((unhide HB).trans (hO.below.mono (Nat.le_succ _))).setCell (p := ⟨rw, 7, none⟩) (show w.heap.size ≤ rw by have := unhide HQ; omega) (.slice a0 x0.length c0))
  have BS0 : Hid (rw < W0.heap.size) := hide hrs
  have OW0 := hide (ownsRow_setCell_other hown (a := ⟨rw, 7, none⟩) (fun e => by have h3 := (hown.lt rw e).1; omega) (.slice a0 x0.length c0))
  replace HS : Hid (rw < (v0.setCell ⟨rw, 7, none⟩ (.slice a0 x0.length c0)).heap.size) := hide (by rw [show (v0.setCell ⟨rw, 7, none⟩ (.slice a0 x0.length c0)).heap.size = v0.heap.size from by simp]; omega)
  clear hown hR hO hT hrs hsz ro
  go_upto_region 6 with fail
  clear g0 z0_
  generalize v0.setCell ⟨rw, 7, none⟩ (.slice a0 x0.length c0) = W1 at *
  go_wp2_with fail
  refine (readInt_any w _ (w.heap.size + 1) _ bs p1 f1 3 (by omega) (by omega) (unhide RD)).mono ?_
  rintro e v1 ⟨u, rfl, x1, p2, f2, hown, hR, hO, hT⟩
  obtain ⟨a1, c1, rfl⟩ := sliced_own hown
  have HT2 := hide hT
  have hrs : rw < W1.heap.size := unhide HS
  have hsz := hO.size
  have D01 : Hid (∀ g, Value.ownBlock (.slice a0 x0.length c0) = some g → Value.ownBlock (.slice a1 x1.length c1) ≠ some g) := hide (fun g h1 h2 => by have h3 := ((unhide OW0).lt g h1).2; have h4 := (hown.lt g h2).1; omega)
  have ro := (unhide RW).of_block (hO.other rw (by have := unhide HQ; omega) hrs)
  have g0 : v1.cell? ⟨rw, 8, none⟩ = some (.slice none 0 0) := ro.cell (i := 8) (by omega)
  have z0_ : v1.frozen? ⟨rw, 8, none⟩ = false := ro.frozen 8
  replace RW : Hid ((v1.setCell ⟨rw, 8, none⟩ (.slice a1 x1.length c1)).rowIs rw 27 11 (fun i => [.int .i64 z0, .int .i64 z1, .int .i64 z2, .int .i64 z3, .int .i64 z4, .int .i64 z5, .int .i64 z6, .slice a0 x0.length c0, .slice a1 x1.length c1, .slice none 0 0, .slice none 0 0].getD i undef)) := hide (rowL_set ro 8 (by simp) _)
  replace RR := hide (((unhide RR).of_block (hO.other w.heap.size (by omega) (by have := unhide HQ; omega))).of_block (Below.heap_setCell v1 ⟨rw, 8, none⟩ (.slice a1 x1.length c1) w.heap.size (show w.heap.size ≠ rw by have := unhide HQ; omega)))
  replace RD := hide (hR.set (o := 8) (x := .slice a1 x1.length c1) (show w.heap.size + 1 < rw by have := unhide HQ; omega))
  replace HB := hide (((unhide HB).trans (hO.below.mono (Nat.le_succ _))).setCell (p := ⟨rw, 8, none⟩) (show w.heap.size ≤ rw by have := unhide HQ; omega) (.slice a1 x1.length c1))
  replace OW0 := hide (ownsRow_setCell_other (owns_onlyB hO (by have := unhide HQ; have := unhide BS0; omega) (unhide OW0)) (a := ⟨rw, 8, none⟩) (fun e => by have h3 := ((unhide OW0).lt rw e).1; have := unhide BS0; omega) (.slice a1 x1.length c1))
  have BS1 : Hid (rw < W1.heap.size) := hide hrs
  have OW1 := hide (ownsRow_setCell_other hown (a := ⟨rw, 8, none⟩) (fun e => by have h3 := (hown.lt rw e).1; omega) (.slice a1 x1.length c1))
  replace HS : Hid (rw < (v1.setCell ⟨rw, 8, none⟩ (.slice a1 x1.length c1)).heap.size) := hide (by rw [show (v1.setCell ⟨rw, 8, none⟩ (.slice a1 x1.length c1)).heap.size = v1.heap.size from by simp]; omega)
  clear hown hR hO hT hrs hsz ro
  go_upto_region 7 with fail
  clear g0 z0_
  generalize v1.setCell ⟨rw, 8, none⟩ (.slice a1 x1.length c1) = W2 at *
  go_wp2_with fail
  refine (readEv_any w _ (w.heap.size + 1) _ bs p2 f2 100 (by omega) (by omega) (unhide RD)).mono ?_
  rintro e v2 ⟨u, rfl, x2, p3, f3, hown, hR, hO, hT⟩
  obtain ⟨a2, c2, rfl⟩ := sliced_own hown
  have HT3 := hide hT
  have hrs : rw < W2.heap.size := unhide HS
  have hsz := hO.size
  have D02 : Hid (∀ g, Value.ownBlock (.slice a0 x0.length c0) = some g → Value.ownBlock (.slice a2 x2.length c2) ≠ some g) := hide (fun g h1 h2 => by have h3 := ((unhide OW0).lt g h1).2; have h4 := (hown.lt g h2).1; omega)
  have D12 : Hid (∀ g, Value.ownBlock (.slice a1 x1.length c1) = some g → Value.ownBlock (.slice a2 x2.length c2) ≠ some g) := hide (fun g h1 h2 => by have h3 := ((unhide OW1).lt g h1).2; have h4 := (hown.lt g h2).1; omega)
  have ro := (unhide RW).of_block (hO.other rw (by have := unhide HQ; omega) hrs)
  have g0 : v2.cell? ⟨rw, 9, none⟩ = some (.slice none 0 0) := ro.cell (i := 9) (by omega)
  have z0_ : v2.frozen? ⟨rw, 9, none⟩ = false := ro.frozen 9
  replace RW : Hid ((v2.setCell ⟨rw, 9, none⟩ (.slice a2 x2.length c2)).rowIs rw 27 11 (fun i => [.int .i64 z0, .int .i64 z1, .int .i64 z2, .int .i64 z3, .int .i64 z4, .int .i64 z5, .int .i64 z6, .slice a0 x0.length c0, .slice a1 x1.length c1, .slice a2 x2.length c2, .slice none 0 0].getD i undef)) := hide (rowL_set ro 9 (by simp) _)
  replace RR := hide (((unhide RR).of_block (hO.other w.heap.size (by omega) (by have := unhide HQ; omega))).of_block (Below.heap_setCell v2 ⟨rw, 9, none⟩ (.slice a2 x2.length c2) w.heap.size (show w.heap.size ≠ rw by have := unhide HQ; omega)))
  replace RD := hide (hR.set (o := 9) (x := .slice a2 x2.length c2) (show w.heap.size + 1 < rw by have := unhide HQ; omega))
  replace HB := hide (((unhide HB).trans (hO.below.mono (Nat.le_succ _))).setCell (p := ⟨rw, 9, none⟩) (show w.heap.size ≤ rw by have := unhide HQ; omega) (.slice a2 x2.length c2))
  replace OW0 := hide (ownsRow_setCell_other (owns_onlyB hO (by have := unhide HQ; have := unhide BS0; omega) (unhide OW0)) (a := ⟨rw, 9, none⟩) (fun e => by have h3 := ((unhide OW0).lt rw e).1; have := unhide BS0; omega) (.slice a2 x2.length c2))
  replace OW1 := hide (ownsRow_setCell_other (owns_onlyB hO (by have := unhide HQ; have := unhide BS1; omega) (unhide OW1)) (a := ⟨rw, 9, none⟩) (fun e => by have h3 := ((unhide OW1).lt rw e).1; have := unhide BS1; omega) (.slice a2 x2.length c2))
  have BS2 : Hid (rw < W2.heap.size) := hide hrs
  have OW2 := hide (ownsRow_setCell_other hown (a := ⟨rw, 9, none⟩) (fun e => by have h3 := (hown.lt rw e).1; omega) (.slice a2 x2.length c2))
  replace HS : Hid (rw < (v2.setCell ⟨rw, 9, none⟩ (.slice a2 x2.length c2)).heap.size) := hide (by rw [show (v2.setCell ⟨rw, 9, none⟩ (.slice a2 x2.length c2)).heap.size = v2.heap.size from by simp]; omega)
  clear hown hR hO hT hrs hsz ro
  go_upto_region 8 with fail
  clear g0 z0_
  generalize v2.setCell ⟨rw, 9, none⟩ (.slice a2 x2.length c2) = W3 at *
  go_wp2_with fail
  refine (readOu_any w _ (w.heap.size + 1) _ bs p3 f3 96 (by omega) (by omega) (unhide RD)).mono ?_
  rintro e v3 ⟨u, rfl, x3, p4, f4, hown, hR, hO, hT⟩
  obtain ⟨a3, c3, rfl⟩ := sliced_own hown
  have HT4 := hide hT
  have hrs : rw < W3.heap.size := unhide HS
  have hsz := hO.size
  have D03 : Hid (∀ g, Value.ownBlock (.slice a0 x0.length c0) = some g → Value.ownBlock (.slice a3 x3.length c3) ≠ some g) := hide (fun g h1 h2 => by have h3 := ((unhide OW0).lt g h1).2; have h4 := (hown.lt g h2).1; omega)
  have D13 : Hid (∀ g, Value.ownBlock (.slice a1 x1.length c1) = some g → Value.ownBlock (.slice a3 x3.length c3) ≠ some g) := hide (fun g h1 h2 => by have h3 := ((unhide OW1).lt g h1).2; have h4 := (hown.lt g h2).1; omega)
  have D23 : Hid (∀ g, Value.ownBlock (.slice a2 x2.length c2) = some g → Value.ownBlock (.slice a3 x3.length c3) ≠ some g) := hide (fun g h1 h2 => by have h3 := ((unhide OW2).lt g h1).2; have h4 := (hown.lt g h2).1; omega)
  have ro := (unhide RW).of_block (hO.other rw (by have := unhide HQ; omega) hrs)
  have g0 : v3.cell? ⟨rw, 10, none⟩ = some (.slice none 0 0) := ro.cell (i := 10) (by omega)
  have z0_ : v3.frozen? ⟨rw, 10, none⟩ = false := ro.frozen 10
  replace RW : Hid ((v3.setCell ⟨rw, 10, none⟩ (.slice a3 x3.length c3)).rowIs rw 27 11 (fun i => [.int .i64 z0, .int .i64 z1, .int .i64 z2, .int .i64 z3, .int .i64 z4, .int .i64 z5, .int .i64 z6, .slice a0 x0.length c0, .slice a1 x1.length c1, .slice a2 x2.length c2, .slice a3 x3.length c3].getD i undef)) := hide (rowL_set ro 10 (by simp) _)
  replace RR := hide (((unhide RR).of_block (hO.other w.heap.size (by omega) (by have := unhide HQ; omega))).of_block (Below.heap_setCell v3 ⟨rw, 10, none⟩ (.slice a3 x3.length c3) w.heap.size (show w.heap.size ≠ rw by have := unhide HQ; omega)))
  replace RD := hide (hR.set (o := 10) (x := .slice a3 x3.length c3) (show w.heap.size + 1 < rw by have := unhide HQ; omega))
  replace HB := hide (((unhide HB).trans (hO.below.mono (Nat.le_succ _))).setCell (p := ⟨rw, 10, none⟩) (show w.heap.size ≤ rw by have := unhide HQ; omega) (.slice a3 x3.length c3))
  replace OW0 := hide (ownsRow_setCell_other (owns_onlyB hO (by have := unhide HQ; have := unhide BS0; omega) (unhide OW0)) (a := ⟨rw, 10, none⟩) (fun e => by have h3 := ((unhide OW0).lt rw e).1; have := unhide BS0; omega) (.slice a3 x3.length c3))
  replace OW1 := hide (ownsRow_setCell_other (owns_onlyB hO (by have := unhide HQ; have := unhide BS1; omega) (unhide OW1)) (a := ⟨rw, 10, none⟩) (fun e => by have h3 := ((unhide OW1).lt rw e).1; have := unhide BS1; omega) (.slice a3 x3.length c3))
  replace OW2 := hide (ownsRow_setCell_other (owns_onlyB hO (by have := unhide HQ; have := unhide BS2; omega) (unhide OW2)) (a := ⟨rw, 10, none⟩) (fun e => by have h3 := ((unhide OW2).lt rw e).1; have := unhide BS2; omega) (.slice a3 x3.length c3))
  have BS3 : Hid (rw < W3.heap.size) := hide hrs
  have OW3 := hide (ownsRow_setCell_other hown (a := ⟨rw, 10, none⟩) (fun e => by have h3 := (hown.lt rw e).1; omega) (.slice a3 x3.length c3))
  replace HS : Hid (rw < (v3.setCell ⟨rw, 10, none⟩ (.slice a3 x3.length c3)).heap.size) := hide (by rw [show (v3.setCell ⟨rw, 10, none⟩ (.slice a3 x3.length c3)).heap.size = v3.heap.size from by simp]; omega)
  clear hown hR hO hT hrs hsz ro
  go_upto_region 9 with fail
  clear g0 z0_
  generalize v3.setCell ⟨rw, 10, none⟩ (.slice a3 x3.length c3) = W4 at *
  go_wp2_with fail
  refine (isOver_any w _ (w.heap.size + 1) _ bs p4 f4 (unhide RD)).mono ?_
  rintro e w10 ⟨b, rfl, hO, hbb⟩
  have hrs : rw < W4.heap.size := unhide HS
  have hsz := hO.size
  replace RW := hide ((unhide RW).of_block (hO.other rw (by have := unhide HQ; omega) hrs))
  replace RR := hide ((unhide RR).of_block (hO.other w.heap.size (by omega) (by have := unhide HQ; omega)))
  replace HB := hide ((unhide HB).trans (hO.below.mono (Nat.le_succ _)))
  replace OW0 := hide (owns_onlyB hO (by have := unhide HQ; have := unhide BS0; omega) (unhide OW0))
  replace OW1 := hide (owns_onlyB hO (by have := unhide HQ; have := unhide BS1; omega) (unhide OW1))
  replace OW2 := hide (owns_onlyB hO (by have := unhide HQ; have := unhide BS2; omega) (unhide OW2))
  replace OW3 := hide (owns_onlyB hO (by have := unhide HQ; have := unhide BS3; omega) (unhide OW3))
  have HBB := hide hbb
  have HPL := hide (unpack_plain (n := ⟨z0, z1, z2, z3, z4, z5, z6, x0, x1, x2, x3⟩) (unhide HT0) (unhide HT1) (unhide HT2) (unhide HT3) (unhide HT4))
  have HWF : Hid (WordFr (w.heap.size + 1) w10 ⟨z0, z1, z2, z3, z4, z5, z6, x0, x1, x2, x3⟩ (.slice a0 x0.length c0) (.slice a1 x1.length c1) (.slice a2 x2.length c2) (.slice a3 x3.length c3)) := hide ⟨own_fr (unhide OW0) (fun r hr => by obtain ⟨z, _, rfl⟩ := List.mem_map.1 hr; rfl) (by have := unhide BS0; have := unhide HQ; omega), own_fr (unhide OW1) (fun r hr => by obtain ⟨z, _, rfl⟩ := List.mem_map.1 hr; rfl) (by have := unhide BS1; have := unhide HQ; omega), own_fr (unhide OW2) (fun r hr => by obtain ⟨z, _, rfl⟩ := List.mem_map.1 hr; rfl) (by have := unhide BS2; have := unhide HQ; omega), own_fr (unhide OW3) (fun r hr => by obtain ⟨z, _, rfl⟩ := List.mem_map.1 hr; rfl) (by have := unhide BS3; have := unhide HQ; omega)⟩
  have HAP : Hid (Apart4 (.slice a0 x0.length c0) (.slice a1 x1.length c1) (.slice a2 x2.length c2) (.slice a3 x3.length c3)) := hide ⟨unhide D01, unhide D02, unhide D03, unhide D12, unhide D13, unhide D23⟩
  have HSA : Hid (rw < w10.heap.size) := hide (by omega)
  clear OW0 OW1 OW2 OW3 BS0 BS1 BS2 BS3 D01 D02 D03 D12 D13 D23 HT0 HT1 HT2 HT3 HT4 RD hO hrs hsz hbb HS
  cases b with
  | false =>
    have y0 : w10.cell? ⟨w.heap.size, 0, none⟩ = some (.int .i64 0) := (unhide RR).cell (i := 0) (by omega)
    have yf0 : w10.frozen? ⟨w.heap.size, 0, none⟩ = false := (unhide RR).frozen 0
    have y1 : w10.cell? ⟨w.heap.size, 1, none⟩ = some (.int .i64 0) := (unhide RR).cell (i := 1) (by omega)
    have yf1 : w10.frozen? ⟨w.heap.size, 1, none⟩ = false := (unhide RR).frozen 1
    have y2 : w10.cell? ⟨w.heap.size, 2, none⟩ = some (.int .i64 0) := (unhide RR).cell (i := 2) (by omega)
    have yf2 : w10.frozen? ⟨w.heap.size, 2, none⟩ = false := (unhide RR).frozen 2
    have y3 : w10.cell? ⟨w.heap.size, 3, none⟩ = some (.int .i64 0) := (unhide RR).cell (i := 3) (by omega)
    have yf3 : w10.frozen? ⟨w.heap.size, 3, none⟩ = false := (unhide RR).frozen 3
    have y4 : w10.cell? ⟨w.heap.size, 4, none⟩ = some (.int .i64 0) := (unhide RR).cell (i := 4) (by omega)
    have yf4 : w10.frozen? ⟨w.heap.size, 4, none⟩ = false := (unhide RR).frozen 4
    have y5 : w10.cell? ⟨w.heap.size, 5, none⟩ = some (.int .i64 0) := (unhide RR).cell (i := 5) (by omega)
    have yf5 : w10.frozen? ⟨w.heap.size, 5, none⟩ = false := (unhide RR).frozen 5
    have y6 : w10.cell? ⟨w.heap.size, 6, none⟩ = some (.int .i64 0) := (unhide RR).cell (i := 6) (by omega)
    have yf6 : w10.frozen? ⟨w.heap.size, 6, none⟩ = false := (unhide RR).frozen 6
    have y7 : w10.cell? ⟨w.heap.size, 7, none⟩ = some (.slice none 0 0) := (unhide RR).cell (i := 7) (by omega)
    have yf7 : w10.frozen? ⟨w.heap.size, 7, none⟩ = false := (unhide RR).frozen 7
    have y8 : w10.cell? ⟨w.heap.size, 8, none⟩ = some (.slice none 0 0) := (unhide RR).cell (i := 8) (by omega)
    have yf8 : w10.frozen? ⟨w.heap.size, 8, none⟩ = false := (unhide RR).frozen 8
    have y9 : w10.cell? ⟨w.heap.size, 9, none⟩ = some (.slice none 0 0) := (unhide RR).cell (i := 9) (by omega)
    have yf9 : w10.frozen? ⟨w.heap.size, 9, none⟩ = false := (unhide RR).frozen 9
    have y10 : w10.cell? ⟨w.heap.size, 10, none⟩ = some (.slice none 0 0) := (unhide RR).cell (i := 10) (by omega)
    have yf10 : w10.frozen? ⟨w.heap.size, 10, none⟩ = false := (unhide RR).frozen 10
    have EB := hide (setVals_below [.int .i64 0, .int .i64 0, .int .i64 0, .int .i64 0, .int .i64 0, .int .i64 0, .int .i64 0, .slice none 0 0, .slice none 0 0, .slice none 0 0, .slice none 0 0] 0 w10 (unhide HB) (Nat.le_refl w.heap.size))
    go_wp2_with fail
    refine bodyPost_ret (v := .tuple #[wordAgg zeroW (.slice none 0 0) (.slice none 0 0) (.slice none 0 0) (.slice none 0 0), .bool false]) (by simp [results, Try.results11, go_sem, zeroW, y0, y1, y2, y3, y4, y5, y6, y7, y8, y9, y10]) rfl ⟨zeroW, false, _, _, _, _, rfl, wordFr_zero _ _, apart_nil, unhide EB, Or.inr ⟨rfl, rfl, fun n0 ho hp => ?_⟩⟩
    obtain ⟨h1, h2, _⟩ := (unhide HPL).2 n0 ho hp
    have := (unhide HBB).2 ⟨h1, h2⟩
    cases this
  | true =>
    obtain ⟨R, hR⟩ : ∃ R, R = wordOk ⟨z0, z1, z2, z3, z4, z5, z6, x0, x1, x2, x3⟩ := ⟨_, rfl⟩
    have HR := hide hR
    clear hR
    have m0 : w10.cell? ⟨rw, 0, none⟩ = some (.int .i64 z0) := (unhide RW).cell (i := 0) (by omega)
    have m1 : w10.cell? ⟨rw, 1, none⟩ = some (.int .i64 z1) := (unhide RW).cell (i := 1) (by omega)
    have m2 : w10.cell? ⟨rw, 2, none⟩ = some (.int .i64 z2) := (unhide RW).cell (i := 2) (by omega)
    have m3 : w10.cell? ⟨rw, 3, none⟩ = some (.int .i64 z3) := (unhide RW).cell (i := 3) (by omega)
    have m4 : w10.cell? ⟨rw, 4, none⟩ = some (.int .i64 z4) := (unhide RW).cell (i := 4) (by omega)
    have m5 : w10.cell? ⟨rw, 5, none⟩ = some (.int .i64 z5) := (unhide RW).cell (i := 5) (by omega)
    have m6 : w10.cell? ⟨rw, 6, none⟩ = some (.int .i64 z6) := (unhide RW).cell (i := 6) (by omega)
    have m7 : w10.cell? ⟨rw, 7, none⟩ = some (.slice a0 x0.length c0) := (unhide RW).cell (i := 7) (by omega)
    have m8 : w10.cell? ⟨rw, 8, none⟩ = some (.slice a1 x1.length c1) := (unhide RW).cell (i := 8) (by omega)
    have m9 : w10.cell? ⟨rw, 9, none⟩ = some (.slice a2 x2.length c2) := (unhide RW).cell (i := 9) (by omega)
    have m10 : w10.cell? ⟨rw, 10, none⟩ = some (.slice a3 x3.length c3) := (unhide RW).cell (i := 10) (by omega)
    go_wp2_with fail
    clear m0 m1 m2 m3 m4 m5 m6 m7 m8 m9 m10
    refine (implWordOk_any ⟨z0, z1, z2, z3, z4, z5, z6, x0, x1, x2, x3⟩ _ _ _ _ _ (unhide HWF).at).mono ?_
    rintro e w11 ⟨rfl, hb11⟩
    rw [← unhide HR]
    have hrb := (unhide RR).of_block (hb11.block w.heap.size (by have := unhide HSA; have := unhide HQ; omega))
    have hrw := (unhide RW).of_block (hb11.block rw (unhide HSA))
    have HB11 := hide ((unhide HB).trans (hb11.mono (by have := unhide HSA; have := unhide HQ; omega)))
    have HWF11 := hide ((unhide HWF).on hb11)
    clear hb11 RR RW HB HWF
    have y0 : w11.cell? ⟨w.heap.size, 0, none⟩ = some (.int .i64 0) := (hrb).cell (i := 0) (by omega)
    have yf0 : w11.frozen? ⟨w.heap.size, 0, none⟩ = false := (hrb).frozen 0
    have y1 : w11.cell? ⟨w.heap.size, 1, none⟩ = some (.int .i64 0) := (hrb).cell (i := 1) (by omega)
    have yf1 : w11.frozen? ⟨w.heap.size, 1, none⟩ = false := (hrb).frozen 1
    have y2 : w11.cell? ⟨w.heap.size, 2, none⟩ = some (.int .i64 0) := (hrb).cell (i := 2) (by omega)
    have yf2 : w11.frozen? ⟨w.heap.size, 2, none⟩ = false := (hrb).frozen 2
    have y3 : w11.cell? ⟨w.heap.size, 3, none⟩ = some (.int .i64 0) := (hrb).cell (i := 3) (by omega)
    have yf3 : w11.frozen? ⟨w.heap.size, 3, none⟩ = false := (hrb).frozen 3
    have y4 : w11.cell? ⟨w.heap.size, 4, none⟩ = some (.int .i64 0) := (hrb).cell (i := 4) (by omega)
    have yf4 : w11.frozen? ⟨w.heap.size, 4, none⟩ = false := (hrb).frozen 4
    have y5 : w11.cell? ⟨w.heap.size, 5, none⟩ = some (.int .i64 0) := (hrb).cell (i := 5) (by omega)
    have yf5 : w11.frozen? ⟨w.heap.size, 5, none⟩ = false := (hrb).frozen 5
    have y6 : w11.cell? ⟨w.heap.size, 6, none⟩ = some (.int .i64 0) := (hrb).cell (i := 6) (by omega)
    have yf6 : w11.frozen? ⟨w.heap.size, 6, none⟩ = false := (hrb).frozen 6
    have y7 : w11.cell? ⟨w.heap.size, 7, none⟩ = some (.slice none 0 0) := (hrb).cell (i := 7) (by omega)
    have yf7 : w11.frozen? ⟨w.heap.size, 7, none⟩ = false := (hrb).frozen 7
    have y8 : w11.cell? ⟨w.heap.size, 8, none⟩ = some (.slice none 0 0) := (hrb).cell (i := 8) (by omega)
    have yf8 : w11.frozen? ⟨w.heap.size, 8, none⟩ = false := (hrb).frozen 8
    have y9 : w11.cell? ⟨w.heap.size, 9, none⟩ = some (.slice none 0 0) := (hrb).cell (i := 9) (by omega)
    have yf9 : w11.frozen? ⟨w.heap.size, 9, none⟩ = false := (hrb).frozen 9
    have y10 : w11.cell? ⟨w.heap.size, 10, none⟩ = some (.slice none 0 0) := (hrb).cell (i := 10) (by omega)
    have yf10 : w11.frozen? ⟨w.heap.size, 10, none⟩ = false := (hrb).frozen 10
    cases R with
    | false =>
      clear hrb hrw
      have EB := hide (setVals_below [.int .i64 0, .int .i64 0, .int .i64 0, .int .i64 0, .int .i64 0, .int .i64 0, .int .i64 0, .slice none 0 0, .slice none 0 0, .slice none 0 0, .slice none 0 0] 0 w11 (unhide HB11) (Nat.le_refl w.heap.size))
      go_wp2_with fail
      refine bodyPost_ret (v := .tuple #[wordAgg zeroW (.slice none 0 0) (.slice none 0 0) (.slice none 0 0) (.slice none 0 0), .bool false]) (by simp [results, Try.results11, go_sem, zeroW, y0, y1, y2, y3, y4, y5, y6, y7, y8, y9, y10]) rfl ⟨zeroW, false, _, _, _, _, rfl, wordFr_zero _ _, apart_nil, unhide EB, Or.inr ⟨rfl, rfl, fun n0 ho hp => ?_⟩⟩
      obtain ⟨_, _, h3⟩ := (unhide HPL).2 n0 ho hp
      have h4 := unhide HR
      rw [h3, ho] at h4
      cases h4
    | true =>
      have m0 : w11.cell? ⟨rw, 0, none⟩ = some (.int .i64 z0) := (hrw).cell (i := 0) (by omega)
      have m1 : w11.cell? ⟨rw, 1, none⟩ = some (.int .i64 z1) := (hrw).cell (i := 1) (by omega)
      have m2 : w11.cell? ⟨rw, 2, none⟩ = some (.int .i64 z2) := (hrw).cell (i := 2) (by omega)
      have m3 : w11.cell? ⟨rw, 3, none⟩ = some (.int .i64 z3) := (hrw).cell (i := 3) (by omega)
      have m4 : w11.cell? ⟨rw, 4, none⟩ = some (.int .i64 z4) := (hrw).cell (i := 4) (by omega)
      have m5 : w11.cell? ⟨rw, 5, none⟩ = some (.int .i64 z5) := (hrw).cell (i := 5) (by omega)
      have m6 : w11.cell? ⟨rw, 6, none⟩ = some (.int .i64 z6) := (hrw).cell (i := 6) (by omega)
      have m7 : w11.cell? ⟨rw, 7, none⟩ = some (.slice a0 x0.length c0) := (hrw).cell (i := 7) (by omega)
      have m8 : w11.cell? ⟨rw, 8, none⟩ = some (.slice a1 x1.length c1) := (hrw).cell (i := 8) (by omega)
      have m9 : w11.cell? ⟨rw, 9, none⟩ = some (.slice a2 x2.length c2) := (hrw).cell (i := 9) (by omega)
      have m10 : w11.cell? ⟨rw, 10, none⟩ = some (.slice a3 x3.length c3) := (hrw).cell (i := 10) (by omega)
      clear hrb hrw
      have EB := hide (setVals_below [.int .i64 z0, .int .i64 z1, .int .i64 z2, .int .i64 z3, .int .i64 z4, .int .i64 z5, .int .i64 z6, .slice a0 x0.length c0, .slice a1 x1.length c1, .slice a2 x2.length c2, .slice a3 x3.length c3] 0 w11 (unhide HB11) (Nat.le_refl w.heap.size))
      have EF := hide (((unhide HWF11).setV (r := w.heap.size) (o := 0) (Nat.lt_succ_self _) [.int .i64 z0, .int .i64 z1, .int .i64 z2, .int .i64 z3, .int .i64 z4, .int .i64 z5, .int .i64 z6, .slice a0 x0.length c0, .slice a1 x1.length c1, .slice a2 x2.length c2, .slice a3 x3.length c3]).less (M := w.heap.size) (Nat.le_succ _))
      go_wp2_with fail
      refine bodyPost_ret (v := .tuple #[wordAgg ⟨z0, z1, z2, z3, z4, z5, z6, x0, x1, x2, x3⟩ (.slice a0 x0.length c0) (.slice a1 x1.length c1) (.slice a2 x2.length c2) (.slice a3 x3.length c3), .bool true]) (by simp [results, Try.results11, go_sem, y0, y1, y2, y3, y4, y5, y6, y7, y8, y9, y10]) rfl ⟨⟨z0, z1, z2, z3, z4, z5, z6, x0, x1, x2, x3⟩, true, _, _, _, _, rfl, unhide EF, unhide HAP, unhide EB, Or.inl ⟨rfl, (unhide HR).symm, ?_, fun n0 ho hp => ((unhide HPL).2 n0 ho hp).2.2⟩⟩
      obtain ⟨h1, h2⟩ := (unhide HBB).1 (by first | trivial | rfl)
      exact (unhide HPL).1 h1 h2 (unhide HR).symm
end Go.Proofs.Ytiljjhipiinafaa
