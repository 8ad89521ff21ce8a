/- spec.WordUnpack. -/
import Derived.Test.YtiljjhipiinafaaGreatWire18
import Derived.Test.YtiljjhipiinafaaGreatLtW
import Derived.Deep.Cut
import Derived.Deep.RegionHeld3
import Derived.BigRegion
import Derived.Laws.Strings
namespace Go.Proofs.YtiljjhipiinafaaGreat
open Go.RowKit
set_option linter.unusedVariables false
set_option linter.unusedSimpArgs false

theorem numS_rng (n : Int) (h0 : -1 ≤ n) (h1 : n ≤ 9999) : ∀ z ∈ numI n, 0 ≤ z ∧ z ≤ 255 := by
  intro z hz
  unfold numI numB at hz
  split at hz
  · simp only [List.mem_singleton] at hz; omega
  · simp only [List.mem_cons, List.not_mem_nil, or_false] at hz; omega
theorem packS_rng {l : List Int} (h : ∀ n ∈ l, -1 ≤ n ∧ n ≤ 9999) : ∀ z ∈ packI l, 0 ≤ z ∧ z ≤ 255 := by
  intro z hz
  obtain ⟨n, hn, hz⟩ := List.mem_flatMap.1 hz
  exact numS_rng n (h n hn).1 (h n hn).2 z hz
theorem u8_inj {a b : Int} (ha : 0 ≤ a ∧ a ≤ 255) (hb : 0 ≤ b ∧ b ≤ 255) (h : UInt8.ofNat a.toNat = UInt8.ofNat b.toNat) : a = b := by
  have h1 := congrArg UInt8.toNat h
  simp at h1
  omega
theorem strOf_inj : ∀ {xs ys : List Int}, (∀ z ∈ xs, 0 ≤ z ∧ z ≤ 255) → (∀ z ∈ ys, 0 ≤ z ∧ z ≤ 255) → (xs.map fun n => UInt8.ofNat n.toNat) = (ys.map fun n => UInt8.ofNat n.toNat) → xs = ys := by
  intro xs
  induction xs with
  | nil => intro ys _ _ h; cases ys with
    | nil => rfl
    | cons y ys => simp at h
  | cons x xs ih => intro ys hx hy h; cases ys with
    | nil => simp at h
    | cons y ys =>
      simp only [List.map_cons, List.cons.injEq] at h
      rw [u8_inj (hx x (by simp)) (hy y (by simp)) h.1, ih (fun z hz => hx z (by simp [hz])) (fun z hz => hy z (by simp [hz])) h.2]
theorem strOf_ne {xs ys : List Int} (hx : ∀ z ∈ xs, 0 ≤ z ∧ z ≤ 255) (hy : ∀ z ∈ ys, 0 ≤ z ∧ z ≤ 255) (h : xs ≠ ys) : ((strOfNums xs).toList == (strOfNums ys).toList) = false := by
  rw [beq_eq_false_iff_ne]
  intro e
  rw [ByteArray.toList_eq, ByteArray.toList_eq, strOfNums_data, strOfNums_data] at e
  exact h (strOf_inj hx hy e)

/-- What unpacking comes to, in the specification. -/
def UnpackS (w : World) (bs : List Int) (e : Ending) (w' : World) : Prop :=
  ∃ (n : WordV) (ok : Bool) (ui uv ue uo : Value), e = .returned (.tuple #[wordAgg n ui uv ue uo, .bool ok]) ∧ WordFr w.heap.size w' n ui uv ue uo ∧ Below w.heap.size w w' ∧
    ((ok = true ∧ wordOk n = true ∧ packW n = bs) ∨ (ok = false ∧ n = zeroW ∧ ∀ n0, wordOk n0 = true → packW n0 ≠ bs))

theorem packW_ne (n : WordV) : packW n ≠ [] := by
  unfold packW wordNums
  intro h
  have h1 := congrArg List.length h
  simp [headNums, packI, numI, numB] at h1
  split at h1 <;> simp at h1

set_option maxRecDepth 100000 in
set_option maxHeartbeats 8000000 in
theorem specWordUnpack_any (v : Value) (bs : List Int) (w : World) (h : BytesAt w v bs) (hlen : bs.length ≤ 1048576) :
    Calls Tryz.prog 5 #[v] w fun e w' => UnpackS w bs e w' := by
  have hby := h.by
  obtain ⟨ad, cap, rfl, hlc, hcm, hrg, hnil, _⟩ := h
  have hs0 : (w.alloc (.cells #[.int .i64 0, .int .i64 0, .int .i64 0, .int .i64 0, .int .i64 0, .int .i64 0, .int .i64 0, .slice none 0 0, .slice none 0 0, .slice none 0 0, .slice none 0 0] 28)).heap.size = w.heap.size + 1 := by simp
  have hs1 : ((w.alloc (.cells #[.int .i64 0, .int .i64 0, .int .i64 0, .int .i64 0, .int .i64 0, .int .i64 0, .int .i64 0, .slice none 0 0, .slice none 0 0, .slice none 0 0, .slice none 0 0] 28)).alloc (.cells #[.slice ad bs.length cap, .int .i64 0, .bool false] 41)).heap.size = w.heap.size + 2 := by simp
  have hb0 : Below w.heap.size w (w.alloc (.cells #[.int .i64 0, .int .i64 0, .int .i64 0, .int .i64 0, .int .i64 0, .int .i64 0, .int .i64 0, .slice none 0 0, .slice none 0 0, .slice none 0 0, .slice none 0 0] 28)) := (Below.refl _ _).alloc (Nat.le_refl _) _
  have hb1 : Below (w.alloc (.cells #[.int .i64 0, .int .i64 0, .int .i64 0, .int .i64 0, .int .i64 0, .int .i64 0, .int .i64 0, .slice none 0 0, .slice none 0 0, .slice none 0 0, .slice none 0 0] 28)).heap.size (w.alloc (.cells #[.int .i64 0, .int .i64 0, .int .i64 0, .int .i64 0, .int .i64 0, .int .i64 0, .int .i64 0, .slice none 0 0, .slice none 0 0, .slice none 0 0, .slice none 0 0] 28)) ((w.alloc (.cells #[.int .i64 0, .int .i64 0, .int .i64 0, .int .i64 0, .int .i64 0, .int .i64 0, .int .i64 0, .slice none 0 0, .slice none 0 0, .slice none 0 0, .slice none 0 0] 28)).alloc (.cells #[.slice ad bs.length cap, .int .i64 0, .bool false] 41)) := (Below.refl _ _).alloc (Nat.le_refl _) _
  have hb01 := below_then hb0 hb1
  have r0 := (row_new w [.int .i64 0, .int .i64 0, .int .i64 0, .int .i64 0, .int .i64 0, .int .i64 0, .int .i64 0, .slice none 0 0, .slice none 0 0, .slice none 0 0, .slice none 0 0] 28).of_block (hb1.block w.heap.size (by rw [hs0]; omega))
  have r1 := row_new (w.alloc (.cells #[.int .i64 0, .int .i64 0, .int .i64 0, .int .i64 0, .int .i64 0, .int .i64 0, .int .i64 0, .slice none 0 0, .slice none 0 0, .slice none 0 0, .slice none 0 0] 28)) [.slice ad bs.length cap, .int .i64 0, .bool false] 41
  rw [hs0] at r1
  have hRD : RdS w ((w.alloc (.cells #[.int .i64 0, .int .i64 0, .int .i64 0, .int .i64 0, .int .i64 0, .int .i64 0, .int .i64 0, .slice none 0 0, .slice none 0 0, .slice none 0 0, .slice none 0 0] 28)).alloc (.cells #[.slice ad bs.length cap, .int .i64 0, .bool false] 41)) (w.heap.size + 1) (.slice ad bs.length cap) bs 0 false :=
    ⟨hby, hrg, hlen, Nat.le_succ _, hb01, r1.cell (i := 0) (by simp), r1.cell (i := 1) (by simp), r1.cell (i := 2) (by simp), fun i => r1.frozen i, Nat.zero_le _⟩
  have HRD := hide hRD
  have HR0 := hide r0
  have HS1 := hide hs1
  have HBY := hide hby
  have HRG := hide hrg
  clear hs0 hs1 hb0 hb1 hb01 r0 r1 hRD hby hlc hcm hrg hnil
  go_enter Tryz.func5, Tryz.ntmps5
  go_wp2_with fail
  change Hid (World.rowIs ((w.alloc (.cells #[.int .i64 0, .int .i64 0, .int .i64 0, .int .i64 0, .int .i64 0, .int .i64 0, .int .i64 0, .slice none 0 0, .slice none 0 0, .slice none 0 0, .slice none 0 0] 28)).alloc (.cells #[.slice ad bs.length cap, .int .i64 0, .bool false] 41)) w.heap.size 28 11 _) at HR0
  generalize ((w.alloc (.cells #[.int .i64 0, .int .i64 0, .int .i64 0, .int .i64 0, .int .i64 0, .int .i64 0, .int .i64 0, .slice none 0 0, .slice none 0 0, .slice none 0 0, .slice none 0 0] 28)).alloc (.cells #[.slice ad bs.length cap, .int .i64 0, .bool false] 41)) = X1 at *
  refine (rdWord_any w _ (w.heap.size + 1) (.slice ad bs.length cap) bs (unhide HRD)).mono ?_
  rintro e w3 ⟨n, ui, uv, ue, uo, p', f', rfl, hfr, hR3, hO3, hcomp⟩
  obtain ⟨⟨a0, c0, e1⟩, ⟨a1, c1, e2⟩, ⟨a2, c2, e3⟩, ⟨a3, c3, e4⟩⟩ := hfr.at.sliced
  subst e1 e2 e3 e4
  have hs3 := hO3.size
  have hs1 := unhide HS1
  have hbA : Below w3.heap.size w3 (w3.alloc (.cells #[.int .i64 n.kind, .int .i64 n.frm, .int .i64 n.dst, .int .i64 n.inc, .int .i64 n.ver, .int .i64 n.rd, .int .i64 n.g, .slice a0 n.incs.length c0, .slice a1 n.vers.length c1, .slice a2 n.evs.length c2, .slice a3 n.outs.length c3] 28)) := (Below.refl _ _).alloc (Nat.le_refl _) _
  have RW := hide (row_new w3 [.int .i64 n.kind, .int .i64 n.frm, .int .i64 n.dst, .int .i64 n.inc, .int .i64 n.ver, .int .i64 n.rd, .int .i64 n.g, .slice a0 n.incs.length c0, .slice a1 n.vers.length c1, .slice a2 n.evs.length c2, .slice a3 n.outs.length c3] 28)
  have RR := hide (((unhide HR0).of_block (hO3.other w.heap.size (by omega) (by omega))).of_block (hbA.block w.heap.size (by omega)))
  have RD := hide (hR3.on hbA)
  have HB := hide (((unhide HRD).below.trans (hO3.below.mono (Nat.le_succ _))).trans (hbA.mono (by omega)))
  have HF := hide ((hfr.on hbA).less (M := w.heap.size + 2) (by omega))
  have HS : Hid (w.heap.size + 3 ≤ (w3.alloc (.cells #[.int .i64 n.kind, .int .i64 n.frm, .int .i64 n.dst, .int .i64 n.inc, .int .i64 n.ver, .int .i64 n.rd, .int .i64 n.g, .slice a0 n.incs.length c0, .slice a1 n.vers.length c1, .slice a2 n.evs.length c2, .slice a3 n.outs.length c3] 28)).heap.size) := hide (by simp; omega)
  have HS2 : Hid (w3.heap.size < (w3.alloc (.cells #[.int .i64 n.kind, .int .i64 n.frm, .int .i64 n.dst, .int .i64 n.inc, .int .i64 n.ver, .int .i64 n.rd, .int .i64 n.g, .slice a0 n.incs.length c0, .slice a1 n.vers.length c1, .slice a2 n.evs.length c2, .slice a3 n.outs.length c3] 28)).heap.size) := hide (by simp)
  have HCP := hide hcomp
  clear hfr hR3 hO3 hcomp hs3 hs1 hbA HRD HR0 HS1
  go_upto_region 3 with fail
  change Hid (World.rowIs (w3.alloc (.cells #[.int .i64 n.kind, .int .i64 n.frm, .int .i64 n.dst, .int .i64 n.inc, .int .i64 n.ver, .int .i64 n.rd, .int .i64 n.g, .slice a0 n.incs.length c0, .slice a1 n.vers.length c1, .slice a2 n.evs.length c2, .slice a3 n.outs.length c3] 28)) w3.heap.size 28 11 _) at RW
  generalize (w3.alloc (.cells #[.int .i64 n.kind, .int .i64 n.frm, .int .i64 n.dst, .int .i64 n.inc, .int .i64 n.ver, .int .i64 n.rd, .int .i64 n.g, .slice a0 n.incs.length c0, .slice a1 n.vers.length c1, .slice a2 n.evs.length c2, .slice a3 n.outs.length c3] 28)) = w4 at *
  generalize w3.heap.size = rw at *
  have hbd : Below w4.heap.size w4 w4.drew := (Below.refl _ _).drew
  have HBD := hide hbd
  clear hbd
  have HC := hide (show ∀ W, Below w4.heap.size w4 W → (fun w' : World => w'.cell? ⟨w.heap.size + 1, 2, none⟩ = some (.bool f') ∧ w'.cell? ⟨rw, 0, none⟩ = some (.int .i64 n.kind) ∧ w'.cell? ⟨rw, 1, none⟩ = some (.int .i64 n.frm) ∧ w'.cell? ⟨rw, 2, none⟩ = some (.int .i64 n.dst) ∧ w'.cell? ⟨rw, 3, none⟩ = some (.int .i64 n.inc) ∧ w'.cell? ⟨rw, 4, none⟩ = some (.int .i64 n.ver) ∧ w'.cell? ⟨rw, 5, none⟩ = some (.int .i64 n.rd) ∧ w'.cell? ⟨rw, 6, none⟩ = some (.int .i64 n.g) ∧ w'.cell? ⟨rw, 7, none⟩ = some (.slice a0 n.incs.length c0) ∧ w'.cell? ⟨rw, 8, none⟩ = some (.slice a1 n.vers.length c1) ∧ w'.cell? ⟨rw, 9, none⟩ = some (.slice a2 n.evs.length c2) ∧ w'.cell? ⟨rw, 10, none⟩ = some (.slice a3 n.outs.length c3) ∧ (convert 22 9 (.slice ad bs.length cap)).run Tryz.prog w' = .ok (.string (strOfNums bs)) w') W from fun W hW => ⟨cell_on hW (unhide RD).c2, cell_on hW ((unhide RW).cell (i := 0) (by omega)), cell_on hW ((unhide RW).cell (i := 1) (by omega)), cell_on hW ((unhide RW).cell (i := 2) (by omega)), cell_on hW ((unhide RW).cell (i := 3) (by omega)), cell_on hW ((unhide RW).cell (i := 4) (by omega)), cell_on hW ((unhide RW).cell (i := 5) (by omega)), cell_on hW ((unhide RW).cell (i := 6) (by omega)), cell_on hW ((unhide RW).cell (i := 7) (by omega)), cell_on hW ((unhide RW).cell (i := 8) (by omega)), cell_on hW ((unhide RW).cell (i := 9) (by omega)), cell_on hW ((unhide RW).cell (i := 10) (by omega)), conv_by ((unhide HBY).on ((unhide HB).trans (hW.mono (by have := unhide HS; omega))))⟩)
  refine wp_region_held_drew (S := fun w' : World => w'.cell? ⟨w.heap.size + 1, 2, none⟩ = some (.bool f') ∧ w'.cell? ⟨rw, 0, none⟩ = some (.int .i64 n.kind) ∧ w'.cell? ⟨rw, 1, none⟩ = some (.int .i64 n.frm) ∧ w'.cell? ⟨rw, 2, none⟩ = some (.int .i64 n.dst) ∧ w'.cell? ⟨rw, 3, none⟩ = some (.int .i64 n.inc) ∧ w'.cell? ⟨rw, 4, none⟩ = some (.int .i64 n.ver) ∧ w'.cell? ⟨rw, 5, none⟩ = some (.int .i64 n.rd) ∧ w'.cell? ⟨rw, 6, none⟩ = some (.int .i64 n.g) ∧ w'.cell? ⟨rw, 7, none⟩ = some (.slice a0 n.incs.length c0) ∧ w'.cell? ⟨rw, 8, none⟩ = some (.slice a1 n.vers.length c1) ∧ w'.cell? ⟨rw, 9, none⟩ = some (.slice a2 n.evs.length c2) ∧ w'.cell? ⟨rw, 10, none⟩ = some (.slice a3 n.outs.length c3) ∧ (convert 22 9 (.slice ad bs.length cap)).run Tryz.prog w' = .ok (.string (strOfNums bs)) w') (by kernel_rfl) ((unhide HC) _ (unhide HBD)) (fun hHeld => ?_)
  generalize hXd : w4.drew = X at *
  cases f' with
  | true =>
    refine wpAnyH_take (i := 0) (v := ?_) rfl (by kernel_rfl) (by kernel_rfl) (by kernel_rfl) (fun _ _ _ h => h) (Or.inl ⟨by kernel_rfl, ?_⟩) hHeld ?_
    rotate_left
    · (intro w hSw; (try dsimp only at hSw); obtain ⟨s0, s1, s2, s3, s4, s5, s6, s7, s8, s9, s10, s11, s12⟩ := hSw; go_simp; try with_reducible rfl)
    refine wpAnyH_take (i := 1) (v := ?_) rfl (by kernel_rfl) (by kernel_rfl) (by kernel_rfl) (fun _ _ _ h => h) (Or.inl ⟨by kernel_rfl, ?_⟩) hHeld ?_
    rotate_left
    · (intro w hSw; (try dsimp only at hSw); obtain ⟨s0, s1, s2, s3, s4, s5, s6, s7, s8, s9, s10, s11, s12⟩ := hSw; go_simp; try with_reducible rfl)
    refine wpAnyH_take (i := 2) (v := ?_) rfl (by kernel_rfl) (by kernel_rfl) (by kernel_rfl) (fun _ _ _ h => h) (Or.inl ⟨by kernel_rfl, ?_⟩) hHeld ?_
    rotate_left
    · (intro w hSw; (try dsimp only at hSw); obtain ⟨s0, s1, s2, s3, s4, s5, s6, s7, s8, s9, s10, s11, s12⟩ := hSw; go_simp; try with_reducible rfl)
    refine wpAnyH_take (i := 3) (v := ?_) rfl (by kernel_rfl) (by kernel_rfl) (by kernel_rfl) (fun _ _ _ h => h) (Or.inl ⟨by kernel_rfl, ?_⟩) hHeld ?_
    rotate_left
    · (intro w hSw; (try dsimp only at hSw); obtain ⟨s0, s1, s2, s3, s4, s5, s6, s7, s8, s9, s10, s11, s12⟩ := hSw; go_simp; try with_reducible rfl)
    refine wpAnyH_take (i := 4) (v := ?_) rfl (by kernel_rfl) (by kernel_rfl) (by kernel_rfl) (fun _ _ _ h => h) (Or.inl ⟨by kernel_rfl, ?_⟩) hHeld ?_
    rotate_left
    · (intro w hSw; (try dsimp only at hSw); obtain ⟨s0, s1, s2, s3, s4, s5, s6, s7, s8, s9, s10, s11, s12⟩ := hSw; go_simp; try with_reducible rfl)
    refine wpAnyH_take (i := 5) (v := undef) rfl (by kernel_rfl) (by kernel_rfl) (by kernel_rfl) (fun _ _ _ h => h) (Or.inr ⟨by kernel_rfl, rfl⟩) hHeld ?_
    refine wpAnyH_take (i := 6) (v := undef) rfl (by kernel_rfl) (by kernel_rfl) (by kernel_rfl) (fun _ _ _ h => h) (Or.inr ⟨by kernel_rfl, rfl⟩) hHeld ?_
    refine wpAnyH_take (i := 7) (v := undef) rfl (by kernel_rfl) (by kernel_rfl) (by kernel_rfl) (fun _ _ _ h => h) (Or.inr ⟨by kernel_rfl, rfl⟩) hHeld ?_
    refine wpAnyH_take (i := 8) (v := ?_) rfl (by kernel_rfl) (by kernel_rfl) (by kernel_rfl) (fun _ _ _ h => h) (Or.inl ⟨by kernel_rfl, ?_⟩) hHeld ?_
    rotate_left
    · (intro w hSw; (try dsimp only at hSw); obtain ⟨s0, s1, s2, s3, s4, s5, s6, s7, s8, s9, s10, s11, s12⟩ := hSw; go_simp; try with_reducible rfl)
    refine wpAnyH_take (i := 9) (v := ?_) rfl (by kernel_rfl) (by kernel_rfl) (by kernel_rfl) (fun _ _ _ h => h) (Or.inl ⟨by kernel_rfl, ?_⟩) hHeld ?_
    rotate_left
    · (intro w hSw; (try dsimp only at hSw); obtain ⟨s0, s1, s2, s3, s4, s5, s6, s7, s8, s9, s10, s11, s12⟩ := hSw; go_simp; try with_reducible rfl)
    refine wpAnyH_take (i := 10) (v := undef) rfl (by kernel_rfl) (by kernel_rfl) (by kernel_rfl) (fun _ _ _ h => h) (Or.inr ⟨by kernel_rfl, rfl⟩) hHeld ?_
    refine wpAnyH_take (i := 13) (v := undef) rfl (by kernel_rfl) (by kernel_rfl) (by kernel_rfl) (fun _ _ _ h => h) (Or.inr ⟨by kernel_rfl, rfl⟩) hHeld ?_
    refine wpAnyH_take (i := 14) (v := undef) rfl (by kernel_rfl) (by kernel_rfl) (by kernel_rfl) (fun _ _ _ h => h) (Or.inr ⟨by kernel_rfl, rfl⟩) hHeld ?_
    refine wpAnyH_take (i := 11) (v := undef) rfl (by kernel_rfl) (by kernel_rfl) (by kernel_rfl) (fun _ _ _ h => h) (Or.inr ⟨by kernel_rfl, rfl⟩) hHeld ?_
    refine wpAnyH_take (i := 12) (v := undef) rfl (by kernel_rfl) (by kernel_rfl) (by kernel_rfl) (fun _ _ _ h => h) (Or.inr ⟨by kernel_rfl, rfl⟩) hHeld ?_
    refine wpAnyH_take (i := 15) (v := undef) rfl (by kernel_rfl) (by kernel_rfl) (by kernel_rfl) (fun _ _ _ h => h) (Or.inr ⟨by kernel_rfl, rfl⟩) hHeld ?_
    refine wpAnyH_ready (rs := [16]) (by kernel_rfl) (by simp) (AllReadyH.cons rfl (fun K hK => ?_) AllReadyH.nil)
    go_simp
    refine hK.out _ _ hHeld (fun hHeld => ?_)
    clear hK K
    refine wpAnyH_done (by kernel_rfl) ?_ _
    have hrr := (unhide RR).of_block ((unhide HBD).block w.heap.size (by have := unhide HS; omega))
    have y0 : X.cell? ⟨w.heap.size, 0, none⟩ = some (.int .i64 0) := (hrr).cell (i := 0) (by omega)
    have yf0 : X.frozen? ⟨w.heap.size, 0, none⟩ = false := (hrr).frozen 0
    have y1 : X.cell? ⟨w.heap.size, 1, none⟩ = some (.int .i64 0) := (hrr).cell (i := 1) (by omega)
    have yf1 : X.frozen? ⟨w.heap.size, 1, none⟩ = false := (hrr).frozen 1
    have y2 : X.cell? ⟨w.heap.size, 2, none⟩ = some (.int .i64 0) := (hrr).cell (i := 2) (by omega)
    have yf2 : X.frozen? ⟨w.heap.size, 2, none⟩ = false := (hrr).frozen 2
    have y3 : X.cell? ⟨w.heap.size, 3, none⟩ = some (.int .i64 0) := (hrr).cell (i := 3) (by omega)
    have yf3 : X.frozen? ⟨w.heap.size, 3, none⟩ = false := (hrr).frozen 3
    have y4 : X.cell? ⟨w.heap.size, 4, none⟩ = some (.int .i64 0) := (hrr).cell (i := 4) (by omega)
    have yf4 : X.frozen? ⟨w.heap.size, 4, none⟩ = false := (hrr).frozen 4
    have y5 : X.cell? ⟨w.heap.size, 5, none⟩ = some (.int .i64 0) := (hrr).cell (i := 5) (by omega)
    have yf5 : X.frozen? ⟨w.heap.size, 5, none⟩ = false := (hrr).frozen 5
    have y6 : X.cell? ⟨w.heap.size, 6, none⟩ = some (.int .i64 0) := (hrr).cell (i := 6) (by omega)
    have yf6 : X.frozen? ⟨w.heap.size, 6, none⟩ = false := (hrr).frozen 6
    have y7 : X.cell? ⟨w.heap.size, 7, none⟩ = some (.slice none 0 0) := (hrr).cell (i := 7) (by omega)
    have yf7 : X.frozen? ⟨w.heap.size, 7, none⟩ = false := (hrr).frozen 7
    have y8 : X.cell? ⟨w.heap.size, 8, none⟩ = some (.slice none 0 0) := (hrr).cell (i := 8) (by omega)
    have yf8 : X.frozen? ⟨w.heap.size, 8, none⟩ = false := (hrr).frozen 8
    have y9 : X.cell? ⟨w.heap.size, 9, none⟩ = some (.slice none 0 0) := (hrr).cell (i := 9) (by omega)
    have yf9 : X.frozen? ⟨w.heap.size, 9, none⟩ = false := (hrr).frozen 9
    have y10 : X.cell? ⟨w.heap.size, 10, none⟩ = some (.slice none 0 0) := (hrr).cell (i := 10) (by omega)
    have yf10 : X.frozen? ⟨w.heap.size, 10, none⟩ = false := (hrr).frozen 10
    have EB := hide (setVals_below [.int .i64 0, .int .i64 0, .int .i64 0, .int .i64 0, .int .i64 0, .int .i64 0, .int .i64 0, .slice none 0 0, .slice none 0 0, .slice none 0 0, .slice none 0 0] 0 X ((unhide HB).trans ((unhide HBD).mono (by have := unhide HS; omega))) (Nat.le_refl w.heap.size))
    clear hrr
    go_wp2_with fail
    refine bodyPost_ret (v := .tuple #[wordAgg zeroW (.slice none 0 0) (.slice none 0 0) (.slice none 0 0) (.slice none 0 0), .bool false]) (by simp [results, Tryz.results5, go_sem, zeroW, y0, y1, y2, y3, y4, y5, y6, y7, y8, y9, y10]) rfl ⟨zeroW, false, _, _, _, _, rfl, wordFr_zero _ _, unhide EB, Or.inr ⟨rfl, rfl, fun n0 ho hp => ?_⟩⟩
    have h1 := ((unhide HCP) n0 (wordOk_in ho) hp).2
    cases h1
  | false =>
    rcases Nat.eq_zero_or_pos bs.length with hl | hl
    · have hlI : (bs.length : Int) = 0 := by omega
      have HL := hide hl
      clear hl
      refine wpAnyH_take (i := 0) (v := ?_) rfl (by kernel_rfl) (by kernel_rfl) (by kernel_rfl) (fun _ _ _ h => h) (Or.inl ⟨by kernel_rfl, ?_⟩) hHeld ?_
      rotate_left
      · (intro w hSw; (try dsimp only at hSw); obtain ⟨s0, s1, s2, s3, s4, s5, s6, s7, s8, s9, s10, s11, s12⟩ := hSw; go_simp; try with_reducible rfl)
      refine wpAnyH_take (i := 1) (v := ?_) rfl (by kernel_rfl) (by kernel_rfl) (by kernel_rfl) (fun _ _ _ h => h) (Or.inl ⟨by kernel_rfl, ?_⟩) hHeld ?_
      rotate_left
      · (intro w hSw; (try dsimp only at hSw); obtain ⟨s0, s1, s2, s3, s4, s5, s6, s7, s8, s9, s10, s11, s12⟩ := hSw; go_simp; try with_reducible rfl)
      refine wpAnyH_take (i := 2) (v := ?_) rfl (by kernel_rfl) (by kernel_rfl) (by kernel_rfl) (fun _ _ _ h => h) (Or.inl ⟨by kernel_rfl, ?_⟩) hHeld ?_
      rotate_left
      · (intro w hSw; (try dsimp only at hSw); obtain ⟨s0, s1, s2, s3, s4, s5, s6, s7, s8, s9, s10, s11, s12⟩ := hSw; go_simp; try with_reducible rfl)
      refine wpAnyH_take (i := 3) (v := ?_) rfl (by kernel_rfl) (by kernel_rfl) (by kernel_rfl) (fun _ _ _ h => h) (Or.inl ⟨by kernel_rfl, ?_⟩) hHeld ?_
      rotate_left
      · (intro w hSw; (try dsimp only at hSw); obtain ⟨s0, s1, s2, s3, s4, s5, s6, s7, s8, s9, s10, s11, s12⟩ := hSw; go_simp; try with_reducible rfl)
      refine wpAnyH_take (i := 4) (v := ?_) rfl (by kernel_rfl) (by kernel_rfl) (by kernel_rfl) (fun _ _ _ h => h) (Or.inl ⟨by kernel_rfl, ?_⟩) hHeld ?_
      rotate_left
      · (intro w hSw; (try dsimp only at hSw); obtain ⟨s0, s1, s2, s3, s4, s5, s6, s7, s8, s9, s10, s11, s12⟩ := hSw; go_simp; try with_reducible rfl)
      refine wpAnyH_take (i := 5) (v := ?_) rfl (by kernel_rfl) (by kernel_rfl) (by kernel_rfl) (fun _ _ _ h => h) (Or.inl ⟨by kernel_rfl, ?_⟩) hHeld ?_
      rotate_left
      · (intro w hSw; (try dsimp only at hSw); obtain ⟨s0, s1, s2, s3, s4, s5, s6, s7, s8, s9, s10, s11, s12⟩ := hSw; go_simp; try with_reducible rfl)
      refine wpAnyH_take (i := 6) (v := ?_) rfl (by kernel_rfl) (by kernel_rfl) (by kernel_rfl) (fun _ _ _ h => h) (Or.inl ⟨by kernel_rfl, ?_⟩) hHeld ?_
      rotate_left
      · (intro w hSw; (try dsimp only at hSw); obtain ⟨s0, s1, s2, s3, s4, s5, s6, s7, s8, s9, s10, s11, s12⟩ := hSw; go_simp; try with_reducible rfl)
      refine wpAnyH_take (i := 7) (v := .bool true) rfl (by kernel_rfl) (by kernel_rfl) (by kernel_rfl) (fun _ _ _ h => h) (Or.inl ⟨by kernel_rfl, ?_⟩) hHeld ?_
      · (intro w hSw; (try dsimp only at hSw); obtain ⟨s0, s1, s2, s3, s4, s5, s6, s7, s8, s9, s10, s11, s12⟩ := hSw; go_simp; try with_reducible rfl)
      refine wpAnyH_take (i := 8) (v := ?_) rfl (by kernel_rfl) (by kernel_rfl) (by kernel_rfl) (fun _ _ _ h => h) (Or.inl ⟨by kernel_rfl, ?_⟩) hHeld ?_
      rotate_left
      · (intro w hSw; (try dsimp only at hSw); obtain ⟨s0, s1, s2, s3, s4, s5, s6, s7, s8, s9, s10, s11, s12⟩ := hSw; go_simp; try with_reducible rfl)
      refine wpAnyH_take (i := 9) (v := ?_) rfl (by kernel_rfl) (by kernel_rfl) (by kernel_rfl) (fun _ _ _ h => h) (Or.inl ⟨by kernel_rfl, ?_⟩) hHeld ?_
      rotate_left
      · (intro w hSw; (try dsimp only at hSw); obtain ⟨s0, s1, s2, s3, s4, s5, s6, s7, s8, s9, s10, s11, s12⟩ := hSw; go_simp; try with_reducible rfl)
      refine wpAnyH_take (i := 10) (v := undef) rfl (by kernel_rfl) (by kernel_rfl) (by kernel_rfl) (fun _ _ _ h => h) (Or.inr ⟨by kernel_rfl, rfl⟩) hHeld ?_
      refine wpAnyH_take (i := 13) (v := undef) rfl (by kernel_rfl) (by kernel_rfl) (by kernel_rfl) (fun _ _ _ h => h) (Or.inr ⟨by kernel_rfl, rfl⟩) hHeld ?_
      refine wpAnyH_take (i := 14) (v := undef) rfl (by kernel_rfl) (by kernel_rfl) (by kernel_rfl) (fun _ _ _ h => h) (Or.inr ⟨by kernel_rfl, rfl⟩) hHeld ?_
      refine wpAnyH_take (i := 11) (v := undef) rfl (by kernel_rfl) (by kernel_rfl) (by kernel_rfl) (fun _ _ _ h => h) (Or.inr ⟨by kernel_rfl, rfl⟩) hHeld ?_
      refine wpAnyH_take (i := 12) (v := undef) rfl (by kernel_rfl) (by kernel_rfl) (by kernel_rfl) (fun _ _ _ h => h) (Or.inr ⟨by kernel_rfl, rfl⟩) hHeld ?_
      refine wpAnyH_take (i := 15) (v := undef) rfl (by kernel_rfl) (by kernel_rfl) (by kernel_rfl) (fun _ _ _ h => h) (Or.inr ⟨by kernel_rfl, rfl⟩) hHeld ?_
      refine wpAnyH_ready (rs := [16]) (by kernel_rfl) (by simp) (AllReadyH.cons rfl (fun K hK => ?_) AllReadyH.nil)
      go_simp
      refine hK.out _ _ hHeld (fun hHeld => ?_)
      clear hK K
      refine wpAnyH_done (by kernel_rfl) ?_ _
      have hrr := (unhide RR).of_block ((unhide HBD).block w.heap.size (by have := unhide HS; omega))
      have y0 : X.cell? ⟨w.heap.size, 0, none⟩ = some (.int .i64 0) := (hrr).cell (i := 0) (by omega)
      have yf0 : X.frozen? ⟨w.heap.size, 0, none⟩ = false := (hrr).frozen 0
      have y1 : X.cell? ⟨w.heap.size, 1, none⟩ = some (.int .i64 0) := (hrr).cell (i := 1) (by omega)
      have yf1 : X.frozen? ⟨w.heap.size, 1, none⟩ = false := (hrr).frozen 1
      have y2 : X.cell? ⟨w.heap.size, 2, none⟩ = some (.int .i64 0) := (hrr).cell (i := 2) (by omega)
      have yf2 : X.frozen? ⟨w.heap.size, 2, none⟩ = false := (hrr).frozen 2
      have y3 : X.cell? ⟨w.heap.size, 3, none⟩ = some (.int .i64 0) := (hrr).cell (i := 3) (by omega)
      have yf3 : X.frozen? ⟨w.heap.size, 3, none⟩ = false := (hrr).frozen 3
      have y4 : X.cell? ⟨w.heap.size, 4, none⟩ = some (.int .i64 0) := (hrr).cell (i := 4) (by omega)
      have yf4 : X.frozen? ⟨w.heap.size, 4, none⟩ = false := (hrr).frozen 4
      have y5 : X.cell? ⟨w.heap.size, 5, none⟩ = some (.int .i64 0) := (hrr).cell (i := 5) (by omega)
      have yf5 : X.frozen? ⟨w.heap.size, 5, none⟩ = false := (hrr).frozen 5
      have y6 : X.cell? ⟨w.heap.size, 6, none⟩ = some (.int .i64 0) := (hrr).cell (i := 6) (by omega)
      have yf6 : X.frozen? ⟨w.heap.size, 6, none⟩ = false := (hrr).frozen 6
      have y7 : X.cell? ⟨w.heap.size, 7, none⟩ = some (.slice none 0 0) := (hrr).cell (i := 7) (by omega)
      have yf7 : X.frozen? ⟨w.heap.size, 7, none⟩ = false := (hrr).frozen 7
      have y8 : X.cell? ⟨w.heap.size, 8, none⟩ = some (.slice none 0 0) := (hrr).cell (i := 8) (by omega)
      have yf8 : X.frozen? ⟨w.heap.size, 8, none⟩ = false := (hrr).frozen 8
      have y9 : X.cell? ⟨w.heap.size, 9, none⟩ = some (.slice none 0 0) := (hrr).cell (i := 9) (by omega)
      have yf9 : X.frozen? ⟨w.heap.size, 9, none⟩ = false := (hrr).frozen 9
      have y10 : X.cell? ⟨w.heap.size, 10, none⟩ = some (.slice none 0 0) := (hrr).cell (i := 10) (by omega)
      have yf10 : X.frozen? ⟨w.heap.size, 10, none⟩ = false := (hrr).frozen 10
      have EB := hide (setVals_below [.int .i64 0, .int .i64 0, .int .i64 0, .int .i64 0, .int .i64 0, .int .i64 0, .int .i64 0, .slice none 0 0, .slice none 0 0, .slice none 0 0, .slice none 0 0] 0 X ((unhide HB).trans ((unhide HBD).mono (by have := unhide HS; omega))) (Nat.le_refl w.heap.size))
      clear hrr
      go_wp2_with fail
      refine bodyPost_ret (v := .tuple #[wordAgg zeroW (.slice none 0 0) (.slice none 0 0) (.slice none 0 0) (.slice none 0 0), .bool false]) (by simp [results, Tryz.results5, go_sem, zeroW, y0, y1, y2, y3, y4, y5, y6, y7, y8, y9, y10]) rfl ⟨zeroW, false, _, _, _, _, rfl, wordFr_zero _ _, unhide EB, Or.inr ⟨rfl, rfl, fun n0 ho hp => ?_⟩⟩
      exact packW_ne n0 (List.eq_nil_of_length_eq_zero (by rw [hp]; exact unhide HL))
    · have hlI : ¬ ((bs.length : Int) = 0) := by omega
      have hlB : ¬ bs = [] := by intro h; rw [h] at hl; exact Nat.lt_irrefl 0 hl
      have HL := hide hl
      clear hl
      refine wpAnyH_take (i := 0) (v := ?_) rfl (by kernel_rfl) (by kernel_rfl) (by kernel_rfl) (fun _ _ _ h => h) (Or.inl ⟨by kernel_rfl, ?_⟩) hHeld ?_
      rotate_left
      · (intro w hSw; (try dsimp only at hSw); obtain ⟨s0, s1, s2, s3, s4, s5, s6, s7, s8, s9, s10, s11, s12⟩ := hSw; go_simp; try with_reducible rfl)
      refine wpAnyH_take (i := 1) (v := ?_) rfl (by kernel_rfl) (by kernel_rfl) (by kernel_rfl) (fun _ _ _ h => h) (Or.inl ⟨by kernel_rfl, ?_⟩) hHeld ?_
      rotate_left
      · (intro w hSw; (try dsimp only at hSw); obtain ⟨s0, s1, s2, s3, s4, s5, s6, s7, s8, s9, s10, s11, s12⟩ := hSw; go_simp; try with_reducible rfl)
      refine wpAnyH_take (i := 2) (v := ?_) rfl (by kernel_rfl) (by kernel_rfl) (by kernel_rfl) (fun _ _ _ h => h) (Or.inl ⟨by kernel_rfl, ?_⟩) hHeld ?_
      rotate_left
      · (intro w hSw; (try dsimp only at hSw); obtain ⟨s0, s1, s2, s3, s4, s5, s6, s7, s8, s9, s10, s11, s12⟩ := hSw; go_simp; try with_reducible rfl)
      refine wpAnyH_take (i := 3) (v := ?_) rfl (by kernel_rfl) (by kernel_rfl) (by kernel_rfl) (fun _ _ _ h => h) (Or.inl ⟨by kernel_rfl, ?_⟩) hHeld ?_
      rotate_left
      · (intro w hSw; (try dsimp only at hSw); obtain ⟨s0, s1, s2, s3, s4, s5, s6, s7, s8, s9, s10, s11, s12⟩ := hSw; go_simp; try with_reducible rfl)
      refine wpAnyH_take (i := 4) (v := ?_) rfl (by kernel_rfl) (by kernel_rfl) (by kernel_rfl) (fun _ _ _ h => h) (Or.inl ⟨by kernel_rfl, ?_⟩) hHeld ?_
      rotate_left
      · (intro w hSw; (try dsimp only at hSw); obtain ⟨s0, s1, s2, s3, s4, s5, s6, s7, s8, s9, s10, s11, s12⟩ := hSw; go_simp; try with_reducible rfl)
      refine wpAnyH_take (i := 5) (v := ?_) rfl (by kernel_rfl) (by kernel_rfl) (by kernel_rfl) (fun _ _ _ h => h) (Or.inl ⟨by kernel_rfl, ?_⟩) hHeld ?_
      rotate_left
      · (intro w hSw; (try dsimp only at hSw); obtain ⟨s0, s1, s2, s3, s4, s5, s6, s7, s8, s9, s10, s11, s12⟩ := hSw; go_simp; try with_reducible rfl)
      refine wpAnyH_take (i := 6) (v := ?_) rfl (by kernel_rfl) (by kernel_rfl) (by kernel_rfl) (fun _ _ _ h => h) (Or.inl ⟨by kernel_rfl, ?_⟩) hHeld ?_
      rotate_left
      · (intro w hSw; (try dsimp only at hSw); obtain ⟨s0, s1, s2, s3, s4, s5, s6, s7, s8, s9, s10, s11, s12⟩ := hSw; go_simp; try with_reducible rfl)
      refine wpAnyH_take (i := 7) (v := .bool false) rfl (by kernel_rfl) (by kernel_rfl) (by kernel_rfl) (fun _ _ _ h => h) (Or.inl ⟨by kernel_rfl, ?_⟩) hHeld ?_
      · (intro w hSw; (try dsimp only at hSw); obtain ⟨s0, s1, s2, s3, s4, s5, s6, s7, s8, s9, s10, s11, s12⟩ := hSw; go_simp; try with_reducible rfl)
      refine wpAnyH_take (i := 8) (v := ?_) rfl (by kernel_rfl) (by kernel_rfl) (by kernel_rfl) (fun _ _ _ h => h) (Or.inl ⟨by kernel_rfl, ?_⟩) hHeld ?_
      rotate_left
      · (intro w hSw; (try dsimp only at hSw); obtain ⟨s0, s1, s2, s3, s4, s5, s6, s7, s8, s9, s10, s11, s12⟩ := hSw; go_simp; try with_reducible rfl)
      refine wpAnyH_take (i := 9) (v := ?_) rfl (by kernel_rfl) (by kernel_rfl) (by kernel_rfl) (fun _ _ _ h => h) (Or.inl ⟨by kernel_rfl, ?_⟩) hHeld ?_
      rotate_left
      · (intro w hSw; (try dsimp only at hSw); obtain ⟨s0, s1, s2, s3, s4, s5, s6, s7, s8, s9, s10, s11, s12⟩ := hSw; go_simp; try with_reducible rfl)
      refine wpAnyH_take (i := 10) (v := ?_) rfl (by kernel_rfl) (by kernel_rfl) (by kernel_rfl) (fun _ _ _ h => h) (Or.inl ⟨by kernel_rfl, ?_⟩) hHeld ?_
      rotate_left
      · (intro w hSw; (try dsimp only at hSw); obtain ⟨s0, s1, s2, s3, s4, s5, s6, s7, s8, s9, s10, s11, s12⟩ := hSw; go_simp; try with_reducible rfl)
      refine wpAnyH_take (i := 13) (v := ?_) rfl (by kernel_rfl) (by kernel_rfl) (by kernel_rfl) (fun _ _ _ h => h) (Or.inl ⟨by kernel_rfl, ?_⟩) hHeld ?_
      rotate_left
      · (intro w hSw; (try dsimp only at hSw); obtain ⟨s0, s1, s2, s3, s4, s5, s6, s7, s8, s9, s10, s11, s12⟩ := hSw; go_simp; try with_reducible rfl)
      refine wpAnyH_take (i := 14) (v := ?_) rfl (by kernel_rfl) (by kernel_rfl) (by kernel_rfl) (fun _ _ _ h => h) (Or.inl ⟨by kernel_rfl, ?_⟩) hHeld ?_
      rotate_left
      · (intro w hSw; (try dsimp only at hSw); obtain ⟨s0, s1, s2, s3, s4, s5, s6, s7, s8, s9, s10, s11, s12⟩ := hSw; go_simp; try with_reducible rfl)
      refine wpAnyH_ready (rs := [11]) (by kernel_rfl) (by simp) (AllReadyH.cons rfl (fun K hK => ?_) AllReadyH.nil)
      go_simp
      refine (specWordPack_any n _ _ _ _ _ ((unhide HF).on (unhide HBD)).at).mono ?_
      rintro e z1 ⟨vP, rfl, hown, hbz⟩
      (try go_simp)
      have HBZ := hide (below_then (unhide HBD) hbz)
      refine hK.out _ _ ((unhide HC) _ (unhide HBZ)) (fun hHeld => ?_)
      clear hK K
      have kP := conv_by (ByFr.of_owns hown).at
      obtain ⟨P, hP⟩ : ∃ P, P = (if wordOk n = true then packW n else []) := ⟨_, rfl⟩
      rw [← hP] at kP
      have HP := hide hP
      have HPR : Hid (∀ z ∈ P, 0 ≤ z ∧ z ≤ 255) := hide (by
        rw [hP]
        split
        · rename_i hok
          intro z hz
          exact packS_rng (wordNums_in (wordOk_in hok)) z hz
        · intro z hz; cases hz)
      clear hP hown hbz
      by_cases hE : P = bs
      · have HE := hide hE
        rw [hE] at kP
        clear hE
        refine wpAnyH_ready (rs := [12]) (by kernel_rfl) (by simp) (AllReadyH.cons rfl (fun K hK => ?_) AllReadyH.nil)
        go_simp
        refine hK.out _ _ hHeld (fun hHeld => ?_)
        clear hK K kP
        refine wpAnyH_take (i := 15) (v := .bool false) rfl (by kernel_rfl) (by kernel_rfl) (by kernel_rfl) (fun _ _ _ h => h) (Or.inl ⟨by kernel_rfl, ?_⟩) hHeld ?_
        · (intro w hSw; (try dsimp only at hSw); obtain ⟨s0, s1, s2, s3, s4, s5, s6, s7, s8, s9, s10, s11, s12⟩ := hSw; go_simp; try with_reducible rfl)
        refine wpAnyH_ready (rs := [16]) (by kernel_rfl) (by simp) (AllReadyH.cons rfl (fun K hK => ?_) AllReadyH.nil)
        go_simp
        refine hK.out _ _ hHeld (fun hHeld => ?_)
        clear hK K
        refine wpAnyH_done (by kernel_rfl) ?_ _
        have hrr := (unhide RR).of_block ((unhide HBZ).block w.heap.size (by have := unhide HS; omega))
        have hrw := (unhide RW).of_block ((unhide HBZ).block rw (by have := unhide HS2; omega))
        have y0 : z1.cell? ⟨w.heap.size, 0, none⟩ = some (.int .i64 0) := (hrr).cell (i := 0) (by omega)
        have yf0 : z1.frozen? ⟨w.heap.size, 0, none⟩ = false := (hrr).frozen 0
        have y1 : z1.cell? ⟨w.heap.size, 1, none⟩ = some (.int .i64 0) := (hrr).cell (i := 1) (by omega)
        have yf1 : z1.frozen? ⟨w.heap.size, 1, none⟩ = false := (hrr).frozen 1
        have y2 : z1.cell? ⟨w.heap.size, 2, none⟩ = some (.int .i64 0) := (hrr).cell (i := 2) (by omega)
        have yf2 : z1.frozen? ⟨w.heap.size, 2, none⟩ = false := (hrr).frozen 2
        have y3 : z1.cell? ⟨w.heap.size, 3, none⟩ = some (.int .i64 0) := (hrr).cell (i := 3) (by omega)
        have yf3 : z1.frozen? ⟨w.heap.size, 3, none⟩ = false := (hrr).frozen 3
        have y4 : z1.cell? ⟨w.heap.size, 4, none⟩ = some (.int .i64 0) := (hrr).cell (i := 4) (by omega)
        have yf4 : z1.frozen? ⟨w.heap.size, 4, none⟩ = false := (hrr).frozen 4
        have y5 : z1.cell? ⟨w.heap.size, 5, none⟩ = some (.int .i64 0) := (hrr).cell (i := 5) (by omega)
        have yf5 : z1.frozen? ⟨w.heap.size, 5, none⟩ = false := (hrr).frozen 5
        have y6 : z1.cell? ⟨w.heap.size, 6, none⟩ = some (.int .i64 0) := (hrr).cell (i := 6) (by omega)
        have yf6 : z1.frozen? ⟨w.heap.size, 6, none⟩ = false := (hrr).frozen 6
        have y7 : z1.cell? ⟨w.heap.size, 7, none⟩ = some (.slice none 0 0) := (hrr).cell (i := 7) (by omega)
        have yf7 : z1.frozen? ⟨w.heap.size, 7, none⟩ = false := (hrr).frozen 7
        have y8 : z1.cell? ⟨w.heap.size, 8, none⟩ = some (.slice none 0 0) := (hrr).cell (i := 8) (by omega)
        have yf8 : z1.frozen? ⟨w.heap.size, 8, none⟩ = false := (hrr).frozen 8
        have y9 : z1.cell? ⟨w.heap.size, 9, none⟩ = some (.slice none 0 0) := (hrr).cell (i := 9) (by omega)
        have yf9 : z1.frozen? ⟨w.heap.size, 9, none⟩ = false := (hrr).frozen 9
        have y10 : z1.cell? ⟨w.heap.size, 10, none⟩ = some (.slice none 0 0) := (hrr).cell (i := 10) (by omega)
        have yf10 : z1.frozen? ⟨w.heap.size, 10, none⟩ = false := (hrr).frozen 10
        have m0 : z1.cell? ⟨rw, 0, none⟩ = some (.int .i64 n.kind) := (hrw).cell (i := 0) (by omega)
        have m1 : z1.cell? ⟨rw, 1, none⟩ = some (.int .i64 n.frm) := (hrw).cell (i := 1) (by omega)
        have m2 : z1.cell? ⟨rw, 2, none⟩ = some (.int .i64 n.dst) := (hrw).cell (i := 2) (by omega)
        have m3 : z1.cell? ⟨rw, 3, none⟩ = some (.int .i64 n.inc) := (hrw).cell (i := 3) (by omega)
        have m4 : z1.cell? ⟨rw, 4, none⟩ = some (.int .i64 n.ver) := (hrw).cell (i := 4) (by omega)
        have m5 : z1.cell? ⟨rw, 5, none⟩ = some (.int .i64 n.rd) := (hrw).cell (i := 5) (by omega)
        have m6 : z1.cell? ⟨rw, 6, none⟩ = some (.int .i64 n.g) := (hrw).cell (i := 6) (by omega)
        have m7 : z1.cell? ⟨rw, 7, none⟩ = some (.slice a0 n.incs.length c0) := (hrw).cell (i := 7) (by omega)
        have m8 : z1.cell? ⟨rw, 8, none⟩ = some (.slice a1 n.vers.length c1) := (hrw).cell (i := 8) (by omega)
        have m9 : z1.cell? ⟨rw, 9, none⟩ = some (.slice a2 n.evs.length c2) := (hrw).cell (i := 9) (by omega)
        have m10 : z1.cell? ⟨rw, 10, none⟩ = some (.slice a3 n.outs.length c3) := (hrw).cell (i := 10) (by omega)
        have EB := hide (setVals_below [.int .i64 n.kind, .int .i64 n.frm, .int .i64 n.dst, .int .i64 n.inc, .int .i64 n.ver, .int .i64 n.rd, .int .i64 n.g, .slice a0 n.incs.length c0, .slice a1 n.vers.length c1, .slice a2 n.evs.length c2, .slice a3 n.outs.length c3] 0 z1 ((unhide HB).trans ((unhide HBZ).mono (by have := unhide HS; omega))) (Nat.le_refl w.heap.size))
        have EF := hide ((((unhide HF).on (unhide HBZ)).setV (r := w.heap.size) (o := 0) (by omega) [.int .i64 n.kind, .int .i64 n.frm, .int .i64 n.dst, .int .i64 n.inc, .int .i64 n.ver, .int .i64 n.rd, .int .i64 n.g, .slice a0 n.incs.length c0, .slice a1 n.vers.length c1, .slice a2 n.evs.length c2, .slice a3 n.outs.length c3]).less (M := w.heap.size) (by omega))
        clear hrr hrw
        go_wp2_with fail
        refine bodyPost_ret (v := .tuple #[wordAgg n (.slice a0 n.incs.length c0) (.slice a1 n.vers.length c1) (.slice a2 n.evs.length c2) (.slice a3 n.outs.length c3), .bool true]) (by simp [results, Tryz.results5, go_sem, y0, y1, y2, y3, y4, y5, y6, y7, y8, y9, y10]) rfl ⟨n, true, _, _, _, _, rfl, unhide EF, unhide EB, Or.inl ⟨rfl, ?_⟩⟩
        have hp := unhide HP
        have hl := unhide HL
        rw [unhide HE] at hp
        split at hp
        · rename_i hok
          exact ⟨hok, hp.symm⟩
        · rw [hp] at hl; exact absurd hl (Nat.lt_irrefl 0)
      · have hne := strOf_ne (unhide HPR) (unhide HRG) hE
        have HE := hide hE
        clear hE
        refine wpAnyH_ready (rs := [12]) (by kernel_rfl) (by simp) (AllReadyH.cons rfl (fun K hK => ?_) AllReadyH.nil)
        go_simp
        refine hK.out _ _ hHeld (fun hHeld => ?_)
        clear hK K kP
        refine wpAnyH_take (i := 15) (v := .bool true) rfl (by kernel_rfl) (by kernel_rfl) (by kernel_rfl) (fun _ _ _ h => h) (Or.inl ⟨by kernel_rfl, ?_⟩) hHeld ?_
        · (intro w hSw; (try dsimp only at hSw); obtain ⟨s0, s1, s2, s3, s4, s5, s6, s7, s8, s9, s10, s11, s12⟩ := hSw; go_simp; try with_reducible rfl)
        refine wpAnyH_ready (rs := [16]) (by kernel_rfl) (by simp) (AllReadyH.cons rfl (fun K hK => ?_) AllReadyH.nil)
        go_simp
        refine hK.out _ _ hHeld (fun hHeld => ?_)
        clear hK K
        refine wpAnyH_done (by kernel_rfl) ?_ _
        have hrr := (unhide RR).of_block ((unhide HBZ).block w.heap.size (by have := unhide HS; omega))
        have y0 : z1.cell? ⟨w.heap.size, 0, none⟩ = some (.int .i64 0) := (hrr).cell (i := 0) (by omega)
        have yf0 : z1.frozen? ⟨w.heap.size, 0, none⟩ = false := (hrr).frozen 0
        have y1 : z1.cell? ⟨w.heap.size, 1, none⟩ = some (.int .i64 0) := (hrr).cell (i := 1) (by omega)
        have yf1 : z1.frozen? ⟨w.heap.size, 1, none⟩ = false := (hrr).frozen 1
        have y2 : z1.cell? ⟨w.heap.size, 2, none⟩ = some (.int .i64 0) := (hrr).cell (i := 2) (by omega)
        have yf2 : z1.frozen? ⟨w.heap.size, 2, none⟩ = false := (hrr).frozen 2
        have y3 : z1.cell? ⟨w.heap.size, 3, none⟩ = some (.int .i64 0) := (hrr).cell (i := 3) (by omega)
        have yf3 : z1.frozen? ⟨w.heap.size, 3, none⟩ = false := (hrr).frozen 3
        have y4 : z1.cell? ⟨w.heap.size, 4, none⟩ = some (.int .i64 0) := (hrr).cell (i := 4) (by omega)
        have yf4 : z1.frozen? ⟨w.heap.size, 4, none⟩ = false := (hrr).frozen 4
        have y5 : z1.cell? ⟨w.heap.size, 5, none⟩ = some (.int .i64 0) := (hrr).cell (i := 5) (by omega)
        have yf5 : z1.frozen? ⟨w.heap.size, 5, none⟩ = false := (hrr).frozen 5
        have y6 : z1.cell? ⟨w.heap.size, 6, none⟩ = some (.int .i64 0) := (hrr).cell (i := 6) (by omega)
        have yf6 : z1.frozen? ⟨w.heap.size, 6, none⟩ = false := (hrr).frozen 6
        have y7 : z1.cell? ⟨w.heap.size, 7, none⟩ = some (.slice none 0 0) := (hrr).cell (i := 7) (by omega)
        have yf7 : z1.frozen? ⟨w.heap.size, 7, none⟩ = false := (hrr).frozen 7
        have y8 : z1.cell? ⟨w.heap.size, 8, none⟩ = some (.slice none 0 0) := (hrr).cell (i := 8) (by omega)
        have yf8 : z1.frozen? ⟨w.heap.size, 8, none⟩ = false := (hrr).frozen 8
        have y9 : z1.cell? ⟨w.heap.size, 9, none⟩ = some (.slice none 0 0) := (hrr).cell (i := 9) (by omega)
        have yf9 : z1.frozen? ⟨w.heap.size, 9, none⟩ = false := (hrr).frozen 9
        have y10 : z1.cell? ⟨w.heap.size, 10, none⟩ = some (.slice none 0 0) := (hrr).cell (i := 10) (by omega)
        have yf10 : z1.frozen? ⟨w.heap.size, 10, none⟩ = false := (hrr).frozen 10
        have EB := hide (setVals_below [.int .i64 0, .int .i64 0, .int .i64 0, .int .i64 0, .int .i64 0, .int .i64 0, .int .i64 0, .slice none 0 0, .slice none 0 0, .slice none 0 0, .slice none 0 0] 0 z1 ((unhide HB).trans ((unhide HBZ).mono (by have := unhide HS; omega))) (Nat.le_refl w.heap.size))
        clear hrr
        go_wp2_with fail
        refine bodyPost_ret (v := .tuple #[wordAgg zeroW (.slice none 0 0) (.slice none 0 0) (.slice none 0 0) (.slice none 0 0), .bool false]) (by simp [results, Tryz.results5, go_sem, zeroW, y0, y1, y2, y3, y4, y5, y6, y7, y8, y9, y10]) rfl ⟨zeroW, false, _, _, _, _, rfl, wordFr_zero _ _, unhide EB, Or.inr ⟨rfl, rfl, fun n0 ho hp => ?_⟩⟩
        have h1 := ((unhide HCP) n0 (wordOk_in ho) hp).1
        subst h1
        have h2 := unhide HP
        rw [if_pos ho, hp] at h2
        exact (unhide HE) h2
end Go.Proofs.YtiljjhipiinafaaGreat
