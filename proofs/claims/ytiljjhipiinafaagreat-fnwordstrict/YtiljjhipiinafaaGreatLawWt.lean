/- The walk of laws.FnWordStrict: it answers true. -/
import Derived.Test.YtiljjhipiinafaaGreatDrC
import Derived.Test.YtiljjhipiinafaaGreatWrC
import Derived.Test.YtiljjhipiinafaaGreatWrB
import Derived.Deep.Cut
import Derived.Deep.RegionHeld3
import Derived.BigRegion
namespace Go.Proofs.YtiljjhipiinafaaGreat
open Go.RowKit
set_option linter.unusedVariables false
set_option linter.unusedSimpArgs false

theorem same_wordT {bs : List Int} {n m : WordV} {b c : Bool} (hS : (b = true ∧ wordOk n = true ∧ packW n = bs) ∨ (b = false ∧ n = zeroW ∧ ∀ n0, wordOk n0 = true → packW n0 ≠ bs))
    (hI : (c = true ∧ wordOk m = true ∧ packW m = bs ∧ ∀ n0, wordOk n0 = true → packW n0 = bs → m = n0) ∨ (c = false ∧ m = zeroW ∧ ∀ n0, wordOk n0 = true → packW n0 ≠ bs)) : n = m ∧ b = c := by
  rcases hS with ⟨h1, h2, h3⟩ | ⟨h1, h2, h3⟩
  · rcases hI with ⟨k1, k2, k3, k4⟩ | ⟨k1, k2, k3⟩
    · exact ⟨(k4 n h2 h3).symm, h1.trans k1.symm⟩
    · exact absurd h3 (k3 n h2)
  · rcases hI with ⟨k1, k2, k3, k4⟩ | ⟨k1, k2, k3⟩
    · exact absurd k3 (h3 m k2)
    · exact ⟨h2.trans k2.symm, h1.trans k1.symm⟩

set_option maxRecDepth 100000 in
set_option maxHeartbeats 8000000 in
theorem lawWordStrict_walk (v : Value) (zs : List Int) (w : World) (h : BytesAt w v zs) :
    Calls Tryz.prog 3 #[v] w fun e w' => e = .returned (.bool true) ∧ Below w.heap.size w w' := by
  have HH := hide h
  obtain ⟨ad, cap, rfl, _, _, _, _⟩ := h
  go_enter Tryz.func3, Tryz.ntmps3
  by_cases hl : zs.length ≤ 1048576
  rotate_left
  · have hlI : (1048576 : Int) < (zs.length : Int) := by omega
    go_wp2_with fail
    go_ret
    exact ⟨rfl, Below.refl _ _⟩
  have hlI : ¬ ((1048576 : Int) < (zs.length : Int)) := by omega
  clear hl
  go_wp2_with fail
  refine (DrawWordUnpack_any _ zs _ (unhide HH)).mono ?_
  rintro e w1 ⟨vb, bs, rfl, hbs, hbl, hb1⟩
  obtain ⟨ba, bc, rfl⟩ : ∃ a c, vb = .slice a bs.length c := by obtain ⟨a, c, e, _⟩ := hbs; exact ⟨a, c, e⟩
  have HBS := hide hbs
  have HBL : Hid (bs.length ≤ 1048576) := hide (by omega)
  have HB1 := hide hb1
  clear hbs hbl hb1
  go_wp2_with fail
  refine (specWordUnpack_any _ bs _ (unhide HBS) (unhide HBL)).mono ?_
  rintro e w2 ⟨n, ok, u0, u1, u2, u3, rfl, hff, hb2, hS⟩
  obtain ⟨⟨a0, ac0, e1⟩, ⟨a1, ac1, e2⟩, ⟨a2, ac2, e3⟩, ⟨a3, ac3, e4⟩⟩ := hff.at.sliced
  subst e1 e2 e3 e4
  have hx : Below w2.heap.size w2 (w2.alloc (.cells #[.int .i64 n.kind, .int .i64 n.frm, .int .i64 n.dst, .int .i64 n.inc, .int .i64 n.ver, .int .i64 n.rd, .int .i64 n.g, .slice a0 n.incs.length ac0, .slice a1 n.vers.length ac1, .slice a2 n.evs.length ac2, .slice a3 n.outs.length ac3] 28)) := (Below.refl _ _).alloc (Nat.le_refl _) _
  have HB3 := hide (below_then hb2 hx)
  have HSW := hide (hff.at.on hx)
  have HC3 := hide (cellsAt_new w2 [.int .i64 n.kind, .int .i64 n.frm, .int .i64 n.dst, .int .i64 n.inc, .int .i64 n.ver, .int .i64 n.rd, .int .i64 n.g, .slice a0 n.incs.length ac0, .slice a1 n.vers.length ac1, .slice a2 n.evs.length ac2, .slice a3 n.outs.length ac3] 28)
  have HSS := hide hS
  clear hff hb2 hS hx
  go_upto_region 5 with fail
  change Hid (CellsAt (w2.alloc (.cells #[.int .i64 n.kind, .int .i64 n.frm, .int .i64 n.dst, .int .i64 n.inc, .int .i64 n.ver, .int .i64 n.rd, .int .i64 n.g, .slice a0 n.incs.length ac0, .slice a1 n.vers.length ac1, .slice a2 n.evs.length ac2, .slice a3 n.outs.length ac3] 28)) _ _ _) at HC3
  generalize (w2.alloc (.cells #[.int .i64 n.kind, .int .i64 n.frm, .int .i64 n.dst, .int .i64 n.inc, .int .i64 n.ver, .int .i64 n.rd, .int .i64 n.g, .slice a0 n.incs.length ac0, .slice a1 n.vers.length ac1, .slice a2 n.evs.length ac2, .slice a3 n.outs.length ac3] 28)) = W3 at *
  generalize w2.heap.size = p3 at *
  go_wp2_with fail
  refine (implWordUnpack_any _ bs _ ((unhide HBS).on (unhide HB3)) (unhide HBL)).mono ?_
  rintro e w5 ⟨m, ok2, g0, g1, g2, g3, rfl, hff, _, hb5, hI⟩
  obtain ⟨rfl, rfl⟩ := same_wordT (unhide HSS) hI
  obtain ⟨⟨d0, dc0, e1⟩, ⟨d1, dc1, e2⟩, ⟨d2, dc2, e3⟩, ⟨d3, dc3, e4⟩⟩ := hff.at.sliced
  subst e1 e2 e3 e4
  have hx : Below w5.heap.size w5 (w5.alloc (.cells #[.int .i64 n.kind, .int .i64 n.frm, .int .i64 n.dst, .int .i64 n.inc, .int .i64 n.ver, .int .i64 n.rd, .int .i64 n.g, .slice d0 n.incs.length dc0, .slice d1 n.vers.length dc1, .slice d2 n.evs.length dc2, .slice d3 n.outs.length dc3] 28)) := (Below.refl _ _).alloc (Nat.le_refl _) _
  have HB := hide (below_then hb5 hx)
  have F := hide (hff.at.on hx)
  have C := hide (cellsAt_new w5 [.int .i64 n.kind, .int .i64 n.frm, .int .i64 n.dst, .int .i64 n.inc, .int .i64 n.ver, .int .i64 n.rd, .int .i64 n.g, .slice d0 n.incs.length dc0, .slice d1 n.vers.length dc1, .slice d2 n.evs.length dc2, .slice d3 n.outs.length dc3] 28)
  clear hff hb5 hx hI
  go_upto_region 6 with fail
  change Hid (CellsAt (w5.alloc (.cells #[.int .i64 n.kind, .int .i64 n.frm, .int .i64 n.dst, .int .i64 n.inc, .int .i64 n.ver, .int .i64 n.rd, .int .i64 n.g, .slice d0 n.incs.length dc0, .slice d1 n.vers.length dc1, .slice d2 n.evs.length dc2, .slice d3 n.outs.length dc3] 28)) _ _ _) at C
  generalize (w5.alloc (.cells #[.int .i64 n.kind, .int .i64 n.frm, .int .i64 n.dst, .int .i64 n.inc, .int .i64 n.ver, .int .i64 n.rd, .int .i64 n.g, .slice d0 n.incs.length dc0, .slice d1 n.vers.length dc1, .slice d2 n.evs.length dc2, .slice d3 n.outs.length dc3] 28)) = W6 at *
  generalize w5.heap.size = q6 at *
  have hbb : (ok != ok) = false := by cases ok <;> rfl
  have n0 : W6.cell? ⟨q6, 0, none⟩ = some (.int .i64 n.kind) := (unhide C) 0 (by simp)
  have n1 : W6.cell? ⟨q6, 1, none⟩ = some (.int .i64 n.frm) := (unhide C) 1 (by simp)
  have n2 : W6.cell? ⟨q6, 2, none⟩ = some (.int .i64 n.dst) := (unhide C) 2 (by simp)
  have n3 : W6.cell? ⟨q6, 3, none⟩ = some (.int .i64 n.inc) := (unhide C) 3 (by simp)
  have n4 : W6.cell? ⟨q6, 4, none⟩ = some (.int .i64 n.ver) := (unhide C) 4 (by simp)
  have n5 : W6.cell? ⟨q6, 5, none⟩ = some (.int .i64 n.rd) := (unhide C) 5 (by simp)
  have n6 : W6.cell? ⟨q6, 6, none⟩ = some (.int .i64 n.g) := (unhide C) 6 (by simp)
  have n7 : W6.cell? ⟨q6, 7, none⟩ = some (.slice d0 n.incs.length dc0) := (unhide C) 7 (by simp)
  have n8 : W6.cell? ⟨q6, 8, none⟩ = some (.slice d1 n.vers.length dc1) := (unhide C) 8 (by simp)
  have n9 : W6.cell? ⟨q6, 9, none⟩ = some (.slice d2 n.evs.length dc2) := (unhide C) 9 (by simp)
  have n10 : W6.cell? ⟨q6, 10, none⟩ = some (.slice d3 n.outs.length dc3) := (unhide C) 10 (by simp)
  have m0 : W6.cell? ⟨p3, 0, none⟩ = some (.int .i64 n.kind) := ((unhide HC3).on (unhide HB)) 0 (by simp)
  have m1 : W6.cell? ⟨p3, 1, none⟩ = some (.int .i64 n.frm) := ((unhide HC3).on (unhide HB)) 1 (by simp)
  have m2 : W6.cell? ⟨p3, 2, none⟩ = some (.int .i64 n.dst) := ((unhide HC3).on (unhide HB)) 2 (by simp)
  have m3 : W6.cell? ⟨p3, 3, none⟩ = some (.int .i64 n.inc) := ((unhide HC3).on (unhide HB)) 3 (by simp)
  have m4 : W6.cell? ⟨p3, 4, none⟩ = some (.int .i64 n.ver) := ((unhide HC3).on (unhide HB)) 4 (by simp)
  have m5 : W6.cell? ⟨p3, 5, none⟩ = some (.int .i64 n.rd) := ((unhide HC3).on (unhide HB)) 5 (by simp)
  have m6 : W6.cell? ⟨p3, 6, none⟩ = some (.int .i64 n.g) := ((unhide HC3).on (unhide HB)) 6 (by simp)
  have m7 : W6.cell? ⟨p3, 7, none⟩ = some (.slice a0 n.incs.length ac0) := ((unhide HC3).on (unhide HB)) 7 (by simp)
  have m8 : W6.cell? ⟨p3, 8, none⟩ = some (.slice a1 n.vers.length ac1) := ((unhide HC3).on (unhide HB)) 8 (by simp)
  have m9 : W6.cell? ⟨p3, 9, none⟩ = some (.slice a2 n.evs.length ac2) := ((unhide HC3).on (unhide HB)) 9 (by simp)
  have m10 : W6.cell? ⟨p3, 10, none⟩ = some (.slice a3 n.outs.length ac3) := ((unhide HC3).on (unhide HB)) 10 (by simp)
  go_wp2_with fail
  clear n0 n1 n2 n3 n4 n5 n6 n7 n8 n9 n10 m0 m1 m2 m3 m4 m5 m6 m7 m8 m9 m10
  refine (ltWord_any n _ _ _ _ _ _ _ _ _ (unhide F) ((unhide HSW).on (unhide HB))).mono ?_
  rintro e w7 ⟨rfl, hb7⟩
  replace HB := hide (below_then (unhide HB) (hb7))
  replace F := hide ((unhide F).on (hb7))
  replace C := hide ((unhide C).on (hb7))
  clear hb7 hbb
  have HC := hide (show ∀ W, Below w7.heap.size w7 W → (fun w' : World => w'.cell? ⟨q6, 0, none⟩ = some (.int .i64 n.kind) ∧ w'.cell? ⟨q6, 1, none⟩ = some (.int .i64 n.frm) ∧ w'.cell? ⟨q6, 2, none⟩ = some (.int .i64 n.dst) ∧ w'.cell? ⟨q6, 3, none⟩ = some (.int .i64 n.inc) ∧ w'.cell? ⟨q6, 4, none⟩ = some (.int .i64 n.ver) ∧ w'.cell? ⟨q6, 5, none⟩ = some (.int .i64 n.rd) ∧ w'.cell? ⟨q6, 6, none⟩ = some (.int .i64 n.g) ∧ w'.cell? ⟨q6, 7, none⟩ = some (.slice d0 n.incs.length dc0) ∧ w'.cell? ⟨q6, 8, none⟩ = some (.slice d1 n.vers.length dc1) ∧ w'.cell? ⟨q6, 9, none⟩ = some (.slice d2 n.evs.length dc2) ∧ w'.cell? ⟨q6, 10, none⟩ = some (.slice d3 n.outs.length dc3) ∧ (convert 22 9 (.slice ba bs.length bc)).run Tryz.prog w' = .ok (.string (strOfNums bs)) w') W from fun W hW => ⟨((unhide C).on hW) 0 (by simp), ((unhide C).on hW) 1 (by simp), ((unhide C).on hW) 2 (by simp), ((unhide C).on hW) 3 (by simp), ((unhide C).on hW) 4 (by simp), ((unhide C).on hW) 5 (by simp), ((unhide C).on hW) 6 (by simp), ((unhide C).on hW) 7 (by simp), ((unhide C).on hW) 8 (by simp), ((unhide C).on hW) 9 (by simp), ((unhide C).on hW) 10 (by simp), conv_by (((unhide HBS).on (below_then (unhide HB3) (below_then (unhide HB) hW))).by)⟩)
  have HBD : Hid (Below w7.heap.size w7 w7.drew) := hide (Below.refl _ _).drew
  cases ok with
  | false =>
    have hz : n.kind = 0 := by
      rcases unhide HSS with ⟨h, _⟩ | ⟨_, h, _⟩
      · cases h
      · rw [h]; rfl
    go_upto_region 8 with fail
    refine wp_region_held_drew (S := fun w' : World => w'.cell? ⟨q6, 0, none⟩ = some (.int .i64 n.kind) ∧ w'.cell? ⟨q6, 1, none⟩ = some (.int .i64 n.frm) ∧ w'.cell? ⟨q6, 2, none⟩ = some (.int .i64 n.dst) ∧ w'.cell? ⟨q6, 3, none⟩ = some (.int .i64 n.inc) ∧ w'.cell? ⟨q6, 4, none⟩ = some (.int .i64 n.ver) ∧ w'.cell? ⟨q6, 5, none⟩ = some (.int .i64 n.rd) ∧ w'.cell? ⟨q6, 6, none⟩ = some (.int .i64 n.g) ∧ w'.cell? ⟨q6, 7, none⟩ = some (.slice d0 n.incs.length dc0) ∧ w'.cell? ⟨q6, 8, none⟩ = some (.slice d1 n.vers.length dc1) ∧ w'.cell? ⟨q6, 9, none⟩ = some (.slice d2 n.evs.length dc2) ∧ w'.cell? ⟨q6, 10, none⟩ = some (.slice d3 n.outs.length dc3) ∧ (convert 22 9 (.slice ba bs.length bc)).run Tryz.prog w' = .ok (.string (strOfNums bs)) w') (by kernel_rfl) ((unhide HC) _ (unhide HBD)) (fun hHeld => ?_)
    generalize w7.drew = X at *
    refine wpAnyH_take (i := 0) (v := ?_) rfl (by kernel_rfl) (by kernel_rfl) (by kernel_rfl) (fun _ _ _ h => h) (Or.inl ⟨by kernel_rfl, ?_⟩) hHeld ?_
    rotate_left
    · (intro w hSw; (try dsimp only at hSw); obtain ⟨s0, s1, s2, s3, s4, s5, s6, s7, s8, s9, s10, s11⟩ := hSw; go_simp; try with_reducible rfl)
    refine wpAnyH_take (i := 1) (v := ?_) rfl (by kernel_rfl) (by kernel_rfl) (by kernel_rfl) (fun _ _ _ h => h) (Or.inl ⟨by kernel_rfl, ?_⟩) hHeld ?_
    rotate_left
    · (intro w hSw; (try dsimp only at hSw); obtain ⟨s0, s1, s2, s3, s4, s5, s6, s7, s8, s9, s10, s11⟩ := hSw; go_simp; try with_reducible rfl)
    refine wpAnyH_take (i := 2) (v := ?_) rfl (by kernel_rfl) (by kernel_rfl) (by kernel_rfl) (fun _ _ _ h => h) (Or.inl ⟨by kernel_rfl, ?_⟩) hHeld ?_
    rotate_left
    · (intro w hSw; (try dsimp only at hSw); obtain ⟨s0, s1, s2, s3, s4, s5, s6, s7, s8, s9, s10, s11⟩ := hSw; go_simp; try with_reducible rfl)
    refine wpAnyH_take (i := 3) (v := ?_) rfl (by kernel_rfl) (by kernel_rfl) (by kernel_rfl) (fun _ _ _ h => h) (Or.inl ⟨by kernel_rfl, ?_⟩) hHeld ?_
    rotate_left
    · (intro w hSw; (try dsimp only at hSw); obtain ⟨s0, s1, s2, s3, s4, s5, s6, s7, s8, s9, s10, s11⟩ := hSw; go_simp; try with_reducible rfl)
    refine wpAnyH_take (i := 4) (v := ?_) rfl (by kernel_rfl) (by kernel_rfl) (by kernel_rfl) (fun _ _ _ h => h) (Or.inl ⟨by kernel_rfl, ?_⟩) hHeld ?_
    rotate_left
    · (intro w hSw; (try dsimp only at hSw); obtain ⟨s0, s1, s2, s3, s4, s5, s6, s7, s8, s9, s10, s11⟩ := hSw; go_simp; try with_reducible rfl)
    refine wpAnyH_take (i := 5) (v := .bool true) rfl (by kernel_rfl) (by kernel_rfl) (by kernel_rfl) (fun _ _ _ h => h) (Or.inl ⟨by kernel_rfl, ?_⟩) hHeld ?_
    · (intro w hSw; (try dsimp only at hSw); obtain ⟨s0, s1, s2, s3, s4, s5, s6, s7, s8, s9, s10, s11⟩ := hSw; go_simp; try with_reducible rfl)
    refine wpAnyH_take (i := 6) (v := ?_) rfl (by kernel_rfl) (by kernel_rfl) (by kernel_rfl) (fun _ _ _ h => h) (Or.inl ⟨by kernel_rfl, ?_⟩) hHeld ?_
    rotate_left
    · (intro w hSw; (try dsimp only at hSw); obtain ⟨s0, s1, s2, s3, s4, s5, s6, s7, s8, s9, s10, s11⟩ := hSw; go_simp; try with_reducible rfl)
    refine wpAnyH_take (i := 7) (v := ?_) rfl (by kernel_rfl) (by kernel_rfl) (by kernel_rfl) (fun _ _ _ h => h) (Or.inl ⟨by kernel_rfl, ?_⟩) hHeld ?_
    rotate_left
    · (intro w hSw; (try dsimp only at hSw); obtain ⟨s0, s1, s2, s3, s4, s5, s6, s7, s8, s9, s10, s11⟩ := hSw; go_simp; try with_reducible rfl)
    refine wpAnyH_take (i := 8) (v := undef) rfl (by kernel_rfl) (by kernel_rfl) (by kernel_rfl) (fun _ _ _ h => h) (Or.inr ⟨by kernel_rfl, rfl⟩) hHeld ?_
    refine wpAnyH_take (i := 9) (v := undef) rfl (by kernel_rfl) (by kernel_rfl) (by kernel_rfl) (fun _ _ _ h => h) (Or.inr ⟨by kernel_rfl, rfl⟩) hHeld ?_
    refine wpAnyH_take (i := 10) (v := undef) rfl (by kernel_rfl) (by kernel_rfl) (by kernel_rfl) (fun _ _ _ h => h) (Or.inr ⟨by kernel_rfl, rfl⟩) hHeld ?_
    refine wpAnyH_take (i := 11) (v := undef) rfl (by kernel_rfl) (by kernel_rfl) (by kernel_rfl) (fun _ _ _ h => h) (Or.inr ⟨by kernel_rfl, rfl⟩) hHeld ?_
    refine wpAnyH_take (i := 12) (v := undef) rfl (by kernel_rfl) (by kernel_rfl) (by kernel_rfl) (fun _ _ _ h => h) (Or.inr ⟨by kernel_rfl, rfl⟩) hHeld ?_
    refine wpAnyH_take (i := 13) (v := undef) rfl (by kernel_rfl) (by kernel_rfl) (by kernel_rfl) (fun _ _ _ h => h) (Or.inr ⟨by kernel_rfl, rfl⟩) hHeld ?_
    refine wpAnyH_take (i := 14) (v := undef) rfl (by kernel_rfl) (by kernel_rfl) (by kernel_rfl) (fun _ _ _ h => h) (Or.inr ⟨by kernel_rfl, rfl⟩) hHeld ?_
    refine wpAnyH_take (i := 17) (v := undef) rfl (by kernel_rfl) (by kernel_rfl) (by kernel_rfl) (fun _ _ _ h => h) (Or.inr ⟨by kernel_rfl, rfl⟩) hHeld ?_
    refine wpAnyH_take (i := 18) (v := undef) rfl (by kernel_rfl) (by kernel_rfl) (by kernel_rfl) (fun _ _ _ h => h) (Or.inr ⟨by kernel_rfl, rfl⟩) hHeld ?_
    refine wpAnyH_take (i := 15) (v := undef) rfl (by kernel_rfl) (by kernel_rfl) (by kernel_rfl) (fun _ _ _ h => h) (Or.inr ⟨by kernel_rfl, rfl⟩) hHeld ?_
    refine wpAnyH_take (i := 16) (v := undef) rfl (by kernel_rfl) (by kernel_rfl) (by kernel_rfl) (fun _ _ _ h => h) (Or.inr ⟨by kernel_rfl, rfl⟩) hHeld ?_
    refine wpAnyH_take (i := 19) (v := undef) rfl (by kernel_rfl) (by kernel_rfl) (by kernel_rfl) (fun _ _ _ h => h) (Or.inr ⟨by kernel_rfl, rfl⟩) hHeld ?_
    refine wpAnyH_take (i := 20) (v := undef) rfl (by kernel_rfl) (by kernel_rfl) (by kernel_rfl) (fun _ _ _ h => h) (Or.inr ⟨by kernel_rfl, rfl⟩) hHeld ?_
    refine wpAnyH_take (i := 21) (v := ?_) rfl (by kernel_rfl) (by kernel_rfl) (by kernel_rfl) (fun _ _ _ h => h) (Or.inl ⟨by kernel_rfl, ?_⟩) hHeld ?_
    rotate_left
    · (intro w hSw; (try dsimp only at hSw); obtain ⟨s0, s1, s2, s3, s4, s5, s6, s7, s8, s9, s10, s11⟩ := hSw; go_simp; try with_reducible rfl)
    refine wpAnyH_ready (rs := [22]) (by kernel_rfl) (by simp) (AllReadyH.cons rfl (fun K hK => ?_) AllReadyH.nil)
    go_simp
    refine hK.out _ _ hHeld (fun hHeld => ?_)
    clear hK K
    refine wpAnyH_done (by kernel_rfl) ?_ _
    go_wp2_with fail
    go_ret
    exact ⟨rfl, below_then (unhide HB1) (below_then (unhide HB3) (below_then (unhide HB) (unhide HBD)))⟩
  | true =>
    obtain ⟨hok, hpk⟩ : wordOk n = true ∧ packW n = bs := by
      rcases unhide HSS with ⟨_, h⟩ | ⟨h, _⟩
      · exact h
      · cases h
    have HOK := hide hok
    have HPK := hide hpk
    clear hok hpk
    go_upto_region 8 with fail
    refine wp_region_held_drew (S := fun w' : World => w'.cell? ⟨q6, 0, none⟩ = some (.int .i64 n.kind) ∧ w'.cell? ⟨q6, 1, none⟩ = some (.int .i64 n.frm) ∧ w'.cell? ⟨q6, 2, none⟩ = some (.int .i64 n.dst) ∧ w'.cell? ⟨q6, 3, none⟩ = some (.int .i64 n.inc) ∧ w'.cell? ⟨q6, 4, none⟩ = some (.int .i64 n.ver) ∧ w'.cell? ⟨q6, 5, none⟩ = some (.int .i64 n.rd) ∧ w'.cell? ⟨q6, 6, none⟩ = some (.int .i64 n.g) ∧ w'.cell? ⟨q6, 7, none⟩ = some (.slice d0 n.incs.length dc0) ∧ w'.cell? ⟨q6, 8, none⟩ = some (.slice d1 n.vers.length dc1) ∧ w'.cell? ⟨q6, 9, none⟩ = some (.slice d2 n.evs.length dc2) ∧ w'.cell? ⟨q6, 10, none⟩ = some (.slice d3 n.outs.length dc3) ∧ (convert 22 9 (.slice ba bs.length bc)).run Tryz.prog w' = .ok (.string (strOfNums bs)) w') (by kernel_rfl) ((unhide HC) _ (unhide HBD)) (fun hHeld => ?_)
    generalize w7.drew = X at *
    refine wpAnyH_take (i := 0) (v := ?_) rfl (by kernel_rfl) (by kernel_rfl) (by kernel_rfl) (fun _ _ _ h => h) (Or.inl ⟨by kernel_rfl, ?_⟩) hHeld ?_
    rotate_left
    · (intro w hSw; (try dsimp only at hSw); obtain ⟨s0, s1, s2, s3, s4, s5, s6, s7, s8, s9, s10, s11⟩ := hSw; go_simp; try with_reducible rfl)
    refine wpAnyH_take (i := 1) (v := ?_) rfl (by kernel_rfl) (by kernel_rfl) (by kernel_rfl) (fun _ _ _ h => h) (Or.inl ⟨by kernel_rfl, ?_⟩) hHeld ?_
    rotate_left
    · (intro w hSw; (try dsimp only at hSw); obtain ⟨s0, s1, s2, s3, s4, s5, s6, s7, s8, s9, s10, s11⟩ := hSw; go_simp; try with_reducible rfl)
    refine wpAnyH_take (i := 2) (v := ?_) rfl (by kernel_rfl) (by kernel_rfl) (by kernel_rfl) (fun _ _ _ h => h) (Or.inl ⟨by kernel_rfl, ?_⟩) hHeld ?_
    rotate_left
    · (intro w hSw; (try dsimp only at hSw); obtain ⟨s0, s1, s2, s3, s4, s5, s6, s7, s8, s9, s10, s11⟩ := hSw; go_simp; try with_reducible rfl)
    refine wpAnyH_take (i := 3) (v := undef) rfl (by kernel_rfl) (by kernel_rfl) (by kernel_rfl) (fun _ _ _ h => h) (Or.inr ⟨by kernel_rfl, rfl⟩) hHeld ?_
    refine wpAnyH_take (i := 4) (v := undef) rfl (by kernel_rfl) (by kernel_rfl) (by kernel_rfl) (fun _ _ _ h => h) (Or.inr ⟨by kernel_rfl, rfl⟩) hHeld ?_
    refine wpAnyH_take (i := 5) (v := undef) rfl (by kernel_rfl) (by kernel_rfl) (by kernel_rfl) (fun _ _ _ h => h) (Or.inr ⟨by kernel_rfl, rfl⟩) hHeld ?_
    refine wpAnyH_take (i := 6) (v := ?_) rfl (by kernel_rfl) (by kernel_rfl) (by kernel_rfl) (fun _ _ _ h => h) (Or.inl ⟨by kernel_rfl, ?_⟩) hHeld ?_
    rotate_left
    · (intro w hSw; (try dsimp only at hSw); obtain ⟨s0, s1, s2, s3, s4, s5, s6, s7, s8, s9, s10, s11⟩ := hSw; go_simp; try with_reducible rfl)
    refine wpAnyH_take (i := 7) (v := ?_) rfl (by kernel_rfl) (by kernel_rfl) (by kernel_rfl) (fun _ _ _ h => h) (Or.inl ⟨by kernel_rfl, ?_⟩) hHeld ?_
    rotate_left
    · (intro w hSw; (try dsimp only at hSw); obtain ⟨s0, s1, s2, s3, s4, s5, s6, s7, s8, s9, s10, s11⟩ := hSw; go_simp; try with_reducible rfl)
    refine wpAnyH_take (i := 8) (v := ?_) rfl (by kernel_rfl) (by kernel_rfl) (by kernel_rfl) (fun _ _ _ h => h) (Or.inl ⟨by kernel_rfl, ?_⟩) hHeld ?_
    rotate_left
    · (intro w hSw; (try dsimp only at hSw); obtain ⟨s0, s1, s2, s3, s4, s5, s6, s7, s8, s9, s10, s11⟩ := hSw; go_simp; try with_reducible rfl)
    refine wpAnyH_take (i := 9) (v := ?_) rfl (by kernel_rfl) (by kernel_rfl) (by kernel_rfl) (fun _ _ _ h => h) (Or.inl ⟨by kernel_rfl, ?_⟩) hHeld ?_
    rotate_left
    · (intro w hSw; (try dsimp only at hSw); obtain ⟨s0, s1, s2, s3, s4, s5, s6, s7, s8, s9, s10, s11⟩ := hSw; go_simp; try with_reducible rfl)
    refine wpAnyH_take (i := 10) (v := ?_) rfl (by kernel_rfl) (by kernel_rfl) (by kernel_rfl) (fun _ _ _ h => h) (Or.inl ⟨by kernel_rfl, ?_⟩) hHeld ?_
    rotate_left
    · (intro w hSw; (try dsimp only at hSw); obtain ⟨s0, s1, s2, s3, s4, s5, s6, s7, s8, s9, s10, s11⟩ := hSw; go_simp; try with_reducible rfl)
    refine wpAnyH_ready (rs := [11]) (by kernel_rfl) (by simp) (AllReadyH.cons rfl (fun K hK => ?_) AllReadyH.nil)
    go_simp
    refine (implWordOk_any n _ _ _ _ _ ((unhide F).on (unhide HBD))).mono ?_
    rintro e w8 ⟨rfl, hb8⟩
    rw [unhide HOK]
    (try go_simp)
    have HB8 := hide (below_then (unhide HBD) hb8)
    refine hK.out _ _ ((unhide HC) _ (unhide HB8)) (fun hHeld => ?_)
    clear hK K hb8
    refine wpAnyH_take (i := 12) (v := ?_) rfl (by kernel_rfl) (by kernel_rfl) (by kernel_rfl) (fun _ _ _ h => h) (Or.inl ⟨by kernel_rfl, ?_⟩) hHeld ?_
    rotate_left
    · (intro w hSw; (try dsimp only at hSw); obtain ⟨s0, s1, s2, s3, s4, s5, s6, s7, s8, s9, s10, s11⟩ := hSw; go_simp; try with_reducible rfl)
    refine wpAnyH_take (i := 13) (v := ?_) rfl (by kernel_rfl) (by kernel_rfl) (by kernel_rfl) (fun _ _ _ h => h) (Or.inl ⟨by kernel_rfl, ?_⟩) hHeld ?_
    rotate_left
    · (intro w hSw; (try dsimp only at hSw); obtain ⟨s0, s1, s2, s3, s4, s5, s6, s7, s8, s9, s10, s11⟩ := hSw; go_simp; try with_reducible rfl)
    refine wpAnyH_take (i := 14) (v := ?_) rfl (by kernel_rfl) (by kernel_rfl) (by kernel_rfl) (fun _ _ _ h => h) (Or.inl ⟨by kernel_rfl, ?_⟩) hHeld ?_
    rotate_left
    · (intro w hSw; (try dsimp only at hSw); obtain ⟨s0, s1, s2, s3, s4, s5, s6, s7, s8, s9, s10, s11⟩ := hSw; go_simp; try with_reducible rfl)
    refine wpAnyH_take (i := 17) (v := ?_) rfl (by kernel_rfl) (by kernel_rfl) (by kernel_rfl) (fun _ _ _ h => h) (Or.inl ⟨by kernel_rfl, ?_⟩) hHeld ?_
    rotate_left
    · (intro w hSw; (try dsimp only at hSw); obtain ⟨s0, s1, s2, s3, s4, s5, s6, s7, s8, s9, s10, s11⟩ := hSw; go_simp; try with_reducible rfl)
    refine wpAnyH_take (i := 18) (v := ?_) rfl (by kernel_rfl) (by kernel_rfl) (by kernel_rfl) (fun _ _ _ h => h) (Or.inl ⟨by kernel_rfl, ?_⟩) hHeld ?_
    rotate_left
    · (intro w hSw; (try dsimp only at hSw); obtain ⟨s0, s1, s2, s3, s4, s5, s6, s7, s8, s9, s10, s11⟩ := hSw; go_simp; try with_reducible rfl)
    refine wpAnyH_ready (rs := [15]) (by kernel_rfl) (by simp) (AllReadyH.cons rfl (fun K hK => ?_) AllReadyH.nil)
    go_simp
    refine (implWordPack_any n _ _ _ _ _ ((unhide F).on (unhide HB8))).mono ?_
    rintro e w9 ⟨vG, rfl, hG, hb9⟩
    (try go_simp)
    rw [if_pos (unhide HOK), unhide HPK] at hG
    have HB9 := hide (below_then (unhide HB8) hb9)
    refine hK.out _ _ ((unhide HC) _ (unhide HB9)) (fun hHeld => ?_)
    clear hK K
    have kP := conv_by (ByFr.of_owns hG).at
    clear hG hb9
    refine wpAnyH_ready (rs := [16]) (by kernel_rfl) (by simp) (AllReadyH.cons rfl (fun K hK => ?_) AllReadyH.nil)
    go_simp
    refine hK.out _ _ hHeld (fun hHeld => ?_)
    clear hK K kP
    refine wpAnyH_take (i := 19) (v := .bool true) rfl (by kernel_rfl) (by kernel_rfl) (by kernel_rfl) (fun _ _ _ h => h) (Or.inl ⟨by kernel_rfl, ?_⟩) hHeld ?_
    · (intro w hSw; (try dsimp only at hSw); obtain ⟨s0, s1, s2, s3, s4, s5, s6, s7, s8, s9, s10, s11⟩ := hSw; go_simp; try with_reducible rfl)
    refine wpAnyH_take (i := 20) (v := ?_) rfl (by kernel_rfl) (by kernel_rfl) (by kernel_rfl) (fun _ _ _ h => h) (Or.inl ⟨by kernel_rfl, ?_⟩) hHeld ?_
    rotate_left
    · (intro w hSw; (try dsimp only at hSw); obtain ⟨s0, s1, s2, s3, s4, s5, s6, s7, s8, s9, s10, s11⟩ := hSw; go_simp; try with_reducible rfl)
    refine wpAnyH_take (i := 21) (v := ?_) rfl (by kernel_rfl) (by kernel_rfl) (by kernel_rfl) (fun _ _ _ h => h) (Or.inl ⟨by kernel_rfl, ?_⟩) hHeld ?_
    rotate_left
    · (intro w hSw; (try dsimp only at hSw); obtain ⟨s0, s1, s2, s3, s4, s5, s6, s7, s8, s9, s10, s11⟩ := hSw; go_simp; try with_reducible rfl)
    refine wpAnyH_ready (rs := [22]) (by kernel_rfl) (by simp) (AllReadyH.cons rfl (fun K hK => ?_) AllReadyH.nil)
    go_simp
    refine hK.out _ _ hHeld (fun hHeld => ?_)
    clear hK K
    refine wpAnyH_done (by kernel_rfl) ?_ _
    go_wp2_with fail
    go_ret
    exact ⟨rfl, below_then (unhide HB1) (below_then (unhide HB3) (below_then (unhide HB) (unhide HB9)))⟩
end Go.Proofs.YtiljjhipiinafaaGreat
