/- The walk of laws.FnExactEventSort: it answers true. -/
import Derived.Test.YtmkbacpkemmepaaSortE
import Derived.Test.YtmkbacpkemmepaaFlatEvent
namespace Go.Proofs.Ytmkbacpkemmepaa.E
open Go.RowKit
set_option linter.unusedVariables false
set_option linter.unusedSimpArgs false

theorem rows_evs : ∀ (rs : List (List Int)), (∀ r ∈ rs, r.length = 7) → ∃ os : List EvV, rs = os.map evRow
  | [], _ => ⟨[], rfl⟩
  | r :: t, h => by
    obtain ⟨os, rfl⟩ := rows_evs t (fun x hx => h x (List.mem_cons_of_mem _ hx))
    have hl := h r (List.mem_cons_self ..)
    match r, hl with
    | [a, b, c, d, e, f, g], _ => exact ⟨⟨a, b, c, d, e, f, g⟩ :: os, rfl⟩

set_option maxRecDepth 100000 in
set_option maxHeartbeats 1000000 in
theorem lawEventSort_walk (v : Value) (os : List EvV) (w : World) (h : RowsAt 7 w v (os.map evRow)) :
    Calls Try.prog 6 #[v] w fun e w' => e = .returned (.bool true) ∧ Below w.heap.size w w' := by
  have S := evLess_strict
  have hqm : ∀ z : Int, (z != z) = false := by intro z; simp
  have HH := hide h
  clear h
  go_enter Try.func6, Try.ntmps6
  go_wp2_with fail
  refine (szEventS_any v _ 1048576 w (unhide HH) (by omega) (by omega)).mono ?_
  rintro e w0 ⟨r, rfl, hr, hw0⟩
  obtain rfl := hw0.symm
  rw [List.length_map] at hr
  rcases hr with ⟨rfl, hbig⟩ | ⟨hr0, hr1⟩
  · go_wp2_with fail
    go_ret
    exact ⟨rfl, Below.refl _ _⟩
  have hlen : os.length ≤ 1048576 := by omega
  clear hr1
  go_wp2_with fail
  refine (toEventS_any v _ w (unhide HH) (by rw [List.length_map]; exact hlen)).mono ?_
  rintro e w1 ⟨v1, rfl, hr1, hb1⟩
  have HR1 := hide hr1
  have HB1 := hide hb1
  clear hr1 hb1
  go_wp2_with fail
  refine (specEventSort_any S v1 os w1 (unhide HR1).at (by omega)).mono ?_
  rintro e w2 ⟨v2, zs, rfl, ha2, hp2, hr2, hb2⟩
  have HZ := hide (And.intro hp2 ha2)
  have HR2 := hide hr2
  have HB2 := hide (below_then (unhide HB1) hb2)
  have hsw : w.heap.size ≤ w2.heap.size := (unhide HB2).size
  clear hp2 ha2 hr2 hb2 HB1 HR1
  go_wp2_with fail
  refine (toEventS_any v _ w2 ((unhide HH).on (unhide HB2)) (by rw [List.length_map]; exact hlen)).mono ?_
  rintro e w3 ⟨v3, rfl, hr3, hb3⟩
  have HR3 := hide hr3
  have HR23 := hide ((unhide HR2).on hb3)
  have HU2 : Hid (∀ g, v2.ownBlock = some g → g < w2.heap.size) := hide (fun g hg => ((unhide HR2).blk g hg).2)
  have HB3 := hide (below_then (unhide HB2) hb3)
  have hs3 : w2.heap.size ≤ w3.heap.size := hb3.size
  clear hr3 hb3 HR2
  go_wp2_with fail
  refine (implEventSort_any S v3 os w3 (unhide HR3).at (by omega)).mono ?_
  rintro e w4 ⟨v4, zs4, rfl, ha4, hp4, hzl4, hr4, hb4⟩
  obtain rfl : zs4 = zs := up_unique S ha4 (unhide HZ).2 (fun a => (hp4 a).trans ((unhide HZ).1 a).symm)
  have hzl : zs4.length ≤ 1048576 := by omega
  have HR4 := hide hr4
  have HR24 := hide ((unhide HR23).on hb4)
  have HR34 := hide ((unhide HR3).on hb4)
  have HU3 : Hid (∀ g, v3.ownBlock = some g → w2.heap.size ≤ g ∧ g < w3.heap.size) := hide (fun g hg => (unhide HR3).blk g hg)
  have HU4 : Hid (∀ g, v4.ownBlock = some g → w3.heap.size ≤ g) := hide (fun g hg => ((unhide HR4).blk g hg).1)
  have HB4 := hide (below_then (unhide HB3) hb4)
  clear hp4 ha4 hr4 hb4 HR3 HR23 HB3 HB2
  go_wp2_with fail
  refine (eqEventS_any v4 v2 _ w4 (unhide HR4).at (unhide HR24).at).mono ?_
  rintro e w5 ⟨rfl, hb5⟩
  have HR45 := hide ((unhide HR4).on hb5)
  have HR25 := hide ((unhide HR24).on hb5)
  have HR35 := hide ((unhide HR34).on hb5)
  have HB5 := hide (below_then (unhide HB4) hb5)
  clear hb5 HR4 HR24 HR34 HB4
  go_wp2_with fail
  refine (toEventS_any v _ w5 ((unhide HH).on (unhide HB5)) (by rw [List.length_map]; exact hlen)).mono ?_
  rintro e w6 ⟨v6, rfl, hr6, hb6⟩
  have HR66 := hide hr6
  have HR46 := hide ((unhide HR45).on hb6)
  have HR26 := hide ((unhide HR25).on hb6)
  have HR36 := hide ((unhide HR35).on hb6)
  have HB6 := hide (below_then (unhide HB5) hb6)
  clear hr6 hb6 HR45 HR25 HR35 HB5
  go_wp2_with fail
  refine (eqEventS_any v3 v6 _ w6 (unhide HR36).at (unhide HR66).at).mono ?_
  rintro e w7 ⟨rfl, hb7⟩
  have HR47 := hide ((unhide HR46).on hb7)
  have HR27 := hide ((unhide HR26).on hb7)
  have HR37 := hide ((unhide HR36).on hb7)
  have HB7 := hide (below_then (unhide HB6) hb7)
  clear hb7 HR46 HR26 HR36 HB6 HR66
  go_wp2_with fail
  refine (markEventS_any _ _ v3 os.length 1 w7 (by have := (unhide HR37).room; rwa [List.length_map] at this) (by omega) (by omega) (by omega)).mono ?_
  rintro e w8 ⟨rfl, _, ho8⟩
  have HR48 := hide ((unhide HR47).far ho8 (fun g h1 h2 => by have := (unhide HU4) g h1; have := (unhide HU3) g h2; omega))
  have HR28 := hide ((unhide HR27).far ho8 (fun g h1 h2 => by have := (unhide HU2) g h1; have := (unhide HU3) g h2; omega))
  have HB8 := hide ((unhide HB7).trans (ho8.below w.heap.size (fun g hg => Nat.le_trans hsw ((unhide HU3) g hg).1)))
  clear ho8 HR47 HR27 HR37 HB7
  have hk1 : ¬ (1 + 7 * (os.length : Int) < 0) := by omega
  have hk2 : (0 : Int) ≤ 1 + 7 * (os.length : Int) := by omega
  have hk3 : decide (1 + 7 * (os.length : Int) < 0) = false := decide_eq_false hk1
  generalize 1 + 7 * (os.length : Int) = kk at *
  go_wp2_with fail
  refine (eqEventS_any v4 v2 _ w8 (unhide HR48).at (unhide HR28).at).mono ?_
  rintro e w9 ⟨rfl, hb9⟩
  have HR49 := hide ((unhide HR48).on hb9)
  have HR29 := hide ((unhide HR28).on hb9)
  have HB9 := hide ((unhide HB8).trans (hb9.mono (unhide HB8).size))
  clear hb9 HR48 HR28 HB8 hk1 hk2 hk3
  go_wp2_with fail
  refine (markEventS_any _ _ v4 zs4.length 1 w9 (by have := (unhide HR49).room; rwa [List.length_map] at this) (by omega) (by omega) (by omega)).mono ?_
  rintro e wA ⟨rfl, hmA, hoA⟩
  have HMA := hide hmA
  have HR2A := hide ((unhide HR29).far hoA (fun g h1 h2 => by have := (unhide HU2) g h1; have := (unhide HU4) g h2; omega))
  have HBA := hide ((unhide HB9).trans (hoA.below w.heap.size (fun g hg => Nat.le_trans (Nat.le_trans hsw hs3) ((unhide HU4) g hg))))
  clear hmA hoA HR49 HR29 HB9
  go_wp2_with fail
  refine (heldEventS_any v4 zs4.length 1 wA (unhide HMA).at (by omega) (by omega) (by omega)).mono ?_
  rintro e wB ⟨rfl, hwB⟩
  obtain rfl := hwB.symm
  have hq1 : ¬ (1 + 7 * (zs4.length : Int) < 0) := by omega
  have hq2 : (0 : Int) ≤ 1 + 7 * (zs4.length : Int) := by omega
  have HQ : Hid (∀ z : Int, 1 + 7 * (zs4.length : Int) = 1 + 7 * (zs4.length : Int)) := hide (fun _ => rfl)
  have hheld : ∀ W : World, RowsAt 7 W v4 (markRows 7 1 zs4.length) → Calls Try.prog 21 #[v4, .int .i64 1] W fun e w' => e = .returned (.int .i64 (1 + 7 * zs4.length)) ∧ w' = W := fun W hW => heldEventS_any v4 zs4.length 1 W hW (by omega) (by omega) (by omega)
  have HHELD := hide hheld
  clear hheld HQ
  generalize 1 + 7 * (zs4.length : Int) = qq at *
  go_wp2_with fail
  refine (toEventS_any v _ wA ((unhide HH).on (unhide HBA)) (by rw [List.length_map]; exact hlen)).mono ?_
  rintro e wC ⟨vC, rfl, hrC, hbC⟩
  have HRC := hide hrC
  have HMC := hide ((unhide HMA).on hbC)
  have HR2C := hide ((unhide HR2A).on hbC)
  have HBC := hide ((unhide HBA).trans (hbC.mono (unhide HBA).size))
  clear hrC hbC HMA HR2A HBA
  go_wp2_with fail
  refine (implEventSort_any S vC os wC (unhide HRC).at (by omega)).mono ?_
  rintro e wD ⟨vD, zsD, rfl, haD, hpD, _, hrD, hbD⟩
  obtain rfl : zsD = zs4 := up_unique S haD (unhide HZ).2 (fun a => (hpD a).trans ((unhide HZ).1 a).symm)
  have HRD := hide hrD
  have HMD := hide ((unhide HMC).on hbD)
  have HR2D := hide ((unhide HR2C).on hbD)
  have HBD := hide ((unhide HBC).trans (hbD.mono (unhide HBC).size))
  clear hpD haD hrD hbD HMC HR2C HBC HRC
  go_wp2_with fail
  refine (eqEventS_any vD v2 _ wD (unhide HRD).at (unhide HR2D).at).mono ?_
  rintro e wE ⟨rfl, hbE⟩
  have HME := hide ((unhide HMD).on hbE)
  have HBE := hide ((unhide HBD).trans (hbE.mono (unhide HBD).size))
  clear hbE HMD HR2D HBD HRD
  go_wp2_with fail
  refine ((unhide HHELD) wE (unhide HME).at).mono ?_
  rintro e wF ⟨rfl, hwF⟩
  obtain rfl := hwF.symm
  go_wp2_with fail
  go_ret
  exact ⟨rfl, unhide HBE⟩

theorem lawEventSort_rows (v : Value) (rs : List (List Int)) (w : World) (h : RowsAt 7 w v rs) (hl : ∀ r ∈ rs, r.length = 7) :
    Calls Try.prog 6 #[v] w fun e w' => e = .returned (.bool true) ∧ Below w.heap.size w w' := by
  obtain ⟨os, rfl⟩ := rows_evs rs hl
  exact lawEventSort_walk v os w h
end Go.Proofs.Ytmkbacpkemmepaa.E
