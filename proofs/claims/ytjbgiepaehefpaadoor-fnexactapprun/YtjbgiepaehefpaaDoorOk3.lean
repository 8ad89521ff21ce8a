/- Contract of impl.needOp: an op is in form, or a panic says that it is not. -/
import Derived.Test.YtjbgiepaehefpaaDoorOk2
namespace Go.Proofs.YtjbgiepaehefpaaDoor
open Go.RowKit
set_option linter.unusedVariables false
def chk (p : ByteArray) (k : Nat) (n : Int) : Bool := if h : k < p.size then partOk (p[k].toNat : Int) n else n == 0
def goodPart (c : Int) : Prop := c = 114 ∨ c = 110 ∨ c = 112 ∨ c = 107 ∨ c = 111 ∨ c = 108

set_option maxRecDepth 100000 in
set_option maxHeartbeats 1000000 in
theorem needOp_gen (d x1 x2 x3 x4 : Int) (p : ByteArray) (w : World) (hd1 : 1 ≤ d) (hd7 : d ≤ 7) (hps : p.size ≤ 4) (hp : w.cell? ⟨0, d.toNat * 2 + 1, none⟩ = some (.string p)) (hgood : ∀ k (h : k < p.size), goodPart (p[k].toNat : Int)) :
    Calls Tryd.prog 116 #[.agg #[.int .i64 d, .int .i64 x1, .int .i64 x2, .int .i64 x3, .int .i64 x4]] w fun e w' =>
      ((chk p 0 x1 && chk p 1 x2 && chk p 2 x3 && chk p 3 x4) = true ∧ e = .returned (.tuple #[]) ∨ (chk p 0 x1 && chk p 1 x2 && chk p 2 x3 && chk p 3 x4) = false ∧ ∃ u pv, e = .panicked [{ v := .iface u pv, recovered := false }]) ∧ Below w.heap.size w w' := by
  have hin : inR 1 7 d = true := by simp [inR]; omega
  have hg : 0 < w.heap.size := World.block_lt_of_cell? _ _ hp
  have hp' : ∀ o, (w.alloc o).cell? ⟨0, d.toNat * 2 + 1, none⟩ = some (.string p) := fun o => by rw [World.cell?_alloc_past _ _ _ hg]; exact hp
  have HG := hide hgood
  clear hgood hp
  go_enter Tryd.func116, Tryd.ntmps116
  go_wp2_with fail
  refine (within_any _ _ _ _).mono ?_; rintro e w' ⟨rfl, rfl⟩
  rw [hin]
  go_wp2_with fail
  refine (need_yes _ _).mono ?_; rintro e w' ⟨rfl, rfl⟩
  go_wp2_with fail
  refine (opParts_any ⟨d, x1, x2, x3, x4⟩ _).mono ?_; rintro e w1 ⟨rfl, hb⟩
  have hb' : Below w.heap.size w w1 := ((Below.refl _ _).alloc (Nat.le_refl _) _).trans (hb.mono (by simp))
  clear hb hp' hin
  have i0 : ∀ w : World, (Instr.index 131 (.agg #[.int .i64 x1, .int .i64 x2, .int .i64 x3, .int .i64 x4]) (.int .i64 0)).run Tryd.prog w = .ok (.int .i64 x1) w := fun _ => by kernel_rfl
  have i1 : ∀ w : World, (Instr.index 131 (.agg #[.int .i64 x1, .int .i64 x2, .int .i64 x3, .int .i64 x4]) (.int .i64 1)).run Tryd.prog w = .ok (.int .i64 x2) w := fun _ => by kernel_rfl
  have i2 : ∀ w : World, (Instr.index 131 (.agg #[.int .i64 x1, .int .i64 x2, .int .i64 x3, .int .i64 x4]) (.int .i64 2)).run Tryd.prog w = .ok (.int .i64 x3) w := fun _ => by kernel_rfl
  have i3 : ∀ w : World, (Instr.index 131 (.agg #[.int .i64 x1, .int .i64 x2, .int .i64 x3, .int .i64 x4]) (.int .i64 3)).run Tryd.prog w = .ok (.int .i64 x4) w := fun _ => by kernel_rfl
  go_wp2_with fail
  go_loop [16] (fun i => ∃ k : Nat, k ≤ 4 ∧ i = .int .i64 k ∧ (0 < k → chk p 0 x1 = true) ∧ (1 < k → chk p 1 x2 = true) ∧ (2 < k → chk p 2 x3 = true) ∧ (3 < k → chk p 3 x4 = true)) (fun i => 4 - (intOf i).toNat)
  case atStart => exact ⟨0, by omega, rfl, fun h => absurd h (by omega), fun h => absurd h (by omega), fun h => absurd h (by omega), fun h => absurd h (by omega)⟩
  case round =>
    obtain ⟨k, hk, rfl, hprev⟩ := hrel
    have hk5 : k = 0 ∨ k = 1 ∨ k = 2 ∨ k = 3 ∨ k = 4 := by omega
    clear hk
    rcases hk5 with rfl | rfl | rfl | rfl | rfl
    · -- round 0
      rcases Nat.lt_or_ge 0 p.size with hlt | hge
      · have hgp := HG.out 0 hlt
        have hce : chk p 0 x1 = partOk (p[0].toNat : Int) x1 := by simp [chk, hlt]
        have HE := hide hce
        have HP := hide hprev
        clear hce hprev
        go_wp2_with fail
        refine (partInForm_any _ _ _ hgp).mono ?_; rintro e w' ⟨rfl, rfl⟩
        cases hpo : partOk (p[0].toNat : Int) x1
        · go_wp2_with fail
          refine (need_no _ _).mono ?_; rintro e w' ⟨⟨u, pv, rfl⟩, rfl⟩
          go_wp2_with fail
          refine ⟨rfl, Or.inr ⟨?_, u, pv, rfl⟩, hb'⟩
          have h0 := unhide HE
          rw [hpo] at h0
          simp [h0]
        · have HO := hide hpo
          clear hpo
          go_wp2_with fail
          refine (need_yes _ _).mono ?_; rintro e w' ⟨rfl, rfl⟩
          go_wp2_with fail
          go_round
          case rel => exact ⟨1, by omega, rfl, ⟨fun _ => (unhide HE).trans (unhide HO), fun h => absurd h (by omega), fun h => absurd h (by omega), fun h => absurd h (by omega)⟩⟩
          case measure => simp [intOf]
      · have hce : chk p 0 x1 = (x1 == 0) := by simp [chk]; omega
        have HE := hide hce
        have HP := hide hprev
        clear hce hprev
        by_cases hz : x1 = 0
        · have hz' : (x1 == 0) = true := by simp [hz]
          have HZ := hide hz
          clear hz
          go_wp2_with fail
          refine (need_yes _ _).mono ?_; rintro e w' ⟨rfl, rfl⟩
          go_wp2_with fail
          go_round
          case rel => exact ⟨1, by omega, rfl, ⟨fun _ => (unhide HE).trans hz', fun h => absurd h (by omega), fun h => absurd h (by omega), fun h => absurd h (by omega)⟩⟩
          case measure => simp [intOf]
        · have hz' : (x1 == 0) = false := by simp [hz]
          have HZ := hide hz
          clear hz
          go_wp2_with fail
          refine (need_no _ _).mono ?_; rintro e w' ⟨⟨u, pv, rfl⟩, rfl⟩
          go_wp2_with fail
          refine ⟨rfl, Or.inr ⟨?_, u, pv, rfl⟩, hb'⟩
          have h0 := unhide HE
          rw [hz'] at h0
          simp [h0]
    · -- round 1
      rcases Nat.lt_or_ge 1 p.size with hlt | hge
      · have hgp := HG.out 1 hlt
        have hce : chk p 1 x2 = partOk (p[1].toNat : Int) x2 := by simp [chk, hlt]
        have HE := hide hce
        have HP := hide hprev
        clear hce hprev
        go_wp2_with fail
        refine (partInForm_any _ _ _ hgp).mono ?_; rintro e w' ⟨rfl, rfl⟩
        cases hpo : partOk (p[1].toNat : Int) x2
        · go_wp2_with fail
          refine (need_no _ _).mono ?_; rintro e w' ⟨⟨u, pv, rfl⟩, rfl⟩
          go_wp2_with fail
          refine ⟨rfl, Or.inr ⟨?_, u, pv, rfl⟩, hb'⟩
          have h0 := unhide HE
          rw [hpo] at h0
          simp [h0]
        · have HO := hide hpo
          clear hpo
          go_wp2_with fail
          refine (need_yes _ _).mono ?_; rintro e w' ⟨rfl, rfl⟩
          go_wp2_with fail
          go_round
          case rel => exact ⟨2, by omega, rfl, ⟨fun _ => (unhide HP).1 (by omega), fun _ => (unhide HE).trans (unhide HO), fun h => absurd h (by omega), fun h => absurd h (by omega)⟩⟩
          case measure => simp [intOf]
      · have hce : chk p 1 x2 = (x2 == 0) := by simp [chk]; omega
        have HE := hide hce
        have HP := hide hprev
        clear hce hprev
        by_cases hz : x2 = 0
        · have hz' : (x2 == 0) = true := by simp [hz]
          have HZ := hide hz
          clear hz
          go_wp2_with fail
          refine (need_yes _ _).mono ?_; rintro e w' ⟨rfl, rfl⟩
          go_wp2_with fail
          go_round
          case rel => exact ⟨2, by omega, rfl, ⟨fun _ => (unhide HP).1 (by omega), fun _ => (unhide HE).trans hz', fun h => absurd h (by omega), fun h => absurd h (by omega)⟩⟩
          case measure => simp [intOf]
        · have hz' : (x2 == 0) = false := by simp [hz]
          have HZ := hide hz
          clear hz
          go_wp2_with fail
          refine (need_no _ _).mono ?_; rintro e w' ⟨⟨u, pv, rfl⟩, rfl⟩
          go_wp2_with fail
          refine ⟨rfl, Or.inr ⟨?_, u, pv, rfl⟩, hb'⟩
          have h0 := unhide HE
          rw [hz'] at h0
          simp [h0]
    · -- round 2
      rcases Nat.lt_or_ge 2 p.size with hlt | hge
      · have hgp := HG.out 2 hlt
        have hce : chk p 2 x3 = partOk (p[2].toNat : Int) x3 := by simp [chk, hlt]
        have HE := hide hce
        have HP := hide hprev
        clear hce hprev
        go_wp2_with fail
        refine (partInForm_any _ _ _ hgp).mono ?_; rintro e w' ⟨rfl, rfl⟩
        cases hpo : partOk (p[2].toNat : Int) x3
        · go_wp2_with fail
          refine (need_no _ _).mono ?_; rintro e w' ⟨⟨u, pv, rfl⟩, rfl⟩
          go_wp2_with fail
          refine ⟨rfl, Or.inr ⟨?_, u, pv, rfl⟩, hb'⟩
          have h0 := unhide HE
          rw [hpo] at h0
          simp [h0]
        · have HO := hide hpo
          clear hpo
          go_wp2_with fail
          refine (need_yes _ _).mono ?_; rintro e w' ⟨rfl, rfl⟩
          go_wp2_with fail
          go_round
          case rel => exact ⟨3, by omega, rfl, ⟨fun _ => (unhide HP).1 (by omega), fun _ => (unhide HP).2.1 (by omega), fun _ => (unhide HE).trans (unhide HO), fun h => absurd h (by omega)⟩⟩
          case measure => simp [intOf]
      · have hce : chk p 2 x3 = (x3 == 0) := by simp [chk]; omega
        have HE := hide hce
        have HP := hide hprev
        clear hce hprev
        by_cases hz : x3 = 0
        · have hz' : (x3 == 0) = true := by simp [hz]
          have HZ := hide hz
          clear hz
          go_wp2_with fail
          refine (need_yes _ _).mono ?_; rintro e w' ⟨rfl, rfl⟩
          go_wp2_with fail
          go_round
          case rel => exact ⟨3, by omega, rfl, ⟨fun _ => (unhide HP).1 (by omega), fun _ => (unhide HP).2.1 (by omega), fun _ => (unhide HE).trans hz', fun h => absurd h (by omega)⟩⟩
          case measure => simp [intOf]
        · have hz' : (x3 == 0) = false := by simp [hz]
          have HZ := hide hz
          clear hz
          go_wp2_with fail
          refine (need_no _ _).mono ?_; rintro e w' ⟨⟨u, pv, rfl⟩, rfl⟩
          go_wp2_with fail
          refine ⟨rfl, Or.inr ⟨?_, u, pv, rfl⟩, hb'⟩
          have h0 := unhide HE
          rw [hz'] at h0
          simp [h0]
    · -- round 3
      rcases Nat.lt_or_ge 3 p.size with hlt | hge
      · have hgp := HG.out 3 hlt
        have hce : chk p 3 x4 = partOk (p[3].toNat : Int) x4 := by simp [chk, hlt]
        have HE := hide hce
        have HP := hide hprev
        clear hce hprev
        go_wp2_with fail
        refine (partInForm_any _ _ _ hgp).mono ?_; rintro e w' ⟨rfl, rfl⟩
        cases hpo : partOk (p[3].toNat : Int) x4
        · go_wp2_with fail
          refine (need_no _ _).mono ?_; rintro e w' ⟨⟨u, pv, rfl⟩, rfl⟩
          go_wp2_with fail
          refine ⟨rfl, Or.inr ⟨?_, u, pv, rfl⟩, hb'⟩
          have h0 := unhide HE
          rw [hpo] at h0
          simp [h0]
        · have HO := hide hpo
          clear hpo
          go_wp2_with fail
          refine (need_yes _ _).mono ?_; rintro e w' ⟨rfl, rfl⟩
          go_wp2_with fail
          go_round
          case rel => exact ⟨4, by omega, rfl, ⟨fun _ => (unhide HP).1 (by omega), fun _ => (unhide HP).2.1 (by omega), fun _ => (unhide HP).2.2.1 (by omega), fun _ => (unhide HE).trans (unhide HO)⟩⟩
          case measure => simp [intOf]
      · have hce : chk p 3 x4 = (x4 == 0) := by simp [chk]; omega
        have HE := hide hce
        have HP := hide hprev
        clear hce hprev
        by_cases hz : x4 = 0
        · have hz' : (x4 == 0) = true := by simp [hz]
          have HZ := hide hz
          clear hz
          go_wp2_with fail
          refine (need_yes _ _).mono ?_; rintro e w' ⟨rfl, rfl⟩
          go_wp2_with fail
          go_round
          case rel => exact ⟨4, by omega, rfl, ⟨fun _ => (unhide HP).1 (by omega), fun _ => (unhide HP).2.1 (by omega), fun _ => (unhide HP).2.2.1 (by omega), fun _ => (unhide HE).trans hz'⟩⟩
          case measure => simp [intOf]
        · have hz' : (x4 == 0) = false := by simp [hz]
          have HZ := hide hz
          clear hz
          go_wp2_with fail
          refine (need_no _ _).mono ?_; rintro e w' ⟨⟨u, pv, rfl⟩, rfl⟩
          go_wp2_with fail
          refine ⟨rfl, Or.inr ⟨?_, u, pv, rfl⟩, hb'⟩
          have h0 := unhide HE
          rw [hz'] at h0
          simp [h0]
    · have HP := hide hprev
      clear hprev
      go_wp2_with fail
      go_end0
      refine ⟨Or.inl ⟨?_, rfl⟩, hb'⟩
      have hprev := unhide HP
      simp [hprev.1 (by omega), hprev.2.1 (by omega), hprev.2.2.1 (by omega), hprev.2.2.2 (by omega)]
end Go.Proofs.YtjbgiepaehefpaaDoor
