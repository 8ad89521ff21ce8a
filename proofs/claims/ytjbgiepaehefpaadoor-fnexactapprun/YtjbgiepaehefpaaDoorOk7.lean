/- Contracts of impl.needApps, checkApps (a panic ends there) and AppOk. -/
import Derived.Test.YtjbgiepaehefpaaDoorOk6
import Derived.Defers
import Derived.Recover
namespace Go.Proofs.YtjbgiepaehefpaaDoor
open Go.RowKit
set_option linter.unusedVariables false

theorem apps_long (ps : List (List RuleV)) (h : ¬ ps.length = 4) : appsOk ps = false := by simp [appsOk, h]
theorem apps_stop (ps : List (List RuleV)) (h : ps.all appOk = false) : appsOk ps = false := by simp only [appsOk, h, Bool.and_false]
theorem apps_all (ps : List (List RuleV)) (h : ps.length = 4) (h2 : ps.all appOk = true) : appsOk ps = true := by simp only [appsOk, h2, h, decide_true, Bool.and_self]

set_option maxRecDepth 100000 in
set_option maxHeartbeats 1000000 in
theorem needApps_any (ps : List (List RuleV)) (v : Value) (w : World) (hs : Shapes w 0) (ho : AppsAt w v ps) :
    Calls Tryd.prog 72 #[v] w fun e w' => Says (appsOk ps) e ∧ Below w.heap.size w w' := by
  obtain ⟨ad, cap, rfl, hlc, hm, hcells⟩ := ho
  unfold maxLen at hm
  have KL := hide (apps_long ps)
  have KS := hide (apps_stop ps)
  have KA := hide (apps_all ps)
  generalize appsOk ps = ans at *
  have HC := hide hcells
  have HS := hide hs
  clear hcells hs
  by_cases hl : ps.length = 4
  · have hl' : ((ps.length : Int) == 4) = true := by simp; omega
    have HL := hide hl
    clear hl
    go_enter Tryd.func72, Tryd.ntmps72
    go_wp2_with fail
    refine (need_yes _ _).mono ?_
    rintro e w' ⟨rfl, hw⟩
    obtain rfl := hw.symm
    clear hl'
    go_wp2_with fail
    go_loopw [10] (fun i wr => ∃ k : Nat, k ≤ ps.length ∧ i = .int .i64 k ∧ (ps.take k).all appOk = true ∧ Below w.heap.size w wr) (fun i _ => ps.length - (intOf i).toNat)
    case atStart => exact ⟨0, Nat.zero_le _, rfl, rfl, Below.refl _ _⟩
    case round =>
      obtain ⟨k, hk, rfl, hprev, hb⟩ := hrel
      have HP := hide hprev
      clear hprev
      by_cases hlt : k < ps.length
      · obtain ⟨b, off, had, hc⟩ : ∃ b off, ad = some ⟨b, off, none⟩ ∧ AppCell w b (off + k) ps[k] := by
          rcases unhide HC with h | ⟨b, off, h1, h2⟩
          · rw [h] at hlt; exact absurd hlt (Nat.not_lt_zero _)
          · exact ⟨b, off, h1, h2 k hlt⟩
        obtain ⟨rv, r0, hrs⟩ := hc.on hb
        obtain ⟨rad, rcap, rfl⟩ : ∃ rad rcap, rv = .slice rad ps[k].length rcap := by obtain ⟨x, y, h, _⟩ := hrs; exact ⟨x, y, h⟩
        have hsr := (unhide HS).on hb
        have hmore := fun h => all_take_more appOk ps k hlt (unhide HP) h
        have hstop := fun h => all_false_at appOk ps k hlt h
        clear hc
        generalize ps[k] = rs at r0 hrs hmore hstop
        have HRS := hide hrs
        have HM := hide hmore
        have HT := hide hstop
        have HSR := hide hsr
        clear hmore hstop hsr hrs
        subst had
        go_wp2_with fail
        have hbx : Below wr.heap.size wr (wr.alloc (.cells #[.slice rad rs.length rcap] 34)) := (Below.refl _ _).alloc (Nat.le_refl _) _
        refine (needApp_any rs _ _ ((unhide HSR).on hbx) ((unhide HRS).on hbx)).mono ?_
        rintro e w3 ⟨⟨hok, rfl⟩ | ⟨hok, u, pv, rfl⟩, hb3⟩
        · have hb4 : Below w.heap.size w w3 := below_then hb (below_then hbx hb3)
          have HK2 := hide ((unhide HM) hok)
          clear hok
          go_wp2_with fail
          go_roundw
          case rel => exact ⟨k + 1, by omega, by go_num, unhide HK2, hb4⟩
          case measure => simp [intOf]; omega
        · have hb4 : Below w.heap.size w w3 := below_then hb (below_then hbx hb3)
          have HK2 := hide ((unhide KS) ((unhide HT) hok))
          clear hok
          go_wp2_with fail
          exact ⟨rfl, Or.inr ⟨unhide HK2, u, pv, rfl⟩, hb4⟩
      · have hke : k = ps.length := by omega
        subst hke
        have hall : ps.all appOk = true := by have := unhide HP; rwa [List.take_length] at this
        have HA := hide hall
        clear hall
        go_wp2_with fail
        go_end0
        exact ⟨Or.inl ⟨(unhide KA) (unhide HL) (unhide HA), rfl⟩, hb⟩
  · have hl' : ((ps.length : Int) == 4) = false := by simp; omega
    have HL := hide hl
    clear hl
    go_enter Tryd.func72, Tryd.ntmps72
    go_wp2_with fail
    refine (need_no _ _).mono ?_
    rintro e w' ⟨⟨u, pv, rfl⟩, hw⟩
    obtain rfl := hw.symm
    go_wp2_with fail
    exact ⟨rfl, Or.inr ⟨(unhide KL) (unhide HL), u, pv, rfl⟩, Below.refl _ _⟩

theorem catchApps_panicking (p : Addr) (x : Bool) (u : TypeId) (pv : Value) (older : List PanicEntry) (w : World) (hc : w.cell? p = some (.bool x)) (hz : w.frozen? p = false) :
    CallsD Tryd.prog 71 #[.pointer (some p)] (.panicking ({ v := .iface u pv, recovered := false } :: older)) w fun e u' w' =>
      e = .returned (.tuple #[]) ∧ u' = .panicking ({ v := .iface u pv, recovered := true } :: older) ∧ w' = w.setCell p (.bool false) := by
  refine callsD_of_wpS Tryd.func71 rfl fun c₀ cs hu => ?_
  apply wpS_seq
  apply wpS_region
  simp [wpOpsS, go_sem, recoverD, hu, Tryd.ntmps71, Exit.thenS]
  refine wpS_cond (t := true) (by simp [Act.eval, Array.replicate]) ?_
  simp only [if_true]
  apply wpS_region
  simp [wpOpsS, go_sem, hc, hz, bodyPostS, results, Tryd.results71]

theorem catchApps_idle (p : Addr) (w : World) :
    CallsD Tryd.prog 71 #[.pointer (some p)] .returning w fun e u' w' => e = .returned (.tuple #[]) ∧ u' = .returning ∧ w' = w := by
  refine callsD_of_wpS Tryd.func71 rfl fun c₀ cs hu => ?_
  apply wpS_seq
  apply wpS_region
  simp [wpOpsS, go_sem, recoverD, hu, Tryd.ntmps71, Exit.thenS]
  refine wpS_cond (t := false) (by simp [Act.eval, Array.replicate]) ?_
  simp only [Bool.false_eq_true, if_false]
  refine wpS_of_wp (wp_skip ?_)
  cases c₀
  simp_all [bodyPostS, results, Tryd.results71]

theorem checkApps_any (ps : List (List RuleV)) (v : Value) (w : World) (hs : Shapes w 0) (ho : AppsAt w v ps) :
    Calls Tryd.prog 49 #[v] w fun e w' => e = .returned (.bool (appsOk ps)) ∧ Below w.heap.size w w' := by
  have hmf : ∀ (fn : Fn) (first cap : Array Value) (w : World), (Instr.makeFunc fn first cap).run Tryd.prog w = .ok (.func fn first cap) w := fun _ _ _ _ => rfl
  have hbx : ∀ c, Below w.heap.size w (w.alloc (.cells #[.bool false] c)) := fun c => (Below.refl _ _).alloc (Nat.le_refl _) _
  have HS := hide hs
  have HO := hide ho
  clear hs ho
  go_enter_defers Tryd.func49, Tryd.ntmps49
  go_wp2_with fail
  refine (needApps_any ps v _ ((unhide HS).on (hbx _)) ((unhide HO).on (hbx _))).mono ?_
  rintro e w3 ⟨⟨hok, rfl⟩ | ⟨hok, u, pv, rfl⟩, hb3⟩
  · have c0 : w3.cell? ⟨w.heap.size, 0, none⟩ = some (.bool false) := cell_on hb3 (by simp [go_sem])
    have f0 : w3.frozen? ⟨w.heap.size, 0, none⟩ = false := by rw [hb3.frozen (by simp)]; simp [go_sem]
    have hb4 := below_then (hbx _) hb3
    have HOK := hide hok
    clear hok
    go_wp2_with fail
    refine leaves_cons (f := 71) (args := #[.pointer (some ⟨w.heap.size, 0, none⟩)]) (by simp) (by simp [go_sem]) ?_
    refine (catchApps_idle ⟨w.heap.size, 0, none⟩ _).mono ?_
    rintro e u' w'' ⟨rfl, rfl, rfl⟩
    have hb5 : Below w.heap.size w (w3.setCell ⟨w.heap.size, 0, none⟩ (.bool true)) := hb4.setCell (Nat.le_refl _) _
    simp [Leaves, settle, results, Tryd.results49, go_sem, unhide HOK, hb5, c0]
  · have c0 : w3.cell? ⟨w.heap.size, 0, none⟩ = some (.bool false) := cell_on hb3 (by simp [go_sem])
    have f0 : w3.frozen? ⟨w.heap.size, 0, none⟩ = false := by rw [hb3.frozen (by simp)]; simp [go_sem]
    have hb4 := below_then (hbx _) hb3
    have HOK := hide hok
    clear hok
    go_wp2_with fail
    refine leaves_cons (f := 71) (args := #[.pointer (some ⟨w.heap.size, 0, none⟩)]) (by simp) (by simp [go_sem]) ?_
    refine (catchApps_panicking ⟨w.heap.size, 0, none⟩ false u pv [] _ c0 f0).mono ?_
    rintro e u' w'' ⟨rfl, rfl, rfl⟩
    have hb5 : Below w.heap.size w (w3.setCell ⟨w.heap.size, 0, none⟩ (.bool false)) := hb4.setCell (Nat.le_refl _) _
    simp [Leaves, settle, results, Tryd.results49, go_sem, unhide HOK, hb5, c0]
theorem AppOk_any (ps : List (List RuleV)) (v : Value) (w : World) (hs : Shapes w 0) (ho : AppsAt w v ps) :
    Calls Tryd.prog 16 #[v] w fun e w' => e = .returned (.bool (appsOk ps)) ∧ Below w.heap.size w w' := by
  have HS := hide hs
  have HO := hide ho
  clear hs ho
  go_enter Tryd.func16, Tryd.ntmps16
  go_wp2_with fail
  refine (checkApps_any ps v _ (unhide HS) (unhide HO)).mono ?_
  rintro e w3 ⟨rfl, hb3⟩
  go_wp2_with fail
  go_ret
  exact ⟨rfl, hb3⟩

end Go.Proofs.YtjbgiepaehefpaaDoor
