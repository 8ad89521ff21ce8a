/- The walk of laws.FnExactAppRun: it answers true. -/
import Derived.Test.YtjbgiepaehefpaaDoorAr1
import Derived.Deep.CutRange
namespace Go.Proofs.YtjbgiepaehefpaaDoor
open Go.RowKit
set_option linter.unusedVariables false
set_option linter.unusedSimpArgs false

def aboxed (w : World) (rv : Value) (s : StV) (ev : EvV) : World :=
  ((w.alloc (Obj.cells #[rv] 58)).alloc (Obj.cells #[.int .i64 s.x, .int .i64 s.y, .int .i64 s.c] 59)).alloc
    (Obj.cells #[.int .i64 ev.time, .int .i64 ev.to, .int .i64 ev.src, .int .i64 ev.count, .int .i64 ev.n, .int .i64 ev.kind, .int .i64 ev.arg] 60)

theorem aboxes_at (w : World) (rv : Value) (s : StV) (ev : EvV) : ABoxes (aboxed w rv s ev) w.heap.size rv s ev := by
  obtain ⟨x, y, c⟩ := s
  obtain ⟨time, tto, src, count, n, kind, arg⟩ := ev
  unfold aboxed
  refine ⟨?_, ?_, ?_, ?_, ?_, ?_, ?_, ?_, ?_, ?_, ?_⟩ <;> simp [go_sem]

theorem aboxed_below (w : World) (rv : Value) (s : StV) (ev : EvV) : Below w.heap.size w (aboxed w rv s ev) := by
  unfold aboxed
  exact (((Below.refl _ _).alloc (Nat.le_refl _) _).alloc (by simp) _).alloc (by simp; omega) _

/-- What stays as it is through a statement: the arguments' places. -/
theorem sAr_of {W1 : World} {N : Nat} {rv : Value} {x y c time tto src count n kind arg : Int} (h : ABoxes W1 N rv ⟨x, y, c⟩ ⟨time, tto, src, count, n, kind, arg⟩) {w' : World} (hb : Below W1.heap.size W1 w') :
    w'.cell? ⟨N, 0, none⟩ = some rv ∧ w'.cell? ⟨N + 1, 0, none⟩ = some (.int .i64 x) ∧ w'.cell? ⟨N + 1, 1, none⟩ = some (.int .i64 y) ∧ w'.cell? ⟨N + 1, 2, none⟩ = some (.int .i64 c) ∧
    w'.cell? ⟨N + 1 + 1, 0, none⟩ = some (.int .i64 time) ∧ w'.cell? ⟨N + 1 + 1, 1, none⟩ = some (.int .i64 tto) ∧ w'.cell? ⟨N + 1 + 1, 2, none⟩ = some (.int .i64 src) ∧ w'.cell? ⟨N + 1 + 1, 3, none⟩ = some (.int .i64 count) ∧ w'.cell? ⟨N + 1 + 1, 4, none⟩ = some (.int .i64 n) ∧ w'.cell? ⟨N + 1 + 1, 5, none⟩ = some (.int .i64 kind) ∧ w'.cell? ⟨N + 1 + 1, 6, none⟩ = some (.int .i64 arg) ∧ Below W1.heap.size W1 w' :=
  have k := h.on hb
  ⟨k.a0, k.s0, k.s1, k.s2, k.v0, k.v1, k.v2, k.v3, k.v4, k.v5, k.v6, hb⟩

/-- .. and one cell more. -/
theorem sAr2_of {W1 : World} {N p : Nat} {v : Value} {rv : Value} {x y c time tto src count n kind arg : Int} (hp : W1.cell? ⟨p, 0, none⟩ = some v) (h : ABoxes W1 N rv ⟨x, y, c⟩ ⟨time, tto, src, count, n, kind, arg⟩) {w' : World} (hb : Below W1.heap.size W1 w') :
    w'.cell? ⟨p, 0, none⟩ = some v ∧ w'.cell? ⟨N, 0, none⟩ = some rv ∧ w'.cell? ⟨N + 1, 0, none⟩ = some (.int .i64 x) ∧ w'.cell? ⟨N + 1, 1, none⟩ = some (.int .i64 y) ∧ w'.cell? ⟨N + 1, 2, none⟩ = some (.int .i64 c) ∧
    w'.cell? ⟨N + 1 + 1, 0, none⟩ = some (.int .i64 time) ∧ w'.cell? ⟨N + 1 + 1, 1, none⟩ = some (.int .i64 tto) ∧ w'.cell? ⟨N + 1 + 1, 2, none⟩ = some (.int .i64 src) ∧ w'.cell? ⟨N + 1 + 1, 3, none⟩ = some (.int .i64 count) ∧ w'.cell? ⟨N + 1 + 1, 4, none⟩ = some (.int .i64 n) ∧ w'.cell? ⟨N + 1 + 1, 5, none⟩ = some (.int .i64 kind) ∧ w'.cell? ⟨N + 1 + 1, 6, none⟩ = some (.int .i64 arg) ∧ Below W1.heap.size W1 w' :=
  ⟨cell_on hb hp, sAr_of h hb⟩

set_option maxRecDepth 100000 in
set_option maxHeartbeats 8000000 in
theorem lawAppRun_walk (rv : Value) (rs : List RuleV) (s : StV) (ev : EvV) (w : World) (hsh : Shapes w 0) (h : RulesAt w rv rs) :
    Calls Tryd.prog 10 #[.agg #[rv], stAgg s, evAgg ev] w fun e w' => e = .returned (.bool true) ∧ Below w.heap.size w w' := by
  have hb0 := aboxed_below w rv s ev
  have hx0 := aboxes_at w rv s ev
  have HSH := hide hsh
  have HRA := hide h
  obtain ⟨ra, rc, rfl⟩ : ∃ a c, rv = .slice a rs.length c := by obtain ⟨a, b, h, _⟩ := h; exact ⟨a, b, h⟩
  clear hsh h
  obtain ⟨R, hR⟩ : ∃ R, R = appRun rs s ev := ⟨_, rfl⟩
  obtain ⟨x, y, c⟩ := s
  obtain ⟨time, tto, src, count, n, kind, arg⟩ := ev
  have HX0 := hide hx0
  have HB0 := hide hb0
  have HR := hide hR
  clear hx0 hb0 hR
  go_enter Tryd.func10, Tryd.ntmps10
  go_upto_region 2 with fail
  unfold aboxed at HX0 HB0
  dsimp only at HX0 HB0
  generalize ((w.alloc (Obj.cells #[.slice ra rs.length rc] 58)).alloc (Obj.cells #[.int .i64 x, .int .i64 y, .int .i64 c] 59)).alloc (Obj.cells #[.int .i64 time, .int .i64 tto, .int .i64 src, .int .i64 count, .int .i64 n, .int .i64 kind, .int .i64 arg] 60) = W0 at *
  have a0 := (unhide HX0).a0
  go_wp2_with fail
  clear a0
  refine (szApp_any _ rs _ _ ((unhide HRA).on (unhide HB0)) (by omega) (by omega)).mono ?_
  rintro e W1 ⟨r, rfl, ⟨hr, hl⟩ | ⟨hr, hl⟩, hb1⟩
  · subst hr
    go_wp2_with fail
    go_ret
    exact ⟨rfl, below_then (unhide HB0) hb1⟩
  · have hsz : rulesSz rs ≤ 1048576 := by omega
    obtain ⟨hf1, hf2⟩ := rulesSz_fit rs hsz
    have HF2 := hide hf2
    have HSZ := hide hsz
    clear hf2 hl hsz
    have HX1 := hide ((unhide HX0).on hb1)
    have HB1 := hide (below_then (unhide HB0) hb1)
    clear HX0 HB0 hb1
    go_upto_region 5 with fail
    go_cut [8, 9, 10] from 26 to 36 (fun p a b wx => ∃ q vs vo, p = .pointer (some ⟨q, 0, none⟩) ∧ a = vs ∧ b = vo ∧ Kept W1 wx q vs vo R)
    case first =>
      go_region_held3 (fun w' => w'.cell? ⟨w.heap.size, 0, none⟩ = some (.slice ra rs.length rc) ∧ w'.cell? ⟨w.heap.size + 1, 0, none⟩ = some (.int .i64 x) ∧ w'.cell? ⟨w.heap.size + 1, 1, none⟩ = some (.int .i64 y) ∧ w'.cell? ⟨w.heap.size + 1, 2, none⟩ = some (.int .i64 c) ∧ w'.cell? ⟨w.heap.size + 1 + 1, 0, none⟩ = some (.int .i64 time) ∧ w'.cell? ⟨w.heap.size + 1 + 1, 1, none⟩ = some (.int .i64 tto) ∧ w'.cell? ⟨w.heap.size + 1 + 1, 2, none⟩ = some (.int .i64 src) ∧ w'.cell? ⟨w.heap.size + 1 + 1, 3, none⟩ = some (.int .i64 count) ∧ w'.cell? ⟨w.heap.size + 1 + 1, 4, none⟩ = some (.int .i64 n) ∧ w'.cell? ⟨w.heap.size + 1 + 1, 5, none⟩ = some (.int .i64 kind) ∧ w'.cell? ⟨w.heap.size + 1 + 1, 6, none⟩ = some (.int .i64 arg) ∧ Below W1.heap.size W1 w')
        ((go_split_ands; refine sAr_of (unhide HX1) ?_; first | exact (Below.refl _ _).drew | exact ((Below.refl _ _).alloc (Nat.le_refl _) _).drew | exact below_then (by assumption) hba | exact below_then (by assumption) hbs | exact below_then (by assumption) hbe | exact hB4 | exact hB4.alloc (Below.size hB4) _ | exact Below.alloc (by assumption) (Below.size (by assumption)) _ | exact Below.setCell (Below.setCell (Below.setCell hB4 (by first | exact Nat.le_refl _ | assumption) _) (by first | exact Nat.le_refl _ | assumption) _) (by first | exact Nat.le_refl _ | assumption) _))
        (first
          | (go_at_call 30; refine (toApp_any _ rs _ ((unhide HRA).on (below_then (unhide HB1) (by go_split_ands; assumption))) hf1 (unhide HF2)).mono ?_; rintro e wa ⟨va, rfl, hfr, hba⟩; have hlowa := Below.size (below_then (a := W1) (by go_split_ands; assumption) hba); have hra := hfr.at)
          | (go_at_call 31; refine (toState_any _ _ _ _).mono ?_; rintro e ws ⟨rfl, hbs⟩; have hlows := Below.size (below_then (a := W1) (by go_split_ands; assumption) hbs); first | (have hra2 := hra.on hbs) | (have hra2 := hra.on (below_then ((Below.refl _ _).alloc (Nat.le_refl _) _) hbs)))
          | (go_at_call 32; refine (toEvent_any _ _ _ _ _ _ _ _).mono ?_; rintro e we ⟨rfl, hbe⟩; have hlowe := Below.size (below_then (a := W1) (by go_split_ands; assumption) hbe); first | (have hra3 := hra2.on hbe) | (have hra3 := hra2.on (below_then ((Below.refl _ _).alloc (Nat.le_refl _) _) hbe)))
          | (go_at_call 22; refine (specAppRun_any rs _ ⟨x, y, c⟩ ⟨time, tto, src, count, n, kind, arg⟩ _ (by first | exact hra3 | exact hra3.on ((Below.refl _ _).alloc (Nat.le_refl _) _))).mono ?_; rw [← unhide HR]; rintro e w4 ⟨vs, vo, rfl, h1, h2, hne, hb4⟩; have hB4 := below_then (a := W1) (by go_split_ands; assumption) hb4; obtain ⟨hc9, hf9⟩ := bcell hb4; (first | (have hk0 := bcell (below_then hbe (hb4)); obtain ⟨hc0, hf0_⟩ := hk0) | skip); (first | (have hk1 := bcell (below_then hbs (below_then hbe (hb4))); obtain ⟨hc1, hf1_⟩ := hk1) | skip); (first | (have hk2 := bcell (below_then hba (below_then hbs (below_then hbe (hb4)))); obtain ⟨hc2, hf2_⟩ := hk2) | skip)))
      all_goals
        go_wp2_with fail
        go_meet
        case rel =>
          refine ⟨_, _, _, rfl, rfl, rfl, ?_⟩
          first
            | exact kept_alloc hB4 hlowe h1 h2 hne
            | exact kept_set hB4 (Nat.le_trans hlowe (by simp)) hlowe (by simp) (rowIs_on hb4 (rowIs_new we _ _ _ _)) h1 h2 hne
            | exact kept_set hB4 hlowe hlows (by have h0_ := hbe.size; simp at h0_; omega) (rowIs_on (below_then hbe (hb4)) (rowIs_new ws _ _ _ _)) h1 h2 hne
            | exact kept_set hB4 hlowe hlowa (by have h0_ := hbe.size; have h1_ := hbs.size; simp at h1_; omega) (rowIs_on (below_then hbs (below_then hbe (hb4))) (rowIs_new wa _ _ _ _)) h1 h2 hne
            | exact kept_set hB4 hlowe (Nat.le_refl _) (by have h0_ := hbe.size; have h1_ := hbs.size; have h2_ := hba.size; simp at h2_; omega) (rowIs_on (below_then hba (below_then hbs (below_then hbe (hb4)))) (rowIs_new W1.drew _ _ _ _)) h1 h2 hne
            | exact kept_set hB4 hlowe (Nat.le_refl _) (by have h0_ := hbe.size; have h1_ := hbs.size; have h2_ := hba.size; simp at h2_; omega) (rowIs_on (below_then hba (below_then hbs (below_then hbe (hb4)))) (World.rowIs.drew (rowIs_new W1 _ _ _ _))) h1 h2 hne
    case rest =>
      obtain ⟨q8, vs8, vo8, rfl, rfl, rfl, hk⟩ := hcut
      have hkb := hk.below
      have HS0 := hide hk.lst
      have hlen := appRun_len rs ⟨x, y, c⟩ ⟨time, tto, src, count, n, kind, arg⟩
      rw [← unhide HR] at hlen
      obtain ⟨hlenS, hlenO⟩ := hlen
      have HXA := hide ((unhide HX1).on hkb)
      have HBA := hide (below_then (unhide HB1) hkb)
      clear HX1 HB1 hk hkb
      generalize wc = WA at *
      obtain ⟨sa8, sc8, rfl⟩ := slice_formL (unhide HS0).rs
      obtain ⟨oa8, oc8, rfl⟩ := slice_formL (unhide HS0).ro
      have a0 := (unhide HXA).a0
      go_wp2_with fail
      clear a0
      refine (toApp_any _ rs _ ((unhide HRA).on (unhide HBA)) hf1 (unhide HF2)).mono ?_
      rintro e w2 ⟨va, rfl, hfr, hb2⟩
      obtain ⟨xb, rfl⟩ : ∃ b, va = .slice (some ⟨b, 0, none⟩) rs.length rs.length := by obtain ⟨b, _, _, h, _⟩ := hfr; exact ⟨b, h⟩
      have HROOM := hide hfr.room
      have hb3 : Below w2.heap.size w2 (w2.alloc (.cells #[.slice (some ⟨xb, 0, none⟩) rs.length rs.length] 34)) := (Below.refl _ _).alloc (Nat.le_refl _) _
      have HRB := hide (hfr.at.on hb3)
      have hp11 : (w2.alloc (.cells #[.slice (some ⟨xb, 0, none⟩) rs.length rs.length] 34)).cell? ⟨w2.heap.size, 0, none⟩ = some (.slice (some ⟨xb, 0, none⟩) rs.length rs.length) := by simp [go_sem]
      have hM : w2.heap.size ≤ (w2.alloc (.cells #[.slice (some ⟨xb, 0, none⟩) rs.length rs.length] 34)).heap.size := hb3.size
      have HAM : Hid (WA.heap.size ≤ w2.heap.size) := hide hb2.size
      clear hfr
      go_upto_region 7 with fail
      have HROOMB := hide ((unhide HROOM).on hb3)
      have hAB := below_then hb2 hb3
      clear HROOM hb2 hb3
      generalize (w2.alloc (.cells #[.slice (some ⟨xb, 0, none⟩) rs.length rs.length] 34)) = WB at *
      generalize w2.heap.size = p11 at *
      have HXB := hide ((unhide HXA).on hAB)
      have HBB := hide (below_then (unhide HBA) hAB)
      have HS1 := hide ((unhide HS0).on hAB)
      have HABS := hide hAB
      clear hAB
      go_upto_region 7 with fail
      go_cut [12, 13, 14] from 39 to 48 (fun p a b wx => ∃ q vs vo, p = .pointer (some ⟨q, 0, none⟩) ∧ a = vs ∧ b = vo ∧ Kept WB wx q vs vo R)
      case first =>
        go_region_held3 (fun w' => w'.cell? ⟨p11, 0, none⟩ = some (.slice (some ⟨xb, 0, none⟩) rs.length rs.length) ∧ w'.cell? ⟨w.heap.size, 0, none⟩ = some (.slice ra rs.length rc) ∧ w'.cell? ⟨w.heap.size + 1, 0, none⟩ = some (.int .i64 x) ∧ w'.cell? ⟨w.heap.size + 1, 1, none⟩ = some (.int .i64 y) ∧ w'.cell? ⟨w.heap.size + 1, 2, none⟩ = some (.int .i64 c) ∧ w'.cell? ⟨w.heap.size + 1 + 1, 0, none⟩ = some (.int .i64 time) ∧ w'.cell? ⟨w.heap.size + 1 + 1, 1, none⟩ = some (.int .i64 tto) ∧ w'.cell? ⟨w.heap.size + 1 + 1, 2, none⟩ = some (.int .i64 src) ∧ w'.cell? ⟨w.heap.size + 1 + 1, 3, none⟩ = some (.int .i64 count) ∧ w'.cell? ⟨w.heap.size + 1 + 1, 4, none⟩ = some (.int .i64 n) ∧ w'.cell? ⟨w.heap.size + 1 + 1, 5, none⟩ = some (.int .i64 kind) ∧ w'.cell? ⟨w.heap.size + 1 + 1, 6, none⟩ = some (.int .i64 arg) ∧ Below WB.heap.size WB w')
          ((go_split_ands; refine sAr2_of hp11 (unhide HXB) ?_; first | exact (Below.refl _ _).drew | exact ((Below.refl _ _).alloc (Nat.le_refl _) _).drew | exact below_then (by assumption) hbs | exact below_then (by assumption) hbe | exact hB4 | exact hB4.alloc (Below.size hB4) _ | exact Below.alloc (by assumption) (Below.size (by assumption)) _ | exact Below.setCell (Below.setCell (Below.setCell hB4 (by first | exact Nat.le_refl _ | assumption) _) (by first | exact Nat.le_refl _ | assumption) _) (by first | exact Nat.le_refl _ | assumption) _))
          (first
            | (go_at_call 31; refine (toState_any _ _ _ _).mono ?_; rintro e ws ⟨rfl, hbs⟩; have hlows := Below.size (below_then (a := WB) (by go_split_ands; assumption) hbs))
            | (go_at_call 32; refine (toEvent_any _ _ _ _ _ _ _ _).mono ?_; rintro e we ⟨rfl, hbe⟩; have hlowe := Below.size (below_then (a := WB) (by go_split_ands; assumption) hbe))
            | (go_at_call 23; refine (implAppRun_any rs _ ⟨x, y, c⟩ ⟨time, tto, src, count, n, kind, arg⟩ _ ((unhide HSH).on (below_then (unhide HBB) (by go_split_ands; assumption))) ((unhide HRB).on (by go_split_ands; assumption))).mono ?_; rw [← unhide HR]; rintro e w4 ⟨vs, vo, rfl, h1, h2, hne, hb4⟩; have hB4 := below_then (a := WB) (by go_split_ands; assumption) hb4; obtain ⟨hc9, hf9⟩ := bcell hb4; (first | (have hk0 := bcell (below_then hbe (hb4)); obtain ⟨hc0, hf0_⟩ := hk0) | skip); (first | (have hk1 := bcell (below_then hbs (below_then hbe (hb4))); obtain ⟨hc1, hf1_⟩ := hk1) | skip)))
        all_goals
          go_wp2_with fail
          go_meet
          case rel =>
            refine ⟨_, _, _, rfl, rfl, rfl, ?_⟩
            first
              | exact kept_alloc hB4 hlowe h1 h2 hne
              | exact kept_set hB4 (Nat.le_trans hlowe (by simp)) hlowe (by simp) (rowIs_on hb4 (rowIs_new we _ _ _ _)) h1 h2 hne
              | exact kept_set hB4 hlowe hlows (by have h0_ := hbe.size; simp at h0_; omega) (rowIs_on (below_then hbe (hb4)) (rowIs_new ws _ _ _ _)) h1 h2 hne
              | exact kept_set hB4 hlowe (Nat.le_refl _) (by have h0_ := hbe.size; have h1_ := hbs.size; simp at h1_; omega) (rowIs_on (below_then hbs (below_then hbe (hb4))) (rowIs_new WB.drew _ _ _ _)) h1 h2 hne
              | exact kept_set hB4 hlowe (Nat.le_refl _) (by have h0_ := hbe.size; have h1_ := hbs.size; simp at h1_; omega) (rowIs_on (below_then hbs (below_then hbe (hb4))) (World.rowIs.drew (rowIs_new WB _ _ _ _))) h1 h2 hne
      case rest =>
        obtain ⟨q12, vs12, vo12, rfl, rfl, rfl, hk⟩ := hcut
        have hkb := hk.below
        have HG1 := hide hk.lst
        have HSG := hide ((unhide HS1).on hkb)
        have HXG := hide ((unhide HXB).on hkb)
        have HBG := hide (below_then (unhide HBB) hkb)
        have HABG := hide (below_then (unhide HABS) hkb)
        have HRG := hide ((unhide HRB).on hkb)
        have HROOMG := hide ((unhide HROOMB).on hkb)
        have hp := cell_on hkb hp11
        have hMG : p11 ≤ wc.heap.size := Nat.le_trans hM hkb.size
        clear hk hkb HS1 HXB HBB HABS HRB HROOMB hp11
        generalize wc = WG at *
        obtain ⟨sa12, sc12, rfl⟩ := slice_formL (unhide HG1).rs
        obtain ⟨oa12, oc12, rfl⟩ := slice_formL (unhide HG1).ro
        have gx0 := (unhide HG1).st.x0
        have gx1 := (unhide HG1).st.x1
        have gx2 := (unhide HG1).st.x2
        have sx0 := (unhide HSG).st.x0
        have sx1 := (unhide HSG).st.x1
        have sx2 := (unhide HSG).st.x2
        go_wp2_with fail
        clear gx0 gx1 gx2 sx0 sx1 sx2
        refine (eqState_any _ _ _ _).mono ?_
        rintro e y8a ⟨rfl, hy8a⟩
        go_wp2_with fail
        refine (eqEventS_any _ _ (R.sends.map evRow) _ ((unhide HG1).rs.at.on hy8a) ((unhide HSG).rs.at.on hy8a)).mono ?_
        rintro e y8b ⟨rfl, hy8b⟩
        go_wp2_with fail
        refine (eqOutS_any _ _ (R.outs.map outRow) _ ((unhide HG1).ro.at.on (below_then hy8a hy8b)) ((unhide HSG).ro.at.on (below_then hy8a hy8b))).mono ?_
        rintro e y8 ⟨rfl, hy8c⟩
        have hy8 : Below WG.heap.size WG y8 := below_then (below_then hy8a hy8b) hy8c
        clear hy8a hy8b hy8c
        have HG8 := hide ((unhide HG1).on hy8)
        have HS8 := hide ((unhide HSG).on hy8)
        clear HG1 HSG
        have HX8 := hide ((unhide HXG).on hy8)
        have HB8 := hide (below_then (unhide HBG) hy8)
        have HAB8 := hide (below_then (unhide HABG) hy8)
        have HR8 := hide ((unhide HRG).on hy8)
        have HROOM8 := hide ((unhide HROOMG).on hy8)
        have hp8 := cell_on hy8 hp
        have hM8 : p11 ≤ y8.heap.size := Nat.le_trans hMG hy8.size
        clear HXG HBG HABG HRG HROOMG hp hMG hy8
        go_upto_region 10 with fail
        go_region_held3 (fun w' => w'.cell? ⟨p11, 0, none⟩ = some (.slice (some ⟨xb, 0, none⟩) rs.length rs.length) ∧ w'.cell? ⟨w.heap.size, 0, none⟩ = some (.slice ra rs.length rc) ∧ w'.cell? ⟨w.heap.size + 1, 0, none⟩ = some (.int .i64 x) ∧ w'.cell? ⟨w.heap.size + 1, 1, none⟩ = some (.int .i64 y) ∧ w'.cell? ⟨w.heap.size + 1, 2, none⟩ = some (.int .i64 c) ∧ w'.cell? ⟨w.heap.size + 1 + 1, 0, none⟩ = some (.int .i64 time) ∧ w'.cell? ⟨w.heap.size + 1 + 1, 1, none⟩ = some (.int .i64 tto) ∧ w'.cell? ⟨w.heap.size + 1 + 1, 2, none⟩ = some (.int .i64 src) ∧ w'.cell? ⟨w.heap.size + 1 + 1, 3, none⟩ = some (.int .i64 count) ∧ w'.cell? ⟨w.heap.size + 1 + 1, 4, none⟩ = some (.int .i64 n) ∧ w'.cell? ⟨w.heap.size + 1 + 1, 5, none⟩ = some (.int .i64 kind) ∧ w'.cell? ⟨w.heap.size + 1 + 1, 6, none⟩ = some (.int .i64 arg) ∧ Below y8.heap.size y8 w')
          ((go_split_ands; refine sAr2_of hp8 (unhide HX8) ?_; first | exact (Below.refl _ _).drew | exact below_then (by assumption) hba | exact below_then (by assumption) hbq))
          (first
            | (go_at_call 30; refine (toApp_any _ rs _ ((unhide HRA).on (below_then (unhide HB8) (by go_split_ands; assumption))) hf1 (unhide HF2)).mono ?_; rintro e wa ⟨va, rfl, hfr, hba⟩; have hra := hfr.at; have hBa := below_then (a := y8) (by go_split_ands; assumption) hba)
            | (go_at_call 36; refine (eqApp_any _ _ rs _ ((unhide HR8).on (by go_split_ands; assumption)) hra).mono ?_; rintro e y9 ⟨rfl, hbq⟩; have hy9 := below_then hBa hbq))
        have hqm : ∀ z : Int, (z != z) = false := by intro z; simp
        have hp9 := cell_on hy9 hp8
        have HG9 := hide ((unhide HG8).on hy9)
        have HAB9 := hide (below_then (unhide HAB8) hy9)
        have HROOM9 := hide ((unhide HROOM8).on hy9)
        have hM9 : p11 ≤ y9.heap.size := Nat.le_trans hM8 hy9.size
        clear HG8 HS8 HAB8 HROOM8 hM8 hp8 HR8 HX8 HB8 hra hfr hba hBa hbq
        go_wp2_with fail
        clear hp9
        refine (markApp_any WA.heap.size p11 _ rs 1 _ (unhide HROOM9) hM9 (unhide HSZ) (by omega) (by omega)).mono ?_
        rintro e w5 ⟨k5, rfl, hk1, hk2, hbt⟩
        have HG10 := hide ((unhide HG9).btw hbt hM)
        have hA5 : Below WA.heap.size WA w5 := (unhide HAB9).trans hbt.below
        have HS10 := hide ((unhide HS0).on hA5)
        clear hk2 hbt HG9 HAB9 HROOM9 hM9
        have hk5 : ¬ k5 < 0 := by omega
        have gx0 := (unhide HG10).st.x0
        have gx1 := (unhide HG10).st.x1
        have gx2 := (unhide HG10).st.x2
        have sx0 := (unhide HS10).st.x0
        have sx1 := (unhide HS10).st.x1
        have sx2 := (unhide HS10).st.x2
        go_wp2_with fail
        clear gx0 gx1 gx2 sx0 sx1 sx2
        refine (eqState_any _ _ _ _).mono ?_
        rintro e y11a ⟨rfl, hy11a⟩
        go_wp2_with fail
        refine (eqEventS_any _ _ (R.sends.map evRow) _ ((unhide HG10).rs.at.on hy11a) ((unhide HS10).rs.at.on hy11a)).mono ?_
        rintro e y11b ⟨rfl, hy11b⟩
        go_wp2_with fail
        refine (eqOutS_any _ _ (R.outs.map outRow) _ ((unhide HG10).ro.at.on (below_then hy11a hy11b)) ((unhide HS10).ro.at.on (below_then hy11a hy11b))).mono ?_
        rintro e y11 ⟨rfl, hy11c⟩
        have hy11 : Below w5.heap.size w5 y11 := below_then (below_then hy11a hy11b) hy11c
        clear hy11a hy11b hy11c
        have HG11 := hide ((unhide HG10).on hy11)
        have HS11 := hide ((unhide HS10).on hy11)
        clear HG10 HS10
        have hA11 : Below WA.heap.size WA y11 := below_then hA5 hy11
        clear HS11 hy11 hA5 hk5
        go_wp2_with fail
        refine (markEventS_any WB.heap.size 38 _ R.sends.length 1 _ (room_map (unhide HG11).rs) (by omega) (by omega) (by omega)).mono ?_
        rintro e w6 ⟨rfl, hx6, ho6⟩
        have HO6 := hide ((unhide HG11).ro.apart ho6 (unhide HG11).ne)
        have hA6 : Below WA.heap.size WA w6 := hA11.trans (ho6.below WA.heap.size (fun g hg => Nat.le_trans (Nat.le_trans (unhide HAM) hM) ((unhide HG11).rs.blk g hg).1))
        have HX6 := hide hx6
        clear hx6 ho6 hA11
        go_wp2_with fail
        refine (markOutS_any WB.heap.size 48 _ R.outs.length (1 + 7 * R.sends.length) _ (room_map (unhide HO6)) (by omega) (by omega) (by omega)).mono ?_
        rintro e W7 ⟨rfl, hx7, ho7⟩
        have HME := hide ((unhide HX6).apart ho7 (ne_turn (unhide HG11).ne)).at
        have HMO := hide hx7.at
        have hA7 : Below WA.heap.size WA W7 := hA6.trans (ho7.below WA.heap.size (fun g hg => Nat.le_trans (Nat.le_trans (unhide HAM) hM) ((unhide HO6).blk g hg).1))
        clear hx7 ho7 hA6 HX6 HO6 HG11
        go_wp2_with fail
        refine (heldEventS_any _ R.sends.length 1 _ (unhide HME) (by omega) (by omega) (by omega)).mono ?_
        rintro e z1 ⟨rfl, hz⟩
        obtain rfl := hz.symm
        go_wp2_with fail
        refine (heldOutS_any _ R.outs.length _ _ (unhide HMO) (by omega) (by omega) (by omega)).mono ?_
        rintro e z2 ⟨rfl, hz⟩
        obtain rfl := hz.symm
        have HX7 := hide ((unhide HXA).on hA7)
        have HB7 := hide (below_then (unhide HBA) hA7)
        go_upto_region 28 with fail
        go_cut [18, 19, 20] from 112 to 122 (fun p a b wx => ∃ q vs vo, p = .pointer (some ⟨q, 0, none⟩) ∧ a = vs ∧ b = vo ∧ Kept W7 wx q vs vo R)
        case first =>
          go_region_held3 (fun w' => w'.cell? ⟨w.heap.size, 0, none⟩ = some (.slice ra rs.length rc) ∧ w'.cell? ⟨w.heap.size + 1, 0, none⟩ = some (.int .i64 x) ∧ w'.cell? ⟨w.heap.size + 1, 1, none⟩ = some (.int .i64 y) ∧ w'.cell? ⟨w.heap.size + 1, 2, none⟩ = some (.int .i64 c) ∧ w'.cell? ⟨w.heap.size + 1 + 1, 0, none⟩ = some (.int .i64 time) ∧ w'.cell? ⟨w.heap.size + 1 + 1, 1, none⟩ = some (.int .i64 tto) ∧ w'.cell? ⟨w.heap.size + 1 + 1, 2, none⟩ = some (.int .i64 src) ∧ w'.cell? ⟨w.heap.size + 1 + 1, 3, none⟩ = some (.int .i64 count) ∧ w'.cell? ⟨w.heap.size + 1 + 1, 4, none⟩ = some (.int .i64 n) ∧ w'.cell? ⟨w.heap.size + 1 + 1, 5, none⟩ = some (.int .i64 kind) ∧ w'.cell? ⟨w.heap.size + 1 + 1, 6, none⟩ = some (.int .i64 arg) ∧ Below W7.heap.size W7 w')
            ((go_split_ands; refine sAr_of (unhide HX7) ?_; first | exact (Below.refl _ _).drew | exact ((Below.refl _ _).alloc (Nat.le_refl _) _).drew | exact below_then (by assumption) hba | exact below_then (by assumption) hbs | exact below_then (by assumption) hbe | exact hB4 | exact hB4.alloc (Below.size hB4) _ | exact Below.alloc (by assumption) (Below.size (by assumption)) _ | exact Below.setCell (Below.setCell (Below.setCell hB4 (by first | exact Nat.le_refl _ | assumption) _) (by first | exact Nat.le_refl _ | assumption) _) (by first | exact Nat.le_refl _ | assumption) _))
            (first
              | (go_at_call 30; refine (toApp_any _ rs _ ((unhide HRA).on (below_then (unhide HB7) (by go_split_ands; assumption))) hf1 (unhide HF2)).mono ?_; rintro e wa ⟨va, rfl, hfr, hba⟩; have hlowa := Below.size (below_then (a := W7) (by go_split_ands; assumption) hba); have hra := hfr.at)
              | (go_at_call 31; refine (toState_any _ _ _ _).mono ?_; rintro e ws ⟨rfl, hbs⟩; have hlows := Below.size (below_then (a := W7) (by go_split_ands; assumption) hbs); first | (have hra2 := hra.on hbs) | (have hra2 := hra.on (below_then ((Below.refl _ _).alloc (Nat.le_refl _) _) hbs)))
              | (go_at_call 32; refine (toEvent_any _ _ _ _ _ _ _ _).mono ?_; rintro e we ⟨rfl, hbe⟩; have hlowe := Below.size (below_then (a := W7) (by go_split_ands; assumption) hbe); first | (have hra3 := hra2.on hbe) | (have hra3 := hra2.on (below_then ((Below.refl _ _).alloc (Nat.le_refl _) _) hbe)))
              | (go_at_call 23; refine (implAppRun_any rs _ ⟨x, y, c⟩ ⟨time, tto, src, count, n, kind, arg⟩ _ ((unhide HSH).on (below_then (unhide HB7) (by go_split_ands; assumption))) (by first | exact hra3 | exact hra3.on ((Below.refl _ _).alloc (Nat.le_refl _) _))).mono ?_; rw [← unhide HR]; rintro e w4 ⟨vs, vo, rfl, h1, h2, hne, hb4⟩; have hB4 := below_then (a := W7) (by go_split_ands; assumption) hb4; obtain ⟨hc9, hf9⟩ := bcell hb4; (first | (have hk0 := bcell (below_then hbe (hb4)); obtain ⟨hc0, hf0_⟩ := hk0) | skip); (first | (have hk1 := bcell (below_then hbs (below_then hbe (hb4))); obtain ⟨hc1, hf1_⟩ := hk1) | skip); (first | (have hk2 := bcell (below_then hba (below_then hbs (below_then hbe (hb4)))); obtain ⟨hc2, hf2_⟩ := hk2) | skip)))
          all_goals
            go_wp2_with fail
            go_meet
            case rel =>
              refine ⟨_, _, _, rfl, rfl, rfl, ?_⟩
              first
                | exact kept_alloc hB4 hlowe h1 h2 hne
                | exact kept_set hB4 (Nat.le_trans hlowe (by simp)) hlowe (by simp) (rowIs_on hb4 (rowIs_new we _ _ _ _)) h1 h2 hne
                | exact kept_set hB4 hlowe hlows (by have h0_ := hbe.size; simp at h0_; omega) (rowIs_on (below_then hbe (hb4)) (rowIs_new ws _ _ _ _)) h1 h2 hne
                | exact kept_set hB4 hlowe hlowa (by have h0_ := hbe.size; have h1_ := hbs.size; simp at h1_; omega) (rowIs_on (below_then hbs (below_then hbe (hb4))) (rowIs_new wa _ _ _ _)) h1 h2 hne
                | exact kept_set hB4 hlowe (Nat.le_refl _) (by have h0_ := hbe.size; have h1_ := hbs.size; have h2_ := hba.size; simp at h2_; omega) (rowIs_on (below_then hba (below_then hbs (below_then hbe (hb4)))) (rowIs_new W7.drew _ _ _ _)) h1 h2 hne
                | exact kept_set hB4 hlowe (Nat.le_refl _) (by have h0_ := hbe.size; have h1_ := hbs.size; have h2_ := hba.size; simp at h2_; omega) (rowIs_on (below_then hba (below_then hbs (below_then hbe (hb4)))) (World.rowIs.drew (rowIs_new W7 _ _ _ _))) h1 h2 hne
        case rest =>
          obtain ⟨q18, vs18, vo18, rfl, rfl, rfl, hk⟩ := hcut
          have hkb := hk.below
          have HG12 := hide hk.lst
          have HS12 := hide ((unhide HS0).on (below_then hA7 hkb))
          have HB12 := hide (below_then (unhide HB7) hkb)
          have HME2 := hide ((unhide HME).on hkb)
          have HMO2 := hide ((unhide HMO).on hkb)
          clear hk hkb hA7 HX7 HB7 HME HMO
          obtain ⟨sa18, sc18, rfl⟩ := slice_formL (unhide HG12).rs
          obtain ⟨oa18, oc18, rfl⟩ := slice_formL (unhide HG12).ro
          have gx0 := (unhide HG12).st.x0
          have gx1 := (unhide HG12).st.x1
          have gx2 := (unhide HG12).st.x2
          have sx0 := (unhide HS12).st.x0
          have sx1 := (unhide HS12).st.x1
          have sx2 := (unhide HS12).st.x2
          go_wp2_with fail
          clear gx0 gx1 gx2 sx0 sx1 sx2
          refine (eqState_any _ _ _ _).mono ?_
          rintro e y13a ⟨rfl, hy13a⟩
          go_wp2_with fail
          refine (eqEventS_any _ _ (R.sends.map evRow) _ ((unhide HG12).rs.at.on hy13a) ((unhide HS12).rs.at.on hy13a)).mono ?_
          rintro e y13b ⟨rfl, hy13b⟩
          go_wp2_with fail
          refine (eqOutS_any _ _ (R.outs.map outRow) _ ((unhide HG12).ro.at.on (below_then hy13a hy13b)) ((unhide HS12).ro.at.on (below_then hy13a hy13b))).mono ?_
          rintro e y13 ⟨rfl, hy13c⟩
          have hy13 : Below wc.heap.size wc y13 := below_then (below_then hy13a hy13b) hy13c
          clear hy13a hy13b hy13c
          have HG13 := hide ((unhide HG12).on hy13)
          have HS13 := hide ((unhide HS12).on hy13)
          clear HG12 HS12
          have HME3 := hide ((unhide HME2).on hy13)
          have HMO3 := hide ((unhide HMO2).on hy13)
          have HB13 := hide (below_then (unhide HB12) hy13)
          clear HME2 HMO2 HB12 hy13 HG13 HS13
          go_wp2_with fail
          refine (heldEventS_any _ R.sends.length 1 _ (unhide HME3) (by omega) (by omega) (by omega)).mono ?_
          rintro e z3 ⟨rfl, hz⟩
          obtain rfl := hz.symm
          go_wp2_with fail
          refine (heldOutS_any _ R.outs.length _ _ (unhide HMO3) (by omega) (by omega) (by omega)).mono ?_
          rintro e z4 ⟨rfl, hz⟩
          obtain rfl := hz.symm
          go_wp2_with fail
          go_ret
          exact ⟨rfl, unhide HB13⟩

end Go.Proofs.YtjbgiepaehefpaaDoor
