/- The reader of the specification: (*spec.l26Reader).num. -/
import Derived.Test.YtiljjhipiinafaaGreatWrD
namespace Go.Proofs.YtiljjhipiinafaaGreat
open Go.RowKit
set_option linter.unusedVariables false
set_option linter.unusedSimpArgs false

/-- A reader at block q of bytes that lay there ahead of it. -/
structure RdS (w0 w : World) (q : Nat) (vb : Value) (bs : List Int) (p : Nat) (f : Bool) : Prop where
  bytes : ByAt w0 vb bs
  rng : ∀ z ∈ bs, 0 ≤ z ∧ z ≤ 255
  few : bs.length ≤ 1048576
  q0 : w0.heap.size ≤ q
  below : Below w0.heap.size w0 w
  c0 : w.cell? ⟨q, 0, none⟩ = some vb
  c1 : w.cell? ⟨q, 1, none⟩ = some (.int .i64 p)
  c2 : w.cell? ⟨q, 2, none⟩ = some (.bool f)
  fz : ∀ i, w.frozen? ⟨q, i, none⟩ = false
  pl : p ≤ bs.length

theorem RdS.on {w0 w w' : World} {q : Nat} {vb : Value} {bs : List Int} {p : Nat} {f : Bool} (hb : Below w.heap.size w w') (h : RdS w0 w q vb bs p f) : RdS w0 w' q vb bs p f :=
  ⟨h.bytes, h.rng, h.few, h.q0, h.below.trans (hb.mono h.below.size), cell_on hb h.c0, cell_on hb h.c1, cell_on hb h.c2, fun i => (hb.frozen (p := ⟨q, i, none⟩) (World.block_lt_of_cell? w ⟨q, 0, none⟩ h.c0)).trans (h.fz i), h.pl⟩
theorem RdS.lt {w0 w : World} {q : Nat} {vb : Value} {bs : List Int} {p : Nat} {f : Bool} (h : RdS w0 w q vb bs p f) : q < w.heap.size := World.block_lt_of_cell? w ⟨q, 0, none⟩ h.c0
theorem RdS.setAt {w0 w : World} {q : Nat} {vb : Value} {bs : List Int} {p : Nat} {f : Bool} (h : RdS w0 w q vb bs p f) (p' : Nat) (hp : p' ≤ bs.length) : RdS w0 (w.setCell ⟨q, 1, none⟩ (.int .i64 p')) q vb bs p' f :=
  ⟨h.bytes, h.rng, h.few, h.q0, h.below.setCell (p := ⟨q, 1, none⟩) h.q0 _, by simp [go_sem, h.c0], by simp [go_sem, h.c1], by simp [go_sem, h.c2], fun i => by simp [go_sem, h.fz], hp⟩
theorem RdS.setBad {w0 w : World} {q : Nat} {vb : Value} {bs : List Int} {p : Nat} {f : Bool} (h : RdS w0 w q vb bs p f) : RdS w0 (w.setCell ⟨q, 2, none⟩ (.bool true)) q vb bs p true :=
  ⟨h.bytes, h.rng, h.few, h.q0, h.below.setCell (p := ⟨q, 2, none⟩) h.q0 _, by simp [go_sem, h.c0], by simp [go_sem, h.c1], by simp [go_sem, h.c2], fun i => by simp [go_sem, h.fz], h.pl⟩

/-- The number at p is z, if what lies there is as z is written. -/
def NumAt (bs : List Int) (p : Nat) (z : Int) : Prop := -1 ≤ z ∧ z ≤ 9999 ∧ ∃ rest, bs.drop p = numI z ++ rest

theorem dropB_at {bs : List Int} {p : Nat} {x : Int} {rest : List Int} (h : bs.drop p = x :: rest) : p < bs.length ∧ bs.getD p 0 = x ∧ bs.drop (p + 1) = rest := by
  have hl : p < bs.length := by
    rcases Nat.lt_or_ge p bs.length with h1 | h1
    · exact h1
    · rw [List.drop_eq_nil_of_le h1] at h; cases h
  have h2 := List.drop_eq_getElem_cons hl
  rw [h2] at h
  simp only [List.cons.injEq] at h
  exact ⟨hl, by simp [hl, h.1], h.2⟩

/-- What is written of z lies at p: one byte below 128, or one from there on and one below. -/
theorem NumAt.bytes {bs : List Int} {p : Nat} {z : Int} (h : NumAt bs p z) :
    (p < bs.length ∧ bs.getD p 0 < 128 ∧ bs.getD p 0 = z + 1 ∧ (numI z).length = 1) ∨
    (p + 1 < bs.length ∧ 128 ≤ bs.getD p 0 ∧ bs.getD (p + 1) 0 < 128 ∧ bs.getD p 0 % 128 + bs.getD (p + 1) 0 % 128 * 128 = z + 1 ∧ bs.getD (p + 1) 0 ≠ 0 ∧ (numI z).length = 2) := by
  obtain ⟨h0, h1, rest, h2⟩ := h
  unfold numI at h2 ⊢
  obtain ⟨m, hm⟩ : ∃ m : Nat, z + 1 = (m : Int) := ⟨(z + 1).toNat, by omega⟩
  rw [hm] at h2 ⊢
  simp only [Int.toNat_natCast] at h2 ⊢
  unfold numB at h2 ⊢
  by_cases hlt : m < 128
  · rw [if_pos hlt] at h2 ⊢
    obtain ⟨k1, k2, _⟩ := dropB_at h2
    exact Or.inl ⟨k1, by omega, k2, rfl⟩
  · rw [if_neg hlt] at h2 ⊢
    obtain ⟨k1, k2, k3⟩ := dropB_at h2
    obtain ⟨k4, k5, _⟩ := dropB_at k3
    refine Or.inr ⟨k4, by omega, by omega, by omega, by omega, rfl⟩

set_option maxRecDepth 100000 in
set_option maxHeartbeats 8000000 in
theorem rdNum_any (w0 w : World) (q : Nat) (vb : Value) (bs : List Int) (p : Nat) (f : Bool) (h : RdS w0 w q vb bs p f) :
    Calls Tryz.prog 53 #[.pointer (some ⟨q, 0, none⟩)] w fun e w' => ∃ (n : Int) (p' : Nat) (f' : Bool), e = .returned (.int .i64 n) ∧ RdS w0 w' q vb bs p' f' ∧ OnlyB q w w' ∧ -1 ≤ n ∧ n ≤ 2097151 ∧ p ≤ p' ∧ (f = true → f' = true) ∧ (∀ z, NumAt bs p z → n = z ∧ p' = p + (numI z).length ∧ f' = f) := by
  obtain ⟨ad, cap, rfl, hlc, hm, hcells⟩ := h.bytes
  have HC := hide hcells
  have hfew := h.few
  have HR := hide h.rng
  have HLC := hide hlc
  have HW0 := hide h
  clear hcells h hm
  go_enter Tryz.func53, Tryz.ntmps53
  go_wp2_with fail
  go_loopw [3, 4, 5] (fun sn sp sk wr => ∃ (j : Nat) (N : Int), j ≤ 3 ∧ sk = .int .i64 j ∧ sn = .int .i64 N ∧ sp = .int .i64 (if j = 0 then 1 else if j = 1 then 128 else if j = 2 then 16384 else 2097152) ∧ Hid ((j = 0 → N = 0) ∧ (j = 1 → N = bs.getD p 0 % 128) ∧ (0 ≤ N ∧ N < (if j = 0 then 1 else if j = 1 then 128 else if j = 2 then 16384 else 2097152))) ∧ Hid (∀ i, i < j → 128 ≤ bs.getD (p + i) 0) ∧ Hid (RdS w0 wr q (.slice ad bs.length cap) bs (p + j) f) ∧ Hid (OnlyB q w wr)) (fun _ _ k _ => 3 - (intOf k).toNat)
  case atStart => exact ⟨0, 0, by omega, rfl, rfl, rfl, hide ⟨fun _ => rfl, fun h => by omega, by decide⟩, hide (fun i hi => absurd hi (Nat.not_lt_zero _)), HW0, hide ⟨Nat.le_refl _, fun _ _ _ => rfl, Below.refl _ _⟩⟩
  case round =>
    obtain ⟨j, N, hj, rfl, rfl, rfl, HN, HM, HRd, HO⟩ := hrel
    have k0 := (unhide HRd).c0
    have k1 := (unhide HRd).c1
    have k2 := (unhide HRd).c2
    have kf := (unhide HRd).fz 2
    have hpl := (unhide HRd).pl
    have HPL := hide hpl
    rcases (show j = 0 ∨ j = 1 ∨ j = 2 ∨ j = 3 by omega) with rfl | rfl | rfl | rfl
    · obtain ⟨P, hP⟩ : ∃ P : Nat, P = p + 0 := ⟨_, rfl⟩
      rw [← hP] at k1 hpl HRd HPL
      have HP := hide hP
      have hnb : 0 ≤ N ∧ N < 1 := by simpa using (unhide HN).2.2
      obtain ⟨hN0, hN1⟩ := hnb
      simp only [if_true] at *
      clear hP
      have q0 : ∀ y : On wr, y.y.cell? ⟨q, 0, none⟩ = some (.slice ad bs.length cap) := fun y => cell_on y.h k0
      have q1 : ∀ y : On wr, y.y.cell? ⟨q, 1, none⟩ = some (.int .i64 P) := fun y => cell_on y.h k1
      go_wp2_with fail
      have hne : Nonempty (On wr) := ⟨⟨wr, Below.refl _ _⟩⟩
      by_cases hlt : P < bs.length
      · have hltI : ¬ ((bs.length : Int) ≤ (P : Int)) := by omega
        refine wp_region_on (by kernel_rfl) (by kernel_rfl) ?_
        repeat (first | go_big_quiet_step (fail) | quiet_step (fail))
        refine wpQuiet_nil ?_
        intro _ hw'
        obtain ⟨nq, hw''⟩ := hw'
        subst hw''
        clear q0 q1 hne
        obtain ⟨b, off, had, hby⟩ : ∃ b off, ad = some ⟨b, off, none⟩ ∧ w0.cell? ⟨b, off + P, none⟩ = some (.int .u8 bs[P]) := by
          rcases unhide HC with h | ⟨b, off, h1, h2⟩
          · rw [h] at hlt; exact absurd hlt (Nat.not_lt_zero _)
          · exact ⟨b, off, h1, h2 P hlt⟩
        have hx := (unhide HR) bs[P] (List.getElem_mem hlt)
        have HX : Hid (bs.getD P 0 = bs[P]) := hide (by simp [hlt])
        have HRd2 := hide ((unhide HRd).on nq.h)
        have HO2 := hide ((unhide HO).then (Nat.le_of_lt (unhide HRd).lt) nq.h)
        have hb0 := (unhide HRd2).below
        have c0 := (unhide HRd2).c0
        have c1 := (unhide HRd2).c1
        have cb := cell_on hb0 hby
        subst had
        obtain ⟨hx0, hx1⟩ := hx
        generalize bs[P] = x at *
        generalize hY : nq.y = Y at *
        have q0 : ∀ y : On Y, y.y.cell? ⟨q, 0, none⟩ = some (.slice (some ⟨b, off, none⟩) bs.length cap) := fun y => cell_on y.h c0
        have q1 : ∀ y : On Y, y.y.cell? ⟨q, 1, none⟩ = some (.int .i64 P) := fun y => cell_on y.h c1
        have q2 : ∀ y : On Y, y.y.cell? ⟨b, off + P, none⟩ = some (.int .u8 x) := fun y => cell_on y.h cb
        clear hY nq k0 k1 k2 kf c0 c1 cb hb0
        have hlcI : (bs.length : Int) ≤ (cap : Int) := by have := unhide HLC; omega
        have hPI : (P : Int) < (bs.length : Int) := by omega
        go_wp2_with fail
        have hne : Nonempty (On Y) := ⟨⟨Y, Below.refl _ _⟩⟩
        refine wp_region_on (by kernel_rfl) (by kernel_rfl) ?_
        repeat (first | go_big_quiet_step (fail) | quiet_step (fail))
        refine wpQuiet_nil ?_
        intro _ hw'
        obtain ⟨nq, hw''⟩ := hw'
        subst hw''
        clear q0 q1 q2 hne
        have HRd3 := hide ((unhide HRd2).on nq.h)
        have HO3 := hide ((unhide HO2).then (Nat.le_of_lt (unhide HRd2).lt) nq.h)
        have c1 := (unhide HRd3).c1
        have f1 := (unhide HRd3).fz 1
        have HRd4 := hide ((unhide HRd3).setAt (P + 1) (by omega))
        have HO4 := hide ((unhide HO3).trans (OnlyB.set q 1 nq.y (.int .i64 ((P + 1 : Nat) : Int))))
        clear HRd HRd2 HRd3 HO HO2 HO3
        have hcast : ((P + 1 : Nat) : Int) = (P : Int) + 1 := by omega
        rw [hcast] at HRd4 HO4
        by_cases hx8 : x < 128
        · have HPL2 := hide hlt
          go_wp2_with fail
          go_ret
          refine ⟨_, P + 1, f, rfl, unhide HRd4, unhide HO4, by omega, by omega, by have := unhide HP; omega, id, fun z hz => ?_⟩
          have hP := unhide HP
          have hXX := unhide HX
          have hM := unhide HM
          have hN := unhide HN
          have hb := hz.bytes
          rcases hb with ⟨_, _, h3, h4⟩ | ⟨_, h2, _⟩
          · have e : bs.getD P 0 = bs.getD p 0 := by rw [hP]; rfl
            have := hN.1 (by first | trivial | rfl)
            exact ⟨by omega, by omega, rfl⟩
          · have e : bs.getD P 0 = bs.getD p 0 := by rw [hP]; rfl
            omega
        · have hx9 : (128 : Int) ≤ x := by omega
          go_wp2_with fail
          go_roundw
          case rel =>
            refine ⟨1, N + x % 128 * 1, by omega, by first | rfl | simp, by first | rfl | (simp; done) | (congr 1; omega), by first | rfl | simp, hide ⟨by intro h; omega, ?_, ?_⟩, hide ?_, ?_, HO4⟩
            · have hP := unhide HP
              have hXX := unhide HX
              have hN := unhide HN
              intro h
              have e : bs.getD P 0 = bs.getD p 0 := by rw [hP]; rfl
              have := hN.1 (by first | trivial | rfl)
              omega
            · simp; omega
            · intro i hi
              have hP := unhide HP
              have hXX := unhide HX
              have hM := unhide HM
              rcases (show i = 0 ∨ i < 0 by omega) with rfl | hi2
              · rw [← hP, hXX]; exact hx9
              · exact hM i hi2
            · have hP := unhide HP
              have e : P + 1 = p + 1 := by omega
              exact hide (by rw [← e]; exact unhide HRd4)
          case measure => simp [intOf]
      · have hltI : (bs.length : Int) ≤ (P : Int) := by omega
        refine wp_region_on (by kernel_rfl) (by kernel_rfl) ?_
        repeat (first | go_big_quiet_step (fail) | quiet_step (fail))
        refine wpQuiet_nil ?_
        intro _ hw'
        obtain ⟨nq, hw''⟩ := hw'
        subst hw''
        clear q0 q1 hne
        have HRd2 := hide ((unhide HRd).on nq.h)
        have HO2 := hide ((unhide HO).then (Nat.le_of_lt (unhide HRd).lt) nq.h)
        have c2 := (unhide HRd2).c2
        have f2 := (unhide HRd2).fz 2
        have HRd4 := hide ((unhide HRd2).setBad)
        have HO4 := hide ((unhide HO2).trans (OnlyB.set q 2 nq.y (.bool true)))
        clear k0 k1 k2 kf HRd HO
        go_wp2_with fail
        go_ret
        refine ⟨_, P, true, rfl, unhide HRd4, unhide HO4, by omega, by omega, by have := unhide HP; omega, fun _ => rfl, fun z hz => ?_⟩
        have hP := unhide HP
        have hM := unhide HM
        have hb := hz.bytes
        rcases hb with ⟨h1, _⟩ | ⟨h1, _⟩
        · omega
        · omega
    · obtain ⟨P, hP⟩ : ∃ P : Nat, P = p + 1 := ⟨_, rfl⟩
      rw [← hP] at k1 hpl HRd HPL
      have HP := hide hP
      have hnb : 0 ≤ N ∧ N < 128 := by simpa using (unhide HN).2.2
      obtain ⟨hN0, hN1⟩ := hnb
      simp only [if_true] at *
      clear hP
      have q0 : ∀ y : On wr, y.y.cell? ⟨q, 0, none⟩ = some (.slice ad bs.length cap) := fun y => cell_on y.h k0
      have q1 : ∀ y : On wr, y.y.cell? ⟨q, 1, none⟩ = some (.int .i64 P) := fun y => cell_on y.h k1
      go_wp2_with fail
      have hne : Nonempty (On wr) := ⟨⟨wr, Below.refl _ _⟩⟩
      by_cases hlt : P < bs.length
      · have hltI : ¬ ((bs.length : Int) ≤ (P : Int)) := by omega
        refine wp_region_on (by kernel_rfl) (by kernel_rfl) ?_
        repeat (first | go_big_quiet_step (fail) | quiet_step (fail))
        refine wpQuiet_nil ?_
        intro _ hw'
        obtain ⟨nq, hw''⟩ := hw'
        subst hw''
        clear q0 q1 hne
        obtain ⟨b, off, had, hby⟩ : ∃ b off, ad = some ⟨b, off, none⟩ ∧ w0.cell? ⟨b, off + P, none⟩ = some (.int .u8 bs[P]) := by
          rcases unhide HC with h | ⟨b, off, h1, h2⟩
          · rw [h] at hlt; exact absurd hlt (Nat.not_lt_zero _)
          · exact ⟨b, off, h1, h2 P hlt⟩
        have hx := (unhide HR) bs[P] (List.getElem_mem hlt)
        have HX : Hid (bs.getD P 0 = bs[P]) := hide (by simp [hlt])
        have HRd2 := hide ((unhide HRd).on nq.h)
        have HO2 := hide ((unhide HO).then (Nat.le_of_lt (unhide HRd).lt) nq.h)
        have hb0 := (unhide HRd2).below
        have c0 := (unhide HRd2).c0
        have c1 := (unhide HRd2).c1
        have cb := cell_on hb0 hby
        subst had
        obtain ⟨hx0, hx1⟩ := hx
        generalize bs[P] = x at *
        generalize hY : nq.y = Y at *
        have q0 : ∀ y : On Y, y.y.cell? ⟨q, 0, none⟩ = some (.slice (some ⟨b, off, none⟩) bs.length cap) := fun y => cell_on y.h c0
        have q1 : ∀ y : On Y, y.y.cell? ⟨q, 1, none⟩ = some (.int .i64 P) := fun y => cell_on y.h c1
        have q2 : ∀ y : On Y, y.y.cell? ⟨b, off + P, none⟩ = some (.int .u8 x) := fun y => cell_on y.h cb
        clear hY nq k0 k1 k2 kf c0 c1 cb hb0
        have hlcI : (bs.length : Int) ≤ (cap : Int) := by have := unhide HLC; omega
        have hPI : (P : Int) < (bs.length : Int) := by omega
        go_wp2_with fail
        have hne : Nonempty (On Y) := ⟨⟨Y, Below.refl _ _⟩⟩
        refine wp_region_on (by kernel_rfl) (by kernel_rfl) ?_
        repeat (first | go_big_quiet_step (fail) | quiet_step (fail))
        refine wpQuiet_nil ?_
        intro _ hw'
        obtain ⟨nq, hw''⟩ := hw'
        subst hw''
        clear q0 q1 q2 hne
        have HRd3 := hide ((unhide HRd2).on nq.h)
        have HO3 := hide ((unhide HO2).then (Nat.le_of_lt (unhide HRd2).lt) nq.h)
        have c1 := (unhide HRd3).c1
        have f1 := (unhide HRd3).fz 1
        have HRd4 := hide ((unhide HRd3).setAt (P + 1) (by omega))
        have HO4 := hide ((unhide HO3).trans (OnlyB.set q 1 nq.y (.int .i64 ((P + 1 : Nat) : Int))))
        clear HRd HRd2 HRd3 HO HO2 HO3
        have hcast : ((P + 1 : Nat) : Int) = (P : Int) + 1 := by omega
        rw [hcast] at HRd4 HO4
        by_cases hx8 : x < 128
        · have HPL2 := hide hlt
          go_wp2_with fail
          go_ret
          refine ⟨_, P + 1, f, rfl, unhide HRd4, unhide HO4, by omega, by omega, by have := unhide HP; omega, id, fun z hz => ?_⟩
          have hP := unhide HP
          have hXX := unhide HX
          have hM := unhide HM
          have hN := unhide HN
          have hb := hz.bytes
          have hM0 := hM 0 (by omega)
          simp only [Nat.add_zero] at hM0
          rcases hb with ⟨_, h2, _⟩ | ⟨_, _, h3, h4, _, h5⟩
          · omega
          · have e : bs.getD P 0 = bs.getD (p + 1) 0 := by rw [hP]
            have := hN.2.1 (by first | trivial | rfl)
            exact ⟨by omega, by omega, rfl⟩
        · have hx9 : (128 : Int) ≤ x := by omega
          go_wp2_with fail
          go_roundw
          case rel =>
            refine ⟨2, N + x % 128 * 128, by omega, by first | rfl | simp, by first | rfl | (simp; done) | (congr 1; omega), by first | rfl | simp, hide ⟨by intro h; omega, ?_, ?_⟩, hide ?_, ?_, HO4⟩
            · have hP := unhide HP
              have hXX := unhide HX
              have hN := unhide HN
              intro h
              omega
            · simp; omega
            · intro i hi
              have hP := unhide HP
              have hXX := unhide HX
              have hM := unhide HM
              rcases (show i = 1 ∨ i < 1 by omega) with rfl | hi2
              · rw [← hP, hXX]; exact hx9
              · exact hM i hi2
            · have hP := unhide HP
              have e : P + 1 = p + 2 := by omega
              exact hide (by rw [← e]; exact unhide HRd4)
          case measure => simp [intOf]
      · have hltI : (bs.length : Int) ≤ (P : Int) := by omega
        refine wp_region_on (by kernel_rfl) (by kernel_rfl) ?_
        repeat (first | go_big_quiet_step (fail) | quiet_step (fail))
        refine wpQuiet_nil ?_
        intro _ hw'
        obtain ⟨nq, hw''⟩ := hw'
        subst hw''
        clear q0 q1 hne
        have HRd2 := hide ((unhide HRd).on nq.h)
        have HO2 := hide ((unhide HO).then (Nat.le_of_lt (unhide HRd).lt) nq.h)
        have c2 := (unhide HRd2).c2
        have f2 := (unhide HRd2).fz 2
        have HRd4 := hide ((unhide HRd2).setBad)
        have HO4 := hide ((unhide HO2).trans (OnlyB.set q 2 nq.y (.bool true)))
        clear k0 k1 k2 kf HRd HO
        go_wp2_with fail
        go_ret
        refine ⟨_, P, true, rfl, unhide HRd4, unhide HO4, by omega, by omega, by have := unhide HP; omega, fun _ => rfl, fun z hz => ?_⟩
        have hP := unhide HP
        have hM := unhide HM
        have hb := hz.bytes
        have hM0 := hM 0 (by omega)
        simp only [Nat.add_zero] at hM0
        rcases hb with ⟨_, h2, _⟩ | ⟨h1, _⟩
        · omega
        · omega
    · obtain ⟨P, hP⟩ : ∃ P : Nat, P = p + 2 := ⟨_, rfl⟩
      rw [← hP] at k1 hpl HRd HPL
      have HP := hide hP
      have hnb : 0 ≤ N ∧ N < 16384 := by simpa using (unhide HN).2.2
      obtain ⟨hN0, hN1⟩ := hnb
      simp only [if_true] at *
      clear hP
      have q0 : ∀ y : On wr, y.y.cell? ⟨q, 0, none⟩ = some (.slice ad bs.length cap) := fun y => cell_on y.h k0
      have q1 : ∀ y : On wr, y.y.cell? ⟨q, 1, none⟩ = some (.int .i64 P) := fun y => cell_on y.h k1
      go_wp2_with fail
      have hne : Nonempty (On wr) := ⟨⟨wr, Below.refl _ _⟩⟩
      by_cases hlt : P < bs.length
      · have hltI : ¬ ((bs.length : Int) ≤ (P : Int)) := by omega
        refine wp_region_on (by kernel_rfl) (by kernel_rfl) ?_
        repeat (first | go_big_quiet_step (fail) | quiet_step (fail))
        refine wpQuiet_nil ?_
        intro _ hw'
        obtain ⟨nq, hw''⟩ := hw'
        subst hw''
        clear q0 q1 hne
        obtain ⟨b, off, had, hby⟩ : ∃ b off, ad = some ⟨b, off, none⟩ ∧ w0.cell? ⟨b, off + P, none⟩ = some (.int .u8 bs[P]) := by
          rcases unhide HC with h | ⟨b, off, h1, h2⟩
          · rw [h] at hlt; exact absurd hlt (Nat.not_lt_zero _)
          · exact ⟨b, off, h1, h2 P hlt⟩
        have hx := (unhide HR) bs[P] (List.getElem_mem hlt)
        have HX : Hid (bs.getD P 0 = bs[P]) := hide (by simp [hlt])
        have HRd2 := hide ((unhide HRd).on nq.h)
        have HO2 := hide ((unhide HO).then (Nat.le_of_lt (unhide HRd).lt) nq.h)
        have hb0 := (unhide HRd2).below
        have c0 := (unhide HRd2).c0
        have c1 := (unhide HRd2).c1
        have cb := cell_on hb0 hby
        subst had
        obtain ⟨hx0, hx1⟩ := hx
        generalize bs[P] = x at *
        generalize hY : nq.y = Y at *
        have q0 : ∀ y : On Y, y.y.cell? ⟨q, 0, none⟩ = some (.slice (some ⟨b, off, none⟩) bs.length cap) := fun y => cell_on y.h c0
        have q1 : ∀ y : On Y, y.y.cell? ⟨q, 1, none⟩ = some (.int .i64 P) := fun y => cell_on y.h c1
        have q2 : ∀ y : On Y, y.y.cell? ⟨b, off + P, none⟩ = some (.int .u8 x) := fun y => cell_on y.h cb
        clear hY nq k0 k1 k2 kf c0 c1 cb hb0
        have hlcI : (bs.length : Int) ≤ (cap : Int) := by have := unhide HLC; omega
        have hPI : (P : Int) < (bs.length : Int) := by omega
        go_wp2_with fail
        have hne : Nonempty (On Y) := ⟨⟨Y, Below.refl _ _⟩⟩
        refine wp_region_on (by kernel_rfl) (by kernel_rfl) ?_
        repeat (first | go_big_quiet_step (fail) | quiet_step (fail))
        refine wpQuiet_nil ?_
        intro _ hw'
        obtain ⟨nq, hw''⟩ := hw'
        subst hw''
        clear q0 q1 q2 hne
        have HRd3 := hide ((unhide HRd2).on nq.h)
        have HO3 := hide ((unhide HO2).then (Nat.le_of_lt (unhide HRd2).lt) nq.h)
        have c1 := (unhide HRd3).c1
        have f1 := (unhide HRd3).fz 1
        have HRd4 := hide ((unhide HRd3).setAt (P + 1) (by omega))
        have HO4 := hide ((unhide HO3).trans (OnlyB.set q 1 nq.y (.int .i64 ((P + 1 : Nat) : Int))))
        clear HRd HRd2 HRd3 HO HO2 HO3
        have hcast : ((P + 1 : Nat) : Int) = (P : Int) + 1 := by omega
        rw [hcast] at HRd4 HO4
        by_cases hx8 : x < 128
        · have HPL2 := hide hlt
          go_wp2_with fail
          go_ret
          refine ⟨_, P + 1, f, rfl, unhide HRd4, unhide HO4, by omega, by omega, by have := unhide HP; omega, id, fun z hz => ?_⟩
          have hP := unhide HP
          have hXX := unhide HX
          have hM := unhide HM
          have hN := unhide HN
          have hb := hz.bytes
          have hM0 := hM 0 (by omega)
          have hM1 := hM 1 (by omega)
          simp only [Nat.add_zero] at hM0
          rcases hb with ⟨_, h2, _⟩ | ⟨_, _, h3, _⟩
          · omega
          · omega
        · have hx9 : (128 : Int) ≤ x := by omega
          go_wp2_with fail
          go_roundw
          case rel =>
            refine ⟨3, N + x % 128 * 16384, by omega, by first | rfl | simp, by first | rfl | (simp; done) | (congr 1; omega), by first | rfl | simp, hide ⟨by intro h; omega, ?_, ?_⟩, hide ?_, ?_, HO4⟩
            · have hP := unhide HP
              have hXX := unhide HX
              have hN := unhide HN
              intro h
              omega
            · simp; omega
            · intro i hi
              have hP := unhide HP
              have hXX := unhide HX
              have hM := unhide HM
              rcases (show i = 2 ∨ i < 2 by omega) with rfl | hi2
              · rw [← hP, hXX]; exact hx9
              · exact hM i hi2
            · have hP := unhide HP
              have e : P + 1 = p + 3 := by omega
              exact hide (by rw [← e]; exact unhide HRd4)
          case measure => simp [intOf]
      · have hltI : (bs.length : Int) ≤ (P : Int) := by omega
        refine wp_region_on (by kernel_rfl) (by kernel_rfl) ?_
        repeat (first | go_big_quiet_step (fail) | quiet_step (fail))
        refine wpQuiet_nil ?_
        intro _ hw'
        obtain ⟨nq, hw''⟩ := hw'
        subst hw''
        clear q0 q1 hne
        have HRd2 := hide ((unhide HRd).on nq.h)
        have HO2 := hide ((unhide HO).then (Nat.le_of_lt (unhide HRd).lt) nq.h)
        have c2 := (unhide HRd2).c2
        have f2 := (unhide HRd2).fz 2
        have HRd4 := hide ((unhide HRd2).setBad)
        have HO4 := hide ((unhide HO2).trans (OnlyB.set q 2 nq.y (.bool true)))
        clear k0 k1 k2 kf HRd HO
        go_wp2_with fail
        go_ret
        refine ⟨_, P, true, rfl, unhide HRd4, unhide HO4, by omega, by omega, by have := unhide HP; omega, fun _ => rfl, fun z hz => ?_⟩
        have hP := unhide HP
        have hM := unhide HM
        have hb := hz.bytes
        have hM0 := hM 0 (by omega)
        have hM1 := hM 1 (by omega)
        simp only [Nat.add_zero] at hM0
        rcases hb with ⟨_, h2, _⟩ | ⟨_, _, h3, _⟩
        · omega
        · omega
    · have HRd4 := hide ((unhide HRd).setBad)
      have HO4 := hide ((unhide HO).trans (OnlyB.set q 2 wr (.bool true)))
      go_wp2_with fail
      go_ret
      refine ⟨_, p + 3, true, rfl, unhide HRd4, unhide HO4, by omega, by omega, by omega, fun _ => rfl, fun z hz => ?_⟩
      have hM := unhide HM
      have hb := hz.bytes
      have hM0 := hM 0 (by omega)
      have hM1 := hM 1 (by omega)
      simp only [Nat.add_zero] at hM0
      rcases hb with ⟨_, h2, _⟩ | ⟨_, _, h3, _⟩
      · omega
      · omega
end Go.Proofs.YtiljjhipiinafaaGreat

/- The reader of the specification: (*spec.l26Reader).nums. -/
namespace Go.Proofs.YtiljjhipiinafaaGreat
open Go.RowKit
set_option linter.unusedVariables false
set_option linter.unusedSimpArgs false

/-- What owns a row of numbers. -/
abbrev OwnsI (w : World) (B : Nat) (v : Value) (zs : List Int) : Prop := w.ownsRow B 3 1 v zs.length (zs.map (Value.int .i64))
theorem flatCells_one (zs : List Int) : flatCells (zs.map fun z => [z]) = zs.map (Value.int .i64) := by
  induction zs with
  | nil => rfl
  | cons a t ih => unfold flatCells at ih ⊢; simp only [List.map_cons, List.flatMap_cons, ih]; rfl
theorem OwnsI.rows {w : World} {B : Nat} {v : Value} {zs : List Int} (h : OwnsI w B v zs) : RowsFr B 3 1 w v (zs.map fun z => [z]) :=
  RowsFr.of_owns (fun r hr => by obtain ⟨z, _, rfl⟩ := List.mem_map.1 hr; rfl) (by rw [List.length_map, flatCells_one]; exact h)
theorem ownsI_more {w : World} {B : Nat} {v : Value} {zs : List Int} {x : Int} (h : w.ownsRow B 3 1 v (zs.length + 1) (zs.map (Value.int .i64) ++ [.int .i64 x])) : OwnsI w B v (zs ++ [x]) := by
  unfold OwnsI; rw [List.map_append, List.length_append]; simpa using h
theorem owns_onlyB {w w' : World} {q B e n k : Nat} {v : Value} {xs : List Value} (ho : OnlyB q w w') (hq : q < B) (h : w.ownsRow B e n v k xs) : w'.ownsRow B e n v k xs := by
  obtain ⟨hl, h | ⟨g, cap, cur, h1, h2, h3, h4⟩⟩ := h
  · exact ⟨hl, Or.inl h⟩
  · refine ⟨hl, Or.inr ⟨g, cap, cur, h1, h2, ?_, h4⟩⟩
    rw [ho.other g (by omega) (Array.getElem?_eq_some_iff.1 h3).1]
    exact h3
theorem infoI_parts : ∃ i, Tryz.prog.info? 3 = some i ∧ i.zero = some (.int .i64 0) ∧ i.size = 1 ∧ i.bytes = 8 := by
  obtain ⟨i, hi, h⟩ := Option.map_eq_some_iff.1 info_Int
  simp only [Prod.mk.injEq] at h
  exact ⟨i, hi, h.1, h.2.1, h.2.2⟩

theorem RdS.gr {w0 w w' : World} {q : Nat} {vb v u : Value} {bs : List Int} {p : Nat} {f : Bool} (hG : Gr v u w w') (hv : ∀ g, v.ownBlock = some g → q < g) (h : RdS w0 w q vb bs p f) : RdS w0 w' q vb bs p f := by
  have hc : ∀ i x, w.cell? ⟨q, i, none⟩ = some x → w'.cell? ⟨q, i, none⟩ = some x := fun i x e => hG.cell e (fun e2 => by have := hv q e2; omega)
  refine ⟨h.bytes, h.rng, h.few, h.q0, Below.grown h.below hG.g h.below.size (fun g e => by have := hv g e; have := h.q0; omega), hc 0 _ h.c0, hc 1 _ h.c1, hc 2 _ h.c2, fun i => ?_, h.pl⟩
  exact (World.frozen?_of_block (hG.g.block q h.lt (fun e => by have := hv q e.symm; omega))).trans (h.fz i)
theorem OnlyB.gr {w w1 w' : World} {q : Nat} {v u : Value} (h : OnlyB q w w1) (hG : Gr v u w1 w') (hq : q < w.heap.size) (hv : ∀ g, v.ownBlock = some g → w.heap.size ≤ g) : OnlyB q w w' :=
  ⟨Nat.le_trans h.size hG.g.size, fun b hb hl => (hG.g.block b (Nat.lt_of_lt_of_le hl h.size) (fun e => by have := hv b e.symm; omega)).trans (h.other b hb hl), Below.grown h.below hG.g (by have := h.size; omega) (fun g e => by have := hv g e; omega)⟩

/-- The numbers from p on are ys, if what lies there is as they are written. -/
def NumsIn (bs : List Int) (p : Nat) (ys : List Int) : Prop := (∀ z ∈ ys, -1 ≤ z ∧ z ≤ 9999) ∧ ∃ rest, bs.drop p = packI ys ++ rest
theorem NumsIn.at {bs : List Int} {p : Nat} {ys : List Int} (h : NumsIn bs p ys) (k : Nat) (hk : k < ys.length) : NumAt bs (p + (packI (ys.take k)).length) ys[k] := by
  obtain ⟨h1, rest, h2⟩ := h
  have h3 := h1 ys[k] (List.getElem_mem hk)
  refine ⟨h3.1, h3.2, packI (ys.drop (k + 1)) ++ rest, ?_⟩
  have e : ys = ys.take k ++ (ys[k] :: ys.drop (k + 1)) := by rw [← List.drop_eq_getElem_cons hk, List.take_append_drop]
  have e2 : packI ys = packI (ys.take k) ++ (numI ys[k] ++ packI (ys.drop (k + 1))) := by
    conv => lhs; rw [e]
    rw [packI_app]
    show _ ++ packI ([ys[k]] ++ ys.drop (k + 1)) = _
    rw [packI_app, packI_one]
  rw [← List.drop_drop, h2, e2, List.append_assoc, List.drop_left, List.append_assoc]

/-- What reading so many numbers comes to. -/
def RdNums (w0 w : World) (q : Nat) (vb : Value) (bs : List Int) (p : Nat) (f : Bool) (n : Int) (e : Ending) (w' : World) : Prop :=
  ∃ (v : Value) (zs : List Int) (p' : Nat) (f' : Bool), e = .returned v ∧ OwnsI w' w.heap.size v zs ∧ RdS w0 w' q vb bs p' f' ∧ OnlyB q w w' ∧ (f' = false → zs.length = n.toNat) ∧ zs.length ≤ 2097151 ∧
      (∀ ys, f = false → ys.length = n.toNat → NumsIn bs p ys → zs = ys ∧ p' = p + (packI ys).length ∧ f' = false)

set_option maxRecDepth 100000 in
set_option maxHeartbeats 8000000 in
theorem rdNums_any (w0 w : World) (q : Nat) (vb : Value) (bs : List Int) (p : Nat) (f : Bool) (n : Int) (h : RdS w0 w q vb bs p f) (hn : n ≤ 2097151) :
    Calls Tryz.prog 52 #[.pointer (some ⟨q, 0, none⟩), .int .i64 n] w fun e w' => RdNums w0 w q vb bs p f n e w' := by
  obtain ⟨i1, hi1, hz0, hz1, hz2⟩ := infoI_parts
  have hlt := h.lt
  have HLT := hide hlt
  have HR := hide h
  clear h hlt
  have hbA : Below w.heap.size w (w.alloc (.cells #[] 3)) := (Below.refl _ _).alloc (Nat.le_refl _) _
  have own0 : OwnsI (w.alloc (.cells #[] 3)) w.heap.size (.slice (some ⟨w.heap.size, 0, none⟩) 0 0) [] := World.ownsRow_lit w #[] 0 (Nat.le_refl _) (Nat.zero_le _) rfl
  have HR1 := hide ((unhide HR).on hbA)
  have HO1 := hide own0
  have HB1 : Hid (OnlyB q w (w.alloc (.cells #[] 3))) := hide ⟨hbA.size, fun b _ hl => hbA.block b hl, hbA.mono (Nat.le_of_lt (unhide HLT))⟩
  clear hbA own0
  go_enter Tryz.func52, Tryz.ntmps52
  go_wp2_with fail
  generalize w.alloc (.cells #[] 3) = X0 at *
  go_loopw [5, 6] (fun u i wr => ∃ (k : Nat) (zs : List Int) (p1 : Nat) (f1 : Bool), (k = 0 ∨ (k : Int) ≤ n) ∧ i = .int .i64 k ∧ Hid (zs.length = k) ∧ Hid (OwnsI wr w.heap.size u zs) ∧ Hid (RdS w0 wr q vb bs p1 f1) ∧ Hid (OnlyB q w wr) ∧ Hid (∀ ys, f = false → ys.length = n.toNat → NumsIn bs p ys → f1 = false ∧ zs = ys.take k ∧ p1 = p + (packI (ys.take k)).length)) (fun _ i _ => n.toNat - (intOf i).toNat)
  case atStart => exact ⟨0, [], p, f, Or.inl rfl, rfl, hide rfl, HO1, HR1, HB1, hide (fun ys h1 _ _ => ⟨h1, rfl, by simp [packI_nil]⟩)⟩
  case round =>
    obtain ⟨k, zs, p1, f1, hk, rfl, HL, HO, HRd, HB, HY⟩ := hrel
    have k2 := (unhide HRd).c2
    by_cases hkn : (k : Int) < n
    · cases f1 with
      | true =>
        have hk2 : k ≤ 2097151 := by omega
        go_wp2_with fail
        go_ret
        refine ⟨_, zs, p1, true, rfl, unhide HO, unhide HRd, unhide HB, (fun h => by cases h), (by rw [unhide HL]; exact hk2), fun ys h1 h2 h3 => ?_⟩
        have := ((unhide HY) ys h1 h2 h3).1
        cases this
      | false =>
        go_wp2_with fail
        refine (rdNum_any w0 _ q vb bs p1 false (unhide HRd)).mono ?_
        rintro e w3 ⟨z, p3, f3, rfl, hR3, hO3, hz9, hz10, _, _, hz11⟩
        have HO3 := hide (owns_onlyB hO3 (unhide HLT) (unhide HO))
        have HR3 := hide hR3
        have HB3 := hide ((unhide HB).trans hO3)
        have HZ := hide hz11
        clear hR3 hO3 hz11 HO HRd HB
        have hzl : zs.length ≤ 2097151 := by rw [unhide HL]; omega
        have hbA : Below w3.heap.size w3 (w3.alloc (.cells #[.int .i64 z] 3)) := (Below.refl _ _).alloc (Nat.le_refl _) _
        have hownA := ownsOn hbA (unhide HO3)
        have HBA := hide hbA
        have hsz := (unhide HB3).size
        clear hbA k2
        go_wp2_with (at_builtin; refine wpList_append_lies _ (by rfl) _ _ _ (by rfl) w.heap.size 3 i1 _ 1 8 slice_IntW hi1 hz0 hz1 hz2 (by rfl) (by omega) _ zs.length (zs.map (Value.int .i64)) (by rfl) hownA ⟨w3.heap.size, 0, none⟩ 1 1 [.int .i64 z] (by rfl) (by rfl) (World.news_of_block (cs := #[.int .i64 z]) (t := 3) (fr := (0, 0)) (heap_alloc_new w3 _)) (by simp [Value.oneCell']) (by omega) (by unfold maxLen; omega) (by omega) (by simp; omega) (w3.heap.size + 1) (by simp) ?_; intro gg cap w4 hown4 hgrow hat hlt4)
        have HG4 := hide (Gr.of (n := zs.length + 1) (cap := cap) (unhide HBA) hgrow hat)
        have HO4 := hide (ownsI_more hown4)
        have HV : Hid (∀ g, Value.ownBlock _ = some g → w.heap.size ≤ g) := hide (fun g e => ((unhide HO3).lt g e).1)
        have HR4 := hide ((unhide HR3).gr (unhide HG4) (fun g e => by have := (unhide HV) g e; have := unhide HLT; omega))
        have HB4 := hide ((unhide HB3).gr (unhide HG4) (unhide HLT) (unhide HV))
        clear hown4 hgrow hat hlt4 hownA
        go_wp2_with fail
        go_roundw
        case rel =>
          refine ⟨k + 1, zs ++ [z], p3, f3, Or.inr (by omega), by go_num, hide (by rw [List.length_append, unhide HL]; rfl), HO4, HR4, HB4, hide (fun ys h1 h2 h3 => ?_)⟩
          obtain ⟨_, h4, h5⟩ := (unhide HY) ys h1 h2 h3
          have hky : k < ys.length := by omega
          obtain ⟨h6, h7, h8⟩ := (unhide HZ) ys[k] (by rw [h5]; exact h3.at k hky)
          refine ⟨h8, ?_, ?_⟩
          · rw [take_more ys k hky, ← h4, h6]
          · rw [h7, h5, packI_take ys k hky, List.length_append, Nat.add_assoc]
        case measure => simp [intOf]; omega
    · go_wp2_with fail
      go_ret
      have hkl : k = n.toNat := by omega
      refine ⟨_, zs, p1, f1, rfl, unhide HO, unhide HRd, unhide HB, fun _ => by rw [unhide HL]; exact hkl, by rw [unhide HL]; omega, fun ys h1 h2 h3 => ?_⟩
      obtain ⟨h4, h5, h6⟩ := (unhide HY) ys h1 h2 h3
      have e : ys.take k = ys := List.take_of_length_le (by omega)
      rw [e] at h5 h6
      exact ⟨h5, h6, h4⟩
end Go.Proofs.YtiljjhipiinafaaGreat
