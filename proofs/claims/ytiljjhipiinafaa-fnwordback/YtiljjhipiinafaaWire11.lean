/- The reader of impl: pieces. -/
import Derived.Test.YtiljjhipiinafaaWire10
namespace Go.Proofs.Ytiljjhipiinafaa
open Go.RowKit
set_option linter.unusedVariables false
set_option linter.unusedSimpArgs false

theorem RdI.onlyB {w0 w w' : World} {q : Nat} {vb : Value} {bs : List Int} {p : Nat} {f : Option (Int × Int)} (h : RdI w0 w q vb bs p f) (hb : Below w.heap.size w w') : OnlyB q w w' :=
  ⟨hb.size, fun b _ hl => hb.block b hl, hb.mono (Nat.le_of_lt h.lt)⟩

/-- What the bytes of the next number come to: they are there, or a fault is. -/
def PiecesOf (w0 w : World) (q : Nat) (vb : Value) (bs : List Int) (p : Nat) (e : Ending) (w' : World) : Prop :=
  ∃ vr : Value, e = .returned vr ∧ OnlyB q w w' ∧
    ((∃ L : Nat, 1 ≤ L ∧ L ≤ 4 ∧ p + L ≤ bs.length ∧ (∀ i, i < L - 1 → 128 ≤ bs.getD (p + i) 0) ∧ bs.getD (p + (L - 1)) 0 < 128 ∧ (L = 1 ∨ bs.getD (p + (L - 1)) 0 ≠ 0) ∧ RdI w0 w' q vb bs (p + L) none ∧ ByAt w' vr ((bs.drop p).take L)) ∨
     (vr = .slice none 0 0 ∧ ∃ a k : Int, RdI w0 w' q vb bs p (some (a, k)) ∧ (k = 1 ↔ p = bs.length) ∧ ∀ z, ¬ NumAt bs p z))

theorem getD_drop (bs : List Int) (p i : Nat) : (bs.drop p).getD i 0 = bs.getD (p + i) 0 := by simp [List.getD, List.getElem?_drop]

set_option maxRecDepth 100000 in
set_option maxHeartbeats 8000000 in
theorem pieces_over1 (w0 w : World) (q : Nat) (a : Addr) (n cap : Nat) (bs : List Int) (p : Nat) (h : RdI w0 w q (.slice (some a) n cap) bs p none) (hp : p = bs.length) (hc : bs.length < cap) :
    Calls Try.prog 100 #[.pointer (some ⟨q, 0, none⟩)] w fun e w' => PiecesOf w0 w q (.slice (some a) n cap) bs p e w' := by
  obtain ⟨ad, cp, e, hlc, hm, hcells⟩ := h.bytes
  simp only [Value.slice.injEq] at e
  obtain ⟨rfl, rfl, rfl⟩ := e
  have hcm := (h.capok _ _ _ rfl).1
  unfold maxLen at hcm hm
  have hpe : p = bs.length := hp
  subst hp
  have H := hide h
  have hfew := h.few
  have k0 := h.c0
  have k1 := h.c1
  clear hcells h
  have q0 : ∀ y : On w, y.y.cell? ⟨q, 0, none⟩ = some (.slice (some a) bs.length cap) := fun y => cell_on y.h k0
  have q1 : ∀ y : On w, y.y.cell? ⟨q, 1, none⟩ = some (.int .i64 bs.length) := fun y => cell_on y.h k1
  have hpc : (bs.length : Int) < (cap : Int) := by omega

  go_enter Try.func100, Try.ntmps100
  go_wp2_with fail
  have hne : Nonempty (On w) := ⟨⟨w, Below.refl _ _⟩⟩
  refine wp_region_on (by kernel_rfl) (by kernel_rfl) ?_
  repeat (first | go_big_quiet_step (fail) | quiet_step (fail))
  refine wpQuiet_nil ?_
  intro _ hw'
  obtain ⟨nq, hw''⟩ := hw'
  subst hw''
  clear q0 q1 hne k0 k1
  have HR1 := hide ((unhide H).on nq.h)
  have HO1 := hide ((unhide H).onlyB nq.h)
  clear H
  generalize nq.y = Y at *
  clear nq
  go_wp2_with fail
  refine (indexFunc_any _ [] _ ⟨_, _, rfl, Nat.zero_le _, Nat.zero_le _, Or.inl rfl⟩).mono ?_
  rintro e w2 ⟨i, rfl, _, hw2⟩
  obtain rfl := hw2.symm
  have c1 := (unhide HR1).c1
  go_wp2_with fail
  refine (failI_any w0 _ q _ bs bs.length none bs.length 1 (unhide HR1)).mono ?_
  rintro e w3 ⟨rfl, ⟨f', _, hf1, _, hR3⟩, hO3⟩
  obtain rfl := hf1 rfl
  have HR3 := hide hR3
  have HO3 := hide ((unhide HO1).trans hO3)
  clear hR3 hO3 hf1 c1
  go_wp2_with fail
  go_ret
  refine ⟨_, rfl, unhide HO3, Or.inr ⟨rfl, _, 1, unhide HR3, ⟨fun _ => (by first | rfl | exact hpe), fun _ => rfl⟩, fun z hz => ?_⟩⟩
  rcases hz.bytes with ⟨h1, _⟩ | ⟨h1, _⟩
  · first | omega | (simp at h1; done)
  · first | omega | (simp at h1; done)

set_option maxRecDepth 100000 in
set_option maxHeartbeats 8000000 in
theorem pieces_over2 (w0 w : World) (q : Nat) (a : Addr) (n cap : Nat) (bs : List Int) (p : Nat) (h : RdI w0 w q (.slice (some a) n cap) bs p none) (hp : p = bs.length) (hc : cap = bs.length) :
    Calls Try.prog 100 #[.pointer (some ⟨q, 0, none⟩)] w fun e w' => PiecesOf w0 w q (.slice (some a) n cap) bs p e w' := by
  obtain ⟨ad, cp, e, hlc, hm, hcells⟩ := h.bytes
  simp only [Value.slice.injEq] at e
  obtain ⟨rfl, rfl, rfl⟩ := e
  have hcm := (h.capok _ _ _ rfl).1
  unfold maxLen at hcm hm
  have hpe : p = bs.length := hp
  subst hp hc
  have H := hide h
  have hfew := h.few
  have k0 := h.c0
  have k1 := h.c1
  clear hcells h
  have q0 : ∀ y : On w, y.y.cell? ⟨q, 0, none⟩ = some (.slice (some a) bs.length bs.length) := fun y => cell_on y.h k0
  have q1 : ∀ y : On w, y.y.cell? ⟨q, 1, none⟩ = some (.int .i64 bs.length) := fun y => cell_on y.h k1

  go_enter Try.func100, Try.ntmps100
  go_wp2_with fail
  have hne : Nonempty (On w) := ⟨⟨w, Below.refl _ _⟩⟩
  refine wp_region_on (by kernel_rfl) (by kernel_rfl) ?_
  repeat (first | go_big_quiet_step (fail) | quiet_step (fail))
  refine wpQuiet_nil ?_
  intro _ hw'
  obtain ⟨nq, hw''⟩ := hw'
  subst hw''
  clear q0 q1 hne k0 k1
  have HR1 := hide ((unhide H).on nq.h)
  have HO1 := hide ((unhide H).onlyB nq.h)
  clear H
  generalize nq.y = Y at *
  clear nq
  go_wp2_with fail
  refine (indexFunc_any _ [] _ ⟨_, _, rfl, Nat.zero_le _, Nat.zero_le _, Or.inl rfl⟩).mono ?_
  rintro e w2 ⟨i, rfl, _, hw2⟩
  obtain rfl := hw2.symm
  have c1 := (unhide HR1).c1
  go_wp2_with fail
  refine (failI_any w0 _ q _ bs bs.length none bs.length 1 (unhide HR1)).mono ?_
  rintro e w3 ⟨rfl, ⟨f', _, hf1, _, hR3⟩, hO3⟩
  obtain rfl := hf1 rfl
  have HR3 := hide hR3
  have HO3 := hide ((unhide HO1).trans hO3)
  clear hR3 hO3 hf1 c1
  go_wp2_with fail
  go_ret
  refine ⟨_, rfl, unhide HO3, Or.inr ⟨rfl, _, 1, unhide HR3, ⟨fun _ => (by first | rfl | exact hpe), fun _ => rfl⟩, fun z hz => ?_⟩⟩
  rcases hz.bytes with ⟨h1, _⟩ | ⟨h1, _⟩
  · first | omega | (simp at h1; done)
  · first | omega | (simp at h1; done)

set_option maxRecDepth 100000 in
set_option maxHeartbeats 8000000 in
theorem pieces_over3 (w0 w : World) (q : Nat) (n cap : Nat) (bs : List Int) (p : Nat) (h : RdI w0 w q (.slice none n cap) bs p none) (hp : p = bs.length) :
    Calls Try.prog 100 #[.pointer (some ⟨q, 0, none⟩)] w fun e w' => PiecesOf w0 w q (.slice none n cap) bs p e w' := by
  obtain ⟨ad, cp, e, hlc, hm, hcells⟩ := h.bytes
  simp only [Value.slice.injEq] at e
  obtain ⟨rfl, rfl, rfl⟩ := e
  obtain rfl : cap = 0 := (h.capok _ _ _ rfl).2 rfl
  obtain rfl : bs = [] := List.length_eq_zero_iff.1 (by omega)
  simp only [List.length_nil] at hp
  subst hp
  have H := hide h
  have k0 : w.cell? ⟨q, 0, none⟩ = some (.slice none 0 0) := h.c0
  have k1 : w.cell? ⟨q, 1, none⟩ = some (.int .i64 0) := h.c1
  clear hcells h hm hlc
  have q0 : ∀ y : On w, y.y.cell? ⟨q, 0, none⟩ = some (.slice none 0 0) := fun y => cell_on y.h k0
  have q1 : ∀ y : On w, y.y.cell? ⟨q, 1, none⟩ = some (.int .i64 0) := fun y => cell_on y.h k1

  go_enter Try.func100, Try.ntmps100
  go_wp2_with fail
  have hne : Nonempty (On w) := ⟨⟨w, Below.refl _ _⟩⟩
  refine wp_region_on (by kernel_rfl) (by kernel_rfl) ?_
  repeat (first | go_big_quiet_step (fail) | quiet_step (fail))
  refine wpQuiet_nil ?_
  intro _ hw'
  obtain ⟨nq, hw''⟩ := hw'
  subst hw''
  clear q0 q1 hne k0 k1
  have HR1 := hide ((unhide H).on nq.h)
  have HO1 := hide ((unhide H).onlyB nq.h)
  clear H
  generalize nq.y = Y at *
  clear nq
  go_wp2_with fail
  refine (indexFunc_any _ [] _ ⟨_, _, rfl, Nat.zero_le _, Nat.zero_le _, Or.inl rfl⟩).mono ?_
  rintro e w2 ⟨i, rfl, _, hw2⟩
  obtain rfl := hw2.symm
  have c1 : Y.cell? ⟨q, 1, none⟩ = some (.int .i64 0) := (unhide HR1).c1
  go_wp2_with fail
  refine (failI_any w0 _ q _ [] 0 none 0 1 (unhide HR1)).mono ?_
  rintro e w3 ⟨rfl, ⟨f', _, hf1, _, hR3⟩, hO3⟩
  obtain rfl := hf1 rfl
  have HR3 := hide hR3
  have HO3 := hide ((unhide HO1).trans hO3)
  clear hR3 hO3 hf1 c1
  go_wp2_with fail
  go_ret
  refine ⟨_, rfl, unhide HO3, Or.inr ⟨rfl, _, 1, unhide HR3, ⟨fun _ => (by first | rfl | exact hpe), fun _ => rfl⟩, fun z hz => ?_⟩⟩
  rcases hz.bytes with ⟨h1, _⟩ | ⟨h1, _⟩
  · first | omega | (simp at h1; done)
  · first | omega | (simp at h1; done)

set_option maxRecDepth 100000 in
set_option maxHeartbeats 8000000 in
theorem pieces_in (w0 w : World) (q b off : Nat) (n cap : Nat) (bs : List Int) (p : Nat) (h : RdI w0 w q (.slice (some ⟨b, off, none⟩) n cap) bs p none) (hp : p < bs.length) :
    Calls Try.prog 100 #[.pointer (some ⟨q, 0, none⟩)] w fun e w' => PiecesOf w0 w q (.slice (some ⟨b, off, none⟩) n cap) bs p e w' := by
  obtain ⟨ad, cp, e, hlc, hm, hcells⟩ := h.bytes
  simp only [Value.slice.injEq] at e
  obtain ⟨rfl, rfl, rfl⟩ := e
  have hcm := (h.capok _ _ _ rfl).1
  unfold maxLen at hcm hm
  have HC : Hid (∀ i (h : i < bs.length), w0.cell? ⟨b, off + i, none⟩ = some (.int .u8 bs[i])) := hide (by
    rcases hcells with h1 | ⟨b', off', h1, h2⟩
    · rw [h1] at hp; exact absurd hp (Nat.not_lt_zero _)
    · simp only [Option.some.injEq, Addr.mk.injEq] at h1
      obtain ⟨rfl, rfl, _⟩ := h1
      exact h2)
  have H := hide h
  have hfew := h.few
  have k0 := h.c0
  have k1 := h.c1
  clear hcells h
  have q0 : ∀ y : On w, y.y.cell? ⟨q, 0, none⟩ = some (.slice (some ⟨b, off, none⟩) bs.length cap) := fun y => cell_on y.h k0
  have q1 : ∀ y : On w, y.y.cell? ⟨q, 1, none⟩ = some (.int .i64 p) := fun y => cell_on y.h k1
  have hpI : (p : Int) < (bs.length : Int) := by omega
  have hpc : (p : Int) < (cap : Int) := by omega
  go_enter Try.func100, Try.ntmps100
  go_wp2_with fail
  have hne : Nonempty (On w) := ⟨⟨w, Below.refl _ _⟩⟩
  refine wp_region_on (by kernel_rfl) (by kernel_rfl) ?_
  repeat (first | go_big_quiet_step (fail) | quiet_step (fail))
  refine wpQuiet_nil ?_
  intro _ hw'
  obtain ⟨nq, hw''⟩ := hw'
  subst hw''
  clear q0 q1 hne k0 k1
  have HR1 := hide ((unhide H).on nq.h)
  have HO1 := hide ((unhide H).onlyB nq.h)
  clear H
  generalize nq.y = Y at *
  clear nq
  go_wp2_with fail
  have HBY : Hid (∀ i (h : i < bs.length), Y.cell? ⟨b, off + i, none⟩ = some (.int .u8 bs[i])) := hide (fun i hi => cell_on (unhide HR1).below ((unhide HC) i hi))
  have hln : (bs.drop p).length = bs.length - p := List.length_drop
  have HAT : Hid (ByAt Y (.slice (some ⟨b, off + p, none⟩) (bs.length - p) (cap - p)) (bs.drop p)) := hide ⟨_, _, by rw [hln], by omega, by unfold maxLen; omega, Or.inr ⟨b, off + p, rfl, fun i hi => by
    have := (unhide HBY) (p + i) (by omega)
    rw [Nat.add_assoc, this]
    simp⟩⟩
  refine (indexFunc_any _ (bs.drop p) _ (unhide HAT)).mono ?_
  rintro e w2 ⟨i, rfl, hi, hw2⟩
  obtain rfl := hw2.symm
  rw [show LastIs (bs.drop p) i = ((i = -1 ∧ ∀ j, j < (bs.drop p).length → 128 ≤ (bs.drop p).getD j 0) ∨ (∃ k : Nat, i = k ∧ k < (bs.drop p).length ∧ (bs.drop p).getD k 0 < 128 ∧ ∀ j, j < k → 128 ≤ (bs.drop p).getD j 0)) from rfl] at hi
  simp only [getD_drop, hln] at hi
  have HI := hide hi
  clear hi
  have hlp : ¬ ((bs.length - p : Nat) : Int) = 0 := by omega
  have hsub : ((bs.length - p : Nat) : Int) = (bs.length : Int) - (p : Int) := by omega
  rcases unhide HI with ⟨rfl, hall⟩ | ⟨k, rfl, hk, hlast, hmore⟩
  · have HALL := hide hall
    clear hall
    have c1 := (unhide HR1).c1
    go_wp2_with fail
    refine (failI_any w0 _ q _ bs p none p 2 (unhide HR1)).mono ?_
    rintro e w3 ⟨rfl, ⟨f', _, hf1, _, hR3⟩, hO3⟩
    obtain rfl := hf1 rfl
    have HR3 := hide hR3
    have HO3 := hide ((unhide HO1).trans hO3)
    clear hR3 hO3 hf1 c1
    go_wp2_with fail
    go_ret
    refine ⟨_, rfl, unhide HO3, Or.inr ⟨rfl, _, 2, unhide HR3, ⟨fun h => by omega, fun h => by omega⟩, fun z hz => ?_⟩⟩
    have hall := unhide HALL
    rcases hz.bytes with ⟨h1, h2, _⟩ | ⟨h1, _, h3, _⟩
    · have := hall 0 (by omega)
      rw [Nat.add_zero] at this
      omega
    · have := hall 1 (by omega)
      omega
  · have HM := hide hmore
    have HLA := hide hlast
    clear hmore hlast
    by_cases hk4 : 4 ≤ k
    · have hk4I : (4 : Int) ≤ (k : Int) := by omega
      have hk0 : ¬ (k : Int) < 0 := by omega
      have c1 := (unhide HR1).c1
      go_wp2_with fail
      refine (failI_any w0 _ q _ bs p none p 3 (unhide HR1)).mono ?_
      rintro e w3 ⟨rfl, ⟨f', _, hf1, _, hR3⟩, hO3⟩
      obtain rfl := hf1 rfl
      have HR3 := hide hR3
      have HO3 := hide ((unhide HO1).trans hO3)
      clear hR3 hO3 hf1 c1
      go_wp2_with fail
      go_ret
      refine ⟨_, rfl, unhide HO3, Or.inr ⟨rfl, _, 3, unhide HR3, ⟨fun h => by omega, fun h => by omega⟩, fun z hz => ?_⟩⟩
      have hm := unhide HM
      have hm0 := hm 0 (by omega)
      have hm1 := hm 1 (by omega)
      rw [Nat.add_zero] at hm0
      rcases hz.bytes with ⟨h1, h2, _⟩ | ⟨h1, _, h3, _⟩
      · omega
      · omega
    · have hk4I : ¬ (4 : Int) ≤ (k : Int) := by omega
      have hk0 : ¬ (k : Int) < 0 := by omega
      have hpk : p + k < bs.length := by omega
      have hby := (unhide HBY) (p + k) hpk
      have HX : Hid (bs.getD (p + k) 0 = bs[p + k]) := hide (by simp [hpk])
      rw [← Nat.add_assoc] at hby
      have hkI : (k : Int) < (bs.length : Int) - (p : Int) := by omega
      generalize bs[p + k] = x at *
      by_cases hbad : 0 < k ∧ x = 0
      · obtain ⟨hkp, rfl⟩ := hbad
        have hkpI : (0 : Int) < (k : Int) := by omega
        have c1 := (unhide HR1).c1
        go_wp2_with fail
        refine (failI_any w0 _ q _ bs p none p 4 (unhide HR1)).mono ?_
        rintro e w3 ⟨rfl, ⟨f', _, hf1, _, hR3⟩, hO3⟩
        obtain rfl := hf1 rfl
        have HR3 := hide hR3
        have HO3 := hide ((unhide HO1).trans hO3)
        clear hR3 hO3 hf1 c1
        go_wp2_with fail
        go_ret
        refine ⟨_, rfl, unhide HO3, Or.inr ⟨rfl, _, 4, unhide HR3, ⟨fun h => by omega, fun h => by omega⟩, fun z hz => ?_⟩⟩
        have hm := unhide HM
        have hx := unhide HX
        rcases hz.bytes with ⟨h1, h2, _⟩ | ⟨h1, _, h3, _, h5, _⟩
        · have := hm 0 (by omega)
          rw [Nat.add_zero] at this
          omega
        · rcases (show k = 1 ∨ 2 ≤ k by omega) with rfl | h2
          · exact h5 hx
          · have := hm 1 (by omega)
            omega
      · have c1 := (unhide HR1).c1
        have f1 := (unhide HR1).fz 1
        have HR4 := hide ((unhide HR1).setAt (p + (k + 1)) (by omega))
        have HO4 := hide ((unhide HO1).trans (OnlyB.set q 1 Y (.int .i64 ((p + (k + 1) : Nat) : Int))))
        have hcast : ((p + (k + 1) : Nat) : Int) = (p : Int) + ((k : Int) + 1) := by omega
        rw [hcast] at HR4 HO4
        have hbq : b ≠ q := by
          have h1 := World.block_lt_of_cell? _ _ ((unhide HC) 0 (by omega))
          have h2 := (unhide HR1).q0
          simp only at h1; omega
        have HAT4 : Hid (ByAt (Y.setCell ⟨q, 1, none⟩ (.int .i64 ((p : Int) + ((k : Int) + 1)))) (.slice (some ⟨b, off + p, none⟩) (k + 1) (cap - p)) ((bs.drop p).take (k + 1))) := hide (by
          have hl : ((bs.drop p).take (k + 1)).length = k + 1 := by rw [List.length_take, hln]; omega
          refine ⟨_, _, by rw [hl], by rw [hl]; omega, by rw [hl]; unfold maxLen; omega, Or.inr ⟨b, off + p, rfl, fun i hi => ?_⟩⟩
          rw [hl] at hi
          have := (unhide HBY) (p + i) (by omega)
          rw [World.cell?_setCell_far _ _ _ _ (fun e => hbq e.symm), Nat.add_assoc, this]
          simp)
        have HBAD := hide hbad
        rcases (show k = 0 ∨ 0 < k by omega) with rfl | hkp
        · clear hbad
          go_wp2_with fail
          go_ret
          refine ⟨_, rfl, unhide HO4, Or.inl ⟨0 + 1, by omega, by omega, by omega, fun i hi => (unhide HM) i (by omega), ?_, ?_, unhide HR4, unhide HAT4⟩⟩
          · rw [Nat.add_sub_cancel]; exact unhide HLA
          · exact Or.inl rfl
        · have hx0 : ¬ x = 0 := fun e => hbad ⟨hkp, e⟩
          have hkpI : (0 : Int) < (k : Int) := by omega
          clear hbad
          go_wp2_with fail
          go_ret
          refine ⟨_, rfl, unhide HO4, Or.inl ⟨k + 1, by omega, by omega, by omega, fun i hi => (unhide HM) i (by omega), ?_, ?_, unhide HR4, unhide HAT4⟩⟩
          · rw [Nat.add_sub_cancel]; exact unhide HLA
          · refine Or.inr ?_
            rw [Nat.add_sub_cancel, unhide HX]; exact hx0
end Go.Proofs.Ytiljjhipiinafaa
