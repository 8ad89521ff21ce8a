/- The reader of impl: number, whatever went ahead; count, row. -/
import Derived.Test.YtiljjhipiinafaaWire12
namespace Go.Proofs.Ytiljjhipiinafaa
open Go.RowKit
set_option linter.unusedVariables false
set_option linter.unusedSimpArgs false

/-- What reading numbers comes to, where there was a fault and where there was none. -/
structure Took (bs : List Int) (p : Nat) (f : Option (Int × Int)) (p' : Nat) (f' : Option (Int × Int)) (zs : List Int) : Prop where
  keep : f ≠ none → f' = f ∧ p' = p
  sound : f' = none → (∀ z ∈ zs, -1 ≤ z) ∧ ((∀ z ∈ zs, z ≤ 9999) → bs.drop p = packI zs ++ bs.drop p')
  comp : f = none → ∀ ys, ys.length = zs.length → NumsIn bs p ys → zs = ys ∧ p' = p + (packI ys).length ∧ f' = none

theorem Took.nil (bs : List Int) (p : Nat) (f : Option (Int × Int)) : Took bs p f p f [] :=
  ⟨fun _ => ⟨rfl, rfl⟩, fun _ => ⟨(fun z hz => by cases hz), fun _ => by simp [packI_nil]⟩, fun h ys hl _ => by
    obtain rfl := List.length_eq_zero_iff.1 (by simpa using hl)
    exact ⟨rfl, by simp [packI_nil], h⟩⟩

theorem NumsIn.left {bs : List Int} {p : Nat} {us cs : List Int} (h : NumsIn bs p (us ++ cs)) : NumsIn bs p us := by
  obtain ⟨h1, rest, h2⟩ := h
  exact ⟨fun z hz => h1 z (List.mem_append_left _ hz), packI cs ++ rest, by rw [h2, packI_app, List.append_assoc]⟩
theorem NumsIn.right {bs : List Int} {p : Nat} {us cs : List Int} (h : NumsIn bs p (us ++ cs)) : NumsIn bs (p + (packI us).length) cs := by
  obtain ⟨h1, rest, h2⟩ := h
  refine ⟨fun z hz => h1 z (List.mem_append_right _ hz), rest, ?_⟩
  rw [← List.drop_drop, h2, packI_app, List.append_assoc, List.drop_left]

theorem Took.none_of {bs : List Int} {p p' : Nat} {f f' : Option (Int × Int)} {zs : List Int} (h : Took bs p f p' f' zs) (hf : f' = none) : f = none := by
  cases f with
  | none => rfl
  | some x => have := (h.keep (by simp)).1; rw [hf] at this; cases this

theorem Took.trans {bs : List Int} {p p1 p2 : Nat} {f f1 f2 : Option (Int × Int)} {us cs : List Int} (h : Took bs p f p1 f1 us) (k : Took bs p1 f1 p2 f2 cs) : Took bs p f p2 f2 (us ++ cs) := by
  refine ⟨fun hf => ?_, fun hf => ?_, fun hf ys hl hy => ?_⟩
  · obtain ⟨h1, h2⟩ := h.keep hf
    obtain ⟨h3, h4⟩ := k.keep (by rw [h1]; exact hf)
    exact ⟨h3.trans h1, h4.trans h2⟩
  · have hf1 := k.none_of hf
    obtain ⟨h1, h2⟩ := h.sound hf1
    obtain ⟨h3, h4⟩ := k.sound hf
    refine ⟨fun z hz => ?_, fun hz => ?_⟩
    · rcases List.mem_append.1 hz with hz | hz
      · exact h1 z hz
      · exact h3 z hz
    · rw [h2 (fun z hh => hz z (List.mem_append_left _ hh)), h4 (fun z hh => hz z (List.mem_append_right _ hh)), packI_app, List.append_assoc]
  · have e : ys = ys.take us.length ++ ys.drop us.length := (List.take_append_drop _ _).symm
    have hl2 : ys.length = us.length + cs.length := by rw [hl, List.length_append]
    rw [e] at hy
    obtain ⟨h1, h2, h3⟩ := h.comp hf (ys.take us.length) (by rw [List.length_take]; omega) hy.left
    obtain ⟨h4, h5, h6⟩ := k.comp h3 (ys.drop us.length) (by rw [List.length_drop]; omega) (by rw [h2]; exact hy.right)
    refine ⟨?_, ?_, h6⟩
    · rw [e, ← h1, ← h4]
    · rw [h5, h2, e, packI_app, List.length_append, List.take_append_drop]
      omega

theorem numberI_any (w0 w : World) (q : Nat) (vb : Value) (bs : List Int) (p : Nat) (f : Option (Int × Int)) (h : RdI w0 w q vb bs p f) :
    Calls Try.prog 53 #[.pointer (some ⟨q, 0, none⟩)] w fun e w' => ∃ (n : Int) (p' : Nat) (f' : Option (Int × Int)), e = .returned (.int .i64 n) ∧ RdI w0 w' q vb bs p' f' ∧ OnlyB q w w' ∧ Took bs p f p' f' [n] := by
  cases f with
  | some ak =>
    obtain ⟨a, k⟩ := ak
    refine (numberI_some w0 w q vb bs p a k h).mono ?_
    rintro e w' ⟨rfl, hw⟩
    obtain rfl := hw.symm
    exact ⟨0, p, some (a, k), rfl, h, ⟨Nat.le_refl _, fun _ _ _ => rfl, Below.refl _ _⟩, ⟨fun _ => ⟨rfl, rfl⟩, (fun h => by cases h), (fun h => by cases h)⟩⟩
  | none =>
    refine (numberI_none w0 w q vb bs p h).mono ?_
    rintro e w' ⟨n, rfl, hO, ⟨L, hL1, hpL, hn, hs, hR, hc⟩ | ⟨rfl, a, k, hR, hk, hno⟩⟩
    · refine ⟨n, p + L, none, rfl, hR, hO, ⟨fun h => absurd rfl h, fun _ => ⟨fun z hz => ?_, fun hz => ?_⟩, fun _ ys hl hy => ?_⟩⟩
      · rw [List.mem_singleton.1 hz]; exact hn
      · rw [packI_one]; exact hs (hz n (List.mem_singleton.2 rfl))
      · obtain ⟨y, rfl⟩ := List.length_eq_one_iff.1 hl
        have h1 := hy.at 0 (by simp)
        simp only [List.take_zero, packI_nil, List.length_nil, Nat.add_zero, List.getElem_cons_zero] at h1
        obtain ⟨h2, h3⟩ := hc y h1
        exact ⟨by rw [h2], by rw [packI_one, h3], rfl⟩
    · refine ⟨-1, p, some (a, k), rfl, hR, hO, ⟨fun h => absurd rfl h, (fun h => by cases h), fun _ ys hl hy => ?_⟩⟩
      obtain ⟨y, rfl⟩ := List.length_eq_one_iff.1 hl
      have h1 := hy.at 0 (by simp)
      simp only [List.take_zero, packI_nil, List.length_nil, Nat.add_zero, List.getElem_cons_zero] at h1
      exact absurd h1 (hno y)

/-- What reading a count comes to. -/
structure TookC (bs : List Int) (most : Int) (p : Nat) (f : Option (Int × Int)) (p' : Nat) (f' : Option (Int × Int)) (n : Int) : Prop where
  rng : 0 ≤ n ∧ n ≤ most
  keep : f ≠ none → f' = f ∧ p' = p
  sound : f' = none → bs.drop p = packI [n] ++ bs.drop p'
  comp : f = none → ∀ z, NumAt bs p z → 0 ≤ z → z ≤ most → n = z ∧ p' = p + (numI z).length ∧ f' = none

set_option maxRecDepth 100000 in
set_option maxHeartbeats 4000000 in
theorem countI_any (w0 w : World) (q : Nat) (vb : Value) (bs : List Int) (p : Nat) (f : Option (Int × Int)) (most : Int) (hm0 : 0 ≤ most) (hm : most ≤ 9999) (h : RdI w0 w q vb bs p f) :
    Calls Try.prog 99 #[.pointer (some ⟨q, 0, none⟩), .int .i64 most] w fun e w' => ∃ (n : Int) (p' : Nat) (f' : Option (Int × Int)), e = .returned (.int .i64 n) ∧ RdI w0 w' q vb bs p' f' ∧ OnlyB q w w' ∧ TookC bs most p f p' f' n := by
  have k1 := h.c1
  have H := hide h
  clear h
  go_enter Try.func99, Try.ntmps99
  go_wp2_with fail
  refine (numberI_any w0 _ q vb bs p f (unhide H)).mono ?_
  rintro e w1 ⟨n, p1, f1, rfl, hR1, hO1, hT1⟩
  have HR1 := hide hR1
  have HO1 := hide hO1
  have HT1 := hide hT1
  clear hR1 hO1 hT1 k1
  go_wp2_with fail
  refine (within_any n 0 most _).mono ?_
  rintro e w2 ⟨rfl, hw2⟩
  obtain rfl := hw2.symm
  by_cases hin : 0 ≤ n ∧ n ≤ most
  · rw [show inR 0 most n = true by simp [inR, hin.1, hin.2]]
    have HIN := hide hin
    clear hin
    go_wp2_with fail
    go_ret
    obtain ⟨hn0, hn1⟩ := unhide HIN
    have hT := unhide HT1
    refine ⟨n, p1, f1, rfl, unhide HR1, unhide HO1, ⟨⟨hn0, hn1⟩, hT.keep, fun hf => (hT.sound hf).2 (fun z hz => by rw [List.mem_singleton.1 hz]; omega), fun hf z hz h0 h1 => ?_⟩⟩
    obtain ⟨h2, h3, h4⟩ := hT.comp hf [z] rfl ⟨fun y hy => by rw [List.mem_singleton.1 hy]; exact ⟨hz.1, hz.2.1⟩, by rw [packI_one]; exact hz.2.2⟩
    exact ⟨by simpa using h2, by rw [h3, packI_one], h4⟩
  · rw [show inR 0 most n = false by unfold inR; rw [Bool.and_eq_false_iff]; simp only [decide_eq_false_iff_not]; omega]
    have HIN := hide hin
    clear hin
    go_wp2_with fail
    refine (failI_any w0 _ q vb bs p1 f1 p 5 (unhide HR1)).mono ?_
    rintro e w3 ⟨rfl, ⟨f3, hne, hfn, hfs, hR3⟩, hO3⟩
    have HR3 := hide hR3
    have HO3 := hide ((unhide HO1).trans hO3)
    clear hR3 hO3
    go_wp2_with fail
    go_ret
    have hT := unhide HT1
    refine ⟨0, p1, f3, rfl, unhide HR3, unhide HO3, ⟨⟨by omega, hm0⟩, fun hf => ?_, fun hf => absurd hf hne, fun hf z hz h0 h1 => ?_⟩⟩
    · obtain ⟨h1, h2⟩ := hT.keep hf
      exact ⟨(hfs (by rw [h1]; exact hf)).trans h1, h2⟩
    · obtain ⟨h2, _, _⟩ := hT.comp hf [z] rfl ⟨fun y hy => by rw [List.mem_singleton.1 hy]; exact ⟨hz.1, hz.2.1⟩, by rw [packI_one]; exact hz.2.2⟩
      have hnz : n = z := by simpa using h2
      exact absurd ⟨by omega, by omega⟩ (unhide HIN)

/-- Of what lay there only these two blocks may have turned. -/
structure Only2 (q r : Nat) (w w' : World) : Prop where
  os : w'.os = w.os
  tape : w'.tape = w.tape
  output : w'.output = w.output
  size : w.heap.size ≤ w'.heap.size
  other : ∀ b, b ≠ q → b ≠ r → b < w.heap.size → w'.heap[b]? = w.heap[b]?

theorem Only2.refl (q r : Nat) (w : World) : Only2 q r w w := ⟨rfl, rfl, rfl, Nat.le_refl _, fun _ _ _ _ => rfl⟩
theorem Only2.then {q r : Nat} {a b c : World} (h : Only2 q r a b) (k : OnlyB q b c) : Only2 q r a c :=
  ⟨k.below.os.trans h.os, k.below.tape.trans h.tape, k.below.output.trans h.output, Nat.le_trans h.size k.size, fun i h1 h2 hl => (k.other i h1 (Nat.lt_of_lt_of_le hl h.size)).trans (h.other i h1 h2 hl)⟩
theorem Only2.set {q r o : Nat} {a b : World} (h : Only2 q r a b) (x : Value) : Only2 q r a (b.setCell ⟨r, o, none⟩ x) :=
  ⟨h.os, h.tape, h.output, by simpa using h.size, fun i h1 h2 hl => (Below.heap_setCell b ⟨r, o, none⟩ x i h2).trans (h.other i h1 h2 hl)⟩
theorem OnlyB.then2 {q r : Nat} {a b c : World} (h : OnlyB q a b) (k : Only2 q r b c) (hq : q < a.heap.size) (hr : a.heap.size ≤ r) : OnlyB q a c :=
  ⟨Nat.le_trans h.size k.size, fun i h1 hl => (k.other i h1 (by omega) (Nat.lt_of_lt_of_le hl h.size)).trans (h.other i h1 hl),
   h.below.trans ⟨k.os, k.tape, k.output, k.size, fun i hi => k.other i (by omega) (by omega) (by have := h.size; omega)⟩⟩
theorem RdI.set {w0 w : World} {q r o : Nat} {vb x : Value} {bs : List Int} {p : Nat} {f : Option (Int × Int)} (h : RdI w0 w q vb bs p f) (hr : q < r) : RdI w0 (w.setCell ⟨r, o, none⟩ x) q vb bs p f := by
  have hc : ∀ i, (w.setCell ⟨r, o, none⟩ x).cell? ⟨q, i, none⟩ = w.cell? ⟨q, i, none⟩ := fun i => World.cell?_setCell_far _ _ _ _ (by show r ≠ q; omega)
  exact ⟨h.bytes, h.capok, h.rng, h.few, h.q0, h.below.setCell (p := ⟨r, o, none⟩) (by have := h.q0; show w0.heap.size ≤ r; omega) _, (hc 0).trans h.c0, (hc 1).trans h.c1, (hc 2).trans h.c2, fun i => (World.frozen?_of_block (Below.heap_setCell w ⟨r, o, none⟩ x q (by show q ≠ r; omega))).trans (h.fz i), h.pl⟩

set_option maxRecDepth 100000 in
set_option maxHeartbeats 4000000 in
theorem rowI_any (w0 w : World) (q r t m : Nat) (f0 : Nat → Value) (vb : Value) (bs : List Int) (p : Nat) (f : Option (Int × Int)) (h : RdI w0 w q vb bs p f) (hr : q < r) (hrow : w.rowIs r t m f0) (hm : m ≤ 1000) :
    Calls Try.prog 50 #[.pointer (some ⟨q, 0, none⟩), .slice (some ⟨r, 0, none⟩) m m] w fun e w' => e = .returned (.tuple #[]) ∧ ∃ (zs : List Int) (p' : Nat) (f' : Option (Int × Int)), zs.length = m ∧ w'.rowIs r t m (fun i => .int .i64 (zs.getD i 0)) ∧ RdI w0 w' q vb bs p' f' ∧ Only2 q r w w' ∧ Took bs p f p' f' zs := by
  have H := hide h
  have HROW := hide hrow
  clear h hrow
  go_enter Try.func50, Try.ntmps50
  go_wp2_with fail
  go_loopw [7] (fun i wr => ∃ (k : Nat) (zs : List Int) (p1 : Nat) (f1 : Option (Int × Int)) (g : Nat → Value), k ≤ m ∧ i = .int .i64 k ∧ Hid (zs.length = k) ∧ Hid (wr.rowIs r t m g) ∧ Hid (∀ i, i < k → g i = .int .i64 (zs.getD i 0)) ∧ Hid (RdI w0 wr q vb bs p1 f1) ∧ Hid (Only2 q r w wr) ∧ Hid (Took bs p f p1 f1 zs)) (fun i _ => m - (intOf i).toNat)
  case atStart => exact ⟨0, [], p, f, f0, Nat.zero_le _, rfl, hide rfl, HROW, hide (fun i hi => absurd hi (Nat.not_lt_zero _)), H, hide (Only2.refl _ _ _), hide (Took.nil _ _ _)⟩
  case round =>
    obtain ⟨k, zs, p1, f1, g, hk, rfl, HL, HG, HI, HR, HO, HT⟩ := hrel
    by_cases hlt : k < m
    · have hkI : (k : Int) < (m : Int) := by omega
      have hk0 : (0 : Int) ≤ (k : Int) := by omega
      go_wp2_with fail
      refine (numberI_any w0 _ q vb bs p1 f1 (unhide HR)).mono ?_
      rintro e w3 ⟨n, p3, f3, rfl, hR3, hO3, hT3⟩
      have hrb := World.rowIs.lt (unhide HG)
      have hrow3 := (unhide HG).of_block (hO3.other r (by omega) hrb)
      have HG3 := hide hrow3
      have HR3 := hide (hR3.set (o := k) (x := .int .i64 n) hr)
      have HO3 := hide (((unhide HO).then hO3).set (o := k) (.int .i64 n))
      have HT3 := hide ((unhide HT).trans hT3)
      have g0 : w3.cell? ⟨r, k, none⟩ = some (g k) := hrow3.cell (i := k) hlt
      have z0 : w3.frozen? ⟨r, k, none⟩ = false := hrow3.frozen k
      clear hR3 hO3 hT3 hrow3 hrb
      go_wp2_with fail
      go_roundw
      case rel =>
        refine ⟨k + 1, zs ++ [n], p3, f3, _, by omega, by go_num, hide (by rw [List.length_append, unhide HL]; rfl), hide ((unhide HG3).set k (.int .i64 n)), hide (fun i hi => ?_), HR3, HO3, HT3⟩
        have hl := unhide HL
        show (if i = k then Value.int .i64 n else g i) = _
        rcases (show i = k ∨ i < k by omega) with rfl | h
        · rw [if_pos rfl]; simp [List.getD, hl]
        · rw [if_neg (by omega), (unhide HI) i h]
          have : i < zs.length := by omega
          simp [List.getD, List.getElem?_append_left this]
      case measure => simp [intOf]; omega
    · obtain rfl : k = m := by omega
      go_wp2_with fail
      go_end0
      exact ⟨rfl, zs, p1, f1, unhide HL, (unhide HG).congr (fun i hi => (unhide HI) i hi), unhide HR, unhide HO, unhide HT⟩
end Go.Proofs.Ytiljjhipiinafaa
