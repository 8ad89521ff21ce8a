/- The reader of impl: lists. -/
import Derived.Test.YtiljjhipiinafaaWire14
namespace Go.Proofs.Ytiljjhipiinafaa
open Go.RowKit
set_option linter.unusedVariables false
set_option linter.unusedSimpArgs false

/-- What reading a list comes to. -/
structure TookL {α : Type} (row : α → List Int) (bs : List Int) (most : Int) (p : Nat) (f : Option (Int × Int)) (p' : Nat) (f' : Option (Int × Int)) (xs : List α) : Prop where
  len : (xs.length : Int) ≤ most
  keep : f ≠ none → f' = f ∧ p' = p
  sound : f' = none → (∀ z ∈ xs.flatMap row, -1 ≤ z) ∧ ((∀ z ∈ xs.flatMap row, z ≤ 9999) → bs.drop p = packI ((xs.length : Int) :: xs.flatMap row) ++ bs.drop p')
  comp : f = none → ∀ ys : List α, (ys.length : Int) ≤ most → NumsIn bs p ((ys.length : Int) :: ys.flatMap row) → xs = ys ∧ p' = p + (packI ((ys.length : Int) :: ys.flatMap row)).length ∧ f' = none

theorem flat_inj {α : Type} {row : α → List Int} {m : Nat} (hl : ∀ a, (row a).length = m) (hi : ∀ a b, row a = row b → a = b) : ∀ xs ys : List α, xs.length = ys.length → xs.flatMap row = ys.flatMap row → xs = ys
  | [], [], _, _ => rfl
  | [], _ :: _, h, _ => by simp at h
  | _ :: _, [], h, _ => by simp at h
  | x :: xs, y :: ys, h, e => by
    simp only [List.flatMap_cons] at e
    have h1 := List.append_inj e (by rw [hl, hl])
    rw [hi x y h1.1, flat_inj hl hi xs ys (by simpa using h) h1.2]

theorem packI_cons (n : Int) (l : List Int) : packI (n :: l) = packI [n] ++ packI l := packI_app [n] l

theorem TookL.of {α : Type} {row : α → List Int} {m : Nat} (hl : ∀ a, (row a).length = m) (hi : ∀ a b, row a = row b → a = b) {bs : List Int} {most : Int} {p pc p' : Nat} {f fc f' : Option (Int × Int)} {n : Int} {xs : List α}
    (hm : most ≤ 9999) (hc : TookC bs most p f pc fc n) (ht : Took bs pc fc p' f' (xs.flatMap row)) (hn : (xs.length : Int) = n) : TookL row bs most p f p' f' xs := by
  refine ⟨by have := hc.rng; omega, fun hf => ?_, fun hf => ?_, fun hf ys hy hin => ?_⟩
  · obtain ⟨h1, h2⟩ := hc.keep hf
    obtain ⟨h3, h4⟩ := ht.keep (by rw [h1]; exact hf)
    exact ⟨h3.trans h1, h4.trans h2⟩
  · obtain ⟨h1, h2⟩ := ht.sound hf
    refine ⟨h1, fun hz => ?_⟩
    rw [packI_cons, hn, hc.sound (ht.none_of hf), h2 hz, List.append_assoc]
  · have h1 := hin.at 0 (by simp)
    simp only [List.take_zero, packI_nil, List.length_nil, Nat.add_zero, List.getElem_cons_zero] at h1
    obtain ⟨h2, h3, h4⟩ := hc.comp hf ys.length h1 (by omega) hy
    have hr := NumsIn.right (us := [(ys.length : Int)]) (cs := ys.flatMap row) hin
    rw [packI_one] at hr
    have hxy : xs.length = ys.length := by omega
    obtain ⟨h5, h6, h7⟩ := ht.comp h4 (ys.flatMap row) (by rw [flatTo_len hl, flatTo_len hl, hxy]) (by rw [h3]; exact hr)
    refine ⟨flat_inj hl hi xs ys hxy h5, ?_, h7⟩
    rw [h6, h3, packI_cons, packI_one, List.length_append]; omega

def intRow (z : Int) : List Int := [z]
theorem slice_EvR : Try.prog.underlying 24 = some (.slice 53) := by kernel_rfl
theorem infoEvR : ∃ i, Try.prog.info? 53 = some i ∧ i.zero = some (.agg #[.int .i64 0, .int .i64 0, .int .i64 0, .int .i64 0, .int .i64 0, .int .i64 0, .int .i64 0]) ∧ i.size = 7 ∧ i.bytes = 56 := by
  have hh : (Try.prog.info? 53).map (fun i => (i.zero, i.size, i.bytes)) = some (some (.agg #[.int .i64 0, .int .i64 0, .int .i64 0, .int .i64 0, .int .i64 0, .int .i64 0, .int .i64 0]), 7, 56) := by kernel_rfl
  obtain ⟨i, hi, h⟩ := Option.map_eq_some_iff.1 hh
  simp only [Prod.mk.injEq] at h
  exact ⟨i, hi, h.1, h.2.1, h.2.2⟩
theorem infoOuR : ∃ i, Try.prog.info? 56 = some i ∧ i.zero = some (.agg #[.int .i64 0, .int .i64 0, .int .i64 0, .int .i64 0, .int .i64 0]) ∧ i.size = 5 ∧ i.bytes = 40 := by
  obtain ⟨i, hi, h⟩ := Option.map_eq_some_iff.1 info_Out
  simp only [Prod.mk.injEq] at h
  exact ⟨i, hi, h.1, h.2.1, h.2.2⟩

theorem Int_len : ∀ a : Int, (intRow a).length = 1 := fun _ => rfl
theorem Int_inj : ∀ a b : Int, intRow a = intRow b → a = b := fun a b h => by simpa [intRow] using h

set_option maxRecDepth 100000 in
set_option maxHeartbeats 4000000 in
theorem readInt_any (w0 w : World) (q : Nat) (vb : Value) (bs : List Int) (p : Nat) (f : Option (Int × Int)) (most : Int) (hm0 : 0 ≤ most) (hm : most ≤ 100) (h : RdI w0 w q vb bs p f) :
    Calls Try.prog 52 #[.pointer (some ⟨q, 0, none⟩), .int .i64 most, .func (.func 53) #[.pointer (some ⟨q, 0, none⟩)] #[]] w fun r w' => ∃ (v : Value), r = .returned v ∧ ∃ (xs : List Int) (p' : Nat) (f' : Option (Int × Int)), w'.ownsRow w.heap.size 3 1 v xs.length (flatCells (xs.map intRow)) ∧ RdI w0 w' q vb bs p' f' ∧ OnlyB q w w' ∧ TookL intRow bs most p f p' f' xs := by
  obtain ⟨i1, hi1, hz0, hz1, hz2⟩ := infoI_parts
  have hlt := h.lt
  have HLT := hide hlt
  have H := hide h
  clear h hlt
  go_enter Try.func52, Try.ntmps52
  go_wp2_with fail
  refine (countI_any w0 _ q vb bs p f most hm0 (by omega) (unhide H)).mono ?_
  rintro r w1 ⟨n, pc, fc, rfl, hR1, hO1, hC⟩
  have hnr := hC.rng
  have HR1 := hide hR1
  have HO1 := hide hO1
  have HC := hide hC
  clear hR1 hO1 hC H
  obtain ⟨N, rfl⟩ := Int.eq_ofNat_of_zero_le hnr.1
  go_wp2_with fail
  go_loopw [7, 11] (fun u i wr => ∃ (k : Nat) (xs : List Int) (p1 : Nat) (f1 : Option (Int × Int)), k ≤ N ∧ i = .int .i64 k ∧ Hid (xs.length = k) ∧ Hid (wr.ownsRow w.heap.size 3 1 u xs.length (flatCells (xs.map intRow))) ∧ Hid (RdI w0 wr q vb bs p1 f1) ∧ Hid (OnlyB q w wr) ∧ Hid (Took bs pc fc p1 f1 (xs.flatMap intRow))) (fun _ i _ => N - (intOf i).toNat)
  case atStart => exact ⟨0, [], pc, fc, Nat.zero_le _, rfl, hide rfl, hide (World.ownsRow_nil _ _ _ _), HR1, HO1, hide (Took.nil _ _ _)⟩
  case round =>
    obtain ⟨k, xs, p1, f1, hk, rfl, HL, HO, HR, HB, HT⟩ := hrel
    by_cases hkn : k < N
    · have hkI : (k : Int) < (N : Int) := by omega
      go_wp2_with fail
      refine (numberI_any w0 _ q vb bs p1 f1 (unhide HR)).mono ?_
      rintro r w3 ⟨x, p3, f3, rfl, hR3, hO3, hT3⟩
      have HO3 := hide (owns_onlyB hO3 (unhide HLT) (unhide HO))
      have HR3 := hide hR3
      have HB3 := hide ((unhide HB).trans hO3)
      have HT3 := hide (show Took bs pc fc p3 f3 ((xs ++ [x]).flatMap intRow) by
        have e := (unhide HT).trans hT3
        rw [List.flatMap_append, show [x].flatMap intRow = intRow x by simp]
        exact e)
      clear hR3 hO3 hT3 HO HR HB HT
      have hxl : xs.length ≤ 100 := by rw [unhide HL]; omega
      have hbA : Below w3.heap.size w3 (w3.alloc (.cells #[.int .i64 x] 3)) := (Below.refl _ _).alloc (Nat.le_refl _) _
      have hownA := ownsOn hbA (unhide HO3)
      have HBA := hide hbA
      have hsz := (unhide HB3).size
      clear hbA
      go_wp2_with (at_builtin; refine wpList_append_lies _ (by rfl) _ _ _ (by rfl) w.heap.size 3 i1 _ 1 8 slice_Int hi1 hz0 hz1 hz2 (by rfl) (by omega) _ xs.length (flatCells (xs.map intRow)) (by rfl) hownA ⟨w3.heap.size, 0, none⟩ 1 1 [.int .i64 x] (by rfl) (by rfl) (World.news_of_block (cs := #[.int .i64 x]) (t := 3) (fr := (0, 0)) (heap_alloc_new w3 _)) (by simp [Value.oneCell']) (by omega) (by unfold maxLen; omega) (by omega) (by simp; omega) (w3.heap.size + 1) (by simp) ?_; intro gg cap w4 hown4 hgrow hat hlt4)
      have HG4 := hide (Gr.of (n := xs.length + 1) (cap := cap) (unhide HBA) hgrow hat)
      have HO4 := hide (show w4.ownsRow w.heap.size 3 1 (.slice (some ⟨gg, 0, none⟩) (xs.length + 1) cap) (xs ++ [x]).length (flatCells ((xs ++ [x]).map intRow)) by
        rw [List.length_append, List.map_append]
        have e : flatCells (xs.map intRow ++ [x].map intRow) = flatCells (xs.map intRow) ++ [.int .i64 x] := by simp [flatCells, intRow]
        rw [e]
        exact hown4)
      have HV : Hid (∀ g, Value.ownBlock _ = some g → w.heap.size ≤ g) := hide (fun g e => ((unhide HO3).lt g e).1)
      have HR4 := hide ((unhide HR3).gr (unhide HG4) (fun g e => by have := (unhide HV) g e; have := unhide HLT; omega))
      have HB4 := hide ((unhide HB3).gr (unhide HG4) (unhide HLT) (unhide HV))
      clear hown4 hgrow hat hlt4 hownA
      go_wp2_with fail
      go_roundw
      case rel => exact ⟨k + 1, xs ++ [x], p3, f3, by omega, by go_num, hide (by rw [List.length_append, unhide HL]; rfl), HO4, HR4, HB4, HT3⟩
      case measure => simp [intOf]; omega
    · obtain rfl : k = N := by omega
      go_wp2_with fail
      go_ret
      exact ⟨_, rfl, xs, p1, f1, unhide HO, unhide HR, unhide HB, TookL.of Int_len Int_inj (by omega) (unhide HC) (unhide HT) (by rw [unhide HL])⟩

theorem Ev_len : ∀ a : EvV, (evRow a).length = 7 := fun _ => rfl
theorem Ev_inj : ∀ a b : EvV, evRow a = evRow b → a = b := fun a b h => by
  obtain ⟨a0, a1, a2, a3, a4, a5, a6⟩ := a
  obtain ⟨b0, b1, b2, b3, b4, b5, b6⟩ := b
  simp only [evRow, List.cons.injEq, and_true] at h
  obtain ⟨rfl, rfl, rfl, rfl, rfl, rfl, rfl⟩ := h
  rfl

set_option maxRecDepth 100000 in
set_option maxHeartbeats 4000000 in
theorem readEv_any (w0 w : World) (q : Nat) (vb : Value) (bs : List Int) (p : Nat) (f : Option (Int × Int)) (most : Int) (hm0 : 0 ≤ most) (hm : most ≤ 100) (h : RdI w0 w q vb bs p f) :
    Calls Try.prog 54 #[.pointer (some ⟨q, 0, none⟩), .int .i64 most, .func (.func 55) #[.pointer (some ⟨q, 0, none⟩)] #[]] w fun r w' => ∃ (v : Value), r = .returned v ∧ ∃ (xs : List EvV) (p' : Nat) (f' : Option (Int × Int)), w'.ownsRow w.heap.size 53 7 v xs.length (flatCells (xs.map evRow)) ∧ RdI w0 w' q vb bs p' f' ∧ OnlyB q w w' ∧ TookL evRow bs most p f p' f' xs := by
  obtain ⟨i1, hi1, hz0, hz1, hz2⟩ := infoEvR
  have hlt := h.lt
  have HLT := hide hlt
  have H := hide h
  clear h hlt
  go_enter Try.func54, Try.ntmps54
  go_wp2_with fail
  refine (countI_any w0 _ q vb bs p f most hm0 (by omega) (unhide H)).mono ?_
  rintro r w1 ⟨n, pc, fc, rfl, hR1, hO1, hC⟩
  have hnr := hC.rng
  have HR1 := hide hR1
  have HO1 := hide hO1
  have HC := hide hC
  clear hR1 hO1 hC H
  obtain ⟨N, rfl⟩ := Int.eq_ofNat_of_zero_le hnr.1
  go_wp2_with fail
  go_loopw [7, 11] (fun u i wr => ∃ (k : Nat) (xs : List EvV) (p1 : Nat) (f1 : Option (Int × Int)), k ≤ N ∧ i = .int .i64 k ∧ Hid (xs.length = k) ∧ Hid (wr.ownsRow w.heap.size 53 7 u xs.length (flatCells (xs.map evRow))) ∧ Hid (RdI w0 wr q vb bs p1 f1) ∧ Hid (OnlyB q w wr) ∧ Hid (Took bs pc fc p1 f1 (xs.flatMap evRow))) (fun _ i _ => N - (intOf i).toNat)
  case atStart => exact ⟨0, [], pc, fc, Nat.zero_le _, rfl, hide rfl, hide (World.ownsRow_nil _ _ _ _), HR1, HO1, hide (Took.nil _ _ _)⟩
  case round =>
    obtain ⟨k, xs, p1, f1, hk, rfl, HL, HO, HR, HB, HT⟩ := hrel
    by_cases hkn : k < N
    · have hkI : (k : Int) < (N : Int) := by omega
      go_wp2_with fail
      refine (eventI_any w0 _ q vb bs p1 f1 (unhide HR)).mono ?_
      rintro r w3 ⟨x, p3, f3, rfl, hR3, hO3, hT3⟩
      have HO3 := hide (owns_onlyB hO3 (unhide HLT) (unhide HO))
      have HR3 := hide hR3
      have HB3 := hide ((unhide HB).trans hO3)
      have HT3 := hide (show Took bs pc fc p3 f3 ((xs ++ [x]).flatMap evRow) by
        have e := (unhide HT).trans hT3
        rw [List.flatMap_append, show [x].flatMap evRow = evRow x by simp]
        exact e)
      clear hR3 hO3 hT3 HO HR HB HT
      have hxl : xs.length ≤ 100 := by rw [unhide HL]; omega
      have hbA : Below w3.heap.size w3 (w3.alloc (.cells #[.int .i64 x.time, .int .i64 x.to, .int .i64 x.src, .int .i64 x.count, .int .i64 x.n, .int .i64 x.kind, .int .i64 x.arg] 53)) := (Below.refl _ _).alloc (Nat.le_refl _) _
      have hownA := ownsOn hbA (unhide HO3)
      have HBA := hide hbA
      have hsz := (unhide HB3).size
      clear hbA
      go_wp2_with (at_builtin; refine wpList_append_lies _ (by rfl) _ _ _ (by rfl) w.heap.size 53 i1 _ 7 56 slice_EvR hi1 hz0 hz1 hz2 (by rfl) (by omega) _ xs.length (flatCells (xs.map evRow)) (by rfl) hownA ⟨w3.heap.size, 0, none⟩ 1 1 [.int .i64 x.time, .int .i64 x.to, .int .i64 x.src, .int .i64 x.count, .int .i64 x.n, .int .i64 x.kind, .int .i64 x.arg] (by rfl) (by rfl) (World.news_of_block (cs := #[.int .i64 x.time, .int .i64 x.to, .int .i64 x.src, .int .i64 x.count, .int .i64 x.n, .int .i64 x.kind, .int .i64 x.arg]) (t := 53) (fr := (0, 0)) (heap_alloc_new w3 _)) (by simp [Value.oneCell']) (by omega) (by unfold maxLen; omega) (by omega) (by simp; omega) (w3.heap.size + 1) (by simp) ?_; intro gg cap w4 hown4 hgrow hat hlt4)
      have HG4 := hide (Gr.of (n := xs.length + 1) (cap := cap) (unhide HBA) hgrow hat)
      have HO4 := hide (show w4.ownsRow w.heap.size 53 7 (.slice (some ⟨gg, 0, none⟩) (xs.length + 1) cap) (xs ++ [x]).length (flatCells ((xs ++ [x]).map evRow)) by
        rw [List.length_append, List.map_append]
        have e : flatCells (xs.map evRow ++ [x].map evRow) = flatCells (xs.map evRow) ++ [.int .i64 x.time, .int .i64 x.to, .int .i64 x.src, .int .i64 x.count, .int .i64 x.n, .int .i64 x.kind, .int .i64 x.arg] := by simp [flatCells, evRow]
        rw [e]
        exact hown4)
      have HV : Hid (∀ g, Value.ownBlock _ = some g → w.heap.size ≤ g) := hide (fun g e => ((unhide HO3).lt g e).1)
      have HR4 := hide ((unhide HR3).gr (unhide HG4) (fun g e => by have := (unhide HV) g e; have := unhide HLT; omega))
      have HB4 := hide ((unhide HB3).gr (unhide HG4) (unhide HLT) (unhide HV))
      clear hown4 hgrow hat hlt4 hownA
      go_wp2_with fail
      go_roundw
      case rel => exact ⟨k + 1, xs ++ [x], p3, f3, by omega, by go_num, hide (by rw [List.length_append, unhide HL]; rfl), HO4, HR4, HB4, HT3⟩
      case measure => simp [intOf]; omega
    · obtain rfl : k = N := by omega
      go_wp2_with fail
      go_ret
      exact ⟨_, rfl, xs, p1, f1, unhide HO, unhide HR, unhide HB, TookL.of Ev_len Ev_inj (by omega) (unhide HC) (unhide HT) (by rw [unhide HL])⟩

theorem Ou_len : ∀ a : OutV, (outRow a).length = 5 := fun _ => rfl
theorem Ou_inj : ∀ a b : OutV, outRow a = outRow b → a = b := fun a b h => by
  obtain ⟨a0, a1, a2, a3, a4⟩ := a
  obtain ⟨b0, b1, b2, b3, b4⟩ := b
  simp only [outRow, List.cons.injEq, and_true] at h
  obtain ⟨rfl, rfl, rfl, rfl, rfl⟩ := h
  rfl

set_option maxRecDepth 100000 in
set_option maxHeartbeats 4000000 in
theorem readOu_any (w0 w : World) (q : Nat) (vb : Value) (bs : List Int) (p : Nat) (f : Option (Int × Int)) (most : Int) (hm0 : 0 ≤ most) (hm : most ≤ 100) (h : RdI w0 w q vb bs p f) :
    Calls Try.prog 56 #[.pointer (some ⟨q, 0, none⟩), .int .i64 most, .func (.func 57) #[.pointer (some ⟨q, 0, none⟩)] #[]] w fun r w' => ∃ (v : Value), r = .returned v ∧ ∃ (xs : List OutV) (p' : Nat) (f' : Option (Int × Int)), w'.ownsRow w.heap.size 56 5 v xs.length (flatCells (xs.map outRow)) ∧ RdI w0 w' q vb bs p' f' ∧ OnlyB q w w' ∧ TookL outRow bs most p f p' f' xs := by
  obtain ⟨i1, hi1, hz0, hz1, hz2⟩ := infoOuR
  have hlt := h.lt
  have HLT := hide hlt
  have H := hide h
  clear h hlt
  go_enter Try.func56, Try.ntmps56
  go_wp2_with fail
  refine (countI_any w0 _ q vb bs p f most hm0 (by omega) (unhide H)).mono ?_
  rintro r w1 ⟨n, pc, fc, rfl, hR1, hO1, hC⟩
  have hnr := hC.rng
  have HR1 := hide hR1
  have HO1 := hide hO1
  have HC := hide hC
  clear hR1 hO1 hC H
  obtain ⟨N, rfl⟩ := Int.eq_ofNat_of_zero_le hnr.1
  go_wp2_with fail
  go_loopw [7, 11] (fun u i wr => ∃ (k : Nat) (xs : List OutV) (p1 : Nat) (f1 : Option (Int × Int)), k ≤ N ∧ i = .int .i64 k ∧ Hid (xs.length = k) ∧ Hid (wr.ownsRow w.heap.size 56 5 u xs.length (flatCells (xs.map outRow))) ∧ Hid (RdI w0 wr q vb bs p1 f1) ∧ Hid (OnlyB q w wr) ∧ Hid (Took bs pc fc p1 f1 (xs.flatMap outRow))) (fun _ i _ => N - (intOf i).toNat)
  case atStart => exact ⟨0, [], pc, fc, Nat.zero_le _, rfl, hide rfl, hide (World.ownsRow_nil _ _ _ _), HR1, HO1, hide (Took.nil _ _ _)⟩
  case round =>
    obtain ⟨k, xs, p1, f1, hk, rfl, HL, HO, HR, HB, HT⟩ := hrel
    by_cases hkn : k < N
    · have hkI : (k : Int) < (N : Int) := by omega
      go_wp2_with fail
      refine (outI_any w0 _ q vb bs p1 f1 (unhide HR)).mono ?_
      rintro r w3 ⟨x, p3, f3, rfl, hR3, hO3, hT3⟩
      have HO3 := hide (owns_onlyB hO3 (unhide HLT) (unhide HO))
      have HR3 := hide hR3
      have HB3 := hide ((unhide HB).trans hO3)
      have HT3 := hide (show Took bs pc fc p3 f3 ((xs ++ [x]).flatMap outRow) by
        have e := (unhide HT).trans hT3
        rw [List.flatMap_append, show [x].flatMap outRow = outRow x by simp]
        exact e)
      clear hR3 hO3 hT3 HO HR HB HT
      have hxl : xs.length ≤ 100 := by rw [unhide HL]; omega
      have hbA : Below w3.heap.size w3 (w3.alloc (.cells #[.int .i64 x.time, .int .i64 x.proc, .int .i64 x.count, .int .i64 x.n, .int .i64 x.value] 56)) := (Below.refl _ _).alloc (Nat.le_refl _) _
      have hownA := ownsOn hbA (unhide HO3)
      have HBA := hide hbA
      have hsz := (unhide HB3).size
      clear hbA
      go_wp2_with (at_builtin; refine wpList_append_lies _ (by rfl) _ _ _ (by rfl) w.heap.size 56 i1 _ 5 40 slice_Out hi1 hz0 hz1 hz2 (by rfl) (by omega) _ xs.length (flatCells (xs.map outRow)) (by rfl) hownA ⟨w3.heap.size, 0, none⟩ 1 1 [.int .i64 x.time, .int .i64 x.proc, .int .i64 x.count, .int .i64 x.n, .int .i64 x.value] (by rfl) (by rfl) (World.news_of_block (cs := #[.int .i64 x.time, .int .i64 x.proc, .int .i64 x.count, .int .i64 x.n, .int .i64 x.value]) (t := 56) (fr := (0, 0)) (heap_alloc_new w3 _)) (by simp [Value.oneCell']) (by omega) (by unfold maxLen; omega) (by omega) (by simp; omega) (w3.heap.size + 1) (by simp) ?_; intro gg cap w4 hown4 hgrow hat hlt4)
      have HG4 := hide (Gr.of (n := xs.length + 1) (cap := cap) (unhide HBA) hgrow hat)
      have HO4 := hide (show w4.ownsRow w.heap.size 56 5 (.slice (some ⟨gg, 0, none⟩) (xs.length + 1) cap) (xs ++ [x]).length (flatCells ((xs ++ [x]).map outRow)) by
        rw [List.length_append, List.map_append]
        have e : flatCells (xs.map outRow ++ [x].map outRow) = flatCells (xs.map outRow) ++ [.int .i64 x.time, .int .i64 x.proc, .int .i64 x.count, .int .i64 x.n, .int .i64 x.value] := by simp [flatCells, outRow]
        rw [e]
        exact hown4)
      have HV : Hid (∀ g, Value.ownBlock _ = some g → w.heap.size ≤ g) := hide (fun g e => ((unhide HO3).lt g e).1)
      have HR4 := hide ((unhide HR3).gr (unhide HG4) (fun g e => by have := (unhide HV) g e; have := unhide HLT; omega))
      have HB4 := hide ((unhide HB3).gr (unhide HG4) (unhide HLT) (unhide HV))
      clear hown4 hgrow hat hlt4 hownA
      go_wp2_with fail
      go_roundw
      case rel => exact ⟨k + 1, xs ++ [x], p3, f3, by omega, by go_num, hide (by rw [List.length_append, unhide HL]; rfl), HO4, HR4, HB4, HT3⟩
      case measure => simp [intOf]; omega
    · obtain rfl : k = N := by omega
      go_wp2_with fail
      go_ret
      exact ⟨_, rfl, xs, p1, f1, unhide HO, unhide HR, unhide HB, TookL.of Ou_len Ou_inj (by omega) (unhide HC) (unhide HT) (by rw [unhide HL])⟩

end Go.Proofs.Ytiljjhipiinafaa
