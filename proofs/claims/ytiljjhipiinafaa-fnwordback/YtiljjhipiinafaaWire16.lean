/- The reader of impl: isOver; what has been read is the word, plainly. -/
import Derived.Test.YtiljjhipiinafaaWire15
namespace Go.Proofs.Ytiljjhipiinafaa
open Go.RowKit
set_option linter.unusedVariables false
set_option linter.unusedSimpArgs false

set_option maxRecDepth 100000 in
set_option maxHeartbeats 4000000 in
theorem isOver_any (w0 w : World) (q : Nat) (vb : Value) (bs : List Int) (p : Nat) (f : Option (Int × Int)) (h : RdI w0 w q vb bs p f) :
    Calls Try.prog 58 #[.pointer (some ⟨q, 0, none⟩)] w fun e w' => ∃ b : Bool, e = .returned (.bool b) ∧ OnlyB q w w' ∧ (b = true ↔ f = none ∧ p = bs.length) := by
  cases f with
  | some ak =>
    obtain ⟨a, k⟩ := ak
    have k2 : w.cell? ⟨q, 2, none⟩ = some (faultV a k) := h.c2
    go_enter Try.func58, Try.ntmps58
    go_wp2
    go_ret
    exact ⟨false, rfl, ⟨Nat.le_refl _, fun _ _ _ => rfl, Below.refl _ _⟩, by simp⟩
  | none =>
    have k2 : w.cell? ⟨q, 2, none⟩ = some .nilIface := h.c2
    have hlt := h.lt
    have HLT := hide hlt
    have H := hide h
    clear h hlt
    go_enter Try.func58, Try.ntmps58
    go_wp2_with fail
    refine (numberI_none w0 _ q vb bs p (unhide H)).mono ?_
    rintro e w1 ⟨n, rfl, hO, ⟨L, hL1, hpL, hn, hs, hR, hc⟩ | ⟨rfl, a, k, hR, hk, hno⟩⟩
    · have c2 : w1.cell? ⟨q, 2, none⟩ = some .nilIface := hR.c2
      have HO := hide hO
      clear k2 hO hR hc hs hn
      go_wp2_with fail
      refine (errorsIs_nil _).mono ?_
      rintro e w2 ⟨rfl, hw2⟩
      obtain rfl := hw2.symm
      go_wp2_with fail
      go_ret
      refine ⟨false, rfl, unhide HO, ⟨(fun h => by cases h), fun h => ?_⟩⟩
      have := h.2
      omega
    · have c2 : w1.cell? ⟨q, 2, none⟩ = some (faultV a k) := hR.c2
      have HO := hide hO
      clear k2 hO hR
      go_wp2_with fail
      refine (errorsIs_any a k _).mono ?_
      rintro e w2 ⟨rfl, hb2⟩
      have HO2 := hide ((unhide HO).then (by have := (unhide HO).size; have := unhide HLT; omega) hb2)
      obtain ⟨b, hb⟩ : ∃ b, b = (k == 1) := ⟨_, rfl⟩
      have HB := hide hb
      rw [← hb]
      clear hb hb2
      go_wp2_with fail
      go_ret
      refine ⟨b, rfl, unhide HO2, ?_⟩
      rw [unhide HB, beq_iff_eq, hk]
      simp

theorem flat_int : ∀ l : List Int, l.flatMap intRow = l
  | [] => rfl
  | a :: t => by rw [List.flatMap_cons, flat_int t]; rfl

/-- What has been read is the word whose bytes these are, and no other. -/
theorem unpack_plain {bs : List Int} {p0 p1 p2 p3 p4 : Nat} {f0 f1 f2 f3 f4 : Option (Int × Int)} {n : WordV}
    (t0 : Took bs 0 none p0 f0 (headNums n)) (t1 : TookL intRow bs 3 p0 f0 p1 f1 n.incs) (t2 : TookL intRow bs 3 p1 f1 p2 f2 n.vers) (t3 : TookL evRow bs 100 p2 f2 p3 f3 n.evs) (t4 : TookL outRow bs 96 p3 f3 p4 f4 n.outs) :
    (f4 = none → p4 = bs.length → wordOk n = true → packW n = bs) ∧ (∀ n0, wordOk n0 = true → packW n0 = bs → f4 = none ∧ p4 = bs.length ∧ n = n0) := by
  have none_of : ∀ {α : Type} {row : α → List Int} {m : Int} {p p' : Nat} {f f' : Option (Int × Int)} {xs : List α}, TookL row bs m p f p' f' xs → f' = none → f = none := by
    intro α row m p p' f f' xs h hf
    cases f with
    | none => rfl
    | some x => have := (h.keep (by simp)).1; rw [hf] at this; cases this
  refine ⟨fun h4 hp hok => ?_, fun n0 hok hpk => ?_⟩
  · have h3 := none_of t4 h4
    have h2 := none_of t3 h3
    have h1 := none_of t2 h2
    have h0 := none_of t1 h1
    have hi := wordOk_in hok
    have e0 := (t0.sound h0).2 (fun z hz => (hi.head z hz).2)
    have e1 := (t1.sound h1).2 (fun z hz => by rw [flat_int] at hz; exact (hi.incs.2 z hz).2)
    have e2 := (t2.sound h2).2 (fun z hz => by rw [flat_int] at hz; exact (hi.vers.2 z hz).2)
    have e3 := (t3.sound h3).2 (fun z hz => by obtain ⟨e, he, hz⟩ := List.mem_flatMap.1 hz; exact (hi.evs.2 e he z hz).2)
    have e4 := (t4.sound h4).2 (fun z hz => by obtain ⟨e, he, hz⟩ := List.mem_flatMap.1 hz; exact (hi.outs.2 e he z hz).2)
    rw [flat_int] at e1 e2
    rw [hp, List.drop_length, List.append_nil] at e4
    rw [List.drop_zero, e1, e2, e3, e4] at e0
    rw [e0]
    unfold packW wordNums
    simp only [packI_app]
  · have hi := wordOk_in hok
    have hin : NumsIn bs 0 (wordNums n0) := ⟨fun z hz => by
      simp only [wordNums, List.mem_append, List.mem_cons, List.mem_flatMap] at hz
      have := hi.incs.1; have := hi.vers.1; have := hi.evs.1; have := hi.outs.1
      rcases hz with hz | (hz | hz) | (hz | hz) | (hz | ⟨e, he, hz⟩) | hz | ⟨e, he, hz⟩
      · have := hi.head z hz; omega
      · omega
      · have := hi.incs.2 z hz; omega
      · omega
      · have := hi.vers.2 z hz; omega
      · omega
      · exact hi.evs.2 e he z hz
      · omega
      · have := hi.outs.2 e he z hz; omega, [], by rw [List.drop_zero, ← hpk]; unfold packW; rw [List.append_nil]⟩
    unfold wordNums at hin
    obtain ⟨a0, b0, c0⟩ := t0.comp rfl (headNums n0) rfl hin.left
    have i1 := hin.right
    rw [← b0] at i1
    obtain ⟨a1, b1, c1⟩ := t1.comp c0 n0.incs (by have := hi.incs.1; omega) (by rw [flat_int]; exact i1.left)
    have i2 := i1.right
    rw [flat_int] at b1
    rw [← b1] at i2
    obtain ⟨a2, b2, c2⟩ := t2.comp c1 n0.vers (by have := hi.vers.1; omega) (by rw [flat_int]; exact i2.left)
    have i3 := i2.right
    rw [flat_int] at b2
    rw [← b2] at i3
    obtain ⟨a3, b3, c3⟩ := t3.comp c2 n0.evs (by have := hi.evs.1; omega) i3.left
    have i4 := i3.right
    rw [← b3] at i4
    obtain ⟨a4, b4, c4⟩ := t4.comp c3 n0.outs (by have := hi.outs.1; omega) i4
    refine ⟨c4, ?_, ?_⟩
    · rw [← hpk]
      unfold packW wordNums
      simp only [packI_app, List.length_append]
      omega
    · obtain ⟨k, fr, ds, ic, vr, rd, g, is, vs, es, os⟩ := n
      obtain ⟨k', fr', ds', ic', vr', rd', g', is', vs', es', os'⟩ := n0
      simp only at a1 a2 a3 a4
      simp only [headNums, List.cons.injEq, and_true] at a0
      obtain ⟨r0, r1, r2, r3, r4, r5, r6⟩ := a0
      subst r0 r1 r2 r3 r4 r5 r6 a1 a2 a3 a4
      rfl
end Go.Proofs.Ytiljjhipiinafaa
