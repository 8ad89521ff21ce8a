/- Numbers as bytes: plainly; spec.l26Num, spec.l26Nums. -/
import Derived.Test.YtiljjhipiinafaaWire0
import Derived.Test.YtiljjhipiinafaaCopy1
import Derived.Test.YtiljjhipiinafaaWord2
namespace Go.Proofs.Ytiljjhipiinafaa
open Go.RowKit
set_option linter.unusedVariables false
set_option linter.unusedSimpArgs false

/-- The bytes of a number that is less than 16384 (one more than what is written). -/
def numB (m : Nat) : List Int := if m < 128 then [(m : Int)] else [(128 : Int) + (m : Int) % 128, (m : Int) / 128]
def numI (n : Int) : List Int := numB (n + 1).toNat
def packI (ns : List Int) : List Int := ns.flatMap numI
theorem packI_nil : packI [] = [] := rfl
theorem packI_app (a b : List Int) : packI (a ++ b) = packI a ++ packI b := by simp [packI]
theorem packI_one (n : Int) : packI [n] = numI n := by simp [packI]
theorem packI_take (ns : List Int) (k : Nat) (h : k < ns.length) : packI (ns.take (k + 1)) = packI (ns.take k) ++ numI ns[k] := by
  rw [List.take_succ_eq_append_getElem h, packI_app, packI_one]
theorem numB_len (m : Nat) : (numB m).length ≤ 2 := by unfold numB; split <;> simp
theorem numB_more (j : Nat) (h : 128 ≤ j) (h1 : j ≤ 10000) : numB j = (128 + (j : Int) % 128) :: numB (j / 128) := by
  unfold numB
  rw [if_neg (by omega), if_pos (by omega)]
  simp
theorem numI_len (n : Int) : (numI n).length ≤ 2 := by unfold numI numB; split <;> simp
theorem packI_len (ns : List Int) : (packI ns).length ≤ 2 * ns.length := by
  induction ns with
  | nil => simp [packI]
  | cons a t ih => have := numI_len a; simp [packI] at ih ⊢; omega

theorem infoBy_parts : ∃ i, Try.prog.info? 5 = some i ∧ i.zero = some (.int .u8 0) ∧ i.size = 1 ∧ i.bytes = 1 := by
  obtain ⟨i, hi, h⟩ := Option.map_eq_some_iff.1 info_By
  simp only [Prod.mk.injEq] at h
  exact ⟨i, hi, h.1, h.2.1, h.2.2⟩

theorem ownsBy_more {w : World} {B : Nat} {v : Value} {bs : List Int} {x : Int} (h : w.ownsRow B 5 1 v (bs.length + 1) (bs.map (Value.int .u8) ++ [.int .u8 x])) : OwnsBy w B v (bs ++ [x]) := by
  unfold OwnsBy; rw [List.map_append, List.length_append]; simpa using h
theorem ownsBy_on {w w' : World} {B : Nat} {v : Value} {bs : List Int} (hb : Below w.heap.size w w') (h : OwnsBy w B v bs) : OwnsBy w' B v bs := ownsOn hb h

theorem u8_of (x : Int) (h0 : 0 ≤ x) (h1 : x < 256) : IntKind.u8.wrap x = x := by rw [wrap_u8]; omega

/-- What an append, or many, of the row v leave: that row, perhaps in a new block, and all else as it was. -/
structure Gr (v v' : Value) (w w' : World) : Prop where
  g : w.grownBy w' v.ownBlock
  o : v'.ownBlock = v.ownBlock ∨ ∀ k, v'.ownBlock = some k → w.heap.size ≤ k

theorem Gr.refl (v : Value) (w : World) : Gr v v w w := ⟨⟨rfl, rfl, rfl, Nat.le_refl _, fun _ _ _ => rfl⟩, Or.inl rfl⟩
theorem Gr.trans {v1 v2 v3 : Value} {w1 w2 w3 : World} (h : Gr v1 v2 w1 w2) (k : Gr v2 v3 w2 w3) : Gr v1 v3 w1 w3 := by
  refine ⟨⟨k.g.os.trans h.g.os, k.g.tape.trans h.g.tape, k.g.output.trans h.g.output, Nat.le_trans h.g.size k.g.size, fun i hi hne => ?_⟩, ?_⟩
  · refine (k.g.block i (Nat.lt_of_lt_of_le hi h.g.size) (fun e => ?_)).trans (h.g.block i hi hne)
    rcases h.o with ho | ho
    · rw [ho] at e; exact hne e
    · have := ho i e.symm; omega
  · rcases k.o with ko | ko
    · rcases h.o with ho | ho
      · exact Or.inl (ko.trans ho)
      · exact Or.inr (fun i e => ho i (by rw [← ko]; exact e))
    · exact Or.inr (fun i e => Nat.le_trans h.g.size (ko i e))
theorem Gr.of {v : Value} {w wA w' : World} {gg n cap : Nat} (hA : Below w.heap.size w wA) (hg : wA.grownBy w' v.ownBlock) (hat : v.ownBlock = some gg ∨ gg = w.heap.size + 1) : Gr v (.slice (some ⟨gg, 0, none⟩) n cap) w w' := by
  refine ⟨⟨hg.os.trans hA.os, hg.tape.trans hA.tape, hg.output.trans hA.output, Nat.le_trans hA.size hg.size, fun i hi hne => (hg.block i (Nat.lt_of_lt_of_le hi hA.size) hne).trans (hA.block i hi)⟩, ?_⟩
  rcases hat with h | h
  · exact Or.inl (by rw [h]; rfl)
  · refine Or.inr (fun k e => ?_)
    simp only [Value.ownBlock, Option.some.injEq] at e
    omega
theorem Gr.below {B : Nat} {v v' : Value} {bs : List Int} {w w' : World} (h : Gr v v' w w') (ho : OwnsBy w B v bs) (hB : B ≤ w.heap.size) : Below B w w' :=
  Below.grown (Below.refl _ _) h.g hB (fun b hb => (ho.lt b hb).1)
/-- What lies below the row, or beside it, stays. -/
theorem Gr.cell {v v' : Value} {w w' : World} {p : Addr} {x : Value} (h : Gr v v' w w') (hc : w.cell? p = some x) (hne : v.ownBlock ≠ some p.block) : w'.cell? p = some x :=
  h.g.cell hc (fun e => hne e.symm)

set_option maxRecDepth 100000 in
set_option maxHeartbeats 2000000 in
theorem l26Num_any (B : Nat) (v : Value) (bs : List Int) (n : Int) (w : World) (h : OwnsBy w B v bs) (hB : B ≤ w.heap.size) (h0 : -1 ≤ n) (h1 : n ≤ 9999) (hl : bs.length ≤ 1000000) :
    Calls Try.prog 25 #[v, .int .i64 n] w fun e w' => ∃ v', e = .returned v' ∧ OwnsBy w' B v' (bs ++ numI n) ∧ Gr v v' w w' := by
  obtain ⟨i5, hi5, hz0, hz1, hz2⟩ := infoBy_parts
  obtain ⟨m, hm⟩ : ∃ m : Nat, n + 1 = (m : Int) := ⟨(n + 1).toNat, by omega⟩
  have HM : Hid (numI n = numB m) := hide (by unfold numI; rw [hm]; simp)
  have hm1 : (m : Int) ≤ 10000 := by omega
  have HMn := hide hm
  clear hm
  have H := hide h
  clear h
  go_enter Try.func25, Try.ntmps25
  go_wp2_with fail
  go_loopw [0, 1] (fun u i wr => ∃ (j : Nat) (ys : List Int), i = .int .i64 j ∧ (j : Int) ≤ 10000 ∧ Hid (OwnsBy wr B u ys) ∧ Hid (ys ++ numB j = bs ++ numB m) ∧ Hid (Gr v u w wr)) (fun _ i _ => (intOf i).toNat)
  case atStart => exact ⟨m, bs, by rw [unhide HMn], hm1, H, hide rfl, hide (Gr.refl _ _)⟩
  case round =>
    obtain ⟨j, ys, rfl, hj, HO, HY, HB⟩ := hrel
    have hsz := (unhide HB).g.size
    have hyl : ys.length ≤ 1000002 := by
      have e := congrArg List.length (unhide HY)
      rw [List.length_append, List.length_append] at e
      have := numB_len m
      omega
    by_cases hlt : (127 : Int) < (j : Int)
    · have hbA : Below wr.heap.size wr (wr.alloc (.cells #[.int .u8 (128 + (j : Int) % 128)] 5)) := (Below.refl _ _).alloc (Nat.le_refl _) _
      have hownA := ownsBy_on hbA (unhide HO)
      have HBA := hide hbA
      clear hbA
      go_wp2_with (at_builtin; refine wpList_append_lies _ (by rfl) _ _ _ (by rfl) B 5 i5 _ 1 1 slice_By hi5 hz0 hz1 hz2 (by rfl) (by omega) _ ys.length (ys.map (Value.int .u8)) (by rfl) hownA ⟨wr.heap.size, 0, none⟩ 1 1 [.int .u8 (128 + (j : Int) % 128)] (by rfl) (by rfl) (World.news_of_block (cs := #[.int .u8 (128 + (j : Int) % 128)]) (t := 5) (fr := (0, 0)) (heap_alloc_new wr _)) (by simp [Value.oneCell']) (by omega) (by unfold maxLen; omega) (by omega) (by simp; omega) (wr.heap.size + 1) (by simp) ?_; intro gg cap w3 hown3 hgrow hat hlt3)
      have HO3 := hide (ownsBy_more hown3)
      have HB3 : Hid (Gr v (.slice (some ⟨gg, 0, none⟩) (ys.length + 1) cap) w w3) := hide ((unhide HB).trans (Gr.of (unhide HBA) hgrow hat))
      clear hown3 hgrow hat hlt3 hownA
      go_wp2_with fail
      go_roundw
      case rel =>
        refine ⟨j / 128, ys ++ [128 + (j : Int) % 128], by go_num, by omega, HO3, hide ?_, HB3⟩
        rw [← unhide HY, List.append_assoc, numB_more j (by omega) (by omega)]
        rfl
      case measure => simp [intOf]; omega
    · have hbA : Below wr.heap.size wr (wr.alloc (.cells #[.int .u8 (j : Int)] 5)) := (Below.refl _ _).alloc (Nat.le_refl _) _
      have hownA := ownsBy_on hbA (unhide HO)
      have HBA := hide hbA
      clear hbA
      go_wp2_with (at_builtin; refine wpList_append_lies _ (by rfl) _ _ _ (by rfl) B 5 i5 _ 1 1 slice_By hi5 hz0 hz1 hz2 (by rfl) (by omega) _ ys.length (ys.map (Value.int .u8)) (by rfl) hownA ⟨wr.heap.size, 0, none⟩ 1 1 [.int .u8 (j : Int)] (by rfl) (by rfl) (World.news_of_block (cs := #[.int .u8 (j : Int)]) (t := 5) (fr := (0, 0)) (heap_alloc_new wr _)) (by simp [Value.oneCell']) (by omega) (by unfold maxLen; omega) (by omega) (by simp; omega) (wr.heap.size + 1) (by simp) ?_; intro gg cap w3 hown3 hgrow hat hlt3)
      have HO3 := hide (ownsBy_more hown3)
      have HB3 : Hid (Gr v (.slice (some ⟨gg, 0, none⟩) (ys.length + 1) cap) w w3) := hide ((unhide HB).trans (Gr.of (unhide HBA) hgrow hat))
      clear hown3 hgrow hat hlt3 hownA
      go_wp2_with fail
      go_ret
      have hy := unhide HY
      rw [show numB j = [(j : Int)] by unfold numB; rw [if_pos (by omega)]] at hy
      exact ⟨_, rfl, by rw [unhide HM, ← hy]; exact unhide HO3, unhide HB3⟩
set_option maxRecDepth 100000 in
set_option maxHeartbeats 2000000 in
theorem l26Nums_any (B : Nat) (v vl : Value) (bs zs : List Int) (w : World) (h : OwnsBy w B v bs) (hB : B ≤ w.heap.size) (hN : ∀ u W, Gr v u w W → NumsAt W vl zs) (h0 : ∀ z ∈ zs, -1 ≤ z ∧ z ≤ 9999) (hz : zs.length ≤ 9999) (hl : bs.length ≤ 900000) :
    Calls Try.prog 26 #[v, vl] w fun e w' => ∃ v', e = .returned v' ∧ OwnsBy w' B v' (bs ++ packI ((zs.length : Int) :: zs)) ∧ Gr v v' w w' := by
  obtain ⟨a, c, rfl⟩ := (hN v w (Gr.refl _ _)).sliced
  have HN := hide hN
  have H := hide h
  clear hN h
  go_enter Try.func26, Try.ntmps26
  go_wp2_with fail
  refine (l26Num_any B _ bs zs.length _ (unhide H) hB (by omega) (by omega) (by omega)).mono ?_
  rintro e w1 ⟨v1, rfl, hO, hG⟩
  have HO := hide hO
  have HG := hide hG
  clear hO hG
  go_wp2_with fail
  go_loopw [0, 5] (fun u i wr => ∃ k : Nat, k ≤ zs.length ∧ i = .int .i64 k ∧ Hid (OwnsBy wr B u (bs ++ (numI zs.length ++ packI (zs.take k)))) ∧ Hid (Gr v u w wr)) (fun _ i _ => zs.length - (intOf i).toNat)
  case atStart => exact ⟨0, Nat.zero_le _, rfl, by simpa [packI_nil] using HO, HG⟩
  case round =>
    obtain ⟨k, hk, rfl, HO, HG⟩ := hrel
    by_cases hlt : k < zs.length
    · obtain ⟨ad, cap, e, _, hm, hc⟩ := (unhide HN) _ _ (unhide HG)
      rw [List.length_map] at e
      simp only [Value.slice.injEq] at e
      obtain ⟨rfl, _, rfl⟩ := e
      obtain ⟨b, off, rfl, p1⟩ : ∃ b off, a = some ⟨b, off, none⟩ ∧ wr.cell? ⟨b, off + k, none⟩ = some (.int .i64 zs[k]) := by
        rcases hc with h | ⟨b, off, h1, h2⟩
        · have : zs = [] := by simpa using h
          rw [this] at hlt; exact absurd hlt (Nat.not_lt_zero _)
        · have h3 := h2 k (by simpa using hlt) 0 (by omega)
          simp at h3
          exact ⟨b, off, h1, h3⟩
      clear hc hm
      have hkI : (k : Int) < (zs.length : Int) := by omega
      have hk0 : (0 : Int) ≤ (k : Int) := by omega
      have HZ := hide (h0 zs[k] (List.getElem_mem hlt))
      have HT := hide (packI_take zs k hlt)
      have HS := hide (unhide HG).g.size
      have hll : (bs ++ (numI zs.length ++ packI (zs.take k))).length ≤ 1000000 := by
        have h1 := packI_len (zs.take k)
        have h2 := numI_len zs.length
        rw [List.length_append, List.length_append]
        rw [List.length_take] at h1
        omega
      have HLL := hide hll
      clear hll
      generalize zs[k] = z at *
      go_wp2_with fail
      refine (l26Num_any B _ _ z _ (unhide HO) (Nat.le_trans hB (unhide HS)) (unhide HZ).1 (unhide HZ).2 (unhide HLL)).mono ?_
      rintro e w3 ⟨v3, rfl, hO3, hG3⟩
      have HO3 := hide hO3
      have HG3 := hide ((unhide HG).trans hG3)
      clear hO3 hG3
      go_wp2_with fail
      go_roundw
      case rel => exact ⟨k + 1, by omega, by go_num, by rw [unhide HT]; simpa using HO3, HG3⟩
      case measure => simp [intOf]; omega
    · have hke : k = zs.length := by omega
      subst hke
      go_wp2_with fail
      go_ret
      exact ⟨_, rfl, by simpa [packI] using unhide HO, unhide HG⟩
end Go.Proofs.Ytiljjhipiinafaa
