/- Numbers as bytes: plainly; spec.l26Num, spec.l26Nums. -/
import Derived.Test.YtiljjhipiinafaaGreatWire0
import Derived.Test.YtiljjhipiinafaaGreatCopy1
import Derived.Test.YtiljjhipiinafaaGreatWord2
import Derived.Test.YtiljjhipiinafaaGreatWord4
import Derived.Deep.Cut
import Derived.Deep.RegionHeld3
namespace Go.Proofs.YtiljjhipiinafaaGreat
open Go.RowKit
set_option linter.unusedVariables false
set_option linter.unusedSimpArgs false

/-- The bytes of a number that is less than 16384 (one more than what is written). -/
def numB (m : Nat) : List Int := if m < 128 then [(m : Int)] else [(128 : Int) + (m : Int) % 128, (m : Int) / 128]
def numI (n : Int) : List Int := numB (n + 1).toNat
def packI (ns : List Int) : List Int := ns.flatMap numI
theorem packI_nil : packI [] = [] := rfl
theorem packI_app (a b : List Int) : packI (a ++ b) = packI a ++ packI b := by simp [packI]
theorem packI_one (n : Int) : packI [n] = numI n := by simp [packI]
theorem packI_take (ns : List Int) (k : Nat) (h : k < ns.length) : packI (ns.take (k + 1)) = packI (ns.take k) ++ numI ns[k] := by
  rw [List.take_succ_eq_append_getElem h, packI_app, packI_one]
theorem numB_len (m : Nat) : (numB m).length ≤ 2 := by unfold numB; split <;> simp
theorem numB_more (j : Nat) (h : 128 ≤ j) (h1 : j ≤ 10000) : numB j = (128 + (j : Int) % 128) :: numB (j / 128) := by
  unfold numB
  rw [if_neg (by omega), if_pos (by omega)]
  simp
theorem numI_len (n : Int) : (numI n).length ≤ 2 := by unfold numI numB; split <;> simp
theorem packI_len (ns : List Int) : (packI ns).length ≤ 2 * ns.length := by
  induction ns with
  | nil => simp [packI]
  | cons a t ih => have := numI_len a; simp [packI] at ih ⊢; omega

theorem infoBy_parts : ∃ i, Tryz.prog.info? 5 = some i ∧ i.zero = some (.int .u8 0) ∧ i.size = 1 ∧ i.bytes = 1 := by
  obtain ⟨i, hi, h⟩ := Option.map_eq_some_iff.1 info_By
  simp only [Prod.mk.injEq] at h
  exact ⟨i, hi, h.1, h.2.1, h.2.2⟩

theorem ownsBy_more {w : World} {B : Nat} {v : Value} {bs : List Int} {x : Int} (h : w.ownsRow B 5 1 v (bs.length + 1) (bs.map (Value.int .u8) ++ [.int .u8 x])) : OwnsBy w B v (bs ++ [x]) := by
  unfold OwnsBy; rw [List.map_append, List.length_append]; simpa using h
theorem ownsBy_on {w w' : World} {B : Nat} {v : Value} {bs : List Int} (hb : Below w.heap.size w w') (h : OwnsBy w B v bs) : OwnsBy w' B v bs := ownsOn hb h

theorem u8_of (x : Int) (h0 : 0 ≤ x) (h1 : x < 256) : IntKind.u8.wrap x = x := by rw [wrap_u8]; omega

/-- What an append, or many, of the row v leave: that row, perhaps in a new block, and all else as it was. -/
structure Gr (v v' : Value) (w w' : World) : Prop where
  g : w.grownBy w' v.ownBlock
  o : v'.ownBlock = v.ownBlock ∨ ∀ k, v'.ownBlock = some k → w.heap.size ≤ k

theorem Gr.refl (v : Value) (w : World) : Gr v v w w := ⟨⟨rfl, rfl, rfl, Nat.le_refl _, fun _ _ _ => rfl⟩, Or.inl rfl⟩
theorem Gr.trans {v1 v2 v3 : Value} {w1 w2 w3 : World} (h : Gr v1 v2 w1 w2) (k : Gr v2 v3 w2 w3) : Gr v1 v3 w1 w3 := by
  refine ⟨⟨k.g.os.trans h.g.os, k.g.tape.trans h.g.tape, k.g.output.trans h.g.output, Nat.le_trans h.g.size k.g.size, fun i hi hne => ?_⟩, ?_⟩
  · refine (k.g.block i (Nat.lt_of_lt_of_le hi h.g.size) (fun e => ?_)).trans (h.g.block i hi hne)
    rcases h.o with ho | ho
    · rw [ho] at e; exact hne e
    · have := ho i e.symm; omega
  · rcases k.o with ko | ko
    · rcases h.o with ho | ho
      · exact Or.inl (ko.trans ho)
      · exact Or.inr (fun i e => ho i (by rw [← ko]; exact e))
    · exact Or.inr (fun i e => Nat.le_trans h.g.size (ko i e))
theorem Gr.of {v : Value} {w wA w' : World} {gg n cap : Nat} (hA : Below w.heap.size w wA) (hg : wA.grownBy w' v.ownBlock) (hat : v.ownBlock = some gg ∨ gg = w.heap.size + 1) : Gr v (.slice (some ⟨gg, 0, none⟩) n cap) w w' := by
  refine ⟨⟨hg.os.trans hA.os, hg.tape.trans hA.tape, hg.output.trans hA.output, Nat.le_trans hA.size hg.size, fun i hi hne => (hg.block i (Nat.lt_of_lt_of_le hi hA.size) hne).trans (hA.block i hi)⟩, ?_⟩
  rcases hat with h | h
  · exact Or.inl (by rw [h]; rfl)
  · refine Or.inr (fun k e => ?_)
    simp only [Value.ownBlock, Option.some.injEq] at e
    omega
theorem Gr.below {B : Nat} {v v' : Value} {bs : List Int} {w w' : World} (h : Gr v v' w w') (ho : OwnsBy w B v bs) (hB : B ≤ w.heap.size) : Below B w w' :=
  Below.grown (Below.refl _ _) h.g hB (fun b hb => (ho.lt b hb).1)
/-- What lies below the row, or beside it, stays. -/
theorem Gr.cell {v v' : Value} {w w' : World} {p : Addr} {x : Value} (h : Gr v v' w w') (hc : w.cell? p = some x) (hne : v.ownBlock ≠ some p.block) : w'.cell? p = some x :=
  h.g.cell hc (fun e => hne e.symm)

set_option maxRecDepth 100000 in
set_option maxHeartbeats 2000000 in
theorem l26Num_any (B : Nat) (v : Value) (bs : List Int) (n : Int) (w : World) (h : OwnsBy w B v bs) (hB : B ≤ w.heap.size) (h0 : -1 ≤ n) (h1 : n ≤ 9999) (hl : bs.length ≤ 1000000) :
    Calls Tryz.prog 43 #[v, .int .i64 n] w fun e w' => ∃ v', e = .returned v' ∧ OwnsBy w' B v' (bs ++ numI n) ∧ Gr v v' w w' := by
  obtain ⟨i5, hi5, hz0, hz1, hz2⟩ := infoBy_parts
  obtain ⟨m, hm⟩ : ∃ m : Nat, n + 1 = (m : Int) := ⟨(n + 1).toNat, by omega⟩
  have HM : Hid (numI n = numB m) := hide (by unfold numI; rw [hm]; simp)
  have hm1 : (m : Int) ≤ 10000 := by omega
  have HMn := hide hm
  clear hm
  have H := hide h
  clear h
  go_enter Tryz.func43, Tryz.ntmps43
  go_wp2_with fail
  go_loopw [0, 1] (fun u i wr => ∃ (j : Nat) (ys : List Int), i = .int .i64 j ∧ (j : Int) ≤ 10000 ∧ Hid (OwnsBy wr B u ys) ∧ Hid (ys ++ numB j = bs ++ numB m) ∧ Hid (Gr v u w wr)) (fun _ i _ => (intOf i).toNat)
  case atStart => exact ⟨m, bs, by rw [unhide HMn], hm1, H, hide rfl, hide (Gr.refl _ _)⟩
  case round =>
    obtain ⟨j, ys, rfl, hj, HO, HY, HB⟩ := hrel
    have hsz := (unhide HB).g.size
    have hyl : ys.length ≤ 1000002 := by
      have e := congrArg List.length (unhide HY)
      rw [List.length_append, List.length_append] at e
      have := numB_len m
      omega
    by_cases hlt : (127 : Int) < (j : Int)
    · have hbA : Below wr.heap.size wr (wr.alloc (.cells #[.int .u8 (128 + (j : Int) % 128)] 5)) := (Below.refl _ _).alloc (Nat.le_refl _) _
      have hownA := ownsBy_on hbA (unhide HO)
      have HBA := hide hbA
      clear hbA
      go_wp2_with (at_builtin; refine wpList_append_lies _ (by rfl) _ _ _ (by rfl) B 5 i5 _ 1 1 slice_By hi5 hz0 hz1 hz2 (by rfl) (by omega) _ ys.length (ys.map (Value.int .u8)) (by rfl) hownA ⟨wr.heap.size, 0, none⟩ 1 1 [.int .u8 (128 + (j : Int) % 128)] (by rfl) (by rfl) (World.news_of_block (cs := #[.int .u8 (128 + (j : Int) % 128)]) (t := 5) (fr := (0, 0)) (heap_alloc_new wr _)) (by simp [Value.oneCell']) (by omega) (by unfold maxLen; omega) (by omega) (by simp; omega) (wr.heap.size + 1) (by simp) ?_; intro gg cap w3 hown3 hgrow hat hlt3)
      have HO3 := hide (ownsBy_more hown3)
      have HB3 : Hid (Gr v (.slice (some ⟨gg, 0, none⟩) (ys.length + 1) cap) w w3) := hide ((unhide HB).trans (Gr.of (unhide HBA) hgrow hat))
      clear hown3 hgrow hat hlt3 hownA
      go_wp2_with fail
      go_roundw
      case rel =>
        refine ⟨j / 128, ys ++ [128 + (j : Int) % 128], by go_num, by omega, HO3, hide ?_, HB3⟩
        rw [← unhide HY, List.append_assoc, numB_more j (by omega) (by omega)]
        rfl
      case measure => simp [intOf]; omega
    · have hbA : Below wr.heap.size wr (wr.alloc (.cells #[.int .u8 (j : Int)] 5)) := (Below.refl _ _).alloc (Nat.le_refl _) _
      have hownA := ownsBy_on hbA (unhide HO)
      have HBA := hide hbA
      clear hbA
      go_wp2_with (at_builtin; refine wpList_append_lies _ (by rfl) _ _ _ (by rfl) B 5 i5 _ 1 1 slice_By hi5 hz0 hz1 hz2 (by rfl) (by omega) _ ys.length (ys.map (Value.int .u8)) (by rfl) hownA ⟨wr.heap.size, 0, none⟩ 1 1 [.int .u8 (j : Int)] (by rfl) (by rfl) (World.news_of_block (cs := #[.int .u8 (j : Int)]) (t := 5) (fr := (0, 0)) (heap_alloc_new wr _)) (by simp [Value.oneCell']) (by omega) (by unfold maxLen; omega) (by omega) (by simp; omega) (wr.heap.size + 1) (by simp) ?_; intro gg cap w3 hown3 hgrow hat hlt3)
      have HO3 := hide (ownsBy_more hown3)
      have HB3 : Hid (Gr v (.slice (some ⟨gg, 0, none⟩) (ys.length + 1) cap) w w3) := hide ((unhide HB).trans (Gr.of (unhide HBA) hgrow hat))
      clear hown3 hgrow hat hlt3 hownA
      go_wp2_with fail
      go_ret
      have hy := unhide HY
      rw [show numB j = [(j : Int)] by unfold numB; rw [if_pos (by omega)]] at hy
      exact ⟨_, rfl, by rw [unhide HM, ← hy]; exact unhide HO3, unhide HB3⟩
set_option maxRecDepth 100000 in
set_option maxHeartbeats 2000000 in
theorem l26Nums_any (B : Nat) (v vl : Value) (bs zs : List Int) (w : World) (h : OwnsBy w B v bs) (hB : B ≤ w.heap.size) (hN : ∀ u W, Gr v u w W → NumsAt W vl zs) (h0 : ∀ z ∈ zs, -1 ≤ z ∧ z ≤ 9999) (hz : zs.length ≤ 9999) (hl : bs.length ≤ 900000) :
    Calls Tryz.prog 44 #[v, vl] w fun e w' => ∃ v', e = .returned v' ∧ OwnsBy w' B v' (bs ++ packI ((zs.length : Int) :: zs)) ∧ Gr v v' w w' := by
  obtain ⟨a, c, rfl⟩ := (hN v w (Gr.refl _ _)).sliced
  have HN := hide hN
  have H := hide h
  clear hN h
  go_enter Tryz.func44, Tryz.ntmps44
  go_wp2_with fail
  refine (l26Num_any B _ bs zs.length _ (unhide H) hB (by omega) (by omega) (by omega)).mono ?_
  rintro e w1 ⟨v1, rfl, hO, hG⟩
  have HO := hide hO
  have HG := hide hG
  clear hO hG
  go_wp2_with fail
  go_loopw [0, 5] (fun u i wr => ∃ k : Nat, k ≤ zs.length ∧ i = .int .i64 k ∧ Hid (OwnsBy wr B u (bs ++ (numI zs.length ++ packI (zs.take k)))) ∧ Hid (Gr v u w wr)) (fun _ i _ => zs.length - (intOf i).toNat)
  case atStart => exact ⟨0, Nat.zero_le _, rfl, by simpa [packI_nil] using HO, HG⟩
  case round =>
    obtain ⟨k, hk, rfl, HO, HG⟩ := hrel
    by_cases hlt : k < zs.length
    · obtain ⟨ad, cap, e, _, hm, hc⟩ := (unhide HN) _ _ (unhide HG)
      rw [List.length_map] at e
      simp only [Value.slice.injEq] at e
      obtain ⟨rfl, _, rfl⟩ := e
      obtain ⟨b, off, rfl, p1⟩ : ∃ b off, a = some ⟨b, off, none⟩ ∧ wr.cell? ⟨b, off + k, none⟩ = some (.int .i64 zs[k]) := by
        rcases hc with h | ⟨b, off, h1, h2⟩
        · have : zs = [] := by simpa using h
          rw [this] at hlt; exact absurd hlt (Nat.not_lt_zero _)
        · have h3 := h2 k (by simpa using hlt) 0 (by omega)
          simp at h3
          exact ⟨b, off, h1, h3⟩
      clear hc hm
      have hkI : (k : Int) < (zs.length : Int) := by omega
      have hk0 : (0 : Int) ≤ (k : Int) := by omega
      have HZ := hide (h0 zs[k] (List.getElem_mem hlt))
      have HT := hide (packI_take zs k hlt)
      have HS := hide (unhide HG).g.size
      have hll : (bs ++ (numI zs.length ++ packI (zs.take k))).length ≤ 1000000 := by
        have h1 := packI_len (zs.take k)
        have h2 := numI_len zs.length
        rw [List.length_append, List.length_append]
        rw [List.length_take] at h1
        omega
      have HLL := hide hll
      clear hll
      generalize zs[k] = z at *
      go_wp2_with fail
      refine (l26Num_any B _ _ z _ (unhide HO) (Nat.le_trans hB (unhide HS)) (unhide HZ).1 (unhide HZ).2 (unhide HLL)).mono ?_
      rintro e w3 ⟨v3, rfl, hO3, hG3⟩
      have HO3 := hide hO3
      have HG3 := hide ((unhide HG).trans hG3)
      clear hO3 hG3
      go_wp2_with fail
      go_roundw
      case rel => exact ⟨k + 1, by omega, by go_num, by rw [unhide HT]; simpa using HO3, HG3⟩
      case measure => simp [intOf]; omega
    · have hke : k = zs.length := by omega
      subst hke
      go_wp2_with fail
      go_ret
      exact ⟨_, rfl, by simpa [packI] using unhide HO, unhide HG⟩
end Go.Proofs.YtiljjhipiinafaaGreat

/- The numbers of a word; spec.l26Event, spec.l26Out. -/
namespace Go.Proofs.YtiljjhipiinafaaGreat
open Go.RowKit
set_option linter.unusedVariables false
set_option linter.unusedSimpArgs false

def headNums (n : WordV) : List Int := [n.kind, n.frm, n.dst, n.inc, n.ver, n.rd, n.g]
def wordNums (n : WordV) : List Int :=
  headNums n ++ (((n.incs.length : Int) :: n.incs) ++ (((n.vers.length : Int) :: n.vers) ++ (((n.evs.length : Int) :: n.evs.flatMap evRow) ++ ((n.outs.length : Int) :: n.outs.flatMap outRow))))
def packW (n : WordV) : List Int := packI (wordNums n)

/-- What being ok says of a word's numbers. -/
structure WordIn (n : WordV) : Prop where
  head : ∀ z ∈ headNums n, 0 ≤ z ∧ z ≤ 9999
  incs : n.incs.length ≤ 3 ∧ ∀ z ∈ n.incs, 0 ≤ z ∧ z ≤ 9999
  vers : n.vers.length ≤ 3 ∧ ∀ z ∈ n.vers, 0 ≤ z ∧ z ≤ 9999
  evs : n.evs.length ≤ 100 ∧ ∀ e ∈ n.evs, ∀ z ∈ evRow e, -1 ≤ z ∧ z ≤ 9999
  outs : n.outs.length ≤ 96 ∧ ∀ o ∈ n.outs, ∀ z ∈ outRow o, 0 ≤ z ∧ z ≤ 9999

theorem wordOk_in {n : WordV} (h : wordOk n = true) : WordIn n := by
  simp only [wordOk, numsOk, inOrder, Bool.and_eq_true, Bool.or_eq_true, List.all_eq_true, decide_eq_true_eq] at h
  obtain ⟨h0, h1, h2, h3, h4, h5, h6, ⟨h7, h7a⟩, ⟨h8, h8a⟩, ⟨⟨h9, h9a⟩, _⟩, ⟨⟨h10, h10a⟩, _⟩⟩ := h
  simp only [inR, Bool.and_eq_true, decide_eq_true_eq] at h0 h1 h2 h3 h4 h5 h6 h7a h8a
  refine ⟨fun z hz => ?_, ⟨by omega, h7a⟩, ⟨by omega, h8a⟩, ⟨by omega, fun e he z hz => ?_⟩, ⟨by omega, fun o ho z hz => ?_⟩⟩
  · simp only [headNums, List.mem_cons, List.not_mem_nil, or_false] at hz
    omega
  · have h := h9a e he
    simp only [evOk, inR, Bool.and_eq_true, decide_eq_true_eq] at h
    simp only [evRow, List.mem_cons, List.not_mem_nil, or_false] at hz
    omega
  · have h := h10a o ho
    simp only [outOk, inR, Bool.and_eq_true, decide_eq_true_eq] at h
    simp only [outRow, List.mem_cons, List.not_mem_nil, or_false] at hz
    omega

theorem Gr.rows {n : Nat} {v u vl : Value} {rs : List (List Int)} {w W : World} (hg : Gr v u w W) (h : RowsAt n w vl rs) (hne : ∀ b, vl.ownBlock = some b → v.ownBlock ≠ some b) : RowsAt n W vl rs := by
  obtain ⟨ad, cap, hv, hl, hm, h⟩ := h
  refine ⟨ad, cap, hv, hl, hm, ?_⟩
  rcases h with h | ⟨b, off, had, hc⟩
  · exact Or.inl h
  · exact Or.inr ⟨b, off, had, fun i hi j hj => hg.cell (hc i hi j hj) (hne b (by rw [hv, had]; rfl))⟩

theorem nums_of_cells {w : World} {b : Nat} {zs : List Int} (h : CellsAt w b 0 (zs.map (Value.int .i64))) (hz : zs.length ≤ maxLen) : NumsAt w (.slice (some ⟨b, 0, none⟩) zs.length zs.length) zs := by
  refine ⟨some ⟨b, 0, none⟩, zs.length, by rw [List.length_map], by rw [List.length_map]; exact Nat.le_refl _, by rw [List.length_map]; exact hz, Or.inr ⟨b, 0, rfl, fun i hi j hj => ?_⟩⟩
  obtain rfl : j = 0 := by omega
  have hi' : i < zs.length := by simpa using hi
  have := h i (by simpa using hi')
  simpa using this

set_option maxRecDepth 100000 in
set_option maxHeartbeats 2000000 in
theorem l26Event_any (e : EvV) (w : World) :
    Calls Tryz.prog 45 #[evAgg e] w fun r w' => r = .returned (.slice (some ⟨w.heap.size + 1, 0, none⟩) 7 7) ∧ NumsAt w' (.slice (some ⟨w.heap.size + 1, 0, none⟩) 7 7) (evRow e) ∧ Below w.heap.size w w' := by
  obtain ⟨x0, x1, x2, x3, x4, x5, x6⟩ := e
  go_enter Tryz.func45, Tryz.ntmps45
  go_wp2
  go_ret
  refine ⟨rfl, nums_of_cells (zs := evRow ⟨x0, x1, x2, x3, x4, x5, x6⟩) ?_ (by unfold maxLen; simp [evRow]), ((Below.refl _ _).alloc (Nat.le_refl _) _).alloc (by simp) _⟩
  have h := cellsAt_new (w.alloc (.cells #[.int .i64 x0, .int .i64 x1, .int .i64 x2, .int .i64 x3, .int .i64 x4, .int .i64 x5, .int .i64 x6] 56)) ((evRow ⟨x0, x1, x2, x3, x4, x5, x6⟩).map (Value.int .i64)) 3
  rw [show (w.alloc (.cells #[.int .i64 x0, .int .i64 x1, .int .i64 x2, .int .i64 x3, .int .i64 x4, .int .i64 x5, .int .i64 x6] 56)).heap.size = w.heap.size + 1 by simp] at h
  exact h

set_option maxRecDepth 100000 in
set_option maxHeartbeats 2000000 in
theorem l26Out_any (o : OutV) (w : World) :
    Calls Tryz.prog 46 #[outAgg o] w fun r w' => r = .returned (.slice (some ⟨w.heap.size + 1, 0, none⟩) 5 5) ∧ NumsAt w' (.slice (some ⟨w.heap.size + 1, 0, none⟩) 5 5) (outRow o) ∧ Below w.heap.size w w' := by
  obtain ⟨x0, x1, x2, x3, x4⟩ := o
  go_enter Tryz.func46, Tryz.ntmps46
  go_wp2
  go_ret
  refine ⟨rfl, nums_of_cells (zs := outRow ⟨x0, x1, x2, x3, x4⟩) ?_ (by unfold maxLen; simp [outRow]), ((Below.refl _ _).alloc (Nat.le_refl _) _).alloc (by simp) _⟩
  have h := cellsAt_new (w.alloc (.cells #[.int .i64 x0, .int .i64 x1, .int .i64 x2, .int .i64 x3, .int .i64 x4] 60)) ((outRow ⟨x0, x1, x2, x3, x4⟩).map (Value.int .i64)) 3
  rw [show (w.alloc (.cells #[.int .i64 x0, .int .i64 x1, .int .i64 x2, .int .i64 x3, .int .i64 x4] 60)).heap.size = w.heap.size + 1 by simp] at h
  exact h
end Go.Proofs.YtiljjhipiinafaaGreat

/- spec.WordPack. -/
namespace Go.Proofs.YtiljjhipiinafaaGreat
open Go.RowKit
set_option linter.unusedVariables false
set_option linter.unusedSimpArgs false

theorem flatTo_len {α : Type} {f : α → List Int} {m : Nat} (hf : ∀ a, (f a).length = m) : ∀ l : List α, (l.flatMap f).length = l.length * m
  | [] => by simp
  | a :: t => by
    have := flatTo_len hf t
    simp only [List.flatMap_cons, List.length_append, List.length_cons, hf, this, Nat.add_mul]
    omega
theorem flatTo_more {α : Type} (f : α → List Int) (l : List α) (k : Nat) (h : k < l.length) : (l.take (k + 1)).flatMap f = (l.take k).flatMap f ++ f l[k] := by
  rw [List.take_succ_eq_append_getElem h, List.flatMap_append]; simp
theorem ownsBy_less {w : World} {B C : Nat} {v : Value} {bs : List Int} (hC : C ≤ B) (h : OwnsBy w B v bs) : OwnsBy w C v bs := by
  obtain ⟨hl, h | ⟨g, cap, cur, h1, h2, h3⟩⟩ := h
  · exact ⟨hl, Or.inl h⟩
  · exact ⟨hl, Or.inr ⟨g, cap, cur, h1, Nat.le_trans hC h2, h3⟩⟩

/-- A row of numbers that is at hand: read at k. -/
theorem nums_at {w : World} {b n c : Nat} {zs : List Int} (h : NumsAt w (.slice (some ⟨b, 0, none⟩) n c) zs) (k : Nat) (hk : k < zs.length) : n = zs.length ∧ zs.length ≤ c ∧ w.cell? ⟨b, k, none⟩ = some (.int .i64 zs[k]) := by
  obtain ⟨ad, cap, e, hl, hm, hc⟩ := h
  rw [List.length_map] at e hl
  simp only [Value.slice.injEq] at e
  obtain ⟨rfl, rfl, rfl⟩ := e
  refine ⟨rfl, hl, ?_⟩
  rcases hc with h | ⟨b', off, h1, h2⟩
  · have : zs = [] := by simpa using h
    rw [this] at hk; exact absurd hk (Nat.not_lt_zero _)
  · simp only [Option.some.injEq, Addr.mk.injEq] at h1
    obtain ⟨rfl, rfl, _⟩ := h1
    have h3 := h2 k (by simpa using hk) 0 (by omega)
    simpa using h3
theorem rows_at {w : World} {m : Nat} {a : Option Addr} {n c : Nat} {rs : List (List Int)} (h : RowsAt m w (.slice a n c) rs) (k : Nat) (hk : k < rs.length) :
    n = rs.length ∧ rs.length ≤ c ∧ rs.length ≤ maxLen ∧ ∃ b off, a = some ⟨b, off, none⟩ ∧ ∀ j, j < m → w.cell? ⟨b, off + k * m + j, none⟩ = some (.int .i64 (rs[k].getD j 0)) := by
  obtain ⟨ad, cap, e, hl, hm, hc⟩ := h
  simp only [Value.slice.injEq] at e
  obtain ⟨rfl, rfl, rfl⟩ := e
  refine ⟨rfl, hl, hm, ?_⟩
  rcases hc with h | ⟨b, off, h1, h2⟩
  · rw [h] at hk; exact absurd hk (Nat.not_lt_zero _)
  · exact ⟨b, off, h1, h2 k hk⟩

def preI (n : WordV) : List Int := headNums n ++ (((n.incs.length : Int) :: n.incs) ++ ((n.vers.length : Int) :: n.vers))
def evTo (n : WordV) (k : Nat) : List Int := preI n ++ ((n.evs.length : Int) :: (n.evs.take k).flatMap evRow)
def ouTo (n : WordV) (k : Nat) : List Int := evTo n n.evs.length ++ ((n.outs.length : Int) :: (n.outs.take k).flatMap outRow)
theorem evTo_more (n : WordV) (k : Nat) (h : k < n.evs.length) : evTo n (k + 1) = evTo n k ++ evRow n.evs[k] := by
  unfold evTo; rw [flatTo_more _ _ _ h]; simp
theorem ouTo_more (n : WordV) (k : Nat) (h : k < n.outs.length) : ouTo n (k + 1) = ouTo n k ++ outRow n.outs[k] := by
  unfold ouTo; rw [flatTo_more _ _ _ h]; simp
theorem ouTo_all (n : WordV) : ouTo n n.outs.length = wordNums n := by
  simp [ouTo, evTo, preI, wordNums]
theorem preI_len {n : WordV} (h : WordIn n) : (preI n).length ≤ 15 := by
  have := h.incs.1; have := h.vers.1
  simp [preI, headNums]; omega
theorem evTo_len {n : WordV} (h : WordIn n) (k : Nat) : (evTo n k).length ≤ 800 := by
  have h1 := preI_len h
  have h2 := h.evs.1
  have h3 := flatTo_len (f := evRow) (m := 7) (fun _ => rfl) (n.evs.take k)
  rw [List.length_take] at h3
  simp only [evTo, List.length_append, List.length_cons, h3]; omega
theorem ouTo_len {n : WordV} (h : WordIn n) (k : Nat) : (ouTo n k).length ≤ 1400 := by
  have h1 := evTo_len h n.evs.length
  have h2 := h.outs.1
  have h3 := flatTo_len (f := outRow) (m := 5) (fun _ => rfl) (n.outs.take k)
  rw [List.length_take] at h3
  simp only [ouTo, List.length_append, List.length_cons, h3]; omega
theorem pk_len {L : List Int} {m : Nat} (h : L.length ≤ m) (hm : m ≤ 400000) : (packI L).length ≤ 900000 := by
  have := packI_len L; omega
theorem Gr.ofBelow {v : Value} {w w' : World} (h : Below w.heap.size w w') : Gr v v w w' := ⟨⟨h.os, h.tape, h.output, h.size, fun k hk _ => h.block k hk⟩, Or.inl rfl⟩
theorem take_row {l : List Int} {j : Nat} (h : j < l.length) (L : List Int) : L ++ l.take (j + 1) = (L ++ l.take j) ++ [l[j]] := by
  rw [List.take_succ_eq_append_getElem h, List.append_assoc]

set_option maxRecDepth 100000 in
set_option maxHeartbeats 4000000 in
theorem specWordPack_any (n : WordV) (vi vv ve vo : Value) (w : World) (h : WordAt w n vi vv ve vo) :
    Calls Tryz.prog 11 #[wordAgg n vi vv ve vo] w fun e w' => ∃ v, e = .returned v ∧ OwnsBy w' w.heap.size v (if wordOk n = true then packW n else []) ∧ Below w.heap.size w w' := by
  obtain ⟨⟨a0, ac0, e1⟩, ⟨a1, ac1, e2⟩, ⟨a2, ac2, e3⟩, ⟨a3, ac3, e4⟩⟩ := h.sliced
  subst e1 e2 e3 e4
  have hb0 : Below w.heap.size w (w.alloc (.cells #[.int .i64 n.kind, .int .i64 n.frm, .int .i64 n.dst, .int .i64 n.inc, .int .i64 n.ver, .int .i64 n.rd, .int .i64 n.g, .slice a0 n.incs.length ac0, .slice a1 n.vers.length ac1, .slice a2 n.evs.length ac2, .slice a3 n.outs.length ac3] 28)) := (Below.refl _ _).alloc (Nat.le_refl _) _
  have HA0 := cellsAt_new w [.int .i64 n.kind, .int .i64 n.frm, .int .i64 n.dst, .int .i64 n.inc, .int .i64 n.ver, .int .i64 n.rd, .int .i64 n.g, .slice a0 n.incs.length ac0, .slice a1 n.vers.length ac1, .slice a2 n.evs.length ac2, .slice a3 n.outs.length ac3] 28
  change CellsAt (w.alloc (.cells #[.int .i64 n.kind, .int .i64 n.frm, .int .i64 n.dst, .int .i64 n.inc, .int .i64 n.ver, .int .i64 n.rd, .int .i64 n.g, .slice a0 n.incs.length ac0, .slice a1 n.vers.length ac1, .slice a2 n.evs.length ac2, .slice a3 n.outs.length ac3] 28)) _ _ _ at HA0
  have hsz0 : (w.alloc (.cells #[.int .i64 n.kind, .int .i64 n.frm, .int .i64 n.dst, .int .i64 n.inc, .int .i64 n.ver, .int .i64 n.rd, .int .i64 n.g, .slice a0 n.incs.length ac0, .slice a1 n.vers.length ac1, .slice a2 n.evs.length ac2, .slice a3 n.outs.length ac3] 28)).heap.size = w.heap.size + 1 := by simp
  have H := hide h
  clear h
  obtain ⟨R, hR⟩ : ∃ R, R = wordOk n := ⟨_, rfl⟩
  have HR := hide hR
  rw [← hR]
  clear hR
  go_enter Tryz.func11, Tryz.ntmps11
  go_upto_region 1 with fail
  generalize (w.alloc (.cells #[.int .i64 n.kind, .int .i64 n.frm, .int .i64 n.dst, .int .i64 n.inc, .int .i64 n.ver, .int .i64 n.rd, .int .i64 n.g, .slice a0 n.incs.length ac0, .slice a1 n.vers.length ac1, .slice a2 n.evs.length ac2, .slice a3 n.outs.length ac3] 28)) = X0 at *
  have hbx : Below X0.heap.size X0 (X0.alloc (.cells #[] 5)) := (Below.refl _ _).alloc (Nat.le_refl _) _
  have own1 : OwnsBy (X0.alloc (.cells #[] 5)) X0.heap.size (.slice (some ⟨X0.heap.size, 0, none⟩) 0 0) [] := World.ownsRow_lit X0 #[] 0 (Nat.le_refl _) (Nat.zero_le _) rfl
  have hlt0 : w.heap.size < X0.heap.size := by omega
  have HA := hide (HA0.on hbx)
  have HB := hide (below_then hb0 hbx)
  have HX := hide hbx
  have HO1 := hide own1
  have HSZ := hide hsz0
  have HS1 : Hid ((X0.alloc (.cells #[] 5)).heap.size = X0.heap.size + 1) := hide (by simp)
  clear HA0 hb0 hbx own1 hsz0
  have m0 := (unhide HA) 0 (by simp)
  have m1 := (unhide HA) 1 (by simp)
  have m2 := (unhide HA) 2 (by simp)
  have m3 := (unhide HA) 3 (by simp)
  have m4 := (unhide HA) 4 (by simp)
  have m5 := (unhide HA) 5 (by simp)
  have m6 := (unhide HA) 6 (by simp)
  have m7 := (unhide HA) 7 (by simp)
  have m8 := (unhide HA) 8 (by simp)
  have m9 := (unhide HA) 9 (by simp)
  have m10 := (unhide HA) 10 (by simp)
  simp only [List.getElem_cons_zero, List.getElem_cons_succ, Nat.zero_add] at m0 m1 m2 m3 m4 m5 m6 m7 m8 m9 m10
  go_wp2_with fail
  clear m0 m1 m2 m3 m4 m5 m6 m7 m8 m9 m10
  generalize X0.alloc (.cells #[] 5) = X1 at *
  refine (specWordOk_any n _ _ _ _ _ ((unhide H).on (unhide HB))).mono ?_
  rintro e w2 ⟨rfl, hb2⟩
  rw [← unhide HR]
  have hs12 := hb2.size
  have HA2 := hide ((unhide HA).on hb2)
  have HB2 := hide (below_then (unhide HB) hb2)
  have HO2 := hide (ownsBy_on hb2 (unhide HO1))
  clear HA HB HO1 HX hb2
  cases R with
  | false =>
    go_wp2_with fail
    go_ret
    exact ⟨_, rfl, by simpa using ownsBy_less (by omega) (unhide HO2), unhide HB2⟩
  | true =>
  have HIN := hide (wordOk_in (unhide HR).symm)
  clear HR
  -- FROM HERE
  have HQ : Hid (X0.heap.size < w2.heap.size) := hide (by have := unhide HS1; omega)
  have FX : Hid (∀ u W, Gr (.slice (some ⟨X0.heap.size, 0, none⟩) 0 0) u w2 W → CellsAt W w.heap.size 0 [.int .i64 n.kind, .int .i64 n.frm, .int .i64 n.dst, .int .i64 n.inc, .int .i64 n.ver, .int .i64 n.rd, .int .i64 n.g, .slice a0 n.incs.length ac0, .slice a1 n.vers.length ac1, .slice a2 n.evs.length ac2, .slice a3 n.outs.length ac3] ∧ WordAt W n (.slice a0 n.incs.length ac0) (.slice a1 n.vers.length ac1) (.slice a2 n.evs.length ac2) (.slice a3 n.outs.length ac3) ∧ Below w.heap.size w W) := hide (fun u W hG => by
    have hb := hG.below (unhide HO2) (Nat.le_of_lt (unhide HQ))
    have hbw := (unhide HB2).trans (hb.mono (Nat.le_of_lt hlt0))
    exact ⟨fun j hj => (hb.cell (p := ⟨w.heap.size, 0 + j, none⟩) hlt0).trans ((unhide HA2) j hj), (unhide H).on hbw, hbw⟩)
  have m0 := (unhide HA2) 0 (by simp)
  have m1 := (unhide HA2) 1 (by simp)
  have m2 := (unhide HA2) 2 (by simp)
  have m3 := (unhide HA2) 3 (by simp)
  have m4 := (unhide HA2) 4 (by simp)
  have m5 := (unhide HA2) 5 (by simp)
  have m6 := (unhide HA2) 6 (by simp)
  simp only [List.getElem_cons_zero, List.getElem_cons_succ, Nat.zero_add] at m0 m1 m2 m3 m4 m5 m6
  go_wp2_with fail
  clear m0 m1 m2 m3 m4 m5 m6
  have hb3 : Below w2.heap.size w2 (w2.alloc (.cells #[.int .i64 n.kind, .int .i64 n.frm, .int .i64 n.dst, .int .i64 n.inc, .int .i64 n.ver, .int .i64 n.rd, .int .i64 n.g] 3)) := (Below.refl _ _).alloc (Nat.le_refl _) _
  have HN := hide (nums_of_cells (zs := headNums n) (cellsAt_new w2 ((headNums n).map (Value.int .i64)) 3) (by unfold maxLen; simp [headNums]))
  change Hid (NumsAt (w2.alloc (.cells #[.int .i64 n.kind, .int .i64 n.frm, .int .i64 n.dst, .int .i64 n.inc, .int .i64 n.ver, .int .i64 n.rd, .int .i64 n.g] 3)) (.slice (some ⟨w2.heap.size, 0, none⟩) 7 7) (headNums n)) at HN
  have HO3 := hide (ownsBy_on hb3 (unhide HO2))
  have HG3 : Hid (Gr (.slice (some ⟨X0.heap.size, 0, none⟩) 0 0) (.slice (some ⟨X0.heap.size, 0, none⟩) 0 0) w2 (w2.alloc (.cells #[.int .i64 n.kind, .int .i64 n.frm, .int .i64 n.dst, .int .i64 n.inc, .int .i64 n.ver, .int .i64 n.rd, .int .i64 n.g] 3))) := hide (Gr.ofBelow hb3)
  have hq3 : X0.heap.size ≤ (w2.alloc (.cells #[.int .i64 n.kind, .int .i64 n.frm, .int .i64 n.dst, .int .i64 n.inc, .int .i64 n.ver, .int .i64 n.rd, .int .i64 n.g] 3)).heap.size := Nat.le_trans (Nat.le_of_lt (unhide HQ)) hb3.size
  have HQ3 := hide hq3
  clear hb3 hq3
  generalize (w2.alloc (.cells #[.int .i64 n.kind, .int .i64 n.frm, .int .i64 n.dst, .int .i64 n.inc, .int .i64 n.ver, .int .i64 n.rd, .int .i64 n.g] 3)) = W3 at *
  go_loopw [3, 5] (fun u i wr => ∃ k : Nat, k ≤ 7 ∧ i = .int .i64 k ∧ Hid (OwnsBy wr X0.heap.size u (packI ((headNums n).take k))) ∧ Hid (Gr (.slice (some ⟨X0.heap.size, 0, none⟩) 0 0) u W3 wr)) (fun _ i _ => 7 - (intOf i).toNat)
  case atStart => exact ⟨0, Nat.zero_le _, rfl, HO3, hide (Gr.refl _ _)⟩
  case round =>
    obtain ⟨k, hk, rfl, HO, HG⟩ := hrel
    by_cases hlt : k < 7
    · have hkl : k < (headNums n).length := hlt
      have p1 := (nums_at ((unhide HG).rows (unhide HN) (fun b hb e => by
        simp only [Value.ownBlock, Option.some.injEq] at hb e
        have := unhide HQ; omega)) k hkl).2.2
      have hkI : (k : Int) < 7 := by omega
      have hk0 : (0 : Int) ≤ (k : Int) := by omega
      have HZ := hide ((unhide HIN).head (headNums n)[k] (List.getElem_mem hkl))
      have HT := hide (packI_take (headNums n) k hkl)
      have HS := hide (unhide HG).g.size
      have HLL := hide (Nat.le_trans (pk_len (L := (headNums n).take k) (m := 7) (by rw [List.length_take]; simp [headNums]; omega) (by omega)) (show 900000 ≤ 1000000 by omega))
      generalize (headNums n)[k] = z at *
      go_wp2_with fail
      refine (l26Num_any X0.heap.size _ _ z _ (unhide HO) (Nat.le_trans (unhide HQ3) (unhide HS)) (by have := (unhide HZ).1; omega) (unhide HZ).2 (unhide HLL)).mono ?_
      rintro e w4 ⟨v4, rfl, hO4, hG4⟩
      have HO4 := hide hO4
      have HG4 := hide ((unhide HG).trans hG4)
      clear hO4 hG4 p1
      go_wp2_with fail
      go_roundw
      case rel => exact ⟨k + 1, by omega, by go_num, by rw [unhide HT]; exact HO4, HG4⟩
      case measure => simp [intOf]; omega
    · obtain rfl : k = 7 := by omega
      have HO4 : Hid (OwnsBy _ X0.heap.size _ (packI (headNums n))) := HO
      have HG4 := hide ((unhide HG3).trans (unhide HG))
      clear HO HG HN HO3 HG3 HQ3 hk
      go_upto_region 9 with fail
      have FXa := unhide FX
      have KEEP : Hid (∀ u W, Gr (.slice (some ⟨X0.heap.size, 0, none⟩) 0 0) u w2 W → W.cell? ⟨w.heap.size, 7, none⟩ = some (.slice a0 n.incs.length ac0) ∧ W.cell? ⟨w.heap.size, 8, none⟩ = some (.slice a1 n.vers.length ac1)) := hide (fun u W hG => by
        have hc := (FXa u W hG).1
        exact ⟨hc 7 (by simp), hc 8 (by simp)⟩)
      have HO5 := hide (ownsBy_on ((Below.refl _ _).drew) (unhide HO4))
      have HG5 := hide ((unhide HG4).trans (Gr.ofBelow ((Below.refl _ _).drew)))
      have HS5 := hide (Nat.le_trans (Nat.le_of_lt (unhide HQ)) (unhide HG5).g.size)
      have HP0 : Hid ((packI (headNums n)).length ≤ 900000) := hide (pk_len (m := 7) (by simp [headNums]) (by omega))
      have HI := (unhide HIN).incs
      have HV := (unhide HIN).vers
      have HII := hide (show (∀ z ∈ n.incs, -1 ≤ z ∧ z ≤ 9999) ∧ n.incs.length ≤ 9999 from ⟨fun z hz => by have := HI.2 z hz; omega, by omega⟩)
      have HVV := hide (show (∀ z ∈ n.vers, -1 ≤ z ∧ z ≤ 9999) ∧ n.vers.length ≤ 9999 from ⟨fun z hz => by have := HV.2 z hz; omega, by omega⟩)
      have HP1 : Hid ((packI (headNums n) ++ packI ((n.incs.length : Int) :: n.incs)).length ≤ 900000) := hide (by
        rw [← packI_app]
        exact pk_len (m := 20) (by simp [headNums]; omega) (by omega))
      clear FXa HI HV
      go_region_held3 (fun w' => w'.cell? ⟨w.heap.size, 7, none⟩ = some (.slice a0 n.incs.length ac0) ∧ w'.cell? ⟨w.heap.size, 8, none⟩ = some (.slice a1 n.vers.length ac1))
        (first | exact (unhide KEEP) _ _ (unhide HG5) | exact (unhide KEEP) _ _ (unhide HG6) | exact (unhide KEEP) _ _ (unhide HG7))
        (first
          | (go_at_call 44; (with_reducible show Calls _ _ #[_, Value.slice a0 _ _] _ _); refine (l26Nums_any X0.heap.size _ _ _ n.incs _ (unhide HO5) (unhide HS5) (fun u W hG => ((unhide FX) u W ((unhide HG5).trans hG)).2.1.i) (unhide HII).1 (unhide HII).2 (unhide HP0)).mono ?_; rintro e w6 ⟨v6, rfl, hO6, hG6⟩; have HO6 := hide hO6; have HG6 := hide ((unhide HG5).trans hG6); clear hO6 hG6)
          | (go_at_call 44; (with_reducible show Calls _ _ #[_, Value.slice a1 _ _] _ _); refine (l26Nums_any X0.heap.size _ _ _ n.vers _ (unhide HO6) (Nat.le_trans (Nat.le_of_lt (unhide HQ)) (unhide HG6).g.size) (fun u W hG => ((unhide FX) u W ((unhide HG6).trans hG)).2.1.v) (unhide HVV).1 (unhide HVV).2 (unhide HP1)).mono ?_; rintro e w7 ⟨v7, rfl, hO7, hG7⟩; have HO7 := hide hO7; have HG7 := hide ((unhide HG6).trans hG7); clear hO7 hG7))
      have HO8 := hide (show OwnsBy _ X0.heap.size _ (packI (preI n)) by
        have e := unhide HO7
        rw [← packI_app, ← packI_app, List.append_assoc] at e
        exact e)
      clear HO4 HG4 HO5 HG5 HO6 HG6 HO7 HP0 HP1 HS5 HII HVV KEEP

      have hcell := ((unhide FX) _ _ (unhide HG7)).1 9 (by simp)
      simp only [List.getElem_cons_zero, List.getElem_cons_succ, Nat.zero_add] at hcell
      have hlen := (unhide HIN).evs.1
      have hSX := Nat.le_trans (Nat.le_of_lt (unhide HQ)) (unhide HG7).g.size
      go_wp2_with fail
      refine (l26Num_any X0.heap.size _ _ n.evs.length _ (unhide HO8) hSX (by omega) (by omega) (Nat.le_trans (pk_len (m := 15) (preI_len (unhide HIN)) (by omega)) (by omega))).mono ?_
      rintro e w9 ⟨v9, rfl, hO9, hG9⟩
      have HO9 : Hid (OwnsBy w9 X0.heap.size v9 (packI (evTo n 0))) := hide (by
        rw [← packI_one, ← packI_app] at hO9
        simpa [evTo] using hO9)
      have HG9 := hide ((unhide HG7).trans hG9)
      clear hO9 hG9 hcell hSX HO8 HG7
      go_wp2_with fail
      go_loopw [3, 6] (fun u i wr => ∃ k : Nat, k ≤ n.evs.length ∧ i = .int .i64 k ∧ Hid (OwnsBy wr X0.heap.size u (packI (evTo n k))) ∧ Hid (Gr (.slice (some ⟨X0.heap.size, 0, none⟩) 0 0) u w2 wr)) (fun _ i _ => n.evs.length - (intOf i).toNat)
      case atStart => exact ⟨0, Nat.zero_le _, rfl, HO9, HG9⟩
      case round =>
        obtain ⟨k, hk, rfl, HO, HG⟩ := hrel
        obtain ⟨FC, FW, _⟩ := (unhide FX) _ _ (unhide HG)
        have hcell := FC 9 (by simp)
        simp only [List.getElem_cons_zero, List.getElem_cons_succ, Nat.zero_add] at hcell
        clear FC
        by_cases hlt : k < n.evs.length
        · obtain ⟨hnn, hlc, _, b, off, ha, hp⟩ := rows_at FW.e k (by rw [List.length_map]; exact hlt)
          have hlc2 : n.evs.length ≤ ac2 := by rw [List.length_map] at hlc; exact hlc
          subst ha
          simp only [List.getElem_map] at hp
          have HM := hide (evTo_more n k hlt)
          have HEI := hide ((unhide HIN).evs.2 n.evs[k] (List.getElem_mem hlt))
          have HTL := hide (evTo_len (unhide HIN) k)
          have p0 := hp 0 (by omega)
          have p1 := hp 1 (by omega)
          have p2 := hp 2 (by omega)
          have p3 := hp 3 (by omega)
          have p4 := hp 4 (by omega)
          have p5 := hp 5 (by omega)
          have p6 := hp 6 (by omega)
          simp only [evRow, List.getD_cons_zero, List.getD_cons_succ, Nat.add_zero] at p0 p1 p2 p3 p4 p5 p6
          clear hp hnn hlc FW
          generalize n.evs[k] = ev at *
          have hkI : (k : Int) < (n.evs.length : Int) := by omega
          have hk0 : (0 : Int) ≤ (k : Int) := by omega
          go_wp2_with fail
          clear p0 p1 p2 p3 p4 p5 p6
          refine (l26Event_any ev _).mono ?_
          rintro e w10 ⟨rfl, hn10, hb10⟩
          have HN10 := hide hn10
          have HOa := hide (ownsBy_on hb10 (unhide HO))
          have HGa := hide ((unhide HG).trans (Gr.ofBelow hb10))
          have HSa := hide hb10.size
          have HLT : Hid (∀ k, u3.ownBlock = some k → k < wr.heap.size) := hide (fun g hg => ((unhide HO).lt g hg).2)
          clear hn10 hb10 hcell
          go_wp2_with fail
          go_loopw [3, 8] (fun u i wi => ∃ j : Nat, j ≤ 7 ∧ i = .int .i64 j ∧ Hid (OwnsBy wi X0.heap.size u (packI (evTo n k ++ (evRow ev).take j))) ∧ Hid (Gr u3 u w10 wi)) (fun _ i _ => 7 - (intOf i).toNat)
          case atStart => exact ⟨0, Nat.zero_le _, rfl, by simpa using HOa, hide (Gr.refl _ _)⟩
          case round =>
            obtain ⟨j, hj, rfl, HOb, HGb⟩ := hrel
            by_cases hjl : j < 7
            · have hjr : j < (evRow ev).length := hjl
              have p1 := (nums_at ((unhide HGb).rows (unhide HN10) (fun b hb e => by
                simp only [Value.ownBlock, Option.some.injEq] at hb
                have := (unhide HLT) b e; omega)) j hjr).2.2
              have hjI : (j : Int) < 7 := by omega
              have hj0 : (0 : Int) ≤ (j : Int) := by omega
              have HZ := hide ((unhide HEI) (evRow ev)[j] (List.getElem_mem hjr))
              have HT := hide (take_row hjr (evTo n k))
              have HSb := hide (Nat.le_trans (Nat.le_trans (Nat.le_of_lt (unhide HQ)) (unhide HGa).g.size) (unhide HGb).g.size)
              have HLL := hide (Nat.le_trans (pk_len (L := evTo n k ++ (evRow ev).take j) (m := 807) (by
                have := unhide HTL
                rw [List.length_append, List.length_take]; omega) (by omega)) (show 900000 ≤ 1000000 by omega))
              generalize (evRow ev)[j] = z at *
              go_wp2_with fail
              refine (l26Num_any X0.heap.size _ _ z _ (unhide HOb) (unhide HSb) (by have := (unhide HZ).1; omega) (unhide HZ).2 (unhide HLL)).mono ?_
              rintro e w11 ⟨v11, rfl, hO11, hG11⟩
              have HO11 : Hid (OwnsBy w11 X0.heap.size v11 (packI (evTo n k ++ (evRow ev).take (j + 1)))) := hide (by
                rw [unhide HT, packI_app, packI_one]; exact hO11)
              have HG11 := hide ((unhide HGb).trans hG11)
              clear hO11 hG11 p1
              go_wp2_with fail
              go_roundw
              case rel => exact ⟨j + 1, by omega, by go_num, HO11, HG11⟩
              case measure => simp [intOf]; omega
            · obtain rfl : j = 7 := by omega
              have HO12 : Hid (OwnsBy _ X0.heap.size _ (packI (evTo n (k + 1)))) := hide (by
                rw [unhide HM]; exact unhide HOb)
              have HG12 := hide ((unhide HGa).trans (unhide HGb))
              clear HOb HGb
              go_wp2_with fail
              go_roundw
              case rel => exact ⟨k + 1, by omega, by go_num, HO12, HG12⟩
              case measure => simp [intOf]; omega
        · obtain rfl : k = n.evs.length := by omega
          have HO8 := HO
          have HG7 := HG
          clear HO HG FW HO9 HG9 hk

          have hcell := ((unhide FX) _ _ (unhide HG7)).1 10 (by simp)
          simp only [List.getElem_cons_zero, List.getElem_cons_succ, Nat.zero_add] at hcell
          have hlen := (unhide HIN).outs.1
          have hSX := Nat.le_trans (Nat.le_of_lt (unhide HQ)) (unhide HG7).g.size
          go_wp2_with fail
          refine (l26Num_any X0.heap.size _ _ n.outs.length _ (unhide HO8) hSX (by omega) (by omega) (Nat.le_trans (pk_len (m := 800) (evTo_len (unhide HIN) _) (by omega)) (by omega))).mono ?_
          rintro e w9 ⟨v9, rfl, hO9, hG9⟩
          have HO9 : Hid (OwnsBy w9 X0.heap.size v9 (packI (ouTo n 0))) := hide (by
            rw [← packI_one, ← packI_app] at hO9
            simpa [ouTo] using hO9)
          have HG9 := hide ((unhide HG7).trans hG9)
          clear hO9 hG9 hcell hSX HO8 HG7
          go_wp2_with fail
          go_loopw [3, 9] (fun u i wr => ∃ k : Nat, k ≤ n.outs.length ∧ i = .int .i64 k ∧ Hid (OwnsBy wr X0.heap.size u (packI (ouTo n k))) ∧ Hid (Gr (.slice (some ⟨X0.heap.size, 0, none⟩) 0 0) u w2 wr)) (fun _ i _ => n.outs.length - (intOf i).toNat)
          case atStart => exact ⟨0, Nat.zero_le _, rfl, HO9, HG9⟩
          case round =>
            obtain ⟨k, hk, rfl, HO, HG⟩ := hrel
            obtain ⟨FC, FW, _⟩ := (unhide FX) _ _ (unhide HG)
            have hcell := FC 10 (by simp)
            simp only [List.getElem_cons_zero, List.getElem_cons_succ, Nat.zero_add] at hcell
            clear FC
            by_cases hlt : k < n.outs.length
            · obtain ⟨hnn, hlc, _, b, off, ha, hp⟩ := rows_at FW.o k (by rw [List.length_map]; exact hlt)
              have hlc2 : n.outs.length ≤ ac3 := by rw [List.length_map] at hlc; exact hlc
              subst ha
              simp only [List.getElem_map] at hp
              have HM := hide (ouTo_more n k hlt)
              have HEI := hide ((unhide HIN).outs.2 n.outs[k] (List.getElem_mem hlt))
              have HTL := hide (ouTo_len (unhide HIN) k)
              have p0 := hp 0 (by omega)
              have p1 := hp 1 (by omega)
              have p2 := hp 2 (by omega)
              have p3 := hp 3 (by omega)
              have p4 := hp 4 (by omega)
              simp only [outRow, List.getD_cons_zero, List.getD_cons_succ, Nat.add_zero] at p0 p1 p2 p3 p4
              clear hp hnn hlc FW
              generalize n.outs[k] = ev at *
              have hkI : (k : Int) < (n.outs.length : Int) := by omega
              have hk0 : (0 : Int) ≤ (k : Int) := by omega
              go_wp2_with fail
              clear p0 p1 p2 p3 p4
              refine (l26Out_any ev _).mono ?_
              rintro e w10 ⟨rfl, hn10, hb10⟩
              have HN10 := hide hn10
              have HOa := hide (ownsBy_on hb10 (unhide HO))
              have HGa := hide ((unhide HG).trans (Gr.ofBelow hb10))
              have HSa := hide hb10.size
              have HLT : Hid (∀ k, u3.ownBlock = some k → k < wr.heap.size) := hide (fun g hg => ((unhide HO).lt g hg).2)
              clear hn10 hb10 hcell
              go_wp2_with fail
              go_loopw [3, 11] (fun u i wi => ∃ j : Nat, j ≤ 5 ∧ i = .int .i64 j ∧ Hid (OwnsBy wi X0.heap.size u (packI (ouTo n k ++ (outRow ev).take j))) ∧ Hid (Gr u3 u w10 wi)) (fun _ i _ => 5 - (intOf i).toNat)
              case atStart => exact ⟨0, Nat.zero_le _, rfl, by simpa using HOa, hide (Gr.refl _ _)⟩
              case round =>
                obtain ⟨j, hj, rfl, HOb, HGb⟩ := hrel
                by_cases hjl : j < 5
                · have hjr : j < (outRow ev).length := hjl
                  have p1 := (nums_at ((unhide HGb).rows (unhide HN10) (fun b hb e => by
                    simp only [Value.ownBlock, Option.some.injEq] at hb
                    have := (unhide HLT) b e; omega)) j hjr).2.2
                  have hjI : (j : Int) < 5 := by omega
                  have hj0 : (0 : Int) ≤ (j : Int) := by omega
                  have HZ := hide ((unhide HEI) (outRow ev)[j] (List.getElem_mem hjr))
                  have HT := hide (take_row hjr (ouTo n k))
                  have HSb := hide (Nat.le_trans (Nat.le_trans (Nat.le_of_lt (unhide HQ)) (unhide HGa).g.size) (unhide HGb).g.size)
                  have HLL := hide (Nat.le_trans (pk_len (L := ouTo n k ++ (outRow ev).take j) (m := 1405) (by
                    have := unhide HTL
                    rw [List.length_append, List.length_take]; omega) (by omega)) (show 900000 ≤ 1000000 by omega))
                  generalize (outRow ev)[j] = z at *
                  go_wp2_with fail
                  refine (l26Num_any X0.heap.size _ _ z _ (unhide HOb) (unhide HSb) (by have := (unhide HZ).1; omega) (unhide HZ).2 (unhide HLL)).mono ?_
                  rintro e w11 ⟨v11, rfl, hO11, hG11⟩
                  have HO11 : Hid (OwnsBy w11 X0.heap.size v11 (packI (ouTo n k ++ (outRow ev).take (j + 1)))) := hide (by
                    rw [unhide HT, packI_app, packI_one]; exact hO11)
                  have HG11 := hide ((unhide HGb).trans hG11)
                  clear hO11 hG11 p1
                  go_wp2_with fail
                  go_roundw
                  case rel => exact ⟨j + 1, by omega, by go_num, HO11, HG11⟩
                  case measure => simp [intOf]; omega
                · obtain rfl : j = 5 := by omega
                  have HO12 : Hid (OwnsBy _ X0.heap.size _ (packI (ouTo n (k + 1)))) := hide (by
                    rw [unhide HM]; exact unhide HOb)
                  have HG12 := hide ((unhide HGa).trans (unhide HGb))
                  clear HOb HGb
                  go_wp2_with fail
                  go_roundw
                  case rel => exact ⟨k + 1, by omega, by go_num, HO12, HG12⟩
                  case measure => simp [intOf]; omega
            · obtain rfl : k = n.outs.length := by omega
              have HO8 := HO
              have HG7 := HG
              clear HO HG FW HO9 HG9 hk

              have hall := ouTo_all n
              have HE : Hid (packI (ouTo n n.outs.length) = packW n) := hide (by unfold packW; rw [hall])
              have HBW := hide ((unhide FX) _ _ (unhide HG7)).2.2
              clear hall
              go_wp2_with fail
              go_ret
              exact ⟨_, rfl, by rw [← unhide HE]; exact ownsBy_less (Nat.le_of_lt hlt0) (unhide HO8), unhide HBW⟩
end Go.Proofs.YtiljjhipiinafaaGreat
