/- The writer of impl: (*wireWriter).number, row. -/
import Derived.Test.YtiljjhipiinafaaWire2
namespace Go.Proofs.Ytiljjhipiinafaa
open Go.RowKit
set_option linter.unusedVariables false
set_option linter.unusedSimpArgs false

/-- A writer in block q: what it has written is a row of its own, from block B on. -/
structure WrAt (q B : Nat) (v : Value) (w : World) (bs : List Int) : Prop where
  c : w.cell? ⟨q, 0, none⟩ = some v
  f : w.frozen? ⟨q, 0, none⟩ = false
  o : OwnsBy w B v bs
  qB : q < B
  Bs : B ≤ w.heap.size

/-- What writing leaves: the writer, its row, and all else as it was. -/
structure Gw (q : Nat) (v v' : Value) (w w' : World) : Prop where
  os : w'.os = w.os
  tape : w'.tape = w.tape
  output : w'.output = w.output
  size : w.heap.size ≤ w'.heap.size
  block : ∀ k, k < w.heap.size → k ≠ q → v.ownBlock ≠ some k → w'.heap[k]? = w.heap[k]?
  o : v'.ownBlock = v.ownBlock ∨ ∀ k, v'.ownBlock = some k → w.heap.size ≤ k

theorem Gw.refl (q : Nat) (v : Value) (w : World) : Gw q v v w w := ⟨rfl, rfl, rfl, Nat.le_refl _, fun _ _ _ _ => rfl, Or.inl rfl⟩
theorem Gw.trans {q : Nat} {v1 v2 v3 : Value} {w1 w2 w3 : World} (h : Gw q v1 v2 w1 w2) (k : Gw q v2 v3 w2 w3) : Gw q v1 v3 w1 w3 := by
  refine ⟨k.os.trans h.os, k.tape.trans h.tape, k.output.trans h.output, Nat.le_trans h.size k.size, fun i hi hq hne => ?_, ?_⟩
  · refine (k.block i (Nat.lt_of_lt_of_le hi h.size) hq (fun e => ?_)).trans (h.block i hi hq hne)
    rcases h.o with ho | ho
    · rw [ho] at e; exact hne e
    · have := ho i e; omega
  · rcases k.o with ko | ko
    · rcases h.o with ho | ho
      · exact Or.inl (ko.trans ho)
      · exact Or.inr (fun i e => ho i (by rw [← ko]; exact e))
    · exact Or.inr (fun i e => Nat.le_trans h.size (ko i e))
theorem Gw.ofBelow {q : Nat} {v : Value} {w w' : World} (h : Below w.heap.size w w') : Gw q v v w w' := ⟨h.os, h.tape, h.output, h.size, fun k hk _ _ => h.block k hk, Or.inl rfl⟩
theorem Gw.ofGr {q : Nat} {v v' : Value} {w w' : World} (h : Gr v v' w w') : Gw q v v' w w' := ⟨h.g.os, h.g.tape, h.g.output, h.g.size, fun k hk _ hne => h.g.block k hk (fun e => hne e.symm), h.o⟩
theorem Gw.set {q o : Nat} {v v' x : Value} {w w' : World} (h : Gw q v v' w w') : Gw q v v' w (w'.setCell ⟨q, o, none⟩ x) :=
  ⟨h.os, h.tape, h.output, by simpa using h.size, fun k hk hq hne => (Below.heap_setCell w' ⟨q, o, none⟩ x k hq).trans (h.block k hk hq hne), h.o⟩
theorem Gw.cell {q : Nat} {v v' : Value} {w w' : World} {p : Addr} {x : Value} (h : Gw q v v' w w') (hc : w.cell? p = some x) (hq : p.block ≠ q) (hne : v.ownBlock ≠ some p.block) : w'.cell? p = some x :=
  (World.cell?_of_block (h.block p.block (World.block_lt_of_cell? w p hc) hq hne)).trans hc
theorem Gw.rows {n q : Nat} {v u vl : Value} {rs : List (List Int)} {w W : World} (hg : Gw q v u w W) (h : RowsAt n w vl rs) (hne : ∀ b, vl.ownBlock = some b → b ≠ q ∧ v.ownBlock ≠ some b) : RowsAt n W vl rs := by
  obtain ⟨ad, cap, hv, hl, hm, h⟩ := h
  refine ⟨ad, cap, hv, hl, hm, ?_⟩
  rcases h with h | ⟨b, off, had, hc⟩
  · exact Or.inl h
  · have := hne b (by rw [hv, had]; rfl)
    exact Or.inr ⟨b, off, had, fun i hi j hj => hg.cell (hc i hi j hj) this.1 this.2⟩
theorem Gw.below {q B : Nat} {v v' : Value} {bs : List Int} {w w' : World} (h : Gw q v v' w w') (ho : WrAt q B v w bs) : Below q w w' :=
  ⟨h.os, h.tape, h.output, h.size, fun k hk => h.block k (by have := ho.qB; have := ho.Bs; omega) (by omega) (fun e => by have := (ho.o.lt k e).1; have := ho.qB; omega)⟩
theorem WrAt.on {q B : Nat} {v : Value} {w w' : World} {bs : List Int} (hb : Below w.heap.size w w') (h : WrAt q B v w bs) : WrAt q B v w' bs :=
  ⟨cell_on hb h.c, (hb.frozen (p := ⟨q, 0, none⟩) (World.block_lt_of_cell? _ _ h.c)).trans h.f, ownsBy_on hb h.o, h.qB, Nat.le_trans h.Bs hb.size⟩

theorem WrAt.put {q B : Nat} {u v : Value} {w : World} {bs : List Int} (kc : w.cell? ⟨q, 0, none⟩ = some u) (kf : w.frozen? ⟨q, 0, none⟩ = false) (ho : OwnsBy w B v bs) (hqB : q < B) (hBs : B ≤ w.heap.size) : WrAt q B v (w.setCell ⟨q, 0, none⟩ v) bs :=
  ⟨by simp [go_sem, kc], by simp [go_sem, kf], ownsRow_setCell_below ho hqB _, hqB, by simpa using hBs⟩

theorem or_u8_all : (List.range 256).all (fun b => decide (bits .or .u8 (b : Int) 128 = 128 + (b : Int) % 128)) = true := by kernel_rfl
theorem or_u8 (b : Nat) (h : b < 256) : bits .or .u8 (b : Int) 128 = 128 + (b : Int) % 128 := by
  have h1 := List.all_eq_true.1 or_u8_all b (List.mem_range.2 h)
  simpa using h1
theorem or_u8_mod (j : Nat) : bits .or .u8 ((j : Int) % 256) 128 = 128 + (j : Int) % 128 := by
  have h1 := or_u8 (j % 256) (Nat.mod_lt _ (by omega))
  have h2 : ((j % 256 : Nat) : Int) = (j : Int) % 256 := by omega
  rw [h2] at h1
  rw [h1]; omega

theorem slice_Wr : Try.prog.underlying 62 = some (.slice 5) := by kernel_rfl

set_option maxRecDepth 100000 in
set_option maxHeartbeats 2000000 in
theorem number_any (q B : Nat) (v : Value) (bs : List Int) (n : Int) (w : World) (h : WrAt q B v w bs) (h0 : -1 ≤ n) (h1 : n ≤ 9999) (hl : bs.length ≤ 1000000) :
    Calls Try.prog 38 #[.pointer (some ⟨q, 0, none⟩), .int .i64 n] w fun e w' => e = .returned (.tuple #[]) ∧ ∃ v', WrAt q B v' w' (bs ++ numI n) ∧ Gw q v v' w w' := by
  obtain ⟨i5, hi5, hz0, hz1, hz2⟩ := infoBy_parts
  obtain ⟨m, hm⟩ : ∃ m : Nat, n + 1 = (m : Int) := ⟨(n + 1).toNat, by omega⟩
  have HM : Hid (numI n = numB m) := hide (by unfold numI; rw [hm]; simp)
  have hm1 : (m : Int) ≤ 10000 := by omega
  have HMn := hide hm
  clear hm
  have H := hide h
  clear h
  go_enter Try.func38, Try.ntmps38
  go_wp2_with fail
  go_loopw [4] (fun i wr => ∃ (j : Nat) (ys : List Int) (u : Value), i = .int .u64 j ∧ (j : Int) ≤ 10000 ∧ Hid (WrAt q B u wr ys) ∧ Hid (ys ++ numB j = bs ++ numB m) ∧ Hid (Gw q v u w wr)) (fun i _ => (intOf i).toNat)
  case atStart => exact ⟨m, bs, v, by rw [unhide HMn], hm1, H, hide rfl, hide (Gw.refl _ _ _)⟩
  case round =>
    obtain ⟨j, ys, u, rfl, hj, HO, HY, HB⟩ := hrel
    have hsz := (unhide HB).size
    have hyl : ys.length ≤ 1000002 := by
      have e := congrArg List.length (unhide HY)
      rw [List.length_append, List.length_append] at e
      have := numB_len m
      omega
    have c0 := (unhide HO).c
    have f0 := (unhide HO).f
    by_cases hlt : (128 : Int) ≤ (j : Int)
    · have hor := or_u8_mod j
      have hbA : Below wr.heap.size wr (wr.alloc (.cells #[.int .u8 (128 + (j : Int) % 128)] 5)) := (Below.refl _ _).alloc (Nat.le_refl _) _
      have hA := (unhide HO).on hbA
      have HA := hide hA
      have HBA := hide hbA
      have hBs := (unhide HO).Bs
      have hqB := (unhide HO).qB
      clear hbA hA
      go_wp2_with (at_builtin; refine wpList_append_lies _ (by rfl) _ _ _ (by rfl) B 5 i5 _ 1 1 slice_Wr hi5 hz0 hz1 hz2 (by rfl) (by omega) _ ys.length (ys.map (Value.int .u8)) (by rfl) (unhide HA).o ⟨wr.heap.size, 0, none⟩ 1 1 [.int .u8 (128 + (j : Int) % 128)] (by rfl) (by rfl) (World.news_of_block (cs := #[.int .u8 (128 + (j : Int) % 128)]) (t := 5) (fr := (0, 0)) (heap_alloc_new wr _)) (by simp [Value.oneCell']) (by omega) (by unfold maxLen; omega) (by omega) (by simp; omega) (wr.heap.size + 1) (by simp) ?_; intro gg cap w3 hown3 hgrow hat hlt3; have HG3 := hide (Gr.of (n := ys.length + 1) (cap := cap) (unhide HBA) hgrow hat); have HO3 := hide (ownsBy_more hown3); have hg3 : ∀ k, u.ownBlock = some k → B ≤ k := (fun k e => ((unhide HO).o.lt k e).1); have kc := (unhide HG3).cell c0 (fun e => by have := hg3 _ e; simp only at this; omega); have kf : w3.frozen? ⟨q, 0, none⟩ = false := (World.frozen?_of_block ((unhide HG3).g.block q (by omega) (fun e => by have := hg3 q e.symm; omega))).trans f0; clear hown3 hgrow hat hg3)
      have hs3 := (unhide HG3).g.size
      have HWR := hide (WrAt.put kc kf (unhide HO3) hqB (by omega))
      have HGW := hide ((((unhide HB).trans (Gw.ofGr (unhide HG3)))).set (o := 0) (x := .slice (some ⟨gg, 0, none⟩) (ys.length + 1) cap))
      go_roundw
      case rel =>
        exact ⟨j / 128, _, _, by go_num, by omega, HWR, hide (by rw [← unhide HY, List.append_assoc, numB_more j (by omega) (by omega)]; rfl), HGW⟩
      case measure => simp [intOf]; omega
    · have hu8 : (j : Int) % 256 = j := by omega
      have hbA : Below wr.heap.size wr (wr.alloc (.cells #[.int .u8 ((j : Int))] 5)) := (Below.refl _ _).alloc (Nat.le_refl _) _
      have hA := (unhide HO).on hbA
      have HA := hide hA
      have HBA := hide hbA
      have hBs := (unhide HO).Bs
      have hqB := (unhide HO).qB
      clear hbA hA
      go_wp2_with (at_builtin; refine wpList_append_lies _ (by rfl) _ _ _ (by rfl) B 5 i5 _ 1 1 slice_Wr hi5 hz0 hz1 hz2 (by rfl) (by omega) _ ys.length (ys.map (Value.int .u8)) (by rfl) (unhide HA).o ⟨wr.heap.size, 0, none⟩ 1 1 [.int .u8 ((j : Int))] (by rfl) (by rfl) (World.news_of_block (cs := #[.int .u8 ((j : Int))]) (t := 5) (fr := (0, 0)) (heap_alloc_new wr _)) (by simp [Value.oneCell']) (by omega) (by unfold maxLen; omega) (by omega) (by simp; omega) (wr.heap.size + 1) (by simp) ?_; intro gg cap w3 hown3 hgrow hat hlt3; have HG3 := hide (Gr.of (n := ys.length + 1) (cap := cap) (unhide HBA) hgrow hat); have HO3 := hide (ownsBy_more hown3); have hg3 : ∀ k, u.ownBlock = some k → B ≤ k := (fun k e => ((unhide HO).o.lt k e).1); have kc := (unhide HG3).cell c0 (fun e => by have := hg3 _ e; simp only at this; omega); have kf : w3.frozen? ⟨q, 0, none⟩ = false := (World.frozen?_of_block ((unhide HG3).g.block q (by omega) (fun e => by have := hg3 q e.symm; omega))).trans f0; clear hown3 hgrow hat hg3)
      have hs3 := (unhide HG3).g.size
      have HWR := hide (WrAt.put kc kf (unhide HO3) hqB (by omega))
      have HGW := hide ((((unhide HB).trans (Gw.ofGr (unhide HG3)))).set (o := 0) (x := .slice (some ⟨gg, 0, none⟩) (ys.length + 1) cap))
      go_end0
      have hy := unhide HY
      rw [show numB j = [(j : Int)] by unfold numB; rw [if_pos (by omega)]] at hy
      exact ⟨rfl, _, by rw [unhide HM, ← hy]; exact unhide HWR, unhide HGW⟩
set_option maxRecDepth 100000 in
set_option maxHeartbeats 2000000 in
theorem rowW_any (q B : Nat) (v vl : Value) (bs zs : List Int) (w : World) (h : WrAt q B v w bs) (hN : ∀ u W, Gw q v u w W → NumsAt W vl zs) (h0 : ∀ z ∈ zs, -1 ≤ z ∧ z ≤ 9999) (hz : zs.length ≤ 9999) (hl : bs.length ≤ 900000) :
    Calls Try.prog 36 #[.pointer (some ⟨q, 0, none⟩), vl] w fun e w' => e = .returned (.tuple #[]) ∧ ∃ v', WrAt q B v' w' (bs ++ packI zs) ∧ Gw q v v' w w' := by
  obtain ⟨a, c, rfl⟩ := (hN v w (Gw.refl _ _ _)).sliced
  have HN := hide hN
  have H := hide h
  clear hN h
  go_enter Try.func36, Try.ntmps36
  go_wp2_with fail
  go_loopw [8] (fun i wr => ∃ (k : Nat) (u : Value), k ≤ zs.length ∧ i = .int .i64 k ∧ Hid (WrAt q B u wr (bs ++ packI (zs.take k))) ∧ Hid (Gw q v u w wr)) (fun i _ => zs.length - (intOf i).toNat)
  case atStart => exact ⟨0, v, Nat.zero_le _, rfl, by simpa [packI_nil] using H, hide (Gw.refl _ _ _)⟩
  case round =>
    obtain ⟨k, u, hk, rfl, HO, HG⟩ := hrel
    by_cases hlt : k < zs.length
    · obtain ⟨ad, cap, e, _, hm, hc⟩ := (unhide HN) _ _ (unhide HG)
      rw [List.length_map] at e
      simp only [Value.slice.injEq] at e
      obtain ⟨rfl, _, rfl⟩ := e
      obtain ⟨b, off, rfl, p1⟩ : ∃ b off, a = some ⟨b, off, none⟩ ∧ wr.cell? ⟨b, off + k, none⟩ = some (.int .i64 zs[k]) := by
        rcases hc with h | ⟨b, off, h1, h2⟩
        · have : zs = [] := by simpa using h
          rw [this] at hlt; exact absurd hlt (Nat.not_lt_zero _)
        · have h3 := h2 k (by simpa using hlt) 0 (by omega)
          simp at h3
          exact ⟨b, off, h1, h3⟩
      clear hc hm
      have hkI : (k : Int) < (zs.length : Int) := by omega
      have hk0 : (0 : Int) ≤ (k : Int) := by omega
      have HZ := hide (h0 zs[k] (List.getElem_mem hlt))
      have HT := hide (packI_take zs k hlt)
      have hll : (bs ++ packI (zs.take k)).length ≤ 1000000 := by
        have h1 := packI_len (zs.take k)
        rw [List.length_append]
        rw [List.length_take] at h1
        omega
      have HLL := hide hll
      clear hll
      generalize zs[k] = z at *
      go_wp2_with fail
      refine (number_any q B _ _ z _ (unhide HO) (unhide HZ).1 (unhide HZ).2 (unhide HLL)).mono ?_
      rintro e w3 ⟨rfl, v3, hO3, hG3⟩
      have HO3 := hide hO3
      have HG3 := hide ((unhide HG).trans hG3)
      clear hO3 hG3
      go_wp2_with fail
      go_roundw
      case rel => exact ⟨k + 1, v3, by omega, by go_num, by rw [unhide HT]; simpa using HO3, HG3⟩
      case measure => simp [intOf]; omega
    · have hke : k = zs.length := by omega
      subst hke
      go_wp2_with fail
      go_end0
      exact ⟨rfl, _, by simpa using unhide HO, unhide HG⟩

set_option maxRecDepth 100000 in
set_option maxHeartbeats 2000000 in
theorem writeInts_any (q B : Nat) (v vl : Value) (bs zs : List Int) (w : World) (h : WrAt q B v w bs) (hN : ∀ u W, Gw q v u w W → NumsAt W vl zs) (h0 : ∀ z ∈ zs, -1 ≤ z ∧ z ≤ 9999) (hz : zs.length ≤ 9999) (hl : bs.length ≤ 900000) :
    Calls Try.prog 37 #[.pointer (some ⟨q, 0, none⟩), vl, .func (.func 38) #[.pointer (some ⟨q, 0, none⟩)] #[]] w fun e w' => e = .returned (.tuple #[]) ∧ ∃ v', WrAt q B v' w' (bs ++ packI ((zs.length : Int) :: zs)) ∧ Gw q v v' w w' := by
  obtain ⟨a, c, rfl⟩ := (hN v w (Gw.refl _ _ _)).sliced
  have HN := hide hN
  have H := hide h
  clear hN h
  go_enter Try.func37, Try.ntmps37
  go_wp2_with fail
  refine (number_any q B _ _ zs.length _ (unhide H) (by omega) (by omega) (by omega)).mono ?_
  rintro e w1 ⟨rfl, v1, hO, hG⟩
  have HO1 := hide hO
  have HG1 := hide hG
  clear hO hG
  go_wp2_with fail
  go_loopw [14] (fun i wr => ∃ (k : Nat) (u : Value), k ≤ zs.length ∧ i = .int .i64 k ∧ Hid (WrAt q B u wr (bs ++ (numI zs.length ++ packI (zs.take k)))) ∧ Hid (Gw q v u w wr)) (fun i _ => zs.length - (intOf i).toNat)
  case atStart => exact ⟨0, v1, Nat.zero_le _, rfl, by simpa [packI_nil] using HO1, HG1⟩
  case round =>
    obtain ⟨k, u, hk, rfl, HO, HG⟩ := hrel
    by_cases hlt : k < zs.length
    · obtain ⟨ad, cap, e, _, hm, hc⟩ := (unhide HN) _ _ (unhide HG)
      rw [List.length_map] at e
      simp only [Value.slice.injEq] at e
      obtain ⟨rfl, _, rfl⟩ := e
      obtain ⟨b, off, rfl, p1⟩ : ∃ b off, a = some ⟨b, off, none⟩ ∧ wr.cell? ⟨b, off + k, none⟩ = some (.int .i64 zs[k]) := by
        rcases hc with h | ⟨b, off, h1, h2⟩
        · have : zs = [] := by simpa using h
          rw [this] at hlt; exact absurd hlt (Nat.not_lt_zero _)
        · have h3 := h2 k (by simpa using hlt) 0 (by omega)
          simp at h3
          exact ⟨b, off, h1, h3⟩
      clear hc hm
      have hkI : (k : Int) < (zs.length : Int) := by omega
      have hk0 : (0 : Int) ≤ (k : Int) := by omega
      have HZ := hide (h0 zs[k] (List.getElem_mem hlt))
      have HT := hide (packI_take zs k hlt)
      have hll : (bs ++ (numI zs.length ++ packI (zs.take k))).length ≤ 1000000 := by
        have h1 := packI_len (zs.take k)
        have h2 := numI_len zs.length
        rw [List.length_append, List.length_append]
        rw [List.length_take] at h1
        omega
      have HLL := hide hll
      clear hll
      generalize zs[k] = z at *
      go_wp2_with fail
      refine (number_any q B _ _ z _ (unhide HO) (unhide HZ).1 (unhide HZ).2 (unhide HLL)).mono ?_
      rintro e w3 ⟨rfl, v3, hO3, hG3⟩
      have HO3 := hide hO3
      have HG3 := hide ((unhide HG).trans hG3)
      clear hO3 hG3
      go_wp2_with fail
      go_roundw
      case rel => exact ⟨k + 1, v3, by omega, by go_num, by rw [unhide HT]; simpa using HO3, HG3⟩
      case measure => simp [intOf]; omega
    · have hke : k = zs.length := by omega
      subst hke
      go_wp2_with fail
      go_end0
      exact ⟨rfl, _, by simpa [packI] using unhide HO, unhide HG⟩
end Go.Proofs.Ytiljjhipiinafaa
