/- The writer of impl: (*wireWriter).number, row. -/
import Derived.Test.YtiljjhipiinafaaGreatWrD
import Derived.Test.YtiljjhipiinafaaGreatLess3
import Derived.Test.YtiljjhipiinafaaGreatLess5
import Derived.Deep.Cut
namespace Go.Proofs.YtiljjhipiinafaaGreat
open Go.RowKit
set_option linter.unusedVariables false
set_option linter.unusedSimpArgs false

/-- A writer in block q: what it has written is a row of its own, from block B on. -/
structure WrAt (q B : Nat) (v : Value) (w : World) (bs : List Int) : Prop where
  c : w.cell? ⟨q, 0, none⟩ = some v
  f : w.frozen? ⟨q, 0, none⟩ = false
  o : OwnsBy w B v bs
  qB : q < B
  Bs : B ≤ w.heap.size

/-- What writing leaves: the writer, its row, and all else as it was. -/
structure Gw (q : Nat) (v v' : Value) (w w' : World) : Prop where
  os : w'.os = w.os
  tape : w'.tape = w.tape
  output : w'.output = w.output
  size : w.heap.size ≤ w'.heap.size
  block : ∀ k, k < w.heap.size → k ≠ q → v.ownBlock ≠ some k → w'.heap[k]? = w.heap[k]?
  o : v'.ownBlock = v.ownBlock ∨ ∀ k, v'.ownBlock = some k → w.heap.size ≤ k

theorem Gw.refl (q : Nat) (v : Value) (w : World) : Gw q v v w w := ⟨rfl, rfl, rfl, Nat.le_refl _, fun _ _ _ _ => rfl, Or.inl rfl⟩
theorem Gw.trans {q : Nat} {v1 v2 v3 : Value} {w1 w2 w3 : World} (h : Gw q v1 v2 w1 w2) (k : Gw q v2 v3 w2 w3) : Gw q v1 v3 w1 w3 := by
  refine ⟨k.os.trans h.os, k.tape.trans h.tape, k.output.trans h.output, Nat.le_trans h.size k.size, fun i hi hq hne => ?_, ?_⟩
  · refine (k.block i (Nat.lt_of_lt_of_le hi h.size) hq (fun e => ?_)).trans (h.block i hi hq hne)
    rcases h.o with ho | ho
    · rw [ho] at e; exact hne e
    · have := ho i e; omega
  · rcases k.o with ko | ko
    · rcases h.o with ho | ho
      · exact Or.inl (ko.trans ho)
      · exact Or.inr (fun i e => ho i (by rw [← ko]; exact e))
    · exact Or.inr (fun i e => Nat.le_trans h.size (ko i e))
theorem Gw.ofBelow {q : Nat} {v : Value} {w w' : World} (h : Below w.heap.size w w') : Gw q v v w w' := ⟨h.os, h.tape, h.output, h.size, fun k hk _ _ => h.block k hk, Or.inl rfl⟩
theorem Gw.ofGr {q : Nat} {v v' : Value} {w w' : World} (h : Gr v v' w w') : Gw q v v' w w' := ⟨h.g.os, h.g.tape, h.g.output, h.g.size, fun k hk _ hne => h.g.block k hk (fun e => hne e.symm), h.o⟩
theorem Gw.set {q o : Nat} {v v' x : Value} {w w' : World} (h : Gw q v v' w w') : Gw q v v' w (w'.setCell ⟨q, o, none⟩ x) :=
  ⟨h.os, h.tape, h.output, by simpa using h.size, fun k hk hq hne => (Below.heap_setCell w' ⟨q, o, none⟩ x k hq).trans (h.block k hk hq hne), h.o⟩
theorem Gw.cell {q : Nat} {v v' : Value} {w w' : World} {p : Addr} {x : Value} (h : Gw q v v' w w') (hc : w.cell? p = some x) (hq : p.block ≠ q) (hne : v.ownBlock ≠ some p.block) : w'.cell? p = some x :=
  (World.cell?_of_block (h.block p.block (World.block_lt_of_cell? w p hc) hq hne)).trans hc
theorem Gw.rows {n q : Nat} {v u vl : Value} {rs : List (List Int)} {w W : World} (hg : Gw q v u w W) (h : RowsAt n w vl rs) (hne : ∀ b, vl.ownBlock = some b → b ≠ q ∧ v.ownBlock ≠ some b) : RowsAt n W vl rs := by
  obtain ⟨ad, cap, hv, hl, hm, h⟩ := h
  refine ⟨ad, cap, hv, hl, hm, ?_⟩
  rcases h with h | ⟨b, off, had, hc⟩
  · exact Or.inl h
  · have := hne b (by rw [hv, had]; rfl)
    exact Or.inr ⟨b, off, had, fun i hi j hj => hg.cell (hc i hi j hj) this.1 this.2⟩
theorem Gw.below {q B : Nat} {v v' : Value} {bs : List Int} {w w' : World} (h : Gw q v v' w w') (ho : WrAt q B v w bs) : Below q w w' :=
  ⟨h.os, h.tape, h.output, h.size, fun k hk => h.block k (by have := ho.qB; have := ho.Bs; omega) (by omega) (fun e => by have := (ho.o.lt k e).1; have := ho.qB; omega)⟩
theorem WrAt.on {q B : Nat} {v : Value} {w w' : World} {bs : List Int} (hb : Below w.heap.size w w') (h : WrAt q B v w bs) : WrAt q B v w' bs :=
  ⟨cell_on hb h.c, (hb.frozen (p := ⟨q, 0, none⟩) (World.block_lt_of_cell? _ _ h.c)).trans h.f, ownsBy_on hb h.o, h.qB, Nat.le_trans h.Bs hb.size⟩

theorem WrAt.put {q B : Nat} {u v : Value} {w : World} {bs : List Int} (kc : w.cell? ⟨q, 0, none⟩ = some u) (kf : w.frozen? ⟨q, 0, none⟩ = false) (ho : OwnsBy w B v bs) (hqB : q < B) (hBs : B ≤ w.heap.size) : WrAt q B v (w.setCell ⟨q, 0, none⟩ v) bs :=
  ⟨by simp [go_sem, kc], by simp [go_sem, kf], ownsRow_setCell_below ho hqB _, hqB, by simpa using hBs⟩

theorem or_u8_all : (List.range 256).all (fun b => decide (bits .or .u8 (b : Int) 128 = 128 + (b : Int) % 128)) = true := by kernel_rfl
theorem or_u8 (b : Nat) (h : b < 256) : bits .or .u8 (b : Int) 128 = 128 + (b : Int) % 128 := by
  have h1 := List.all_eq_true.1 or_u8_all b (List.mem_range.2 h)
  simpa using h1
theorem or_u8_mod (j : Nat) : bits .or .u8 ((j : Int) % 256) 128 = 128 + (j : Int) % 128 := by
  have h1 := or_u8 (j % 256) (Nat.mod_lt _ (by omega))
  have h2 : ((j % 256 : Nat) : Int) = (j : Int) % 256 := by omega
  rw [h2] at h1
  rw [h1]; omega

theorem slice_Wr : Tryz.prog.underlying 71 = some (.slice 5) := by kernel_rfl

set_option maxRecDepth 100000 in
set_option maxHeartbeats 2000000 in
theorem number_any (q B : Nat) (v : Value) (bs : List Int) (n : Int) (w : World) (h : WrAt q B v w bs) (h0 : -1 ≤ n) (h1 : n ≤ 9999) (hl : bs.length ≤ 1000000) :
    Calls Tryz.prog 37 #[.pointer (some ⟨q, 0, none⟩), .int .i64 n] w fun e w' => e = .returned (.tuple #[]) ∧ ∃ v', WrAt q B v' w' (bs ++ numI n) ∧ Gw q v v' w w' := by
  obtain ⟨i5, hi5, hz0, hz1, hz2⟩ := infoBy_parts
  obtain ⟨m, hm⟩ : ∃ m : Nat, n + 1 = (m : Int) := ⟨(n + 1).toNat, by omega⟩
  have HM : Hid (numI n = numB m) := hide (by unfold numI; rw [hm]; simp)
  have hm1 : (m : Int) ≤ 10000 := by omega
  have HMn := hide hm
  clear hm
  have H := hide h
  clear h
  go_enter Tryz.func37, Tryz.ntmps37
  go_wp2_with fail
  go_loopw [4] (fun i wr => ∃ (j : Nat) (ys : List Int) (u : Value), i = .int .u64 j ∧ (j : Int) ≤ 10000 ∧ Hid (WrAt q B u wr ys) ∧ Hid (ys ++ numB j = bs ++ numB m) ∧ Hid (Gw q v u w wr)) (fun i _ => (intOf i).toNat)
  case atStart => exact ⟨m, bs, v, by rw [unhide HMn], hm1, H, hide rfl, hide (Gw.refl _ _ _)⟩
  case round =>
    obtain ⟨j, ys, u, rfl, hj, HO, HY, HB⟩ := hrel
    have hsz := (unhide HB).size
    have hyl : ys.length ≤ 1000002 := by
      have e := congrArg List.length (unhide HY)
      rw [List.length_append, List.length_append] at e
      have := numB_len m
      omega
    have c0 := (unhide HO).c
    have f0 := (unhide HO).f
    by_cases hlt : (128 : Int) ≤ (j : Int)
    · have hor := or_u8_mod j
      have hbA : Below wr.heap.size wr (wr.alloc (.cells #[.int .u8 (128 + (j : Int) % 128)] 5)) := (Below.refl _ _).alloc (Nat.le_refl _) _
      have hA := (unhide HO).on hbA
      have HA := hide hA
      have HBA := hide hbA
      have hBs := (unhide HO).Bs
      have hqB := (unhide HO).qB
      clear hbA hA
      go_wp2_with (at_builtin; refine wpList_append_lies _ (by rfl) _ _ _ (by rfl) B 5 i5 _ 1 1 slice_Wr hi5 hz0 hz1 hz2 (by rfl) (by omega) _ ys.length (ys.map (Value.int .u8)) (by rfl) (unhide HA).o ⟨wr.heap.size, 0, none⟩ 1 1 [.int .u8 (128 + (j : Int) % 128)] (by rfl) (by rfl) (World.news_of_block (cs := #[.int .u8 (128 + (j : Int) % 128)]) (t := 5) (fr := (0, 0)) (heap_alloc_new wr _)) (by simp [Value.oneCell']) (by omega) (by unfold maxLen; omega) (by omega) (by simp; omega) (wr.heap.size + 1) (by simp) ?_; intro gg cap w3 hown3 hgrow hat hlt3; have HG3 := hide (Gr.of (n := ys.length + 1) (cap := cap) (unhide HBA) hgrow hat); have HO3 := hide (ownsBy_more hown3); have hg3 : ∀ k, u.ownBlock = some k → B ≤ k := (fun k e => ((unhide HO).o.lt k e).1); have kc := (unhide HG3).cell c0 (fun e => by have := hg3 _ e; simp only at this; omega); have kf : w3.frozen? ⟨q, 0, none⟩ = false := (World.frozen?_of_block ((unhide HG3).g.block q (by omega) (fun e => by have := hg3 q e.symm; omega))).trans f0; clear hown3 hgrow hat hg3)
      have hs3 := (unhide HG3).g.size
      have HWR := hide (WrAt.put kc kf (unhide HO3) hqB (by omega))
      have HGW := hide ((((unhide HB).trans (Gw.ofGr (unhide HG3)))).set (o := 0) (x := .slice (some ⟨gg, 0, none⟩) (ys.length + 1) cap))
      go_roundw
      case rel =>
        exact ⟨j / 128, _, _, by go_num, by omega, HWR, hide (by rw [← unhide HY, List.append_assoc, numB_more j (by omega) (by omega)]; rfl), HGW⟩
      case measure => simp [intOf]; omega
    · have hu8 : (j : Int) % 256 = j := by omega
      have hbA : Below wr.heap.size wr (wr.alloc (.cells #[.int .u8 ((j : Int))] 5)) := (Below.refl _ _).alloc (Nat.le_refl _) _
      have hA := (unhide HO).on hbA
      have HA := hide hA
      have HBA := hide hbA
      have hBs := (unhide HO).Bs
      have hqB := (unhide HO).qB
      clear hbA hA
      go_wp2_with (at_builtin; refine wpList_append_lies _ (by rfl) _ _ _ (by rfl) B 5 i5 _ 1 1 slice_Wr hi5 hz0 hz1 hz2 (by rfl) (by omega) _ ys.length (ys.map (Value.int .u8)) (by rfl) (unhide HA).o ⟨wr.heap.size, 0, none⟩ 1 1 [.int .u8 ((j : Int))] (by rfl) (by rfl) (World.news_of_block (cs := #[.int .u8 ((j : Int))]) (t := 5) (fr := (0, 0)) (heap_alloc_new wr _)) (by simp [Value.oneCell']) (by omega) (by unfold maxLen; omega) (by omega) (by simp; omega) (wr.heap.size + 1) (by simp) ?_; intro gg cap w3 hown3 hgrow hat hlt3; have HG3 := hide (Gr.of (n := ys.length + 1) (cap := cap) (unhide HBA) hgrow hat); have HO3 := hide (ownsBy_more hown3); have hg3 : ∀ k, u.ownBlock = some k → B ≤ k := (fun k e => ((unhide HO).o.lt k e).1); have kc := (unhide HG3).cell c0 (fun e => by have := hg3 _ e; simp only at this; omega); have kf : w3.frozen? ⟨q, 0, none⟩ = false := (World.frozen?_of_block ((unhide HG3).g.block q (by omega) (fun e => by have := hg3 q e.symm; omega))).trans f0; clear hown3 hgrow hat hg3)
      have hs3 := (unhide HG3).g.size
      have HWR := hide (WrAt.put kc kf (unhide HO3) hqB (by omega))
      have HGW := hide ((((unhide HB).trans (Gw.ofGr (unhide HG3)))).set (o := 0) (x := .slice (some ⟨gg, 0, none⟩) (ys.length + 1) cap))
      go_end0
      have hy := unhide HY
      rw [show numB j = [(j : Int)] by unfold numB; rw [if_pos (by omega)]] at hy
      exact ⟨rfl, _, by rw [unhide HM, ← hy]; exact unhide HWR, unhide HGW⟩
set_option maxRecDepth 100000 in
set_option maxHeartbeats 2000000 in
theorem rowW_any (q B : Nat) (v vl : Value) (bs zs : List Int) (w : World) (h : WrAt q B v w bs) (hN : ∀ u W, Gw q v u w W → NumsAt W vl zs) (h0 : ∀ z ∈ zs, -1 ≤ z ∧ z ≤ 9999) (hz : zs.length ≤ 9999) (hl : bs.length ≤ 900000) :
    Calls Tryz.prog 35 #[.pointer (some ⟨q, 0, none⟩), vl] w fun e w' => e = .returned (.tuple #[]) ∧ ∃ v', WrAt q B v' w' (bs ++ packI zs) ∧ Gw q v v' w w' := by
  obtain ⟨a, c, rfl⟩ := (hN v w (Gw.refl _ _ _)).sliced
  have HN := hide hN
  have H := hide h
  clear hN h
  go_enter Tryz.func35, Tryz.ntmps35
  go_wp2_with fail
  go_loopw [8] (fun i wr => ∃ (k : Nat) (u : Value), k ≤ zs.length ∧ i = .int .i64 k ∧ Hid (WrAt q B u wr (bs ++ packI (zs.take k))) ∧ Hid (Gw q v u w wr)) (fun i _ => zs.length - (intOf i).toNat)
  case atStart => exact ⟨0, v, Nat.zero_le _, rfl, by simpa [packI_nil] using H, hide (Gw.refl _ _ _)⟩
  case round =>
    obtain ⟨k, u, hk, rfl, HO, HG⟩ := hrel
    by_cases hlt : k < zs.length
    · obtain ⟨ad, cap, e, _, hm, hc⟩ := (unhide HN) _ _ (unhide HG)
      rw [List.length_map] at e
      simp only [Value.slice.injEq] at e
      obtain ⟨rfl, _, rfl⟩ := e
      obtain ⟨b, off, rfl, p1⟩ : ∃ b off, a = some ⟨b, off, none⟩ ∧ wr.cell? ⟨b, off + k, none⟩ = some (.int .i64 zs[k]) := by
        rcases hc with h | ⟨b, off, h1, h2⟩
        · have : zs = [] := by simpa using h
          rw [this] at hlt; exact absurd hlt (Nat.not_lt_zero _)
        · have h3 := h2 k (by simpa using hlt) 0 (by omega)
          simp at h3
          exact ⟨b, off, h1, h3⟩
      clear hc hm
      have hkI : (k : Int) < (zs.length : Int) := by omega
      have hk0 : (0 : Int) ≤ (k : Int) := by omega
      have HZ := hide (h0 zs[k] (List.getElem_mem hlt))
      have HT := hide (packI_take zs k hlt)
      have hll : (bs ++ packI (zs.take k)).length ≤ 1000000 := by
        have h1 := packI_len (zs.take k)
        rw [List.length_append]
        rw [List.length_take] at h1
        omega
      have HLL := hide hll
      clear hll
      generalize zs[k] = z at *
      go_wp2_with fail
      refine (number_any q B _ _ z _ (unhide HO) (unhide HZ).1 (unhide HZ).2 (unhide HLL)).mono ?_
      rintro e w3 ⟨rfl, v3, hO3, hG3⟩
      have HO3 := hide hO3
      have HG3 := hide ((unhide HG).trans hG3)
      clear hO3 hG3
      go_wp2_with fail
      go_roundw
      case rel => exact ⟨k + 1, v3, by omega, by go_num, by rw [unhide HT]; simpa using HO3, HG3⟩
      case measure => simp [intOf]; omega
    · have hke : k = zs.length := by omega
      subst hke
      go_wp2_with fail
      go_end0
      exact ⟨rfl, _, by simpa using unhide HO, unhide HG⟩

set_option maxRecDepth 100000 in
set_option maxHeartbeats 2000000 in
theorem writeInts_any (q B : Nat) (v vl : Value) (bs zs : List Int) (w : World) (h : WrAt q B v w bs) (hN : ∀ u W, Gw q v u w W → NumsAt W vl zs) (h0 : ∀ z ∈ zs, -1 ≤ z ∧ z ≤ 9999) (hz : zs.length ≤ 9999) (hl : bs.length ≤ 900000) :
    Calls Tryz.prog 36 #[.pointer (some ⟨q, 0, none⟩), vl, .func (.func 37) #[.pointer (some ⟨q, 0, none⟩)] #[]] w fun e w' => e = .returned (.tuple #[]) ∧ ∃ v', WrAt q B v' w' (bs ++ packI ((zs.length : Int) :: zs)) ∧ Gw q v v' w w' := by
  obtain ⟨a, c, rfl⟩ := (hN v w (Gw.refl _ _ _)).sliced
  have HN := hide hN
  have H := hide h
  clear hN h
  go_enter Tryz.func36, Tryz.ntmps36
  go_wp2_with fail
  refine (number_any q B _ _ zs.length _ (unhide H) (by omega) (by omega) (by omega)).mono ?_
  rintro e w1 ⟨rfl, v1, hO, hG⟩
  have HO1 := hide hO
  have HG1 := hide hG
  clear hO hG
  go_wp2_with fail
  go_loopw [14] (fun i wr => ∃ (k : Nat) (u : Value), k ≤ zs.length ∧ i = .int .i64 k ∧ Hid (WrAt q B u wr (bs ++ (numI zs.length ++ packI (zs.take k)))) ∧ Hid (Gw q v u w wr)) (fun i _ => zs.length - (intOf i).toNat)
  case atStart => exact ⟨0, v1, Nat.zero_le _, rfl, by simpa [packI_nil] using HO1, HG1⟩
  case round =>
    obtain ⟨k, u, hk, rfl, HO, HG⟩ := hrel
    by_cases hlt : k < zs.length
    · obtain ⟨ad, cap, e, _, hm, hc⟩ := (unhide HN) _ _ (unhide HG)
      rw [List.length_map] at e
      simp only [Value.slice.injEq] at e
      obtain ⟨rfl, _, rfl⟩ := e
      obtain ⟨b, off, rfl, p1⟩ : ∃ b off, a = some ⟨b, off, none⟩ ∧ wr.cell? ⟨b, off + k, none⟩ = some (.int .i64 zs[k]) := by
        rcases hc with h | ⟨b, off, h1, h2⟩
        · have : zs = [] := by simpa using h
          rw [this] at hlt; exact absurd hlt (Nat.not_lt_zero _)
        · have h3 := h2 k (by simpa using hlt) 0 (by omega)
          simp at h3
          exact ⟨b, off, h1, h3⟩
      clear hc hm
      have hkI : (k : Int) < (zs.length : Int) := by omega
      have hk0 : (0 : Int) ≤ (k : Int) := by omega
      have HZ := hide (h0 zs[k] (List.getElem_mem hlt))
      have HT := hide (packI_take zs k hlt)
      have hll : (bs ++ (numI zs.length ++ packI (zs.take k))).length ≤ 1000000 := by
        have h1 := packI_len (zs.take k)
        have h2 := numI_len zs.length
        rw [List.length_append, List.length_append]
        rw [List.length_take] at h1
        omega
      have HLL := hide hll
      clear hll
      generalize zs[k] = z at *
      go_wp2_with fail
      refine (number_any q B _ _ z _ (unhide HO) (unhide HZ).1 (unhide HZ).2 (unhide HLL)).mono ?_
      rintro e w3 ⟨rfl, v3, hO3, hG3⟩
      have HO3 := hide hO3
      have HG3 := hide ((unhide HG).trans hG3)
      clear hO3 hG3
      go_wp2_with fail
      go_roundw
      case rel => exact ⟨k + 1, v3, by omega, by go_num, by rw [unhide HT]; simpa using HO3, HG3⟩
      case measure => simp [intOf]; omega
    · have hke : k = zs.length := by omega
      subst hke
      go_wp2_with fail
      go_end0
      exact ⟨rfl, _, by simpa [packI] using unhide HO, unhide HG⟩
end Go.Proofs.YtiljjhipiinafaaGreat

/- The writer of impl: events, what is let out, lists of them, the head of a word. -/
namespace Go.Proofs.YtiljjhipiinafaaGreat
open Go.RowKit
set_option linter.unusedVariables false
set_option linter.unusedSimpArgs false

theorem rowOfEventW_on (e : EvV) (w : World) : Calls Tryz.prog 68 #[evAgg e] w fun r w' => r = .returned (evAgg e) ∧ Below w.heap.size w w' :=
  (rowOfEvent_any e.time e.to e.src e.count e.n e.kind e.arg w).mono fun r w' ⟨h1, h2⟩ => ⟨h1, by subst h2; exact ((Below.refl _ _).alloc (Nat.le_refl _) _).alloc (by simp) _⟩
theorem rowOfOutW_on (e : OutV) (w : World) : Calls Tryz.prog 69 #[outAgg e] w fun r w' => r = .returned (outAgg e) ∧ Below w.heap.size w w' :=
  (rowOfOut_any e.time e.proc e.count e.n e.value w).mono fun r w' ⟨h1, h2⟩ => ⟨h1, by subst h2; exact ((Below.refl _ _).alloc (Nat.le_refl _) _).alloc (by simp) _⟩
theorem WrAt.nums {q B b : Nat} {v u : Value} {bs zs : List Int} {w W0 W : World} (h : WrAt q B v w bs) (hw : w.heap.size ≤ b) (hn : NumsAt W0 (.slice (some ⟨b, 0, none⟩) zs.length zs.length) zs) (hG : Gw q v u W0 W) : NumsAt W (.slice (some ⟨b, 0, none⟩) zs.length zs.length) zs :=
  hG.rows hn (fun c hc => by
    simp only [Value.ownBlock, Option.some.injEq] at hc
    subst hc
    refine ⟨by have := h.qB; have := h.Bs; omega, fun e => by have := (h.o.lt b e).2; omega⟩)

set_option maxRecDepth 100000 in
set_option maxHeartbeats 2000000 in
theorem eventW_any (q B : Nat) (v : Value) (bs : List Int) (e : EvV) (w : World) (h : WrAt q B v w bs) (h0 : ∀ z ∈ evRow e, -1 ≤ z ∧ z ≤ 9999) (hl : bs.length ≤ 900000) :
    Calls Tryz.prog 39 #[.pointer (some ⟨q, 0, none⟩), evAgg e] w fun r w' => r = .returned (.tuple #[]) ∧ ∃ v', WrAt q B v' w' (bs ++ packI (evRow e)) ∧ Gw q v v' w w' := by
  have H := hide h
  have H0 := hide h0
  clear h h0
  go_enter Tryz.func39, Tryz.ntmps39
  go_wp2_with fail
  have hbx : Below w.heap.size w (w.alloc (.cells #[.int .i64 e.time, .int .i64 e.to, .int .i64 e.src, .int .i64 e.count, .int .i64 e.n, .int .i64 e.kind, .int .i64 e.arg] 56)) := (Below.refl _ _).alloc (Nat.le_refl _) _
  have HBX := hide hbx
  clear hbx
  generalize w.alloc (.cells #[.int .i64 e.time, .int .i64 e.to, .int .i64 e.src, .int .i64 e.count, .int .i64 e.n, .int .i64 e.kind, .int .i64 e.arg] 56) = X0 at *
  refine (rowOfEventW_on e _).mono ?_
  rintro r w1 ⟨rfl, hb1⟩
  have HB1 := hide (below_then (unhide HBX) hb1)
  clear hb1 HBX
  go_wp2_with fail
  have hbA : Below w1.heap.size w1 (w1.alloc (.cells #[.int .i64 e.time, .int .i64 e.to, .int .i64 e.src, .int .i64 e.count, .int .i64 e.n, .int .i64 e.kind, .int .i64 e.arg] 93)) := (Below.refl _ _).alloc (Nat.le_refl _) _
  have HN := hide (nums_of_cells (zs := evRow e) (cellsAt_new w1 ((evRow e).map (Value.int .i64)) 93) (by unfold maxLen; simp [evRow]))
  change Hid (NumsAt (w1.alloc (.cells #[.int .i64 e.time, .int .i64 e.to, .int .i64 e.src, .int .i64 e.count, .int .i64 e.n, .int .i64 e.kind, .int .i64 e.arg] 93)) _ _) at HN
  have HBA := hide (below_then (unhide HB1) hbA)
  have HS1 := hide (unhide HB1).size
  clear hbA
  generalize w1.alloc (.cells #[.int .i64 e.time, .int .i64 e.to, .int .i64 e.src, .int .i64 e.count, .int .i64 e.n, .int .i64 e.kind, .int .i64 e.arg] 93) = X1 at *
  refine (rowW_any q B v _ bs (evRow e) _ ((unhide H).on (unhide HBA)) (fun u W hG => (unhide H).nums (unhide HS1) (unhide HN) hG) (unhide H0) (by simp [evRow]) hl).mono ?_
  rintro r w2 ⟨rfl, v2, hO, hG⟩
  have HO := hide hO
  have HG := hide ((Gw.ofBelow (unhide HBA)).trans hG)
  clear hO hG
  go_wp2_with fail
  go_end0
  exact ⟨rfl, v2, unhide HO, unhide HG⟩

set_option maxRecDepth 100000 in
set_option maxHeartbeats 2000000 in
theorem writeEvents_any (q B : Nat) (v vl : Value) (bs : List Int) (es : List EvV) (w : World) (h : WrAt q B v w bs) (hN : ∀ u W, Gw q v u w W → RowsAt 7 W vl (es.map evRow)) (h0 : ∀ e ∈ es, ∀ z ∈ evRow e, -1 ≤ z ∧ z ≤ 9999) (hz : es.length ≤ 100) (hl : bs.length ≤ 800000) :
    Calls Tryz.prog 38 #[.pointer (some ⟨q, 0, none⟩), vl, .func (.func 39) #[.pointer (some ⟨q, 0, none⟩)] #[]] w fun r w' => r = .returned (.tuple #[]) ∧ ∃ v', WrAt q B v' w' (bs ++ packI ((es.length : Int) :: es.flatMap evRow)) ∧ Gw q v v' w w' := by
  obtain ⟨a, c, rfl⟩ := rowsLen (hN v w (Gw.refl _ _ _))
  have HN := hide hN
  have H := hide h
  clear hN h
  go_enter Tryz.func38, Tryz.ntmps38
  go_wp2_with fail
  refine (number_any q B _ _ es.length _ (unhide H) (by omega) (by omega) (by omega)).mono ?_
  rintro r w1 ⟨rfl, v1, hO, hG⟩
  have HO1 := hide hO
  have HG1 := hide hG
  clear hO hG
  go_wp2_with fail
  go_loopw [14] (fun i wr => ∃ (k : Nat) (u : Value), k ≤ es.length ∧ i = .int .i64 k ∧ Hid (WrAt q B u wr (bs ++ (numI es.length ++ packI ((es.take k).flatMap evRow)))) ∧ Hid (Gw q v u w wr)) (fun i _ => es.length - (intOf i).toNat)
  case atStart => exact ⟨0, v1, Nat.zero_le _, rfl, by simpa [packI_nil] using HO1, HG1⟩
  case round =>
    obtain ⟨k, u, hk, rfl, HO, HG⟩ := hrel
    by_cases hlt : k < es.length
    · obtain ⟨hnn, hlc, _, b, off, ha, hp⟩ := rows_at ((unhide HN) _ _ (unhide HG)) k (by rw [List.length_map]; exact hlt)
      have hlc2 : es.length ≤ c := by rw [List.length_map] at hlc; exact hlc
      subst ha
      simp only [List.getElem_map] at hp
      have HEI := hide (h0 es[k] (List.getElem_mem hlt))
      have HT := hide (flatTo_more evRow es k hlt)
      have hll : (bs ++ (numI es.length ++ packI ((es.take k).flatMap evRow))).length ≤ 900000 := by
        have h1 := packI_len ((es.take k).flatMap evRow)
        have h2 := numI_len es.length
        have h3 := flatTo_len (f := evRow) (m := 7) (fun _ => rfl) (es.take k)
        rw [List.length_take] at h3
        rw [List.length_append, List.length_append]
        omega
      have HLL := hide hll
      clear hll
      have p0 := hp 0 (by omega)
      have p1 := hp 1 (by omega)
      have p2 := hp 2 (by omega)
      have p3 := hp 3 (by omega)
      have p4 := hp 4 (by omega)
      have p5 := hp 5 (by omega)
      have p6 := hp 6 (by omega)
      simp only [evRow, List.getD_cons_zero, List.getD_cons_succ, Nat.add_zero] at p0 p1 p2 p3 p4 p5 p6
      clear hp hnn hlc
      generalize es[k] = e at *
      have hkI : (k : Int) < (es.length : Int) := by omega
      have hk0 : (0 : Int) ≤ (k : Int) := by omega
      go_wp2_with fail
      clear p0 p1 p2 p3 p4 p5 p6
      have hbA : Below wr.heap.size wr (wr.alloc (.cells #[.int .i64 e.time, .int .i64 e.to, .int .i64 e.src, .int .i64 e.count, .int .i64 e.n, .int .i64 e.kind, .int .i64 e.arg] 56)) := (Below.refl _ _).alloc (Nat.le_refl _) _
      have HBA := hide hbA
      clear hbA
      generalize wr.alloc (.cells #[.int .i64 e.time, .int .i64 e.to, .int .i64 e.src, .int .i64 e.count, .int .i64 e.n, .int .i64 e.kind, .int .i64 e.arg] 56) = X1 at *
      refine (eventW_any q B _ _ e _ ((unhide HO).on (unhide HBA)) (unhide HEI) (unhide HLL)).mono ?_
      rintro r w3 ⟨rfl, v3, hO3, hG3⟩
      have HO3 := hide hO3
      have HG3 := hide (((unhide HG).trans (Gw.ofBelow (unhide HBA))).trans hG3)
      clear hO3 hG3
      go_wp2_with fail
      go_roundw
      case rel => exact ⟨k + 1, v3, by omega, by go_num, by rw [unhide HT, packI_app]; simpa using HO3, HG3⟩
      case measure => simp [intOf]; omega
    · have hke : k = es.length := by omega
      subst hke
      go_wp2_with fail
      go_end0
      exact ⟨rfl, _, by simpa [packI] using unhide HO, unhide HG⟩

set_option maxRecDepth 100000 in
set_option maxHeartbeats 2000000 in
theorem outW_any (q B : Nat) (v : Value) (bs : List Int) (e : OutV) (w : World) (h : WrAt q B v w bs) (h0 : ∀ z ∈ outRow e, -1 ≤ z ∧ z ≤ 9999) (hl : bs.length ≤ 900000) :
    Calls Tryz.prog 41 #[.pointer (some ⟨q, 0, none⟩), outAgg e] w fun r w' => r = .returned (.tuple #[]) ∧ ∃ v', WrAt q B v' w' (bs ++ packI (outRow e)) ∧ Gw q v v' w w' := by
  have H := hide h
  have H0 := hide h0
  clear h h0
  go_enter Tryz.func41, Tryz.ntmps41
  go_wp2_with fail
  have hbx : Below w.heap.size w (w.alloc (.cells #[.int .i64 e.time, .int .i64 e.proc, .int .i64 e.count, .int .i64 e.n, .int .i64 e.value] 60)) := (Below.refl _ _).alloc (Nat.le_refl _) _
  have HBX := hide hbx
  clear hbx
  generalize w.alloc (.cells #[.int .i64 e.time, .int .i64 e.proc, .int .i64 e.count, .int .i64 e.n, .int .i64 e.value] 60) = X0 at *
  refine (rowOfOutW_on e _).mono ?_
  rintro r w1 ⟨rfl, hb1⟩
  have HB1 := hide (below_then (unhide HBX) hb1)
  clear hb1 HBX
  go_wp2_with fail
  have hbA : Below w1.heap.size w1 (w1.alloc (.cells #[.int .i64 e.time, .int .i64 e.proc, .int .i64 e.count, .int .i64 e.n, .int .i64 e.value] 96)) := (Below.refl _ _).alloc (Nat.le_refl _) _
  have HN := hide (nums_of_cells (zs := outRow e) (cellsAt_new w1 ((outRow e).map (Value.int .i64)) 96) (by unfold maxLen; simp [outRow]))
  change Hid (NumsAt (w1.alloc (.cells #[.int .i64 e.time, .int .i64 e.proc, .int .i64 e.count, .int .i64 e.n, .int .i64 e.value] 96)) _ _) at HN
  have HBA := hide (below_then (unhide HB1) hbA)
  have HS1 := hide (unhide HB1).size
  clear hbA
  generalize w1.alloc (.cells #[.int .i64 e.time, .int .i64 e.proc, .int .i64 e.count, .int .i64 e.n, .int .i64 e.value] 96) = X1 at *
  refine (rowW_any q B v _ bs (outRow e) _ ((unhide H).on (unhide HBA)) (fun u W hG => (unhide H).nums (unhide HS1) (unhide HN) hG) (unhide H0) (by simp [outRow]) hl).mono ?_
  rintro r w2 ⟨rfl, v2, hO, hG⟩
  have HO := hide hO
  have HG := hide ((Gw.ofBelow (unhide HBA)).trans hG)
  clear hO hG
  go_wp2_with fail
  go_end0
  exact ⟨rfl, v2, unhide HO, unhide HG⟩

set_option maxRecDepth 100000 in
set_option maxHeartbeats 2000000 in
theorem writeOuts_any (q B : Nat) (v vl : Value) (bs : List Int) (es : List OutV) (w : World) (h : WrAt q B v w bs) (hN : ∀ u W, Gw q v u w W → RowsAt 5 W vl (es.map outRow)) (h0 : ∀ e ∈ es, ∀ z ∈ outRow e, -1 ≤ z ∧ z ≤ 9999) (hz : es.length ≤ 100) (hl : bs.length ≤ 800000) :
    Calls Tryz.prog 40 #[.pointer (some ⟨q, 0, none⟩), vl, .func (.func 41) #[.pointer (some ⟨q, 0, none⟩)] #[]] w fun r w' => r = .returned (.tuple #[]) ∧ ∃ v', WrAt q B v' w' (bs ++ packI ((es.length : Int) :: es.flatMap outRow)) ∧ Gw q v v' w w' := by
  obtain ⟨a, c, rfl⟩ := rowsLen (hN v w (Gw.refl _ _ _))
  have HN := hide hN
  have H := hide h
  clear hN h
  go_enter Tryz.func40, Tryz.ntmps40
  go_wp2_with fail
  refine (number_any q B _ _ es.length _ (unhide H) (by omega) (by omega) (by omega)).mono ?_
  rintro r w1 ⟨rfl, v1, hO, hG⟩
  have HO1 := hide hO
  have HG1 := hide hG
  clear hO hG
  go_wp2_with fail
  go_loopw [14] (fun i wr => ∃ (k : Nat) (u : Value), k ≤ es.length ∧ i = .int .i64 k ∧ Hid (WrAt q B u wr (bs ++ (numI es.length ++ packI ((es.take k).flatMap outRow)))) ∧ Hid (Gw q v u w wr)) (fun i _ => es.length - (intOf i).toNat)
  case atStart => exact ⟨0, v1, Nat.zero_le _, rfl, by simpa [packI_nil] using HO1, HG1⟩
  case round =>
    obtain ⟨k, u, hk, rfl, HO, HG⟩ := hrel
    by_cases hlt : k < es.length
    · obtain ⟨hnn, hlc, _, b, off, ha, hp⟩ := rows_at ((unhide HN) _ _ (unhide HG)) k (by rw [List.length_map]; exact hlt)
      have hlc2 : es.length ≤ c := by rw [List.length_map] at hlc; exact hlc
      subst ha
      simp only [List.getElem_map] at hp
      have HEI := hide (h0 es[k] (List.getElem_mem hlt))
      have HT := hide (flatTo_more outRow es k hlt)
      have hll : (bs ++ (numI es.length ++ packI ((es.take k).flatMap outRow))).length ≤ 900000 := by
        have h1 := packI_len ((es.take k).flatMap outRow)
        have h2 := numI_len es.length
        have h3 := flatTo_len (f := outRow) (m := 5) (fun _ => rfl) (es.take k)
        rw [List.length_take] at h3
        rw [List.length_append, List.length_append]
        omega
      have HLL := hide hll
      clear hll
      have p0 := hp 0 (by omega)
      have p1 := hp 1 (by omega)
      have p2 := hp 2 (by omega)
      have p3 := hp 3 (by omega)
      have p4 := hp 4 (by omega)
      simp only [outRow, List.getD_cons_zero, List.getD_cons_succ, Nat.add_zero] at p0 p1 p2 p3 p4
      clear hp hnn hlc
      generalize es[k] = e at *
      have hkI : (k : Int) < (es.length : Int) := by omega
      have hk0 : (0 : Int) ≤ (k : Int) := by omega
      go_wp2_with fail
      clear p0 p1 p2 p3 p4
      have hbA : Below wr.heap.size wr (wr.alloc (.cells #[.int .i64 e.time, .int .i64 e.proc, .int .i64 e.count, .int .i64 e.n, .int .i64 e.value] 60)) := (Below.refl _ _).alloc (Nat.le_refl _) _
      have HBA := hide hbA
      clear hbA
      generalize wr.alloc (.cells #[.int .i64 e.time, .int .i64 e.proc, .int .i64 e.count, .int .i64 e.n, .int .i64 e.value] 60) = X1 at *
      refine (outW_any q B _ _ e _ ((unhide HO).on (unhide HBA)) (unhide HEI) (unhide HLL)).mono ?_
      rintro r w3 ⟨rfl, v3, hO3, hG3⟩
      have HO3 := hide hO3
      have HG3 := hide (((unhide HG).trans (Gw.ofBelow (unhide HBA))).trans hG3)
      clear hO3 hG3
      go_wp2_with fail
      go_roundw
      case rel => exact ⟨k + 1, v3, by omega, by go_num, by rw [unhide HT, packI_app]; simpa using HO3, HG3⟩
      case measure => simp [intOf]; omega
    · have hke : k = es.length := by omega
      subst hke
      go_wp2_with fail
      go_end0
      exact ⟨rfl, _, by simpa [packI] using unhide HO, unhide HG⟩

def rowAgg7 (n : WordV) : Value := .agg #[.int .i64 n.kind, .int .i64 n.frm, .int .i64 n.dst, .int .i64 n.inc, .int .i64 n.ver, .int .i64 n.rd, .int .i64 n.g]
set_option maxRecDepth 100000 in
set_option maxHeartbeats 2000000 in
theorem headOfWord_any (n : WordV) (vi vv ve vo : Value) (w : World) :
    Calls Tryz.prog 34 #[wordAgg n vi vv ve vo] w fun r w' => r = .returned (.agg #[.int .i64 n.kind, .int .i64 n.frm, .int .i64 n.dst, .int .i64 n.inc, .int .i64 n.ver, .int .i64 n.rd, .int .i64 n.g]) ∧ Below w.heap.size w w' := by
  obtain ⟨x0, x1, x2, x3, x4, x5, x6, l0, l1, l2, l3⟩ := n
  go_enter Tryz.func34, Tryz.ntmps34
  go_wp2
  exact bodyPost_ret (v := .agg #[.int .i64 x0, .int .i64 x1, .int .i64 x2, .int .i64 x3, .int .i64 x4, .int .i64 x5, .int .i64 x6]) (by simp [results, Tryz.results34, go_sem]) rfl ⟨rfl, ((Below.refl _ _).alloc (Nat.le_refl _) _).alloc (by simp) _⟩
end Go.Proofs.YtiljjhipiinafaaGreat

/- impl.WordPack. -/
namespace Go.Proofs.YtiljjhipiinafaaGreat
open Go.RowKit
set_option linter.unusedVariables false
set_option linter.unusedSimpArgs false

set_option maxRecDepth 100000 in
set_option maxHeartbeats 4000000 in
theorem implWordPack_any (n : WordV) (vi vv ve vo : Value) (w : World) (h : WordAt w n vi vv ve vo) :
    Calls Tryz.prog 9 #[wordAgg n vi vv ve vo] w fun e w' => ∃ v, e = .returned v ∧ OwnsBy w' w.heap.size v (if wordOk n = true then packW n else []) ∧ Below w.heap.size w w' := by
  obtain ⟨⟨a0, ac0, e1⟩, ⟨a1, ac1, e2⟩, ⟨a2, ac2, e3⟩, ⟨a3, ac3, e4⟩⟩ := h.sliced
  subst e1 e2 e3 e4
  have hb0 : Below w.heap.size w (w.alloc (.cells #[.int .i64 n.kind, .int .i64 n.frm, .int .i64 n.dst, .int .i64 n.inc, .int .i64 n.ver, .int .i64 n.rd, .int .i64 n.g, .slice a0 n.incs.length ac0, .slice a1 n.vers.length ac1, .slice a2 n.evs.length ac2, .slice a3 n.outs.length ac3] 28)) := (Below.refl _ _).alloc (Nat.le_refl _) _
  have HA0 := cellsAt_new w [.int .i64 n.kind, .int .i64 n.frm, .int .i64 n.dst, .int .i64 n.inc, .int .i64 n.ver, .int .i64 n.rd, .int .i64 n.g, .slice a0 n.incs.length ac0, .slice a1 n.vers.length ac1, .slice a2 n.evs.length ac2, .slice a3 n.outs.length ac3] 28
  change CellsAt (w.alloc (.cells #[.int .i64 n.kind, .int .i64 n.frm, .int .i64 n.dst, .int .i64 n.inc, .int .i64 n.ver, .int .i64 n.rd, .int .i64 n.g, .slice a0 n.incs.length ac0, .slice a1 n.vers.length ac1, .slice a2 n.evs.length ac2, .slice a3 n.outs.length ac3] 28)) _ _ _ at HA0
  have hsz0 : (w.alloc (.cells #[.int .i64 n.kind, .int .i64 n.frm, .int .i64 n.dst, .int .i64 n.inc, .int .i64 n.ver, .int .i64 n.rd, .int .i64 n.g, .slice a0 n.incs.length ac0, .slice a1 n.vers.length ac1, .slice a2 n.evs.length ac2, .slice a3 n.outs.length ac3] 28)).heap.size = w.heap.size + 1 := by simp
  have H := hide h
  clear h
  obtain ⟨R, hR⟩ : ∃ R, R = wordOk n := ⟨_, rfl⟩
  have HR := hide hR
  rw [← hR]
  clear hR
  go_enter Tryz.func9, Tryz.ntmps9
  go_upto_region 1 with fail
  generalize (w.alloc (.cells #[.int .i64 n.kind, .int .i64 n.frm, .int .i64 n.dst, .int .i64 n.inc, .int .i64 n.ver, .int .i64 n.rd, .int .i64 n.g, .slice a0 n.incs.length ac0, .slice a1 n.vers.length ac1, .slice a2 n.evs.length ac2, .slice a3 n.outs.length ac3] 28)) = X1 at *
  have HA := hide HA0
  have HB := hide hb0
  have HSZ := hide hsz0
  clear HA0 hb0 hsz0
  have m0 := (unhide HA) 0 (by simp)
  have m1 := (unhide HA) 1 (by simp)
  have m2 := (unhide HA) 2 (by simp)
  have m3 := (unhide HA) 3 (by simp)
  have m4 := (unhide HA) 4 (by simp)
  have m5 := (unhide HA) 5 (by simp)
  have m6 := (unhide HA) 6 (by simp)
  have m7 := (unhide HA) 7 (by simp)
  have m8 := (unhide HA) 8 (by simp)
  have m9 := (unhide HA) 9 (by simp)
  have m10 := (unhide HA) 10 (by simp)
  simp only [List.getElem_cons_zero, List.getElem_cons_succ, Nat.zero_add] at m0 m1 m2 m3 m4 m5 m6 m7 m8 m9 m10
  go_wp2_with fail
  clear m0 m1 m2 m3 m4 m5 m6 m7 m8 m9 m10
  refine (implWordOk_any n _ _ _ _ _ ((unhide H).on (unhide HB))).mono ?_
  rintro e w2 ⟨rfl, hb2⟩
  rw [← unhide HR]
  have HA2 := hide ((unhide HA).on hb2)
  have HB2 := hide (below_then (unhide HB) hb2)
  have hsq : w.heap.size < w2.heap.size := by have := unhide HSZ; have := hb2.size; omega
  have HSQ := hide hsq
  clear HA HB hb2 hsq
  cases R with
  | false =>
    go_wp2_with fail
    go_ret
    exact ⟨_, rfl, (by first | exact World.ownsRow_nil _ _ _ _ | (simp only [Bool.false_eq_true, if_false]; exact World.ownsRow_nil _ _ _ _)), unhide HB2⟩
  | true =>
  have HIN := hide (wordOk_in (unhide HR).symm)
  clear HR
  go_upto_region 4 with fail
  have hb3 : Below w2.heap.size w2 (w2.alloc (.cells #[.slice none 0 0] 71)) := (Below.refl _ _).alloc (Nat.le_refl _) _
  have hW3 : WrAt w2.heap.size (w2.heap.size + 1) (.slice none 0 0) (w2.alloc (.cells #[.slice none 0 0] 71)) [] := ⟨by simp [go_sem], by simp [go_sem], World.ownsRow_nil _ _ _ _, by omega, by simp⟩
  have HW3 := hide hW3
  have HA3 := hide ((unhide HA2).on hb3)
  have HB3 := hide (below_then (unhide HB2) hb3)
  clear hb3 hW3 HA2 HB2
  generalize w2.alloc (.cells #[.slice none 0 0] 71) = w3 at *
  generalize w2.heap.size = q at *
  have FX : Hid (∀ u W, Gw q (.slice none 0 0) u w3 W → CellsAt W w.heap.size 0 [.int .i64 n.kind, .int .i64 n.frm, .int .i64 n.dst, .int .i64 n.inc, .int .i64 n.ver, .int .i64 n.rd, .int .i64 n.g, .slice a0 n.incs.length ac0, .slice a1 n.vers.length ac1, .slice a2 n.evs.length ac2, .slice a3 n.outs.length ac3] ∧ WordAt W n (.slice a0 n.incs.length ac0) (.slice a1 n.vers.length ac1) (.slice a2 n.evs.length ac2) (.slice a3 n.outs.length ac3) ∧ Below w.heap.size w W) := hide (fun u W hG => by
    have hb := hG.below (unhide HW3)
    have hbw := (unhide HB3).trans (hb.mono (Nat.le_of_lt (unhide HSQ)))
    exact ⟨fun j hj => (hb.cell (p := ⟨w.heap.size, 0 + j, none⟩) (unhide HSQ)).trans ((unhide HA3) j hj), (unhide H).on hbw, hbw⟩)
  have m0 := (unhide HA3) 0 (by simp)
  have m1 := (unhide HA3) 1 (by simp)
  have m2 := (unhide HA3) 2 (by simp)
  have m3 := (unhide HA3) 3 (by simp)
  have m4 := (unhide HA3) 4 (by simp)
  have m5 := (unhide HA3) 5 (by simp)
  have m6 := (unhide HA3) 6 (by simp)
  have m7 := (unhide HA3) 7 (by simp)
  have m8 := (unhide HA3) 8 (by simp)
  have m9 := (unhide HA3) 9 (by simp)
  have m10 := (unhide HA3) 10 (by simp)
  simp only [List.getElem_cons_zero, List.getElem_cons_succ, Nat.zero_add] at m0 m1 m2 m3 m4 m5 m6 m7 m8 m9 m10
  go_wp2_with fail
  clear m0 m1 m2 m3 m4 m5 m6 m7 m8 m9 m10
  refine (headOfWord_any n _ _ _ _ _).mono ?_
  rintro r w4 ⟨rfl, hb4⟩
  have HW4 := hide ((unhide HW3).on hb4)
  have HG4 : Hid (Gw q (.slice none 0 0) (.slice none 0 0) w3 w4) := hide (Gw.ofBelow hb4)
  have HS4 := hide hb4.size
  clear hb4
  go_wp2_with fail
  have hbA : Below w4.heap.size w4 (w4.alloc (.cells #[.int .i64 n.kind, .int .i64 n.frm, .int .i64 n.dst, .int .i64 n.inc, .int .i64 n.ver, .int .i64 n.rd, .int .i64 n.g] 49)) := (Below.refl _ _).alloc (Nat.le_refl _) _
  have HN := hide (nums_of_cells (zs := headNums n) (cellsAt_new w4 ((headNums n).map (Value.int .i64)) 49) (by unfold maxLen; simp [headNums]))
  change Hid (NumsAt (w4.alloc (.cells #[.int .i64 n.kind, .int .i64 n.frm, .int .i64 n.dst, .int .i64 n.inc, .int .i64 n.ver, .int .i64 n.rd, .int .i64 n.g] 49)) _ _) at HN
  have HW5 := hide ((unhide HW4).on hbA)
  have HG5 := hide ((unhide HG4).trans (Gw.ofBelow hbA))
  clear hbA
  generalize w4.alloc (.cells #[.int .i64 n.kind, .int .i64 n.frm, .int .i64 n.dst, .int .i64 n.inc, .int .i64 n.ver, .int .i64 n.rd, .int .i64 n.g] 49) = w5 at *
  refine (rowW_any q (q + 1) _ _ [] (headNums n) _ (unhide HW5) (fun u W hG => (unhide HW4).nums (Nat.le_refl _) (unhide HN) hG) (fun z hz => by have := (unhide HIN).head z hz; omega) (by simp [headNums]) (by simp)).mono ?_
  rintro r w6 ⟨rfl, v6, hO6, hG6⟩
  have HW6 := hide hO6
  have HG6 := hide ((unhide HG5).trans hG6)
  clear hO6 hG6 HW5 HG5 HW4 HG4 HN

  have hcell6 := ((unhide FX) _ _ (unhide HG6)).1 7 (by simp)
  simp only [List.getElem_cons_zero, List.getElem_cons_succ, Nat.zero_add] at hcell6
  go_wp2_with fail
  refine (writeInts_any q (q + 1) _ _ _ n.incs _ (unhide HW6) (fun u W hG => ((unhide FX) u W ((unhide HG6).trans hG)).2.1.i) (fun z hz => by have := (unhide HIN).incs.2 z hz; omega) (by have := (unhide HIN).incs.1; omega) (by rw [List.nil_append]; exact pk_len (m := 7) (by simp [headNums]) (by omega))).mono ?_
  rintro r w7 ⟨rfl, v7, hO, hG⟩
  have HW7 : Hid (WrAt q (q + 1) v7 w7 (packI (headNums n ++ ((n.incs.length : Int) :: n.incs)))) := hide (by
    have e := hO
    rw [List.nil_append, ← packI_app] at e
    exact e)
  have HG7 := hide ((unhide HG6).trans hG)
  clear hO hG hcell6 HW6 HG6

  have hcell7 := ((unhide FX) _ _ (unhide HG7)).1 8 (by simp)
  simp only [List.getElem_cons_zero, List.getElem_cons_succ, Nat.zero_add] at hcell7
  go_wp2_with fail
  refine (writeInts_any q (q + 1) _ _ _ n.vers _ (unhide HW7) (fun u W hG => ((unhide FX) u W ((unhide HG7).trans hG)).2.1.v) (fun z hz => by have := (unhide HIN).vers.2 z hz; omega) (by have := (unhide HIN).vers.1; omega) (pk_len (m := 20) (by have := (unhide HIN).incs.1; simp [headNums]; omega) (by omega))).mono ?_
  rintro r w8 ⟨rfl, v8, hO, hG⟩
  have HW8 : Hid (WrAt q (q + 1) v8 w8 (packI (preI n))) := hide (by
    have e := hO
    rw [← packI_app, List.append_assoc] at e
    exact e)
  have HG8 := hide ((unhide HG7).trans hG)
  clear hO hG hcell7 HW7 HG7

  have hcell8 := ((unhide FX) _ _ (unhide HG8)).1 9 (by simp)
  simp only [List.getElem_cons_zero, List.getElem_cons_succ, Nat.zero_add] at hcell8
  go_wp2_with fail
  refine (writeEvents_any q (q + 1) _ _ _ n.evs _ (unhide HW8) (fun u W hG => ((unhide FX) u W ((unhide HG8).trans hG)).2.1.e) (unhide HIN).evs.2 (unhide HIN).evs.1 (by have := packI_len (preI n); have := preI_len (unhide HIN); omega)).mono ?_
  rintro r w9 ⟨rfl, v9, hO, hG⟩
  have HW9 : Hid (WrAt q (q + 1) v9 w9 (packI (evTo n n.evs.length))) := hide (by
    have e := hO
    rw [← packI_app] at e
    simpa [evTo] using e)
  have HG9 := hide ((unhide HG8).trans hG)
  clear hO hG hcell8 HW8 HG8

  have hcell9 := ((unhide FX) _ _ (unhide HG9)).1 10 (by simp)
  simp only [List.getElem_cons_zero, List.getElem_cons_succ, Nat.zero_add] at hcell9
  go_wp2_with fail
  refine (writeOuts_any q (q + 1) _ _ _ n.outs _ (unhide HW9) (fun u W hG => ((unhide FX) u W ((unhide HG9).trans hG)).2.1.o) (fun o ho z hz => by have := (unhide HIN).outs.2 o ho z hz; omega) (by have := (unhide HIN).outs.1; omega) (by have := packI_len (evTo n n.evs.length); have := evTo_len (unhide HIN) n.evs.length; omega)).mono ?_
  rintro r w10 ⟨rfl, v10, hO, hG⟩
  have HW10 : Hid (WrAt q (q + 1) v10 w10 (packI (ouTo n n.outs.length))) := hide (by
    have e := hO
    rw [← packI_app] at e
    simpa [ouTo] using e)
  have HG10 := hide ((unhide HG9).trans hG)
  clear hO hG hcell9 HW9 HG9

  have c10 := (unhide HW10).c
  have hall := ouTo_all n
  have HE : Hid (packI (ouTo n n.outs.length) = packW n) := hide (by unfold packW; rw [hall])
  have HBW := hide ((unhide FX) _ _ (unhide HG10)).2.2
  clear hall
  go_wp2_with fail
  go_ret
  exact ⟨_, rfl, by rw [← unhide HE]; exact ownsBy_less (by have := unhide HSQ; omega) (unhide HW10).o, unhide HBW⟩
end Go.Proofs.YtiljjhipiinafaaGreat
