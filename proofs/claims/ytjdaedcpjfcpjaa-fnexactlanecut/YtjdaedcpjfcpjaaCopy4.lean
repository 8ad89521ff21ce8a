/- spec.l21Copy. -/
import Derived.Test.YtjdaedcpjfcpjaaApp2
import Derived.Test.YtjdaedcpjfcpjaaCopy3
namespace Go.Proofs.Ytjdaedcpjfcpjaa
open Go.RowKit
set_option linter.unusedVariables false
set_option linter.unusedSimpArgs false

/-- Both lists are there. -/
structure BothL (Y wz : World) (p : PastV) (ve vo : Value) : Prop where
  fr : PastFr Y.heap.size wz ve vo p
  ap : Apart ve vo
  be : Below Y.heap.size Y wz

theorem both_of {Y w9 wz : World} {p : PastV} {ve vo : Value} {re ro : Option Nat} (he : w9.ownsRow Y.heap.size 41 7 ve (0 + (p.sends.map evRow).length) ([] ++ flatCells (p.sends.map evRow))) (ho : wz.ownsRow Y.heap.size 92 5 vo (0 + (p.outs.map outRow).length) ([] ++ flatCells (p.outs.map outRow)))
    (hkeep : ∀ b, ve.ownBlock = some b → wz.heap[b]? = w9.heap[b]?) (hap : Apart ve vo) (hb : Below Y.heap.size Y wz) : BothL Y wz p ve vo := by
  rw [Nat.zero_add, List.nil_append] at he ho
  have h1 := RowsFr.of_owns (rowlenEvent p.sends) he
  have h2 := RowsFr.of_owns (rowlenOut p.outs) ho
  exact ⟨⟨h1.block (fun b hb _ => hkeep b hb), h2⟩, hap, hb⟩

set_option maxRecDepth 100000 in
set_option maxHeartbeats 8000000 in
theorem l21Copy_any (proc : Int) (s : StV) (v : Value) (ps : List PastV) (a b : Nat) (w : World) (h : PastsAt w v ps) (hab : a ≤ b) (hbp : b ≤ ps.length) (hlen : ps.length ≤ 1048576) (hl : ∀ p ∈ ps, p.sends.length ≤ 1048576 ∧ p.outs.length ≤ 1048576) :
    Calls Try.prog 57 #[laneAgg proc s v, .int .i64 a, .int .i64 b] w fun e w' => ∃ v', e = .returned (laneAgg proc s v') ∧ PastsOwn w.heap.size w'.heap.size w' v' ((ps.take b).drop a) ∧ Below w.heap.size w w' := by
  obtain ⟨i12, hi12, hz0, hz1, hz2⟩ := infoT_parts info_cpPast
  obtain ⟨i7, hi7, hz70, hz71, hz72⟩ := infoT_parts info_cpEvent
  obtain ⟨i5, hi5, hz50, hz51, hz52⟩ := infoT_parts info_cpOut
  obtain ⟨a0, c0, rfl, hlc, hm, hcc⟩ := h
  unfold maxLen at hm
  have HC := hide hcc
  have HL := hide hl
  have hb2 : Below w.heap.size w (((w.alloc (.cells #[.int .i64 proc, .int .i64 s.x, .int .i64 s.y, .int .i64 s.c, .slice a0 ps.length c0] 32)).alloc (.cells #[.int .i64 0, .int .i64 0, .int .i64 0, .int .i64 0, .slice none 0 0] 32)).alloc (.cells #[.int .i64 proc, .int .i64 s.x, .int .i64 s.y, .int .i64 s.c, .slice none 0 0] 32)) := (((Below.refl _ _).alloc (Nat.le_refl _) _).alloc (by simp) _).alloc (by simp; omega) _
  have cA : CellsAt (((w.alloc (.cells #[.int .i64 proc, .int .i64 s.x, .int .i64 s.y, .int .i64 s.c, .slice a0 ps.length c0] 32)).alloc (.cells #[.int .i64 0, .int .i64 0, .int .i64 0, .int .i64 0, .slice none 0 0] 32)).alloc (.cells #[.int .i64 proc, .int .i64 s.x, .int .i64 s.y, .int .i64 s.c, .slice none 0 0] 32)) w.heap.size 0 (laneCells proc s (.slice a0 ps.length c0)) := (cellsAt_new w (laneCells proc s (.slice a0 ps.length c0)) 32).on (((Below.refl _ _).alloc (Nat.le_refl _) _).alloc (by simp) _)
  have rR : (((w.alloc (.cells #[.int .i64 proc, .int .i64 s.x, .int .i64 s.y, .int .i64 s.c, .slice a0 ps.length c0] 32)).alloc (.cells #[.int .i64 0, .int .i64 0, .int .i64 0, .int .i64 0, .slice none 0 0] 32)).alloc (.cells #[.int .i64 proc, .int .i64 s.x, .int .i64 s.y, .int .i64 s.c, .slice none 0 0] 32)).rowIs (w.heap.size + 1) 32 5 (fun i => ([Value.int .i64 0, .int .i64 0, .int .i64 0, .int .i64 0, .slice none 0 0] : List Value).getD i undef) := by
    have e := row_new (w.alloc (.cells #[.int .i64 proc, .int .i64 s.x, .int .i64 s.y, .int .i64 s.c, .slice a0 ps.length c0] 32)) [.int .i64 0, .int .i64 0, .int .i64 0, .int .i64 0, .slice none 0 0] 32
    have hs : (w.alloc (.cells #[.int .i64 proc, .int .i64 s.x, .int .i64 s.y, .int .i64 s.c, .slice a0 ps.length c0] 32)).heap.size = w.heap.size + 1 := by simp
    rw [hs] at e
    exact e.of_block (((Below.refl _ _).alloc (Nat.le_refl _) _).block (w.heap.size + 1) (by simp))
  have rL : (((w.alloc (.cells #[.int .i64 proc, .int .i64 s.x, .int .i64 s.y, .int .i64 s.c, .slice a0 ps.length c0] 32)).alloc (.cells #[.int .i64 0, .int .i64 0, .int .i64 0, .int .i64 0, .slice none 0 0] 32)).alloc (.cells #[.int .i64 proc, .int .i64 s.x, .int .i64 s.y, .int .i64 s.c, .slice none 0 0] 32)).rowIs (w.heap.size + 2) 32 5 (fun i => (laneCells proc s (.slice none 0 0)).getD i undef) := by
    have e := row_new ((w.alloc (.cells #[.int .i64 proc, .int .i64 s.x, .int .i64 s.y, .int .i64 s.c, .slice a0 ps.length c0] 32)).alloc (.cells #[.int .i64 0, .int .i64 0, .int .i64 0, .int .i64 0, .slice none 0 0] 32)) (laneCells proc s (.slice none 0 0)) 32
    have hs : ((w.alloc (.cells #[.int .i64 proc, .int .i64 s.x, .int .i64 s.y, .int .i64 s.c, .slice a0 ps.length c0] 32)).alloc (.cells #[.int .i64 0, .int .i64 0, .int .i64 0, .int .i64 0, .slice none 0 0] 32)).heap.size = w.heap.size + 2 := by simp
    rw [hs] at e
    exact e
  have HB2 := hide hb2
  have HA := hide cA
  have HRR := hide rR
  have HRL := hide rL
  clear hb2 cA rR rL hcc hl
  go_enter Try.func57, Try.ntmps57
  go_upto_region 2 with fail
  generalize (((w.alloc (.cells #[.int .i64 proc, .int .i64 s.x, .int .i64 s.y, .int .i64 s.c, .slice a0 ps.length c0] 32)).alloc (.cells #[.int .i64 0, .int .i64 0, .int .i64 0, .int .i64 0, .slice none 0 0] 32)).alloc (.cells #[.int .i64 proc, .int .i64 s.x, .int .i64 s.y, .int .i64 s.c, .slice none 0 0] 32)) = X at *
  go_wp2_with fail
  go_loopw [8] (fun l wr => ∃ (k : Nat) (va : Option Addr) (vc : Nat) (us : List (Value × Value)), a + k ≤ b ∧ l = .int .i64 ((a + k : Nat) : Int) ∧ Hid (Taken (w.heap.size + 3) wr (w.heap.size + 2) proc s (.slice va k vc) us ((ps.take (a + k)).drop a)) ∧ Hid (wr.rowIs (w.heap.size + 1) 32 5 (fun i => ([Value.int .i64 0, .int .i64 0, .int .i64 0, .int .i64 0, .slice none 0 0] : List Value).getD i undef)) ∧ Hid (CellsAt wr w.heap.size 0 (laneCells proc s (.slice a0 ps.length c0))) ∧ Hid (Below w.heap.size w wr)) (fun l _ => b - (intOf l).toNat)
  case atStart =>
    refine ⟨0, none, 0, [], by omega, by simp, hide ⟨unhide HRL, Or.inl ⟨rfl, ?_, rfl⟩, by simp [blocksOf, Value.ownBlock]⟩, HRR, HA, HB2⟩
    simp
  case round =>
    obtain ⟨k, va, vc, us, hk, rfl, HT, HRES, HBX, HB⟩ := hrel
    have hsz : w.heap.size + 3 ≤ wr.heap.size := by have h1 := (unhide HT).row.lt; omega
    have n4 : wr.cell? ⟨w.heap.size, 4, none⟩ = some (.slice a0 ps.length c0) := (unhide HBX) 4 (by simp)
    by_cases hlt : a + k < b
    · have hltp : a + k < ps.length := by omega
      have hI1 : ((a + k : Nat) : Int) < (b : Int) := by omega
      have hI2 : ((a + k : Nat) : Int) < (ps.length : Int) := by omega
      have hI0 : (0 : Int) ≤ ((a + k : Nat) : Int) := by omega
      obtain ⟨bb, off, vs, vo, had, hcl, hpa⟩ : ∃ b off vs vo, a0 = some ⟨b, off, none⟩ ∧ CellsAt wr b (off + (a + k) * 12) (pastCells ps[a + k] vs vo) ∧ PastAt wr vs vo ps[a + k] := by
        rcases unhide HC with h | ⟨b, off, h1, h2⟩
        · rw [h] at hltp; exact absurd hltp (Nat.not_lt_zero _)
        · obtain ⟨vs, vo, h3, h4⟩ := h2 (a + k) hltp
          exact ⟨b, off, vs, vo, h1, h3.on (unhide HB), h4.on (unhide HB)⟩
      subst had
      have hlp := (unhide HL) ps[a + k] (List.getElem_mem hltp)
      have HTK : Hid ((ps.take (a + (k + 1))).drop a = (ps.take (a + k)).drop a ++ [ps[a + k]]) := hide (by
        rw [show a + (k + 1) = a + k + 1 by omega, take_more ps (a + k) hltp, List.drop_append_of_le_length (by simp; omega)])
      obtain ⟨p, hpe⟩ : ∃ p, p = ps[a + k] := ⟨_, rfl⟩
      rw [← hpe] at hcl hpa hlp HTK
      clear hpe
      obtain ⟨a1, c1, e1, _⟩ := hpa.s
      obtain ⟨a2, c2, e2, _⟩ := hpa.o
      rw [List.length_map] at e1 e2
      subst e1 e2
      have hkl : k ≤ 1048576 := by omega
      generalize hj : a + k = j at *
      have HJ := hide hj
      have q0 : wr.cell? ⟨bb, off + j * 12, none⟩ = some (.int .i64 p.ev.time) := hcl 0 (by simp)
      have q1 : wr.cell? ⟨bb, off + j * 12 + 1, none⟩ = some (.int .i64 p.ev.to) := hcl 1 (by simp)
      have q2 : wr.cell? ⟨bb, off + j * 12 + 2, none⟩ = some (.int .i64 p.ev.src) := hcl 2 (by simp)
      have q3 : wr.cell? ⟨bb, off + j * 12 + 3, none⟩ = some (.int .i64 p.ev.count) := hcl 3 (by simp)
      have q4 : wr.cell? ⟨bb, off + j * 12 + 4, none⟩ = some (.int .i64 p.ev.n) := hcl 4 (by simp)
      have q5 : wr.cell? ⟨bb, off + j * 12 + 5, none⟩ = some (.int .i64 p.ev.kind) := hcl 5 (by simp)
      have q6 : wr.cell? ⟨bb, off + j * 12 + 6, none⟩ = some (.int .i64 p.ev.arg) := hcl 6 (by simp)
      have q7 : wr.cell? ⟨bb, off + j * 12 + 7, none⟩ = some (.int .i64 p.st.x) := hcl 7 (by simp)
      have q8 : wr.cell? ⟨bb, off + j * 12 + 8, none⟩ = some (.int .i64 p.st.y) := hcl 8 (by simp)
      have q9 : wr.cell? ⟨bb, off + j * 12 + 9, none⟩ = some (.int .i64 p.st.c) := hcl 9 (by simp)
      have q10 : wr.cell? ⟨bb, off + j * 12 + 10, none⟩ = some (.slice a1 p.sends.length c1) := hcl 10 (by simp)
      have q11 : wr.cell? ⟨bb, off + j * 12 + 11, none⟩ = some (.slice a2 p.outs.length c2) := hcl 11 (by simp)
      have hbY : Below wr.heap.size wr (wr.alloc (.cells #[.int .i64 p.ev.time, .int .i64 p.ev.to, .int .i64 p.ev.src, .int .i64 p.ev.count, .int .i64 p.ev.n, .int .i64 p.ev.kind, .int .i64 p.ev.arg, .int .i64 p.st.x, .int .i64 p.st.y, .int .i64 p.st.c, .slice a1 p.sends.length c1, .slice a2 p.outs.length c2] 65)) := (Below.refl _ _).alloc (Nat.le_refl _) _
      have HLC := hide (cellsAt_new wr (pastCells p (.slice a1 p.sends.length c1) (.slice a2 p.outs.length c2)) 65)
      have HPY := hide (hpa.on hbY)
      have HY := hide hbY
      have HKD : Hid ((wr.alloc (.cells #[.int .i64 p.ev.time, .int .i64 p.ev.to, .int .i64 p.ev.src, .int .i64 p.ev.count, .int .i64 p.ev.n, .int .i64 p.ev.kind, .int .i64 p.ev.arg, .int .i64 p.st.x, .int .i64 p.st.y, .int .i64 p.st.c, .slice a1 p.sends.length c1, .slice a2 p.outs.length c2] 65)).cell? ⟨w.heap.size + 2, 4, none⟩ = some (.slice va k vc)) := hide (cell_on hbY ((unhide HT).row.cell (i := 4) (by omega)))
      have hsY : wr.heap.size < (wr.alloc (.cells #[.int .i64 p.ev.time, .int .i64 p.ev.to, .int .i64 p.ev.src, .int .i64 p.ev.count, .int .i64 p.ev.n, .int .i64 p.ev.kind, .int .i64 p.ev.arg, .int .i64 p.st.x, .int .i64 p.st.y, .int .i64 p.st.c, .slice a1 p.sends.length c1, .slice a2 p.outs.length c2] 65)).heap.size := by simp
      have HSY := hide hsY
      clear hcl hpa hbY hj hsY
      go_upto_region 6 with fail
      clear q0 q1 q2 q3 q4 q5 q6 q7 q8 q9 q10 q11
      generalize (wr.alloc (.cells #[.int .i64 p.ev.time, .int .i64 p.ev.to, .int .i64 p.ev.src, .int .i64 p.ev.count, .int .i64 p.ev.n, .int .i64 p.ev.kind, .int .i64 p.ev.arg, .int .i64 p.st.x, .int .i64 p.st.y, .int .i64 p.st.c, .slice a1 p.sends.length c1, .slice a2 p.outs.length c2] 65)) = Y at *
      have hrY : wr.heap.size < Y.heap.size := unhide HSY
      have kd := unhide HKD
      clear n4
      refine wp_region_last (L := 18) (S := fun w' : World => w'.cell? ⟨w.heap.size + 2, 4, none⟩ = some (.slice va k vc) ∧ w'.cell? ⟨wr.heap.size, 0, none⟩ = some (.int .i64 p.ev.time) ∧ w'.cell? ⟨wr.heap.size, 1, none⟩ = some (.int .i64 p.ev.to) ∧ w'.cell? ⟨wr.heap.size, 2, none⟩ = some (.int .i64 p.ev.src) ∧ w'.cell? ⟨wr.heap.size, 3, none⟩ = some (.int .i64 p.ev.count) ∧ w'.cell? ⟨wr.heap.size, 4, none⟩ = some (.int .i64 p.ev.n) ∧ w'.cell? ⟨wr.heap.size, 5, none⟩ = some (.int .i64 p.ev.kind) ∧ w'.cell? ⟨wr.heap.size, 6, none⟩ = some (.int .i64 p.ev.arg) ∧ w'.cell? ⟨wr.heap.size, 7, none⟩ = some (.int .i64 p.st.x) ∧ w'.cell? ⟨wr.heap.size, 8, none⟩ = some (.int .i64 p.st.y) ∧ w'.cell? ⟨wr.heap.size, 9, none⟩ = some (.int .i64 p.st.c) ∧ w'.cell? ⟨wr.heap.size, 10, none⟩ = some (.slice a1 p.sends.length c1) ∧ w'.cell? ⟨wr.heap.size, 11, none⟩ = some (.slice a2 p.outs.length c2)) (by kernel_rfl) ?_
      have hHeld : (fun w' : World => w'.cell? ⟨w.heap.size + 2, 4, none⟩ = some (.slice va k vc) ∧ w'.cell? ⟨wr.heap.size, 0, none⟩ = some (.int .i64 p.ev.time) ∧ w'.cell? ⟨wr.heap.size, 1, none⟩ = some (.int .i64 p.ev.to) ∧ w'.cell? ⟨wr.heap.size, 2, none⟩ = some (.int .i64 p.ev.src) ∧ w'.cell? ⟨wr.heap.size, 3, none⟩ = some (.int .i64 p.ev.count) ∧ w'.cell? ⟨wr.heap.size, 4, none⟩ = some (.int .i64 p.ev.n) ∧ w'.cell? ⟨wr.heap.size, 5, none⟩ = some (.int .i64 p.ev.kind) ∧ w'.cell? ⟨wr.heap.size, 6, none⟩ = some (.int .i64 p.ev.arg) ∧ w'.cell? ⟨wr.heap.size, 7, none⟩ = some (.int .i64 p.st.x) ∧ w'.cell? ⟨wr.heap.size, 8, none⟩ = some (.int .i64 p.st.y) ∧ w'.cell? ⟨wr.heap.size, 9, none⟩ = some (.int .i64 p.st.c) ∧ w'.cell? ⟨wr.heap.size, 10, none⟩ = some (.slice a1 p.sends.length c1) ∧ w'.cell? ⟨wr.heap.size, 11, none⟩ = some (.slice a2 p.outs.length c2)) Y.drew := ⟨cell_on (Below.refl _ _).drew kd, ((unhide HLC).on (Below.refl _ _).drew) 0 (by simp), ((unhide HLC).on (Below.refl _ _).drew) 1 (by simp), ((unhide HLC).on (Below.refl _ _).drew) 2 (by simp), ((unhide HLC).on (Below.refl _ _).drew) 3 (by simp), ((unhide HLC).on (Below.refl _ _).drew) 4 (by simp), ((unhide HLC).on (Below.refl _ _).drew) 5 (by simp), ((unhide HLC).on (Below.refl _ _).drew) 6 (by simp), ((unhide HLC).on (Below.refl _ _).drew) 7 (by simp), ((unhide HLC).on (Below.refl _ _).drew) 8 (by simp), ((unhide HLC).on (Below.refl _ _).drew) 9 (by simp), ((unhide HLC).on (Below.refl _ _).drew) 10 (by simp), ((unhide HLC).on (Below.refl _ _).drew) 11 (by simp)⟩
      refine wpAnyL_take (i := 0) (v := ?_) (by kernel_rfl) rfl (by kernel_rfl) (by kernel_rfl) (by kernel_rfl) (fun _ _ _ h => h) hHeld (Or.inl ⟨by kernel_rfl, ?_⟩) ?_
      rotate_left
      · (intro w hSw; (try dsimp only at hSw); obtain ⟨s0, s1, s2, s3, s4, s5, s6, s7, s8, s9, s10, s11, s12⟩ := hSw; go_simp; try with_reducible rfl)
      refine wpAnyL_take (i := 1) (v := ?_) (by kernel_rfl) rfl (by kernel_rfl) (by kernel_rfl) (by kernel_rfl) (fun _ _ _ h => h) hHeld (Or.inl ⟨by kernel_rfl, ?_⟩) ?_
      rotate_left
      · (intro w hSw; (try dsimp only at hSw); obtain ⟨s0, s1, s2, s3, s4, s5, s6, s7, s8, s9, s10, s11, s12⟩ := hSw; go_simp; try with_reducible rfl)
      refine wpAnyL_take (i := 2) (v := ?_) (by kernel_rfl) rfl (by kernel_rfl) (by kernel_rfl) (by kernel_rfl) (fun _ _ _ h => h) hHeld (Or.inl ⟨by kernel_rfl, ?_⟩) ?_
      rotate_left
      · (intro w hSw; (try dsimp only at hSw); obtain ⟨s0, s1, s2, s3, s4, s5, s6, s7, s8, s9, s10, s11, s12⟩ := hSw; go_simp; try with_reducible rfl)
      refine wpAnyL_take (i := 3) (v := ?_) (by kernel_rfl) rfl (by kernel_rfl) (by kernel_rfl) (by kernel_rfl) (fun _ _ _ h => h) hHeld (Or.inl ⟨by kernel_rfl, ?_⟩) ?_
      rotate_left
      · (intro w hSw; (try dsimp only at hSw); obtain ⟨s0, s1, s2, s3, s4, s5, s6, s7, s8, s9, s10, s11, s12⟩ := hSw; go_simp; try with_reducible rfl)
      refine wpAnyL_take (i := 4) (v := ?_) (by kernel_rfl) rfl (by kernel_rfl) (by kernel_rfl) (by kernel_rfl) (fun _ _ _ h => h) hHeld (Or.inl ⟨by kernel_rfl, ?_⟩) ?_
      rotate_left
      · (intro w hSw; (try dsimp only at hSw); obtain ⟨s0, s1, s2, s3, s4, s5, s6, s7, s8, s9, s10, s11, s12⟩ := hSw; go_simp; try with_reducible rfl)
      refine wpAnyL_take (i := 5) (v := ?_) (by kernel_rfl) rfl (by kernel_rfl) (by kernel_rfl) (by kernel_rfl) (fun _ _ _ h => h) hHeld (Or.inl ⟨by kernel_rfl, ?_⟩) ?_
      rotate_left
      · (intro w hSw; (try dsimp only at hSw); obtain ⟨s0, s1, s2, s3, s4, s5, s6, s7, s8, s9, s10, s11, s12⟩ := hSw; go_simp; try with_reducible rfl)
      refine wpAnyL_take (i := 7) (v := ?_) (by kernel_rfl) rfl (by kernel_rfl) (by kernel_rfl) (by kernel_rfl) (fun _ _ _ h => h) hHeld (Or.inl ⟨by kernel_rfl, ?_⟩) ?_
      rotate_left
      · (intro w hSw; (try dsimp only at hSw); obtain ⟨s0, s1, s2, s3, s4, s5, s6, s7, s8, s9, s10, s11, s12⟩ := hSw; go_simp; try with_reducible rfl)
      refine wpAnyL_take (i := 8) (v := ?_) (by kernel_rfl) rfl (by kernel_rfl) (by kernel_rfl) (by kernel_rfl) (fun _ _ _ h => h) hHeld (Or.inl ⟨by kernel_rfl, ?_⟩) ?_
      rotate_left
      · (intro w hSw; (try dsimp only at hSw); obtain ⟨s0, s1, s2, s3, s4, s5, s6, s7, s8, s9, s10, s11, s12⟩ := hSw; go_simp; try with_reducible rfl)
      refine wpAnyL_take (i := 11) (v := ?_) (by kernel_rfl) rfl (by kernel_rfl) (by kernel_rfl) (by kernel_rfl) (fun _ _ _ h => h) hHeld (Or.inl ⟨by kernel_rfl, ?_⟩) ?_
      rotate_left
      · (intro w hSw; (try dsimp only at hSw); obtain ⟨s0, s1, s2, s3, s4, s5, s6, s7, s8, s9, s10, s11, s12⟩ := hSw; go_simp; try with_reducible rfl)
      refine wpAnyL_take (i := 12) (v := ?_) (by kernel_rfl) rfl (by kernel_rfl) (by kernel_rfl) (by kernel_rfl) (fun _ _ _ h => h) hHeld (Or.inl ⟨by kernel_rfl, ?_⟩) ?_
      rotate_left
      · (intro w hSw; (try dsimp only at hSw); obtain ⟨s0, s1, s2, s3, s4, s5, s6, s7, s8, s9, s10, s11, s12⟩ := hSw; go_simp; try with_reducible rfl)
      refine wpAnyL_two (i := 6) (j := 10) (by kernel_rfl) rfl rfl (fun K hK => ?_) (fun K hK => ?_)
      · go_simp
        have hb6 : Below Y.heap.size Y (Y.alloc (.cells #[] 41)).drew := ((Below.refl _ _).alloc (Nat.le_refl _) _).drew
        have own6 : (Y.alloc (.cells #[] 41)).drew.ownsRow Y.heap.size 41 7 (.slice (some ⟨Y.heap.size, 0, none⟩) 0 0) 0 [] := ownsOn ((Below.refl _ _).drew) (World.ownsRow_made Y #[] 0 (Nat.le_refl _) (Nat.zero_le _) rfl)
        (try go_simp)
        refine held_on hK ?_ (fun hHeld => ?_)
        · exact ⟨cell_on hb6 kd, ((unhide HLC).on hb6) 0 (by simp), ((unhide HLC).on hb6) 1 (by simp), ((unhide HLC).on hb6) 2 (by simp), ((unhide HLC).on hb6) 3 (by simp), ((unhide HLC).on hb6) 4 (by simp), ((unhide HLC).on hb6) 5 (by simp), ((unhide HLC).on hb6) 6 (by simp), ((unhide HLC).on hb6) 7 (by simp), ((unhide HLC).on hb6) 8 (by simp), ((unhide HLC).on hb6) 9 (by simp), ((unhide HLC).on hb6) 10 (by simp), ((unhide HLC).on hb6) 11 (by simp)⟩
        clear hK K
        refine wpAnyL_two (i := 9) (j := 10) (by kernel_rfl) rfl rfl (fun K hK => ?_) (fun K hK => ?_)
        · refine step_append_rowsAt ((Y.alloc (.cells #[] 41)).drew) (by rfl) _ _ _ (by rfl) Y.heap.size 41 i7 _ 7 56 slice_cpEvent hi7 hz70 hz71 hz72 (by rfl) (by omega) _ 0 [] (by rfl) own6 (p.sends.map evRow) _ (by rfl) ((unhide HPY).s.on hb6) (rowlenEvent p.sends) (by rw [List.length_map]; unfold maxLen; omega) (by rw [List.length_map]; omega) (hb6).size ?_
          intro ve w9 howne hgrowe hate
          obtain ⟨ua, uc, hve⟩ : ∃ a c, ve = .slice a p.sends.length c := by
            have e := howne
            rw [Nat.zero_add, List.nil_append] at e
            obtain ⟨a, c, h⟩ := RowsFr_sliced (RowsFr.of_owns (rowlenEvent p.sends) e)
            exact ⟨a, c, by rw [h, List.length_map]⟩
          subst hve
          have hb9 : Below Y.heap.size Y w9 := Below.grown hb6 hgrowe hb6.size (fun b hb => by simp [Value.ownBlock] at hb; omega)
          have hl9 : ∀ b, (Value.slice ua p.sends.length uc).ownBlock = some b → b < w9.heap.size := fun b hb => (howne.lt b hb).2
          (try go_simp)
          refine held_on hK ?_ (fun hHeld => ?_)
          · exact ⟨cell_on hb9 kd, ((unhide HLC).on hb9) 0 (by simp), ((unhide HLC).on hb9) 1 (by simp), ((unhide HLC).on hb9) 2 (by simp), ((unhide HLC).on hb9) 3 (by simp), ((unhide HLC).on hb9) 4 (by simp), ((unhide HLC).on hb9) 5 (by simp), ((unhide HLC).on hb9) 6 (by simp), ((unhide HLC).on hb9) 7 (by simp), ((unhide HLC).on hb9) 8 (by simp), ((unhide HLC).on hb9) 9 (by simp), ((unhide HLC).on hb9) 10 (by simp), ((unhide HLC).on hb9) 11 (by simp)⟩
          clear hK K
          refine wpAnyL_one (i := 10) (by kernel_rfl) rfl (fun K hK => ?_)
          go_simp
          have hb10 : Below Y.heap.size Y (w9.alloc (.cells #[] 92)) := below_then hb9 ((Below.refl _ _).alloc (Nat.le_refl _) _)
          have own10 : (w9.alloc (.cells #[] 92)).ownsRow Y.heap.size 92 5 (.slice (some ⟨w9.heap.size, 0, none⟩) 0 0) 0 [] := World.ownsRow_made w9 #[] 0 hb9.size (Nat.zero_le _) rfl
          (try go_simp)
          refine held_on hK ?_ (fun hHeld => ?_)
          · exact ⟨cell_on hb10 kd, ((unhide HLC).on hb10) 0 (by simp), ((unhide HLC).on hb10) 1 (by simp), ((unhide HLC).on hb10) 2 (by simp), ((unhide HLC).on hb10) 3 (by simp), ((unhide HLC).on hb10) 4 (by simp), ((unhide HLC).on hb10) 5 (by simp), ((unhide HLC).on hb10) 6 (by simp), ((unhide HLC).on hb10) 7 (by simp), ((unhide HLC).on hb10) 8 (by simp), ((unhide HLC).on hb10) 9 (by simp), ((unhide HLC).on hb10) 10 (by simp), ((unhide HLC).on hb10) 11 (by simp)⟩
          clear hK K
          refine wpAnyL_one (i := 13) (by kernel_rfl) rfl (fun K hK => ?_)
          refine step_append_rowsAt (w9.alloc (.cells #[] 92)) (by rfl) _ _ _ (by rfl) Y.heap.size 92 i5 _ 5 40 slice_cpOut hi5 hz50 hz51 hz52 (by rfl) (by omega) _ 0 [] (by rfl) own10 (p.outs.map outRow) _ (by rfl) ((unhide HPY).o.on hb10) (rowlenOut p.outs) (by rw [List.length_map]; unfold maxLen; omega) (by rw [List.length_map]; omega) (hb10).size ?_
          intro vo2 wz howno hgrowo hato
          obtain ⟨oa, oc, hvo⟩ : ∃ a c, vo2 = .slice a p.outs.length c := by
            have e := howno
            rw [Nat.zero_add, List.nil_append] at e
            obtain ⟨a, c, h⟩ := RowsFr_sliced (RowsFr.of_owns (rowlenOut p.outs) e)
            exact ⟨a, c, by rw [h, List.length_map]⟩
          subst hvo
          have hbz : Below Y.heap.size Y wz := Below.grown hb10 hgrowo hb10.size (fun b hb => by simp [Value.ownBlock] at hb; have := hb9.size; omega)
          have hBL : BothL Y wz p (.slice ua p.sends.length uc) (.slice oa p.outs.length oc) := both_of (re := none) (ro := none) howne howno (fun b hb => (hgrowo.block b (by have := hl9 b hb; simp; omega) (fun e => by simp [Value.ownBlock] at e; have := hl9 b hb; omega)).trans (((Below.refl _ _).alloc (Nat.le_refl _) _).block b (hl9 b hb))) (fun b h1 h2 => by have h3 := hl9 b h1; rcases hato with h4 | h4 <;> rw [h4] at h2 <;> simp [Value.ownBlock] at h2 <;> omega) hbz
          (try go_simp)
          refine held_on hK ?_ (fun hHeld => ?_)
          · exact ⟨cell_on hbz kd, ((unhide HLC).on hbz) 0 (by simp), ((unhide HLC).on hbz) 1 (by simp), ((unhide HLC).on hbz) 2 (by simp), ((unhide HLC).on hbz) 3 (by simp), ((unhide HLC).on hbz) 4 (by simp), ((unhide HLC).on hbz) 5 (by simp), ((unhide HLC).on hbz) 6 (by simp), ((unhide HLC).on hbz) 7 (by simp), ((unhide HLC).on hbz) 8 (by simp), ((unhide HLC).on hbz) 9 (by simp), ((unhide HLC).on hbz) 10 (by simp), ((unhide HLC).on hbz) 11 (by simp)⟩
          clear hK K
          have HF := hide hBL.fr
          have HAP := hide hBL.ap
          have HZ := hide hBL.be
          clear hBL
          clear howne hgrowe hate howno hgrowo hato hbz hb10 own10 hb9 hl9 hb6 own6
          refine wpAnyL_one (i := 14) (by kernel_rfl) rfl (fun K hK => ?_)
          go_simp
          refine held_on hK ?_ (fun hHeld => ?_)
          · exact hHeld
          clear hK K
          have hbA : Below Y.heap.size Y (wz.alloc (.cells #[.int .i64 p.ev.time, .int .i64 p.ev.to, .int .i64 p.ev.src, .int .i64 p.ev.count, .int .i64 p.ev.n, .int .i64 p.ev.kind, .int .i64 p.ev.arg, .int .i64 p.st.x, .int .i64 p.st.y, .int .i64 p.st.c, .slice ua p.sends.length uc, .slice oa p.outs.length oc] 65)) := below_then (unhide HZ) ((Below.refl _ _).alloc (Nat.le_refl _) _)
          have HYA := hide hbA
          have HBA := hide (below_then (unhide HY) hbA)
          clear hbA
          refine wpAnyL_one (i := 15) (by kernel_rfl) rfl (fun K hK => ?_)
          go_simp
          refine held_on hK ?_ (fun hHeld => ?_)
          · exact ⟨cell_on (unhide HYA) kd, ((unhide HLC).on (unhide HYA)) 0 (by simp), ((unhide HLC).on (unhide HYA)) 1 (by simp), ((unhide HLC).on (unhide HYA)) 2 (by simp), ((unhide HLC).on (unhide HYA)) 3 (by simp), ((unhide HLC).on (unhide HYA)) 4 (by simp), ((unhide HLC).on (unhide HYA)) 5 (by simp), ((unhide HLC).on (unhide HYA)) 6 (by simp), ((unhide HLC).on (unhide HYA)) 7 (by simp), ((unhide HLC).on (unhide HYA)) 8 (by simp), ((unhide HLC).on (unhide HYA)) 9 (by simp), ((unhide HLC).on (unhide HYA)) 10 (by simp), ((unhide HLC).on (unhide HYA)) 11 (by simp)⟩
          clear hK K
          have HLTK : Hid (((ps.take j).drop a).length = k) := hide (by have := unhide HJ; simp; omega)
          have hownA : (wz.alloc (.cells #[.int .i64 p.ev.time, .int .i64 p.ev.to, .int .i64 p.ev.src, .int .i64 p.ev.count, .int .i64 p.ev.n, .int .i64 p.ev.kind, .int .i64 p.ev.arg, .int .i64 p.st.x, .int .i64 p.st.y, .int .i64 p.st.c, .slice ua p.sends.length uc, .slice oa p.outs.length oc] 65)).ownsRow (w.heap.size + 3) 65 12 (.slice va k vc) k (flatP us ((ps.take j).drop a)) := by
            have e := ownsOn (unhide HBA) (unhide HT).list.owns.2
            rwa [unhide HLTK] at e
          refine wpAnyL_one (i := 16) (by kernel_rfl) rfl (fun K hK => ?_)
          refine step_append_lies _ (by rfl) _ _ _ (by rfl) (w.heap.size + 3) 65 i12 _ 12 128 slice_cpPast hi12 hz0 hz1 hz2 (by rfl) (by omega) (.slice va k vc) k (flatP us ((ps.take j).drop a)) (by rfl) hownA ⟨wz.heap.size, 0, none⟩ 1 1 (pastCells p (.slice ua p.sends.length uc) (.slice oa p.outs.length oc)) (by rfl) (by rfl) (World.news_of_block (cs := #[.int .i64 p.ev.time, .int .i64 p.ev.to, .int .i64 p.ev.src, .int .i64 p.ev.count, .int .i64 p.ev.n, .int .i64 p.ev.kind, .int .i64 p.ev.arg, .int .i64 p.st.x, .int .i64 p.st.y, .int .i64 p.st.c, .slice ua p.sends.length uc, .slice oa p.outs.length oc]) (t := 65) (fr := (0, 0)) (heap_alloc_new wz _)) (by simp [Value.oneCell']) (by omega) (by unfold maxLen; omega) (by omega) (by have h1 := (unhide HBA).size; omega) (wz.alloc (.cells #[.int .i64 p.ev.time, .int .i64 p.ev.to, .int .i64 p.ev.src, .int .i64 p.ev.count, .int .i64 p.ev.n, .int .i64 p.ev.kind, .int .i64 p.ev.arg, .int .i64 p.st.x, .int .i64 p.st.y, .int .i64 p.st.c, .slice ua p.sends.length uc, .slice oa p.outs.length oc] 65)).heap.size rfl ?_
          intro g3 cap3 w8 hown8 hgrow8 hat8 hlt8
          have hown9 : w8.ownsRow (w.heap.size + 3) 65 12 (.slice (some ⟨g3, 0, none⟩) (((ps.take j).drop a).length + 1) cap3) (((ps.take j).drop a).length + 1) (flatP us ((ps.take j).drop a) ++ pastCells p (.slice ua p.sends.length uc) (.slice oa p.outs.length oc)) := by
            rw [unhide HLTK]; exact hown8
          have hsn := pasts_snoc (unhide HT).list (unhide HT).nd (Nat.le_refl _) (by omega) (unhide HBA) (K := wr.heap.size) (Nat.le_refl _) (((unhide HF).less (unhide HY).size).on ((Below.refl _ _).alloc (Nat.le_refl _) _)) (unhide HAP) hgrow8 hown9 hat8 hlt8
          rw [← unhide HTK, show ((ps.take (a + (k + 1))).drop a).length = k + 1 by have := unhide HJ; simp; omega] at hsn
          have hrowb : ∀ b, b < w.heap.size + 3 → w8.heap[b]? = wr.heap[b]? := fun b hb => by
            rw [hgrow8.block b (by have h1 := (unhide HBA).size; omega) (fun e => by have := ((unhide HT).list.blk b e.symm).1; omega), (unhide HBA).block b (by omega)]
          have hrowr : w8.heap[wr.heap.size]? = Y.heap[wr.heap.size]? := by
            rw [hgrow8.block wr.heap.size (by have h1 := (unhide HYA).size; omega) (fun e => by have := ((unhide HT).list.blk wr.heap.size e.symm).2; omega), (unhide HYA).block wr.heap.size hrY]
          have hB8 : Below w.heap.size w w8 := Below.grown (below_then (unhide HB) (unhide HBA)) hgrow8 (by have h1 := (unhide HBA).size; omega) (fun b hb => by have := ((unhide HT).list.blk b hb).1; omega)
          have HSN := hide hsn
          have HB8 := hide hB8
          have hr8 := (unhide HT).row.of_block (hrowb (w.heap.size + 2) (by omega))
          have hs8 := (unhide HRES).of_block (hrowb (w.heap.size + 1) (by omega))
          have HBX8 : Hid (CellsAt w8 w.heap.size 0 (laneCells proc s (.slice (some ⟨bb, off, none⟩) ps.length c0))) := hide (fun j hj => (World.cell?_of_block (a := ⟨w.heap.size, 0 + j, none⟩) (hrowb w.heap.size (by omega))).trans ((unhide HBX) j hj))
          have k8 : w8.cell? ⟨w.heap.size + 2, 4, none⟩ = some (.slice va k vc) := hr8.cell (i := 4) (by omega)
          have f8 := hr8.frozen 4
          have hc8 : ∀ j u, Y.cell? ⟨wr.heap.size, j, none⟩ = some u → w8.cell? ⟨wr.heap.size, j, none⟩ = some u := fun j u hu => (World.cell?_of_block (a := ⟨wr.heap.size, j, none⟩) hrowr).trans hu
          have HR8 := hide hr8
          have HS8 := hide hs8
          refine held_on hK ?_ (fun hHeld => ?_)
          · exact ⟨k8, hc8 0 _ ((unhide HLC) 0 (by simp)), hc8 1 _ ((unhide HLC) 1 (by simp)), hc8 2 _ ((unhide HLC) 2 (by simp)), hc8 3 _ ((unhide HLC) 3 (by simp)), hc8 4 _ ((unhide HLC) 4 (by simp)), hc8 5 _ ((unhide HLC) 5 (by simp)), hc8 6 _ ((unhide HLC) 6 (by simp)), hc8 7 _ ((unhide HLC) 7 (by simp)), hc8 8 _ ((unhide HLC) 8 (by simp)), hc8 9 _ ((unhide HLC) 9 (by simp)), hc8 10 _ ((unhide HLC) 10 (by simp)), hc8 11 _ ((unhide HLC) 11 (by simp))⟩
          clear hK K hsn hrowb hrowr hB8 hr8 hs8 hown8 hown9 hgrow8 hat8 hlt8 hownA hc8
          refine wpAnyL_one (i := 17) (by kernel_rfl) rfl (fun K hK => ?_)
          go_simp
          refine held_on hK ?_ (fun hHeld => ?_)
          · exact hHeld
          clear hK K
          refine wpAnyL_end (by kernel_rfl) rfl (fun K hK => ?_)
          go_simp
          refine hK.out _ _ ?_
          clear hK K hHeld
          refine wpAnyL_done (by kernel_rfl) ?_ _
          have HT2 : Hid (Taken (w.heap.size + 3) (w8.setCell ⟨w.heap.size + 2, 4, none⟩ (.slice (some ⟨g3, 0, none⟩) (k + 1) cap3)) (w.heap.size + 2) proc s (.slice (some ⟨g3, 0, none⟩) (k + 1) cap3) (us ++ [(.slice ua p.sends.length uc, .slice oa p.outs.length oc)]) ((ps.take (a + (k + 1))).drop a)) := hide (by
            refine ⟨((unhide HR8).set 4 _).congr (fun i hi => ?_), ?_, (unhide HSN).2⟩
            · show (if i = 4 then _ else _) = _
              match i, hi with
              | 0, _ => rfl
              | 1, _ => rfl
              | 2, _ => rfl
              | 3, _ => rfl
              | 4, _ => rfl
            · have h1 := (unhide HSN).1
              rw [show (w8.setCell ⟨w.heap.size + 2, 4, none⟩ (.slice (some ⟨g3, 0, none⟩) (k + 1) cap3)).heap.size = w8.heap.size by simp]
              exact h1.keep (fun b hb _ => Below.heap_setCell w8 ⟨w.heap.size + 2, 4, none⟩ _ b (by show b ≠ w.heap.size + 2; omega)))
          have HS2 := hide ((unhide HS8).of_block (Below.heap_setCell w8 ⟨w.heap.size + 2, 4, none⟩ (.slice (some ⟨g3, 0, none⟩) (k + 1) cap3) (w.heap.size + 1) (by show w.heap.size + 1 ≠ w.heap.size + 2; omega)))
          have HBX2 : Hid (CellsAt (w8.setCell ⟨w.heap.size + 2, 4, none⟩ (.slice (some ⟨g3, 0, none⟩) (k + 1) cap3)) w.heap.size 0 (laneCells proc s (.slice (some ⟨bb, off, none⟩) ps.length c0))) := hide (fun j hj => (World.cell?_of_block (a := ⟨w.heap.size, 0 + j, none⟩) (Below.heap_setCell w8 ⟨w.heap.size + 2, 4, none⟩ _ w.heap.size (by show w.heap.size ≠ w.heap.size + 2; omega))).trans ((unhide HBX8) j hj))
          have HB2 := hide ((unhide HB8).setCell (p := ⟨w.heap.size + 2, 4, none⟩) (by show w.heap.size ≤ w.heap.size + 2; omega) (.slice (some ⟨g3, 0, none⟩) (k + 1) cap3))
          generalize (w8.setCell ⟨w.heap.size + 2, 4, none⟩ (.slice (some ⟨g3, 0, none⟩) (k + 1) cap3)) = w9 at *
          clear k8 f8 kd
          go_wp2_with fail
          go_roundw
          case rel => exact ⟨k + 1, _, _, _, by have := unhide HJ; omega, by rw [show ((a + (k + 1) : Nat) : Int) = (j : Int) + 1 by have := unhide HJ; omega], HT2, HS2, HBX2, HB2⟩
          case measure => (simp [intOf]; omega)
        · go_simp
          have hbW : Below Y.heap.size Y ((Y.alloc (.cells #[] 41)).alloc (.cells #[] 92)).drew := (((Below.refl _ _).alloc (Nat.le_refl _) _).alloc (by simp) _).drew
          have ownE : ((Y.alloc (.cells #[] 41)).alloc (.cells #[] 92)).drew.ownsRow Y.heap.size 41 7 (.slice (some ⟨Y.heap.size, 0, none⟩) 0 0) 0 [] := ownsOn ((Below.refl _ _).drew) ((World.ownsRow_made Y #[] 0 (Nat.le_refl _) (Nat.zero_le _) rfl).alloc _)
          have ownO : ((Y.alloc (.cells #[] 41)).alloc (.cells #[] 92)).drew.ownsRow Y.heap.size 92 5 (.slice (some ⟨Y.heap.size + 1, 0, none⟩) 0 0) 0 [] := by
            have e := World.ownsRow_made (base := Y.heap.size) (e := 92) (size := 5) (Y.alloc (.cells #[] 41)) #[] 0 (by simp) (Nat.zero_le _) rfl
            rw [show (Y.alloc (.cells #[] 41)).heap.size = Y.heap.size + 1 by simp] at e
            exact ownsOn ((Below.refl _ _).drew) e
          (try go_simp)
          refine held_on hK ?_ (fun hHeld => ?_)
          · exact ⟨cell_on hbW kd, ((unhide HLC).on hbW) 0 (by simp), ((unhide HLC).on hbW) 1 (by simp), ((unhide HLC).on hbW) 2 (by simp), ((unhide HLC).on hbW) 3 (by simp), ((unhide HLC).on hbW) 4 (by simp), ((unhide HLC).on hbW) 5 (by simp), ((unhide HLC).on hbW) 6 (by simp), ((unhide HLC).on hbW) 7 (by simp), ((unhide HLC).on hbW) 8 (by simp), ((unhide HLC).on hbW) 9 (by simp), ((unhide HLC).on hbW) 10 (by simp), ((unhide HLC).on hbW) 11 (by simp)⟩
          clear hK K
          refine wpAnyL_one (i := 9) (by kernel_rfl) rfl (fun K hK => ?_)
          refine step_append_rowsAt (((Y.alloc (.cells #[] 41)).alloc (.cells #[] 92)).drew) (by rfl) _ _ _ (by rfl) Y.heap.size 41 i7 _ 7 56 slice_cpEvent hi7 hz70 hz71 hz72 (by rfl) (by omega) _ 0 [] (by rfl) ownE (p.sends.map evRow) _ (by rfl) ((unhide HPY).s.on hbW) (rowlenEvent p.sends) (by rw [List.length_map]; unfold maxLen; omega) (by rw [List.length_map]; omega) (hbW).size ?_
          intro ve w9 howne hgrowe hate
          obtain ⟨ua, uc, hve⟩ : ∃ a c, ve = .slice a p.sends.length c := by
            have e := howne
            rw [Nat.zero_add, List.nil_append] at e
            obtain ⟨a, c, h⟩ := RowsFr_sliced (RowsFr.of_owns (rowlenEvent p.sends) e)
            exact ⟨a, c, by rw [h, List.length_map]⟩
          subst hve
          have hb9 : Below Y.heap.size Y w9 := Below.grown hbW hgrowe hbW.size (fun b hb => by simp [Value.ownBlock] at hb; omega)
          have hl9 : ∀ b, (Value.slice ua p.sends.length uc).ownBlock = some b → b < w9.heap.size := fun b hb => (howne.lt b hb).2
          have hs9 : Y.heap.size + 2 ≤ w9.heap.size := by have := hgrowe.size; simp at this; omega
          have own9 : w9.ownsRow Y.heap.size 92 5 (.slice (some ⟨Y.heap.size + 1, 0, none⟩) 0 0) 0 [] := ownO.kept hgrowe (Or.inr (by simp [Value.ownBlock]))
          (try go_simp)
          refine held_on hK ?_ (fun hHeld => ?_)
          · exact ⟨cell_on hb9 kd, ((unhide HLC).on hb9) 0 (by simp), ((unhide HLC).on hb9) 1 (by simp), ((unhide HLC).on hb9) 2 (by simp), ((unhide HLC).on hb9) 3 (by simp), ((unhide HLC).on hb9) 4 (by simp), ((unhide HLC).on hb9) 5 (by simp), ((unhide HLC).on hb9) 6 (by simp), ((unhide HLC).on hb9) 7 (by simp), ((unhide HLC).on hb9) 8 (by simp), ((unhide HLC).on hb9) 9 (by simp), ((unhide HLC).on hb9) 10 (by simp), ((unhide HLC).on hb9) 11 (by simp)⟩
          clear hK K
          refine wpAnyL_one (i := 13) (by kernel_rfl) rfl (fun K hK => ?_)
          refine step_append_rowsAt w9 (by rfl) _ _ _ (by rfl) Y.heap.size 92 i5 _ 5 40 slice_cpOut hi5 hz50 hz51 hz52 (by rfl) (by omega) _ 0 [] (by rfl) own9 (p.outs.map outRow) _ (by rfl) ((unhide HPY).o.on hb9) (rowlenOut p.outs) (by rw [List.length_map]; unfold maxLen; omega) (by rw [List.length_map]; omega) (hb9).size ?_
          intro vo2 wz howno hgrowo hato
          obtain ⟨oa, oc, hvo⟩ : ∃ a c, vo2 = .slice a p.outs.length c := by
            have e := howno
            rw [Nat.zero_add, List.nil_append] at e
            obtain ⟨a, c, h⟩ := RowsFr_sliced (RowsFr.of_owns (rowlenOut p.outs) e)
            exact ⟨a, c, by rw [h, List.length_map]⟩
          subst hvo
          have hbz : Below Y.heap.size Y wz := Below.grown hb9 hgrowo hb9.size (fun b hb => by simp [Value.ownBlock] at hb; omega)
          have hne : ∀ b, (Value.slice ua p.sends.length uc).ownBlock = some b → b ≠ Y.heap.size + 1 := fun b hb => by rcases hate with h4 | h4 <;> rw [h4] at hb <;> simp [Value.ownBlock] at hb <;> omega
          have hBL : BothL Y wz p (.slice ua p.sends.length uc) (.slice oa p.outs.length oc) := both_of (re := none) (ro := none) howne howno (fun b hb => hgrowo.block b (hl9 b hb) (fun e => by simp [Value.ownBlock] at e; have := hne b hb; omega)) (fun b h1 h2 => by have h3 := hl9 b h1; have h5 := hne b h1; rcases hato with h4 | h4 <;> rw [h4] at h2 <;> simp [Value.ownBlock] at h2 <;> omega) hbz
          (try go_simp)
          refine held_on hK ?_ (fun hHeld => ?_)
          · exact ⟨cell_on hbz kd, ((unhide HLC).on hbz) 0 (by simp), ((unhide HLC).on hbz) 1 (by simp), ((unhide HLC).on hbz) 2 (by simp), ((unhide HLC).on hbz) 3 (by simp), ((unhide HLC).on hbz) 4 (by simp), ((unhide HLC).on hbz) 5 (by simp), ((unhide HLC).on hbz) 6 (by simp), ((unhide HLC).on hbz) 7 (by simp), ((unhide HLC).on hbz) 8 (by simp), ((unhide HLC).on hbz) 9 (by simp), ((unhide HLC).on hbz) 10 (by simp), ((unhide HLC).on hbz) 11 (by simp)⟩
          clear hK K
          have HF := hide hBL.fr
          have HAP := hide hBL.ap
          have HZ := hide hBL.be
          clear hBL
          clear howne hgrowe hate howno hgrowo hato hbz own9 hb9 hl9 hs9 hne hbW ownE ownO hb6 own6
          refine wpAnyL_one (i := 14) (by kernel_rfl) rfl (fun K hK => ?_)
          go_simp
          refine held_on hK ?_ (fun hHeld => ?_)
          · exact hHeld
          clear hK K
          have hbA : Below Y.heap.size Y (wz.alloc (.cells #[.int .i64 p.ev.time, .int .i64 p.ev.to, .int .i64 p.ev.src, .int .i64 p.ev.count, .int .i64 p.ev.n, .int .i64 p.ev.kind, .int .i64 p.ev.arg, .int .i64 p.st.x, .int .i64 p.st.y, .int .i64 p.st.c, .slice ua p.sends.length uc, .slice oa p.outs.length oc] 65)) := below_then (unhide HZ) ((Below.refl _ _).alloc (Nat.le_refl _) _)
          have HYA := hide hbA
          have HBA := hide (below_then (unhide HY) hbA)
          clear hbA
          refine wpAnyL_one (i := 15) (by kernel_rfl) rfl (fun K hK => ?_)
          go_simp
          refine held_on hK ?_ (fun hHeld => ?_)
          · exact ⟨cell_on (unhide HYA) kd, ((unhide HLC).on (unhide HYA)) 0 (by simp), ((unhide HLC).on (unhide HYA)) 1 (by simp), ((unhide HLC).on (unhide HYA)) 2 (by simp), ((unhide HLC).on (unhide HYA)) 3 (by simp), ((unhide HLC).on (unhide HYA)) 4 (by simp), ((unhide HLC).on (unhide HYA)) 5 (by simp), ((unhide HLC).on (unhide HYA)) 6 (by simp), ((unhide HLC).on (unhide HYA)) 7 (by simp), ((unhide HLC).on (unhide HYA)) 8 (by simp), ((unhide HLC).on (unhide HYA)) 9 (by simp), ((unhide HLC).on (unhide HYA)) 10 (by simp), ((unhide HLC).on (unhide HYA)) 11 (by simp)⟩
          clear hK K
          have HLTK : Hid (((ps.take j).drop a).length = k) := hide (by have := unhide HJ; simp; omega)
          have hownA : (wz.alloc (.cells #[.int .i64 p.ev.time, .int .i64 p.ev.to, .int .i64 p.ev.src, .int .i64 p.ev.count, .int .i64 p.ev.n, .int .i64 p.ev.kind, .int .i64 p.ev.arg, .int .i64 p.st.x, .int .i64 p.st.y, .int .i64 p.st.c, .slice ua p.sends.length uc, .slice oa p.outs.length oc] 65)).ownsRow (w.heap.size + 3) 65 12 (.slice va k vc) k (flatP us ((ps.take j).drop a)) := by
            have e := ownsOn (unhide HBA) (unhide HT).list.owns.2
            rwa [unhide HLTK] at e
          refine wpAnyL_one (i := 16) (by kernel_rfl) rfl (fun K hK => ?_)
          refine step_append_lies _ (by rfl) _ _ _ (by rfl) (w.heap.size + 3) 65 i12 _ 12 128 slice_cpPast hi12 hz0 hz1 hz2 (by rfl) (by omega) (.slice va k vc) k (flatP us ((ps.take j).drop a)) (by rfl) hownA ⟨wz.heap.size, 0, none⟩ 1 1 (pastCells p (.slice ua p.sends.length uc) (.slice oa p.outs.length oc)) (by rfl) (by rfl) (World.news_of_block (cs := #[.int .i64 p.ev.time, .int .i64 p.ev.to, .int .i64 p.ev.src, .int .i64 p.ev.count, .int .i64 p.ev.n, .int .i64 p.ev.kind, .int .i64 p.ev.arg, .int .i64 p.st.x, .int .i64 p.st.y, .int .i64 p.st.c, .slice ua p.sends.length uc, .slice oa p.outs.length oc]) (t := 65) (fr := (0, 0)) (heap_alloc_new wz _)) (by simp [Value.oneCell']) (by omega) (by unfold maxLen; omega) (by omega) (by have h1 := (unhide HBA).size; omega) (wz.alloc (.cells #[.int .i64 p.ev.time, .int .i64 p.ev.to, .int .i64 p.ev.src, .int .i64 p.ev.count, .int .i64 p.ev.n, .int .i64 p.ev.kind, .int .i64 p.ev.arg, .int .i64 p.st.x, .int .i64 p.st.y, .int .i64 p.st.c, .slice ua p.sends.length uc, .slice oa p.outs.length oc] 65)).heap.size rfl ?_
          intro g3 cap3 w8 hown8 hgrow8 hat8 hlt8
          have hown9 : w8.ownsRow (w.heap.size + 3) 65 12 (.slice (some ⟨g3, 0, none⟩) (((ps.take j).drop a).length + 1) cap3) (((ps.take j).drop a).length + 1) (flatP us ((ps.take j).drop a) ++ pastCells p (.slice ua p.sends.length uc) (.slice oa p.outs.length oc)) := by
            rw [unhide HLTK]; exact hown8
          have hsn := pasts_snoc (unhide HT).list (unhide HT).nd (Nat.le_refl _) (by omega) (unhide HBA) (K := wr.heap.size) (Nat.le_refl _) (((unhide HF).less (unhide HY).size).on ((Below.refl _ _).alloc (Nat.le_refl _) _)) (unhide HAP) hgrow8 hown9 hat8 hlt8
          rw [← unhide HTK, show ((ps.take (a + (k + 1))).drop a).length = k + 1 by have := unhide HJ; simp; omega] at hsn
          have hrowb : ∀ b, b < w.heap.size + 3 → w8.heap[b]? = wr.heap[b]? := fun b hb => by
            rw [hgrow8.block b (by have h1 := (unhide HBA).size; omega) (fun e => by have := ((unhide HT).list.blk b e.symm).1; omega), (unhide HBA).block b (by omega)]
          have hrowr : w8.heap[wr.heap.size]? = Y.heap[wr.heap.size]? := by
            rw [hgrow8.block wr.heap.size (by have h1 := (unhide HYA).size; omega) (fun e => by have := ((unhide HT).list.blk wr.heap.size e.symm).2; omega), (unhide HYA).block wr.heap.size hrY]
          have hB8 : Below w.heap.size w w8 := Below.grown (below_then (unhide HB) (unhide HBA)) hgrow8 (by have h1 := (unhide HBA).size; omega) (fun b hb => by have := ((unhide HT).list.blk b hb).1; omega)
          have HSN := hide hsn
          have HB8 := hide hB8
          have hr8 := (unhide HT).row.of_block (hrowb (w.heap.size + 2) (by omega))
          have hs8 := (unhide HRES).of_block (hrowb (w.heap.size + 1) (by omega))
          have HBX8 : Hid (CellsAt w8 w.heap.size 0 (laneCells proc s (.slice (some ⟨bb, off, none⟩) ps.length c0))) := hide (fun j hj => (World.cell?_of_block (a := ⟨w.heap.size, 0 + j, none⟩) (hrowb w.heap.size (by omega))).trans ((unhide HBX) j hj))
          have k8 : w8.cell? ⟨w.heap.size + 2, 4, none⟩ = some (.slice va k vc) := hr8.cell (i := 4) (by omega)
          have f8 := hr8.frozen 4
          have hc8 : ∀ j u, Y.cell? ⟨wr.heap.size, j, none⟩ = some u → w8.cell? ⟨wr.heap.size, j, none⟩ = some u := fun j u hu => (World.cell?_of_block (a := ⟨wr.heap.size, j, none⟩) hrowr).trans hu
          have HR8 := hide hr8
          have HS8 := hide hs8
          refine held_on hK ?_ (fun hHeld => ?_)
          · exact ⟨k8, hc8 0 _ ((unhide HLC) 0 (by simp)), hc8 1 _ ((unhide HLC) 1 (by simp)), hc8 2 _ ((unhide HLC) 2 (by simp)), hc8 3 _ ((unhide HLC) 3 (by simp)), hc8 4 _ ((unhide HLC) 4 (by simp)), hc8 5 _ ((unhide HLC) 5 (by simp)), hc8 6 _ ((unhide HLC) 6 (by simp)), hc8 7 _ ((unhide HLC) 7 (by simp)), hc8 8 _ ((unhide HLC) 8 (by simp)), hc8 9 _ ((unhide HLC) 9 (by simp)), hc8 10 _ ((unhide HLC) 10 (by simp)), hc8 11 _ ((unhide HLC) 11 (by simp))⟩
          clear hK K hsn hrowb hrowr hB8 hr8 hs8 hown8 hown9 hgrow8 hat8 hlt8 hownA hc8
          refine wpAnyL_one (i := 17) (by kernel_rfl) rfl (fun K hK => ?_)
          go_simp
          refine held_on hK ?_ (fun hHeld => ?_)
          · exact hHeld
          clear hK K
          refine wpAnyL_end (by kernel_rfl) rfl (fun K hK => ?_)
          go_simp
          refine hK.out _ _ ?_
          clear hK K hHeld
          refine wpAnyL_done (by kernel_rfl) ?_ _
          have HT2 : Hid (Taken (w.heap.size + 3) (w8.setCell ⟨w.heap.size + 2, 4, none⟩ (.slice (some ⟨g3, 0, none⟩) (k + 1) cap3)) (w.heap.size + 2) proc s (.slice (some ⟨g3, 0, none⟩) (k + 1) cap3) (us ++ [(.slice ua p.sends.length uc, .slice oa p.outs.length oc)]) ((ps.take (a + (k + 1))).drop a)) := hide (by
            refine ⟨((unhide HR8).set 4 _).congr (fun i hi => ?_), ?_, (unhide HSN).2⟩
            · show (if i = 4 then _ else _) = _
              match i, hi with
              | 0, _ => rfl
              | 1, _ => rfl
              | 2, _ => rfl
              | 3, _ => rfl
              | 4, _ => rfl
            · have h1 := (unhide HSN).1
              rw [show (w8.setCell ⟨w.heap.size + 2, 4, none⟩ (.slice (some ⟨g3, 0, none⟩) (k + 1) cap3)).heap.size = w8.heap.size by simp]
              exact h1.keep (fun b hb _ => Below.heap_setCell w8 ⟨w.heap.size + 2, 4, none⟩ _ b (by show b ≠ w.heap.size + 2; omega)))
          have HS2 := hide ((unhide HS8).of_block (Below.heap_setCell w8 ⟨w.heap.size + 2, 4, none⟩ (.slice (some ⟨g3, 0, none⟩) (k + 1) cap3) (w.heap.size + 1) (by show w.heap.size + 1 ≠ w.heap.size + 2; omega)))
          have HBX2 : Hid (CellsAt (w8.setCell ⟨w.heap.size + 2, 4, none⟩ (.slice (some ⟨g3, 0, none⟩) (k + 1) cap3)) w.heap.size 0 (laneCells proc s (.slice (some ⟨bb, off, none⟩) ps.length c0))) := hide (fun j hj => (World.cell?_of_block (a := ⟨w.heap.size, 0 + j, none⟩) (Below.heap_setCell w8 ⟨w.heap.size + 2, 4, none⟩ _ w.heap.size (by show w.heap.size ≠ w.heap.size + 2; omega))).trans ((unhide HBX8) j hj))
          have HB2 := hide ((unhide HB8).setCell (p := ⟨w.heap.size + 2, 4, none⟩) (by show w.heap.size ≤ w.heap.size + 2; omega) (.slice (some ⟨g3, 0, none⟩) (k + 1) cap3))
          generalize (w8.setCell ⟨w.heap.size + 2, 4, none⟩ (.slice (some ⟨g3, 0, none⟩) (k + 1) cap3)) = w9 at *
          clear k8 f8 kd
          go_wp2_with fail
          go_roundw
          case rel => exact ⟨k + 1, _, _, _, by have := unhide HJ; omega, by rw [show ((a + (k + 1) : Nat) : Int) = (j : Int) + 1 by have := unhide HJ; omega], HT2, HS2, HBX2, HB2⟩
          case measure => (simp [intOf]; omega)
      · go_simp
        have hb10 : Below Y.heap.size Y (Y.alloc (.cells #[] 92)).drew := ((Below.refl _ _).alloc (Nat.le_refl _) _).drew
        (try go_simp)
        refine held_on hK ?_ (fun hHeld => ?_)
        · exact ⟨cell_on hb10 kd, ((unhide HLC).on hb10) 0 (by simp), ((unhide HLC).on hb10) 1 (by simp), ((unhide HLC).on hb10) 2 (by simp), ((unhide HLC).on hb10) 3 (by simp), ((unhide HLC).on hb10) 4 (by simp), ((unhide HLC).on hb10) 5 (by simp), ((unhide HLC).on hb10) 6 (by simp), ((unhide HLC).on hb10) 7 (by simp), ((unhide HLC).on hb10) 8 (by simp), ((unhide HLC).on hb10) 9 (by simp), ((unhide HLC).on hb10) 10 (by simp), ((unhide HLC).on hb10) 11 (by simp)⟩
        clear hK K
        refine wpAnyL_one (i := 6) (by kernel_rfl) rfl (fun K hK => ?_)
        go_simp
        have hbW : Below Y.heap.size Y ((Y.alloc (.cells #[] 92)).alloc (.cells #[] 41)).drew := (((Below.refl _ _).alloc (Nat.le_refl _) _).alloc (by simp) _).drew
        have ownO : ((Y.alloc (.cells #[] 92)).alloc (.cells #[] 41)).drew.ownsRow Y.heap.size 92 5 (.slice (some ⟨Y.heap.size, 0, none⟩) 0 0) 0 [] := ownsOn ((Below.refl _ _).drew) ((World.ownsRow_made Y #[] 0 (Nat.le_refl _) (Nat.zero_le _) rfl).alloc _)
        have ownE : ((Y.alloc (.cells #[] 92)).alloc (.cells #[] 41)).drew.ownsRow Y.heap.size 41 7 (.slice (some ⟨Y.heap.size + 1, 0, none⟩) 0 0) 0 [] := by
          have e := World.ownsRow_made (base := Y.heap.size) (e := 41) (size := 7) (Y.alloc (.cells #[] 92)) #[] 0 (by simp) (Nat.zero_le _) rfl
          rw [show (Y.alloc (.cells #[] 92)).heap.size = Y.heap.size + 1 by simp] at e
          exact ownsOn ((Below.refl _ _).drew) e
        (try go_simp)
        refine held_on hK ?_ (fun hHeld => ?_)
        · exact ⟨cell_on hbW kd, ((unhide HLC).on hbW) 0 (by simp), ((unhide HLC).on hbW) 1 (by simp), ((unhide HLC).on hbW) 2 (by simp), ((unhide HLC).on hbW) 3 (by simp), ((unhide HLC).on hbW) 4 (by simp), ((unhide HLC).on hbW) 5 (by simp), ((unhide HLC).on hbW) 6 (by simp), ((unhide HLC).on hbW) 7 (by simp), ((unhide HLC).on hbW) 8 (by simp), ((unhide HLC).on hbW) 9 (by simp), ((unhide HLC).on hbW) 10 (by simp), ((unhide HLC).on hbW) 11 (by simp)⟩
        clear hK K
        refine wpAnyL_one (i := 9) (by kernel_rfl) rfl (fun K hK => ?_)
        refine step_append_rowsAt (((Y.alloc (.cells #[] 92)).alloc (.cells #[] 41)).drew) (by rfl) _ _ _ (by rfl) Y.heap.size 41 i7 _ 7 56 slice_cpEvent hi7 hz70 hz71 hz72 (by rfl) (by omega) _ 0 [] (by rfl) ownE (p.sends.map evRow) _ (by rfl) ((unhide HPY).s.on hbW) (rowlenEvent p.sends) (by rw [List.length_map]; unfold maxLen; omega) (by rw [List.length_map]; omega) (hbW).size ?_
        intro ve w9 howne hgrowe hate
        obtain ⟨ua, uc, hve⟩ : ∃ a c, ve = .slice a p.sends.length c := by
          have e := howne
          rw [Nat.zero_add, List.nil_append] at e
          obtain ⟨a, c, h⟩ := RowsFr_sliced (RowsFr.of_owns (rowlenEvent p.sends) e)
          exact ⟨a, c, by rw [h, List.length_map]⟩
        subst hve
        have hb9 : Below Y.heap.size Y w9 := Below.grown hbW hgrowe hbW.size (fun b hb => by simp [Value.ownBlock] at hb; omega)
        have hl9 : ∀ b, (Value.slice ua p.sends.length uc).ownBlock = some b → b < w9.heap.size := fun b hb => (howne.lt b hb).2
        have hs9 : Y.heap.size + 2 ≤ w9.heap.size := by have := hgrowe.size; simp at this; omega
        have own9 : w9.ownsRow Y.heap.size 92 5 (.slice (some ⟨Y.heap.size, 0, none⟩) 0 0) 0 [] := ownO.kept hgrowe (Or.inr (by simp [Value.ownBlock]))
        (try go_simp)
        refine held_on hK ?_ (fun hHeld => ?_)
        · exact ⟨cell_on hb9 kd, ((unhide HLC).on hb9) 0 (by simp), ((unhide HLC).on hb9) 1 (by simp), ((unhide HLC).on hb9) 2 (by simp), ((unhide HLC).on hb9) 3 (by simp), ((unhide HLC).on hb9) 4 (by simp), ((unhide HLC).on hb9) 5 (by simp), ((unhide HLC).on hb9) 6 (by simp), ((unhide HLC).on hb9) 7 (by simp), ((unhide HLC).on hb9) 8 (by simp), ((unhide HLC).on hb9) 9 (by simp), ((unhide HLC).on hb9) 10 (by simp), ((unhide HLC).on hb9) 11 (by simp)⟩
        clear hK K
        refine wpAnyL_one (i := 13) (by kernel_rfl) rfl (fun K hK => ?_)
        refine step_append_rowsAt w9 (by rfl) _ _ _ (by rfl) Y.heap.size 92 i5 _ 5 40 slice_cpOut hi5 hz50 hz51 hz52 (by rfl) (by omega) _ 0 [] (by rfl) own9 (p.outs.map outRow) _ (by rfl) ((unhide HPY).o.on hb9) (rowlenOut p.outs) (by rw [List.length_map]; unfold maxLen; omega) (by rw [List.length_map]; omega) (hb9).size ?_
        intro vo2 wz howno hgrowo hato
        obtain ⟨oa, oc, hvo⟩ : ∃ a c, vo2 = .slice a p.outs.length c := by
          have e := howno
          rw [Nat.zero_add, List.nil_append] at e
          obtain ⟨a, c, h⟩ := RowsFr_sliced (RowsFr.of_owns (rowlenOut p.outs) e)
          exact ⟨a, c, by rw [h, List.length_map]⟩
        subst hvo
        have hbz : Below Y.heap.size Y wz := Below.grown hb9 hgrowo hb9.size (fun b hb => by simp [Value.ownBlock] at hb; omega)
        have hne : ∀ b, (Value.slice ua p.sends.length uc).ownBlock = some b → b ≠ Y.heap.size := fun b hb => by rcases hate with h4 | h4 <;> rw [h4] at hb <;> simp [Value.ownBlock] at hb <;> omega
        have hBL : BothL Y wz p (.slice ua p.sends.length uc) (.slice oa p.outs.length oc) := both_of (re := none) (ro := none) howne howno (fun b hb => hgrowo.block b (hl9 b hb) (fun e => by simp [Value.ownBlock] at e; have := hne b hb; omega)) (fun b h1 h2 => by have h3 := hl9 b h1; have h5 := hne b h1; rcases hato with h4 | h4 <;> rw [h4] at h2 <;> simp [Value.ownBlock] at h2 <;> omega) hbz
        (try go_simp)
        refine held_on hK ?_ (fun hHeld => ?_)
        · exact ⟨cell_on hbz kd, ((unhide HLC).on hbz) 0 (by simp), ((unhide HLC).on hbz) 1 (by simp), ((unhide HLC).on hbz) 2 (by simp), ((unhide HLC).on hbz) 3 (by simp), ((unhide HLC).on hbz) 4 (by simp), ((unhide HLC).on hbz) 5 (by simp), ((unhide HLC).on hbz) 6 (by simp), ((unhide HLC).on hbz) 7 (by simp), ((unhide HLC).on hbz) 8 (by simp), ((unhide HLC).on hbz) 9 (by simp), ((unhide HLC).on hbz) 10 (by simp), ((unhide HLC).on hbz) 11 (by simp)⟩
        clear hK K
        have HF := hide hBL.fr
        have HAP := hide hBL.ap
        have HZ := hide hBL.be
        clear hBL
        clear howne hgrowe hate howno hgrowo hato hbz own9 hb9 hl9 hs9 hne hbW ownE ownO hb10
        refine wpAnyL_one (i := 14) (by kernel_rfl) rfl (fun K hK => ?_)
        go_simp
        refine held_on hK ?_ (fun hHeld => ?_)
        · exact hHeld
        clear hK K
        have hbA : Below Y.heap.size Y (wz.alloc (.cells #[.int .i64 p.ev.time, .int .i64 p.ev.to, .int .i64 p.ev.src, .int .i64 p.ev.count, .int .i64 p.ev.n, .int .i64 p.ev.kind, .int .i64 p.ev.arg, .int .i64 p.st.x, .int .i64 p.st.y, .int .i64 p.st.c, .slice ua p.sends.length uc, .slice oa p.outs.length oc] 65)) := below_then (unhide HZ) ((Below.refl _ _).alloc (Nat.le_refl _) _)
        have HYA := hide hbA
        have HBA := hide (below_then (unhide HY) hbA)
        clear hbA
        refine wpAnyL_one (i := 15) (by kernel_rfl) rfl (fun K hK => ?_)
        go_simp
        refine held_on hK ?_ (fun hHeld => ?_)
        · exact ⟨cell_on (unhide HYA) kd, ((unhide HLC).on (unhide HYA)) 0 (by simp), ((unhide HLC).on (unhide HYA)) 1 (by simp), ((unhide HLC).on (unhide HYA)) 2 (by simp), ((unhide HLC).on (unhide HYA)) 3 (by simp), ((unhide HLC).on (unhide HYA)) 4 (by simp), ((unhide HLC).on (unhide HYA)) 5 (by simp), ((unhide HLC).on (unhide HYA)) 6 (by simp), ((unhide HLC).on (unhide HYA)) 7 (by simp), ((unhide HLC).on (unhide HYA)) 8 (by simp), ((unhide HLC).on (unhide HYA)) 9 (by simp), ((unhide HLC).on (unhide HYA)) 10 (by simp), ((unhide HLC).on (unhide HYA)) 11 (by simp)⟩
        clear hK K
        have HLTK : Hid (((ps.take j).drop a).length = k) := hide (by have := unhide HJ; simp; omega)
        have hownA : (wz.alloc (.cells #[.int .i64 p.ev.time, .int .i64 p.ev.to, .int .i64 p.ev.src, .int .i64 p.ev.count, .int .i64 p.ev.n, .int .i64 p.ev.kind, .int .i64 p.ev.arg, .int .i64 p.st.x, .int .i64 p.st.y, .int .i64 p.st.c, .slice ua p.sends.length uc, .slice oa p.outs.length oc] 65)).ownsRow (w.heap.size + 3) 65 12 (.slice va k vc) k (flatP us ((ps.take j).drop a)) := by
          have e := ownsOn (unhide HBA) (unhide HT).list.owns.2
          rwa [unhide HLTK] at e
        refine wpAnyL_one (i := 16) (by kernel_rfl) rfl (fun K hK => ?_)
        refine step_append_lies _ (by rfl) _ _ _ (by rfl) (w.heap.size + 3) 65 i12 _ 12 128 slice_cpPast hi12 hz0 hz1 hz2 (by rfl) (by omega) (.slice va k vc) k (flatP us ((ps.take j).drop a)) (by rfl) hownA ⟨wz.heap.size, 0, none⟩ 1 1 (pastCells p (.slice ua p.sends.length uc) (.slice oa p.outs.length oc)) (by rfl) (by rfl) (World.news_of_block (cs := #[.int .i64 p.ev.time, .int .i64 p.ev.to, .int .i64 p.ev.src, .int .i64 p.ev.count, .int .i64 p.ev.n, .int .i64 p.ev.kind, .int .i64 p.ev.arg, .int .i64 p.st.x, .int .i64 p.st.y, .int .i64 p.st.c, .slice ua p.sends.length uc, .slice oa p.outs.length oc]) (t := 65) (fr := (0, 0)) (heap_alloc_new wz _)) (by simp [Value.oneCell']) (by omega) (by unfold maxLen; omega) (by omega) (by have h1 := (unhide HBA).size; omega) (wz.alloc (.cells #[.int .i64 p.ev.time, .int .i64 p.ev.to, .int .i64 p.ev.src, .int .i64 p.ev.count, .int .i64 p.ev.n, .int .i64 p.ev.kind, .int .i64 p.ev.arg, .int .i64 p.st.x, .int .i64 p.st.y, .int .i64 p.st.c, .slice ua p.sends.length uc, .slice oa p.outs.length oc] 65)).heap.size rfl ?_
        intro g3 cap3 w8 hown8 hgrow8 hat8 hlt8
        have hown9 : w8.ownsRow (w.heap.size + 3) 65 12 (.slice (some ⟨g3, 0, none⟩) (((ps.take j).drop a).length + 1) cap3) (((ps.take j).drop a).length + 1) (flatP us ((ps.take j).drop a) ++ pastCells p (.slice ua p.sends.length uc) (.slice oa p.outs.length oc)) := by
          rw [unhide HLTK]; exact hown8
        have hsn := pasts_snoc (unhide HT).list (unhide HT).nd (Nat.le_refl _) (by omega) (unhide HBA) (K := wr.heap.size) (Nat.le_refl _) (((unhide HF).less (unhide HY).size).on ((Below.refl _ _).alloc (Nat.le_refl _) _)) (unhide HAP) hgrow8 hown9 hat8 hlt8
        rw [← unhide HTK, show ((ps.take (a + (k + 1))).drop a).length = k + 1 by have := unhide HJ; simp; omega] at hsn
        have hrowb : ∀ b, b < w.heap.size + 3 → w8.heap[b]? = wr.heap[b]? := fun b hb => by
          rw [hgrow8.block b (by have h1 := (unhide HBA).size; omega) (fun e => by have := ((unhide HT).list.blk b e.symm).1; omega), (unhide HBA).block b (by omega)]
        have hrowr : w8.heap[wr.heap.size]? = Y.heap[wr.heap.size]? := by
          rw [hgrow8.block wr.heap.size (by have h1 := (unhide HYA).size; omega) (fun e => by have := ((unhide HT).list.blk wr.heap.size e.symm).2; omega), (unhide HYA).block wr.heap.size hrY]
        have hB8 : Below w.heap.size w w8 := Below.grown (below_then (unhide HB) (unhide HBA)) hgrow8 (by have h1 := (unhide HBA).size; omega) (fun b hb => by have := ((unhide HT).list.blk b hb).1; omega)
        have HSN := hide hsn
        have HB8 := hide hB8
        have hr8 := (unhide HT).row.of_block (hrowb (w.heap.size + 2) (by omega))
        have hs8 := (unhide HRES).of_block (hrowb (w.heap.size + 1) (by omega))
        have HBX8 : Hid (CellsAt w8 w.heap.size 0 (laneCells proc s (.slice (some ⟨bb, off, none⟩) ps.length c0))) := hide (fun j hj => (World.cell?_of_block (a := ⟨w.heap.size, 0 + j, none⟩) (hrowb w.heap.size (by omega))).trans ((unhide HBX) j hj))
        have k8 : w8.cell? ⟨w.heap.size + 2, 4, none⟩ = some (.slice va k vc) := hr8.cell (i := 4) (by omega)
        have f8 := hr8.frozen 4
        have hc8 : ∀ j u, Y.cell? ⟨wr.heap.size, j, none⟩ = some u → w8.cell? ⟨wr.heap.size, j, none⟩ = some u := fun j u hu => (World.cell?_of_block (a := ⟨wr.heap.size, j, none⟩) hrowr).trans hu
        have HR8 := hide hr8
        have HS8 := hide hs8
        refine held_on hK ?_ (fun hHeld => ?_)
        · exact ⟨k8, hc8 0 _ ((unhide HLC) 0 (by simp)), hc8 1 _ ((unhide HLC) 1 (by simp)), hc8 2 _ ((unhide HLC) 2 (by simp)), hc8 3 _ ((unhide HLC) 3 (by simp)), hc8 4 _ ((unhide HLC) 4 (by simp)), hc8 5 _ ((unhide HLC) 5 (by simp)), hc8 6 _ ((unhide HLC) 6 (by simp)), hc8 7 _ ((unhide HLC) 7 (by simp)), hc8 8 _ ((unhide HLC) 8 (by simp)), hc8 9 _ ((unhide HLC) 9 (by simp)), hc8 10 _ ((unhide HLC) 10 (by simp)), hc8 11 _ ((unhide HLC) 11 (by simp))⟩
        clear hK K hsn hrowb hrowr hB8 hr8 hs8 hown8 hown9 hgrow8 hat8 hlt8 hownA hc8
        refine wpAnyL_one (i := 17) (by kernel_rfl) rfl (fun K hK => ?_)
        go_simp
        refine held_on hK ?_ (fun hHeld => ?_)
        · exact hHeld
        clear hK K
        refine wpAnyL_end (by kernel_rfl) rfl (fun K hK => ?_)
        go_simp
        refine hK.out _ _ ?_
        clear hK K hHeld
        refine wpAnyL_done (by kernel_rfl) ?_ _
        have HT2 : Hid (Taken (w.heap.size + 3) (w8.setCell ⟨w.heap.size + 2, 4, none⟩ (.slice (some ⟨g3, 0, none⟩) (k + 1) cap3)) (w.heap.size + 2) proc s (.slice (some ⟨g3, 0, none⟩) (k + 1) cap3) (us ++ [(.slice ua p.sends.length uc, .slice oa p.outs.length oc)]) ((ps.take (a + (k + 1))).drop a)) := hide (by
          refine ⟨((unhide HR8).set 4 _).congr (fun i hi => ?_), ?_, (unhide HSN).2⟩
          · show (if i = 4 then _ else _) = _
            match i, hi with
            | 0, _ => rfl
            | 1, _ => rfl
            | 2, _ => rfl
            | 3, _ => rfl
            | 4, _ => rfl
          · have h1 := (unhide HSN).1
            rw [show (w8.setCell ⟨w.heap.size + 2, 4, none⟩ (.slice (some ⟨g3, 0, none⟩) (k + 1) cap3)).heap.size = w8.heap.size by simp]
            exact h1.keep (fun b hb _ => Below.heap_setCell w8 ⟨w.heap.size + 2, 4, none⟩ _ b (by show b ≠ w.heap.size + 2; omega)))
        have HS2 := hide ((unhide HS8).of_block (Below.heap_setCell w8 ⟨w.heap.size + 2, 4, none⟩ (.slice (some ⟨g3, 0, none⟩) (k + 1) cap3) (w.heap.size + 1) (by show w.heap.size + 1 ≠ w.heap.size + 2; omega)))
        have HBX2 : Hid (CellsAt (w8.setCell ⟨w.heap.size + 2, 4, none⟩ (.slice (some ⟨g3, 0, none⟩) (k + 1) cap3)) w.heap.size 0 (laneCells proc s (.slice (some ⟨bb, off, none⟩) ps.length c0))) := hide (fun j hj => (World.cell?_of_block (a := ⟨w.heap.size, 0 + j, none⟩) (Below.heap_setCell w8 ⟨w.heap.size + 2, 4, none⟩ _ w.heap.size (by show w.heap.size ≠ w.heap.size + 2; omega))).trans ((unhide HBX8) j hj))
        have HB2 := hide ((unhide HB8).setCell (p := ⟨w.heap.size + 2, 4, none⟩) (by show w.heap.size ≤ w.heap.size + 2; omega) (.slice (some ⟨g3, 0, none⟩) (k + 1) cap3))
        generalize (w8.setCell ⟨w.heap.size + 2, 4, none⟩ (.slice (some ⟨g3, 0, none⟩) (k + 1) cap3)) = w9 at *
        clear k8 f8 kd
        go_wp2_with fail
        go_roundw
        case rel => exact ⟨k + 1, _, _, _, by have := unhide HJ; omega, by rw [show ((a + (k + 1) : Nat) : Int) = (j : Int) + 1 by have := unhide HJ; omega], HT2, HS2, HBX2, HB2⟩
        case measure => (simp [intOf]; omega)
    · have hke : a + k = b := by omega
      have hI1 : ¬ ((a + k : Nat) : Int) < (b : Int) := by omega
      have hkb : k = b - a := by omega
      have HTF := unhide HT
      have hlv : ((ps.take b).drop a).length = b - a := by simp; omega
      rw [hke] at HTF
      rw [hkb] at HTF
      have HT2 := hide HTF
      clear HTF HT
      have y0 : wr.cell? ⟨w.heap.size + 1, 0, none⟩ = some (.int .i64 0) := (unhide HRES).cell (i := 0) (by omega)
      have z0 := (unhide HRES).frozen 0
      have y1 : wr.cell? ⟨w.heap.size + 1, 1, none⟩ = some (.int .i64 0) := (unhide HRES).cell (i := 1) (by omega)
      have z1 := (unhide HRES).frozen 1
      have y2 : wr.cell? ⟨w.heap.size + 1, 2, none⟩ = some (.int .i64 0) := (unhide HRES).cell (i := 2) (by omega)
      have z2 := (unhide HRES).frozen 2
      have y3 : wr.cell? ⟨w.heap.size + 1, 3, none⟩ = some (.int .i64 0) := (unhide HRES).cell (i := 3) (by omega)
      have z3 := (unhide HRES).frozen 3
      have y4 : wr.cell? ⟨w.heap.size + 1, 4, none⟩ = some (.slice none 0 0) := (unhide HRES).cell (i := 4) (by omega)
      have z4 := (unhide HRES).frozen 4
      have l0 : wr.cell? ⟨w.heap.size + 2, 0, none⟩ = some (.int .i64 proc) := (unhide HT2).row.cell (i := 0) (by omega)
      have l1 : wr.cell? ⟨w.heap.size + 2, 1, none⟩ = some (.int .i64 s.x) := (unhide HT2).row.cell (i := 1) (by omega)
      have l2 : wr.cell? ⟨w.heap.size + 2, 2, none⟩ = some (.int .i64 s.y) := (unhide HT2).row.cell (i := 2) (by omega)
      have l3 : wr.cell? ⟨w.heap.size + 2, 3, none⟩ = some (.int .i64 s.c) := (unhide HT2).row.cell (i := 3) (by omega)
      have l4 : wr.cell? ⟨w.heap.size + 2, 4, none⟩ = some (.slice va (b - a) vc) := (unhide HT2).row.cell (i := 4) (by omega)
      clear hlv hkb hke
      go_wp2_with fail
      refine bodyPost_ret (v := laneAgg proc s (.slice va (b - a) vc)) (by simp [results, Try.results57, go_sem, y0, y1, y2, y3, y4]) rfl ⟨_, rfl, ?_, ?_⟩
      · refine ⟨us, ?_, (unhide HT2).nd⟩
        have h1 : PastsO w.heap.size wr.heap.size (setVals wr (w.heap.size + 1) 0 (laneCells proc s (.slice va (b - a) vc))) (.slice va (b - a) vc) us ((ps.take b).drop a) := ((unhide HT2).list.keep (fun x hb _ => setVals_other (laneCells proc s (.slice va (b - a) vc)) 0 wr x (by omega))).wide (by omega) (Nat.le_refl _)
        rw [← setVals_size (laneCells proc s (.slice va (b - a) vc)) 0 wr (b := w.heap.size + 1)] at h1
        exact h1
      · exact setVals_below (laneCells proc s (.slice va (b - a) vc)) 0 wr (unhide HB) (Nat.le_succ _)
end Go.Proofs.Ytjdaedcpjfcpjaa
