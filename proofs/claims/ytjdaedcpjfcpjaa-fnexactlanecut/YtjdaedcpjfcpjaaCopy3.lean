/- impl.unlinkLane. -/
import Derived.Test.YtjdaedcpjfcpjaaCopy2
import Derived.Test.YtjdaedcpjfcpjaaOwn5
import Derived.Test.YtjdaedcpjfcpjaaLink1
namespace Go.Proofs.Ytjdaedcpjfcpjaa
open Go.RowKit
set_option linter.unusedVariables false
set_option linter.unusedSimpArgs false

theorem info_cpPast : (Try.prog.info? 65).map (fun i => (i.zero, i.size, i.bytes)) = some (some (.agg #[.int .i64 0, .int .i64 0, .int .i64 0, .int .i64 0, .int .i64 0, .int .i64 0, .int .i64 0, .int .i64 0, .int .i64 0, .int .i64 0, .slice none 0 0, .slice none 0 0]), 12, 128) := by kernel_rfl
theorem slice_cpPast : Try.prog.underlying 30 = some (.slice 65) := by kernel_rfl

/-- What the loop has so far: the lane's block q with its list, all of it new. -/
structure Taken (N : Nat) (w : World) (q : Nat) (proc : Int) (s : StV) (v : Value) (us : List (Value × Value)) (ps : List PastV) : Prop where
  row : w.rowIs q 32 5 (fun i => (laneCells proc s v).getD i undef)
  list : PastsO N w.heap.size w v us ps
  nd : (v.ownBlock.toList ++ blocksOf us).Nodup

set_option maxRecDepth 100000 in
set_option maxHeartbeats 4000000 in
theorem unlinkLane_any (W : World) (N : Nat) (proc : Int) (g : Nat) (gs : List Nat) (q0 : PastV) (ps : List PastV) (w : World) (hch : Chain W N w (g :: gs) (q0 :: ps)) (hW : Below W.heap.size W w) (hlen : ps.length ≤ 1048576) (hl : ∀ p ∈ ps, p.sends.length ≤ 1048576 ∧ p.outs.length ≤ 1048576) :
    Calls Try.prog 63 #[.int .i64 proc, .pointer (some ⟨g, 0, none⟩)] w fun e w' => ∃ v', e = .returned (laneAgg proc q0.st v') ∧ PastsOwn w.heap.size w'.heap.size w' v' ps ∧ Below w.heap.size w w' := by
  obtain ⟨i12, hi12, hz0, hz1, hz2⟩ := infoT_parts info_cpPast
  have hgl : gs.length = ps.length := by have := hch.len; simpa using this
  have hlk := hch.node 0 (by simp) (by simp)
  obtain ⟨_, _, hc0, hn0, _, _⟩ := hlk.cells
  have x7 : w.cell? ⟨g, 7, none⟩ = some (.int .i64 q0.st.x) := hc0 7 (by simp)
  have x8 : w.cell? ⟨g, 8, none⟩ = some (.int .i64 q0.st.y) := hc0 8 (by simp)
  have x9 : w.cell? ⟨g, 9, none⟩ = some (.int .i64 q0.st.c) := hc0 9 (by simp)
  have x12 : w.cell? ⟨g, 12, none⟩ = some (ptrTo gs[0]?) := by simpa using hn0
  have hglt : g < w.heap.size := hlk.lt
  have hb1 : Below w.heap.size w ((w.alloc (.cells #[.int .i64 0, .int .i64 0, .int .i64 0, .int .i64 0, .slice none 0 0] 32)).alloc (.cells #[.int .i64 proc, .int .i64 q0.st.x, .int .i64 q0.st.y, .int .i64 q0.st.c, .slice none 0 0] 32)) := ((Below.refl _ _).alloc (Nat.le_refl _) _).alloc (by simp) _
  have hs1 : ((w.alloc (.cells #[.int .i64 0, .int .i64 0, .int .i64 0, .int .i64 0, .slice none 0 0] 32)).alloc (.cells #[.int .i64 proc, .int .i64 q0.st.x, .int .i64 q0.st.y, .int .i64 q0.st.c, .slice none 0 0] 32)).heap.size = w.heap.size + 2 := by simp
  have rR : ((w.alloc (.cells #[.int .i64 0, .int .i64 0, .int .i64 0, .int .i64 0, .slice none 0 0] 32)).alloc (.cells #[.int .i64 proc, .int .i64 q0.st.x, .int .i64 q0.st.y, .int .i64 q0.st.c, .slice none 0 0] 32)).rowIs w.heap.size 32 5 (fun i => ([Value.int .i64 0, .int .i64 0, .int .i64 0, .int .i64 0, .slice none 0 0] : List Value).getD i undef) :=
    (row_new w [.int .i64 0, .int .i64 0, .int .i64 0, .int .i64 0, .slice none 0 0] 32).of_block (((Below.refl _ _).alloc (Nat.le_refl _) _).block w.heap.size (by simp))
  have rL : ((w.alloc (.cells #[.int .i64 0, .int .i64 0, .int .i64 0, .int .i64 0, .slice none 0 0] 32)).alloc (.cells #[.int .i64 proc, .int .i64 q0.st.x, .int .i64 q0.st.y, .int .i64 q0.st.c, .slice none 0 0] 32)).rowIs (w.heap.size + 1) 32 5 (fun i => (laneCells proc q0.st (.slice none 0 0)).getD i undef) := by
    have e := row_new (w.alloc (.cells #[.int .i64 0, .int .i64 0, .int .i64 0, .int .i64 0, .slice none 0 0] 32)) (laneCells proc q0.st (.slice none 0 0)) 32
    have hs : (w.alloc (.cells #[.int .i64 0, .int .i64 0, .int .i64 0, .int .i64 0, .slice none 0 0] 32)).heap.size = w.heap.size + 1 := by simp
    rw [hs] at e
    exact e
  have HB1 := hide hb1
  have HS1 := hide hs1
  have HRR := hide rR
  have HRL := hide rL
  have HCH := hide hch
  have HW := hide hW
  have HL := hide hl
  have HGL := hide hgl
  have y12 : ((w.alloc (.cells #[.int .i64 0, .int .i64 0, .int .i64 0, .int .i64 0, .slice none 0 0] 32)).alloc (.cells #[.int .i64 proc, .int .i64 q0.st.x, .int .i64 q0.st.y, .int .i64 q0.st.c, .slice none 0 0] 32)).cell? ⟨g, 12, none⟩ = some (ptrTo gs[0]?) := cell_on hb1 x12
  have Y12 := hide y12
  clear hb1 hs1 rR rL hch hW hl hc0 hn0 hlk hgl x12 y12
  go_enter Try.func63, Try.ntmps63
  go_upto_region 2 with fail
  clear x7 x8 x9
  generalize ((w.alloc (.cells #[.int .i64 0, .int .i64 0, .int .i64 0, .int .i64 0, .slice none 0 0] 32)).alloc (.cells #[.int .i64 proc, .int .i64 q0.st.x, .int .i64 q0.st.y, .int .i64 q0.st.c, .slice none 0 0] 32)) = X at *
  have y12 := unhide Y12
  obtain ⟨nx, hnx⟩ : ∃ nx, nx = gs[0]? := ⟨_, rfl⟩
  rw [← hnx] at y12
  have HNX := hide hnx
  clear hnx
  go_wp2_with fail
  clear y12
  go_loopw [6] (fun l wr => ∃ (k : Nat) (va : Option Addr) (vc : Nat) (us : List (Value × Value)), k ≤ ps.length ∧ l = ptrTo gs[k]? ∧ Hid (Taken (w.heap.size + 2) wr (w.heap.size + 1) proc q0.st (.slice va k vc) us (ps.take k)) ∧ Hid (wr.rowIs w.heap.size 32 5 (fun i => ([Value.int .i64 0, .int .i64 0, .int .i64 0, .int .i64 0, .slice none 0 0] : List Value).getD i undef)) ∧ Hid (Below w.heap.size w wr)) (fun l _ => match l with | .pointer (some a) => (g :: gs)[gs.length]'(by simp) + 1 - a.block | _ => 0)
  case atStart =>
    refine ⟨0, none, 0, [], Nat.zero_le _, by rw [unhide HNX], hide ⟨unhide HRL, Or.inl ⟨rfl, rfl, rfl⟩, by simp [blocksOf, Value.ownBlock]⟩, HRR, HB1⟩
  case round =>
    obtain ⟨k, va, vc, us, hk, rfl, HT, HRES, HB⟩ := hrel
    have hgl2 := unhide HGL
    have hsz : w.heap.size + 2 ≤ wr.heap.size := by have h1 := (unhide HT).row.lt; omega
    by_cases hlt : k < ps.length
    · have hkg : k < gs.length := by omega
      obtain ⟨g2, hg2⟩ : ∃ g2, g2 = gs[k] := ⟨_, rfl⟩
      have hpt : gs[k]? = some g2 := by rw [List.getElem?_eq_getElem hkg, hg2]
      have hlkk := ((unhide HCH).on (unhide HB)).node (k + 1) (by simp; omega) (by simp; omega)
      simp only [List.getElem_cons_succ] at hlkk
      rw [← hg2] at hlkk
      obtain ⟨p, hpe⟩ : ∃ p, p = ps[k] := ⟨_, rfl⟩
      have hlp := (unhide HL) ps[k] (List.getElem_mem hlt)
      rw [← hpe] at hlkk hlp
      obtain ⟨vs, vo, hcl, hcn, _, hpa⟩ := hlkk.cells
      have hg2lt : g2 < w.heap.size := by
        have h1 := (unhide HCH).node (k + 1) (by simp; omega) (by simp; omega)
        simp only [List.getElem_cons_succ] at h1
        rw [← hg2] at h1
        exact h1.lt
      obtain ⟨a1, c1, e1, _⟩ := hpa.s
      obtain ⟨a2, c2, e2, _⟩ := hpa.o
      rw [List.length_map] at e1 e2
      subst e1 e2
      have HPA := hide (hpa.on (below_then (unhide HW) (unhide HB)))
      have HLC := hide hcl
      have HPE := hide hpe
      have HG2 := hide hg2
      have HTK := hide (take_more ps k hlt)
      rw [← hpe] at HTK
      have HNXT : Hid (wr.cell? ⟨g2, 12, none⟩ = some (ptrTo gs[k + 1]?)) := hide (by simpa using hcn)
      have kd : wr.cell? ⟨w.heap.size + 1, 4, none⟩ = some (.slice va k vc) := (unhide HT).row.cell (i := 4) (by omega)
      rw [hpt]
      simp only [ptrTo, Option.map_some]
      clear hpa hcl hpe hg2 hpt hcn hlkk
      go_upto_region 5 with fail
      refine wp_region_last (L := 10) (S := fun w' : World => w'.cell? ⟨w.heap.size + 1, 4, none⟩ = some (.slice va k vc) ∧ w'.cell? ⟨g2, 0, none⟩ = some (.int .i64 p.ev.time) ∧ w'.cell? ⟨g2, 1, none⟩ = some (.int .i64 p.ev.to) ∧ w'.cell? ⟨g2, 2, none⟩ = some (.int .i64 p.ev.src) ∧ w'.cell? ⟨g2, 3, none⟩ = some (.int .i64 p.ev.count) ∧ w'.cell? ⟨g2, 4, none⟩ = some (.int .i64 p.ev.n) ∧ w'.cell? ⟨g2, 5, none⟩ = some (.int .i64 p.ev.kind) ∧ w'.cell? ⟨g2, 6, none⟩ = some (.int .i64 p.ev.arg) ∧ w'.cell? ⟨g2, 7, none⟩ = some (.int .i64 p.st.x) ∧ w'.cell? ⟨g2, 8, none⟩ = some (.int .i64 p.st.y) ∧ w'.cell? ⟨g2, 9, none⟩ = some (.int .i64 p.st.c) ∧ w'.cell? ⟨g2, 10, none⟩ = some (.slice a1 p.sends.length c1) ∧ w'.cell? ⟨g2, 11, none⟩ = some (.slice a2 p.outs.length c2)) (by kernel_rfl) ?_
      have hHeld : (fun w' : World => w'.cell? ⟨w.heap.size + 1, 4, none⟩ = some (.slice va k vc) ∧ w'.cell? ⟨g2, 0, none⟩ = some (.int .i64 p.ev.time) ∧ w'.cell? ⟨g2, 1, none⟩ = some (.int .i64 p.ev.to) ∧ w'.cell? ⟨g2, 2, none⟩ = some (.int .i64 p.ev.src) ∧ w'.cell? ⟨g2, 3, none⟩ = some (.int .i64 p.ev.count) ∧ w'.cell? ⟨g2, 4, none⟩ = some (.int .i64 p.ev.n) ∧ w'.cell? ⟨g2, 5, none⟩ = some (.int .i64 p.ev.kind) ∧ w'.cell? ⟨g2, 6, none⟩ = some (.int .i64 p.ev.arg) ∧ w'.cell? ⟨g2, 7, none⟩ = some (.int .i64 p.st.x) ∧ w'.cell? ⟨g2, 8, none⟩ = some (.int .i64 p.st.y) ∧ w'.cell? ⟨g2, 9, none⟩ = some (.int .i64 p.st.c) ∧ w'.cell? ⟨g2, 10, none⟩ = some (.slice a1 p.sends.length c1) ∧ w'.cell? ⟨g2, 11, none⟩ = some (.slice a2 p.outs.length c2)) wr.drew := ⟨cell_on (Below.refl _ _).drew kd, ((unhide HLC).on (Below.refl _ _).drew) 0 (by simp), ((unhide HLC).on (Below.refl _ _).drew) 1 (by simp), ((unhide HLC).on (Below.refl _ _).drew) 2 (by simp), ((unhide HLC).on (Below.refl _ _).drew) 3 (by simp), ((unhide HLC).on (Below.refl _ _).drew) 4 (by simp), ((unhide HLC).on (Below.refl _ _).drew) 5 (by simp), ((unhide HLC).on (Below.refl _ _).drew) 6 (by simp), ((unhide HLC).on (Below.refl _ _).drew) 7 (by simp), ((unhide HLC).on (Below.refl _ _).drew) 8 (by simp), ((unhide HLC).on (Below.refl _ _).drew) 9 (by simp), ((unhide HLC).on (Below.refl _ _).drew) 10 (by simp), ((unhide HLC).on (Below.refl _ _).drew) 11 (by simp)⟩
      refine wpAnyL_take (i := 0) (v := ?_) (by kernel_rfl) rfl (by kernel_rfl) (by kernel_rfl) (by kernel_rfl) (fun _ _ _ h => h) hHeld (Or.inl ⟨by kernel_rfl, ?_⟩) ?_
      rotate_left
      · (intro w hSw; (try dsimp only at hSw); obtain ⟨s0, s1, s2, s3, s4, s5, s6, s7, s8, s9, s10, s11, s12⟩ := hSw; go_simp; try with_reducible rfl)
      refine wpAnyL_take (i := 1) (v := ?_) (by kernel_rfl) rfl (by kernel_rfl) (by kernel_rfl) (by kernel_rfl) (fun _ _ _ h => h) hHeld (Or.inl ⟨by kernel_rfl, ?_⟩) ?_
      rotate_left
      · (intro w hSw; (try dsimp only at hSw); obtain ⟨s0, s1, s2, s3, s4, s5, s6, s7, s8, s9, s10, s11, s12⟩ := hSw; go_simp; try with_reducible rfl)
      refine wpAnyL_take (i := 2) (v := ?_) (by kernel_rfl) rfl (by kernel_rfl) (by kernel_rfl) (by kernel_rfl) (fun _ _ _ h => h) hHeld (Or.inl ⟨by kernel_rfl, ?_⟩) ?_
      rotate_left
      · (intro w hSw; (try dsimp only at hSw); obtain ⟨s0, s1, s2, s3, s4, s5, s6, s7, s8, s9, s10, s11, s12⟩ := hSw; go_simp; try with_reducible rfl)
      refine wpAnyL_take (i := 3) (v := ?_) (by kernel_rfl) rfl (by kernel_rfl) (by kernel_rfl) (by kernel_rfl) (fun _ _ _ h => h) hHeld (Or.inl ⟨by kernel_rfl, ?_⟩) ?_
      rotate_left
      · (intro w hSw; (try dsimp only at hSw); obtain ⟨s0, s1, s2, s3, s4, s5, s6, s7, s8, s9, s10, s11, s12⟩ := hSw; go_simp; try with_reducible rfl)
      refine wpAnyL_take (i := 4) (v := ?_) (by kernel_rfl) rfl (by kernel_rfl) (by kernel_rfl) (by kernel_rfl) (fun _ _ _ h => h) hHeld (Or.inl ⟨by kernel_rfl, ?_⟩) ?_
      rotate_left
      · (intro w hSw; (try dsimp only at hSw); obtain ⟨s0, s1, s2, s3, s4, s5, s6, s7, s8, s9, s10, s11, s12⟩ := hSw; go_simp; try with_reducible rfl)
      refine wpAnyL_take (i := 5) (v := ?_) (by kernel_rfl) rfl (by kernel_rfl) (by kernel_rfl) (by kernel_rfl) (fun _ _ _ h => h) hHeld (Or.inl ⟨by kernel_rfl, ?_⟩) ?_
      rotate_left
      · (intro w hSw; (try dsimp only at hSw); obtain ⟨s0, s1, s2, s3, s4, s5, s6, s7, s8, s9, s10, s11, s12⟩ := hSw; go_simp; try with_reducible rfl)
      refine wpAnyL_one (i := 6) (by kernel_rfl) rfl (fun K hK => ?_)
      go_simp
      refine (copyPast_any p _ _ wr.drew ((unhide HPA).on (Below.refl _ _).drew) hlp.1 hlp.2).mono ?_
      rintro e w1 ⟨us2, uo2, rfl, hf1, hap1, hb1⟩
      obtain ⟨ua, uc, hus⟩ := RowsFr_sliced hf1.s
      obtain ⟨oa, oc, huo⟩ := RowsFr_sliced hf1.o
      rw [List.length_map] at hus huo
      subst hus huo
      have hX1 : Below wr.heap.size wr w1 := ((Below.refl _ _).drew).trans hb1
      have HX1 := hide hX1
      have HF1 := hide hf1
      have HAP := hide hap1
      clear hf1 hap1 hb1 hX1
      (try go_simp)
      refine held_on hK ?_ (fun hHeld => ?_)
      · exact ⟨cell_on (unhide HX1) kd, ((unhide HLC).on (unhide HX1)) 0 (by simp), ((unhide HLC).on (unhide HX1)) 1 (by simp), ((unhide HLC).on (unhide HX1)) 2 (by simp), ((unhide HLC).on (unhide HX1)) 3 (by simp), ((unhide HLC).on (unhide HX1)) 4 (by simp), ((unhide HLC).on (unhide HX1)) 5 (by simp), ((unhide HLC).on (unhide HX1)) 6 (by simp), ((unhide HLC).on (unhide HX1)) 7 (by simp), ((unhide HLC).on (unhide HX1)) 8 (by simp), ((unhide HLC).on (unhide HX1)) 9 (by simp), ((unhide HLC).on (unhide HX1)) 10 (by simp), ((unhide HLC).on (unhide HX1)) 11 (by simp)⟩
      clear hK K
      have hbA : Below wr.heap.size wr (w1.alloc (.cells #[.int .i64 p.ev.time, .int .i64 p.ev.to, .int .i64 p.ev.src, .int .i64 p.ev.count, .int .i64 p.ev.n, .int .i64 p.ev.kind, .int .i64 p.ev.arg, .int .i64 p.st.x, .int .i64 p.st.y, .int .i64 p.st.c, .slice ua p.sends.length uc, .slice oa p.outs.length oc] 65)) := below_then (unhide HX1) ((Below.refl _ _).alloc (Nat.le_refl _) _)
      have hsA : (w1.alloc (.cells #[.int .i64 p.ev.time, .int .i64 p.ev.to, .int .i64 p.ev.src, .int .i64 p.ev.count, .int .i64 p.ev.n, .int .i64 p.ev.kind, .int .i64 p.ev.arg, .int .i64 p.st.x, .int .i64 p.st.y, .int .i64 p.st.c, .slice ua p.sends.length uc, .slice oa p.outs.length oc] 65)).heap.size = w1.heap.size + 1 := by simp
      have HBA := hide hbA
      have HSA := hide hsA
      clear hbA hsA
      refine wpAnyL_one (i := 7) (by kernel_rfl) rfl (fun K hK => ?_)
      go_simp
      refine held_on hK ?_ (fun hHeld => ?_)
      · exact ⟨cell_on (unhide HBA) kd, ((unhide HLC).on (unhide HBA)) 0 (by simp), ((unhide HLC).on (unhide HBA)) 1 (by simp), ((unhide HLC).on (unhide HBA)) 2 (by simp), ((unhide HLC).on (unhide HBA)) 3 (by simp), ((unhide HLC).on (unhide HBA)) 4 (by simp), ((unhide HLC).on (unhide HBA)) 5 (by simp), ((unhide HLC).on (unhide HBA)) 6 (by simp), ((unhide HLC).on (unhide HBA)) 7 (by simp), ((unhide HLC).on (unhide HBA)) 8 (by simp), ((unhide HLC).on (unhide HBA)) 9 (by simp), ((unhide HLC).on (unhide HBA)) 10 (by simp), ((unhide HLC).on (unhide HBA)) 11 (by simp)⟩
      clear hK K
      have HLTK : Hid ((ps.take k).length = k) := hide (by simp; omega)
      have hownA : (w1.alloc (.cells #[.int .i64 p.ev.time, .int .i64 p.ev.to, .int .i64 p.ev.src, .int .i64 p.ev.count, .int .i64 p.ev.n, .int .i64 p.ev.kind, .int .i64 p.ev.arg, .int .i64 p.st.x, .int .i64 p.st.y, .int .i64 p.st.c, .slice ua p.sends.length uc, .slice oa p.outs.length oc] 65)).ownsRow (w.heap.size + 2) 65 12 (.slice va k vc) k (flatP us (ps.take k)) := by
        have e := ownsOn (unhide HBA) (unhide HT).list.owns.2
        rwa [unhide HLTK] at e
      refine wpAnyL_one (i := 8) (by kernel_rfl) rfl (fun K hK => ?_)
      refine step_append_lies _ (by rfl) _ _ _ (by rfl) (w.heap.size + 2) 65 i12 _ 12 128 slice_cpPast hi12 hz0 hz1 hz2 (by rfl) (by omega) (.slice va k vc) k (flatP us (ps.take k)) (by rfl) hownA ⟨w1.heap.size, 0, none⟩ 1 1 (pastCells p (.slice ua p.sends.length uc) (.slice oa p.outs.length oc)) (by rfl) (by rfl) (World.news_of_block (cs := #[.int .i64 p.ev.time, .int .i64 p.ev.to, .int .i64 p.ev.src, .int .i64 p.ev.count, .int .i64 p.ev.n, .int .i64 p.ev.kind, .int .i64 p.ev.arg, .int .i64 p.st.x, .int .i64 p.st.y, .int .i64 p.st.c, .slice ua p.sends.length uc, .slice oa p.outs.length oc]) (t := 65) (fr := (0, 0)) (heap_alloc_new w1 _)) (by simp [Value.oneCell']) (by omega) (by unfold maxLen; omega) (by omega) (by have h1 := (unhide HBA).size; omega) (w1.alloc (.cells #[.int .i64 p.ev.time, .int .i64 p.ev.to, .int .i64 p.ev.src, .int .i64 p.ev.count, .int .i64 p.ev.n, .int .i64 p.ev.kind, .int .i64 p.ev.arg, .int .i64 p.st.x, .int .i64 p.st.y, .int .i64 p.st.c, .slice ua p.sends.length uc, .slice oa p.outs.length oc] 65)).heap.size rfl ?_
      intro g3 cap3 w8 hown8 hgrow8 hat8 hlt8
      have hown9 : w8.ownsRow (w.heap.size + 2) 65 12 (.slice (some ⟨g3, 0, none⟩) ((ps.take k).length + 1) cap3) ((ps.take k).length + 1) (flatP us (ps.take k) ++ pastCells p (.slice ua p.sends.length uc) (.slice oa p.outs.length oc)) := by
        rw [unhide HLTK]; exact hown8
      have hsn := pasts_snoc (unhide HT).list (unhide HT).nd (Nat.le_refl _) hsz (unhide HBA) (K := wr.heap.size) (Nat.le_refl _) (((unhide HF1).less (by simp)).on ((Below.refl _ _).alloc (Nat.le_refl _) _)) (unhide HAP) hgrow8 hown9 hat8 hlt8
      rw [← unhide HTK, show (ps.take (k + 1)).length = k + 1 by simp; omega] at hsn
      have hrowb : ∀ b, b < w.heap.size + 2 → w8.heap[b]? = wr.heap[b]? := fun b hb => by
        rw [hgrow8.block b (by have h1 := (unhide HBA).size; omega) (fun e => by have := ((unhide HT).list.blk b e.symm).1; omega), (unhide HBA).block b (by omega)]
      have hB8 : Below w.heap.size w w8 := Below.grown (below_then (unhide HB) (unhide HBA)) hgrow8 (by have h1 := (unhide HBA).size; omega) (fun b hb => by have := ((unhide HT).list.blk b hb).1; omega)
      have HSN := hide hsn
      have HB8 := hide hB8
      have hr8 := (unhide HT).row.of_block (hrowb (w.heap.size + 1) (by omega))
      have hs8 := (unhide HRES).of_block (hrowb w.heap.size (by omega))
      have k8 : w8.cell? ⟨w.heap.size + 1, 4, none⟩ = some (.slice va k vc) := hr8.cell (i := 4) (by omega)
      have f8 := hr8.frozen 4
      have hc8 : ∀ j u, wr.cell? ⟨g2, j, none⟩ = some u → w8.cell? ⟨g2, j, none⟩ = some u := fun j u hu => (World.cell?_of_block (a := ⟨g2, j, none⟩) (hrowb g2 (by omega))).trans hu
      have HR8 := hide hr8
      have HS8 := hide hs8
      have HN8 := hide (hc8 12 _ (unhide HNXT))
      refine held_on hK ?_ (fun hHeld => ?_)
      · exact ⟨k8, hc8 0 _ ((unhide HLC) 0 (by simp)), hc8 1 _ ((unhide HLC) 1 (by simp)), hc8 2 _ ((unhide HLC) 2 (by simp)), hc8 3 _ ((unhide HLC) 3 (by simp)), hc8 4 _ ((unhide HLC) 4 (by simp)), hc8 5 _ ((unhide HLC) 5 (by simp)), hc8 6 _ ((unhide HLC) 6 (by simp)), hc8 7 _ ((unhide HLC) 7 (by simp)), hc8 8 _ ((unhide HLC) 8 (by simp)), hc8 9 _ ((unhide HLC) 9 (by simp)), hc8 10 _ ((unhide HLC) 10 (by simp)), hc8 11 _ ((unhide HLC) 11 (by simp))⟩
      clear hK K hsn hrowb hB8 hr8 hs8 hown8 hown9 hgrow8 hat8 hlt8 hownA hc8
      refine wpAnyL_one (i := 9) (by kernel_rfl) rfl (fun K hK => ?_)
      go_simp
      refine held_on hK ?_ (fun hHeld => ?_)
      · exact hHeld
      clear hK K
      refine wpAnyL_end (by kernel_rfl) rfl (fun K hK => ?_)
      go_simp
      refine hK.out _ _ ?_
      clear hK K hHeld
      refine wpAnyL_done (by kernel_rfl) ?_ _
      have hne : g2 ≠ w.heap.size + 1 := by omega
      have n12 : (w8.setCell ⟨w.heap.size + 1, 4, none⟩ (.slice (some ⟨g3, 0, none⟩) (k + 1) cap3)).cell? ⟨g2, 12, none⟩ = some (ptrTo gs[k + 1]?) :=
        (World.cell?_of_block (a := ⟨g2, 12, none⟩) (Below.heap_setCell w8 ⟨w.heap.size + 1, 4, none⟩ _ g2 hne)).trans (unhide HN8)
      have HT2 : Hid (Taken (w.heap.size + 2) (w8.setCell ⟨w.heap.size + 1, 4, none⟩ (.slice (some ⟨g3, 0, none⟩) (k + 1) cap3)) (w.heap.size + 1) proc q0.st (.slice (some ⟨g3, 0, none⟩) (k + 1) cap3) (us ++ [(.slice ua p.sends.length uc, .slice oa p.outs.length oc)]) (ps.take (k + 1))) := hide (by
        refine ⟨((unhide HR8).set 4 _).congr (fun i hi => ?_), ?_, (unhide HSN).2⟩
        · show (if i = 4 then _ else _) = _
          match i, hi with
          | 0, _ => rfl
          | 1, _ => rfl
          | 2, _ => rfl
          | 3, _ => rfl
          | 4, _ => rfl
        · have h1 := (unhide HSN).1
          rw [show (w8.setCell ⟨w.heap.size + 1, 4, none⟩ (.slice (some ⟨g3, 0, none⟩) (k + 1) cap3)).heap.size = w8.heap.size by simp]
          exact h1.keep (fun b hb _ => Below.heap_setCell w8 ⟨w.heap.size + 1, 4, none⟩ _ b (by show b ≠ w.heap.size + 1; omega)))
      have HS2 := hide ((unhide HS8).of_block (Below.heap_setCell w8 ⟨w.heap.size + 1, 4, none⟩ (.slice (some ⟨g3, 0, none⟩) (k + 1) cap3) w.heap.size (by show w.heap.size ≠ w.heap.size + 1; omega)))
      have HB2 := hide ((unhide HB8).setCell (p := ⟨w.heap.size + 1, 4, none⟩) (Nat.le_succ _) (.slice (some ⟨g3, 0, none⟩) (k + 1) cap3))
      generalize (w8.setCell ⟨w.heap.size + 1, 4, none⟩ (.slice (some ⟨g3, 0, none⟩) (k + 1) cap3)) = w9 at *
      obtain ⟨nx2, hnx2⟩ : ∃ nx2, nx2 = gs[k + 1]? := ⟨_, rfl⟩
      rw [← hnx2] at n12
      have HNX2 := hide hnx2
      clear hnx2 k8 f8 kd
      go_wp2_with fail
      go_roundw
      case rel => exact ⟨k + 1, _, _, _, by omega, by rw [unhide HNX2], HT2, HS2, HB2⟩
      case measure =>
        rw [unhide HNX2]
        have a3 := unhide HG2
        have a5 : g2 < (g :: gs)[gs.length]'(by simp) + 1 := by
          rw [a3]
          by_cases e : k + 1 = gs.length
          · simp [← e]
          · have := (unhide HCH).asc (k + 1) gs.length (by simp; omega) (by simp) (by omega)
            simp only [List.getElem_cons_succ] at this
            omega
        by_cases e : k + 1 < gs.length
        · have a1 := (unhide HCH).asc (k + 1) (k + 2) (by simp; omega) (by simp; omega) (by omega)
          simp only [List.getElem_cons_succ] at a1
          rw [List.getElem?_eq_getElem e]
          simp only [ptrTo, Option.map_some]
          omega
        · rw [List.getElem?_eq_none (by omega)]
          simp only [ptrTo, Option.map_none]
          omega
    · have hke : k = ps.length := by omega
      have hpt : gs[k]? = none := List.getElem?_eq_none (by omega)
      rw [hpt]
      simp only [ptrTo, Option.map_none]
      subst hke
      have HTF := unhide HT
      rw [List.take_length] at HTF
      have HT2 := hide HTF
      clear HTF HT
      have y0 : wr.cell? ⟨w.heap.size, 0, none⟩ = some (.int .i64 0) := (unhide HRES).cell (i := 0) (by omega)
      have z0 := (unhide HRES).frozen 0
      have y1 : wr.cell? ⟨w.heap.size, 1, none⟩ = some (.int .i64 0) := (unhide HRES).cell (i := 1) (by omega)
      have z1 := (unhide HRES).frozen 1
      have y2 : wr.cell? ⟨w.heap.size, 2, none⟩ = some (.int .i64 0) := (unhide HRES).cell (i := 2) (by omega)
      have z2 := (unhide HRES).frozen 2
      have y3 : wr.cell? ⟨w.heap.size, 3, none⟩ = some (.int .i64 0) := (unhide HRES).cell (i := 3) (by omega)
      have z3 := (unhide HRES).frozen 3
      have y4 : wr.cell? ⟨w.heap.size, 4, none⟩ = some (.slice none 0 0) := (unhide HRES).cell (i := 4) (by omega)
      have z4 := (unhide HRES).frozen 4
      have l0 : wr.cell? ⟨w.heap.size + 1, 0, none⟩ = some (.int .i64 proc) := (unhide HT2).row.cell (i := 0) (by omega)
      have l1 : wr.cell? ⟨w.heap.size + 1, 1, none⟩ = some (.int .i64 q0.st.x) := (unhide HT2).row.cell (i := 1) (by omega)
      have l2 : wr.cell? ⟨w.heap.size + 1, 2, none⟩ = some (.int .i64 q0.st.y) := (unhide HT2).row.cell (i := 2) (by omega)
      have l3 : wr.cell? ⟨w.heap.size + 1, 3, none⟩ = some (.int .i64 q0.st.c) := (unhide HT2).row.cell (i := 3) (by omega)
      have l4 : wr.cell? ⟨w.heap.size + 1, 4, none⟩ = some (.slice va ps.length vc) := (unhide HT2).row.cell (i := 4) (by omega)
      go_wp2_with fail
      refine bodyPost_ret (v := laneAgg proc q0.st (.slice va ps.length vc)) (by simp [results, Try.results63, go_sem, y0, y1, y2, y3, y4]) rfl ⟨_, rfl, ?_, ?_⟩
      · refine ⟨us, ?_, (unhide HT2).nd⟩
        have h1 : PastsO w.heap.size wr.heap.size (setVals wr w.heap.size 0 (laneCells proc q0.st (.slice va ps.length vc))) (.slice va ps.length vc) us ps := ((unhide HT2).list.keep (fun b hb _ => setVals_other (laneCells proc q0.st (.slice va ps.length vc)) 0 wr b (by omega))).wide (by omega) (Nat.le_refl _)
        rw [← setVals_size (laneCells proc q0.st (.slice va ps.length vc)) 0 wr (b := w.heap.size)] at h1
        exact h1
      · exact setVals_below (laneCells proc q0.st (.slice va ps.length vc)) 0 wr (unhide HB) (Nat.le_refl _)
end Go.Proofs.Ytjdaedcpjfcpjaa
