/- Of lists of events and of what is let out: their types, the length of a row. -/
import Derived.Test.YtiljjhipiinafaaGreatFlatEvent
import Derived.Test.YtiljjhipiinafaaGreatFlatOut
import Derived.Test.YtiljjhipiinafaaGreatEv
import Derived.Test.YtiljjhipiinafaaGreatHeap
import Derived.Test.YtiljjhipiinafaaGreatHeapC
import Derived.Test.YtiljjhipiinafaaGreatHeld
import Derived.BigRegion
import Derived.Deep.Cut
import Derived.Test.YtiljjhipiinafaaGreatLtA
import Derived.Test.YtiljjhipiinafaaGreatLess2
import Derived.Deep.RegionHeld3
import Derived.BigQuiet
import Derived.Deep.CutBlock
namespace Go.Proofs.YtiljjhipiinafaaGreat.E
open Go.RowKit
theorem evRow_len (os : List EvV) : ∀ r ∈ os.map evRow, r.length = 7 := fun r hr => by
  obtain ⟨o, _, rfl⟩ := List.mem_map.1 hr; rfl

theorem slice_EvH : Tryz.prog.underlying 25 = some (.slice 56) := by kernel_rfl
theorem infoT_EvH : (Tryz.prog.info? 56).map (fun i => (i.zero, i.size, i.bytes)) = some (some (.agg #[.int .i64 0, .int .i64 0, .int .i64 0, .int .i64 0, .int .i64 0, .int .i64 0, .int .i64 0]), 7, 56) := by kernel_rfl
end Go.Proofs.YtiljjhipiinafaaGreat.E
namespace Go.Proofs.YtiljjhipiinafaaGreat
open Go.RowKit
theorem outRow_len (os : List OutV) : ∀ r ∈ os.map outRow, r.length = 5 := fun r hr => by
  obtain ⟨o, _, rfl⟩ := List.mem_map.1 hr; rfl

theorem slice_OutT : Tryz.prog.underlying 26 = some (.slice 60) := by kernel_rfl
theorem infoT_Out : (Tryz.prog.info? 60).map (fun i => (i.zero, i.size, i.bytes)) = some (some (.agg #[.int .i64 0, .int .i64 0, .int .i64 0, .int .i64 0, .int .i64 0]), 5, 40) := by kernel_rfl
end Go.Proofs.YtiljjhipiinafaaGreat

/- spec.EventSort: one by one, each to its place, each once. -/
namespace Go.Proofs.YtiljjhipiinafaaGreat.E
open Go.RowKit
set_option linter.unusedVariables false
set_option linter.unusedSimpArgs false

/-- A list in its own block: its block and its cells. -/
def EvOwn (B : Nat) (w : World) (g cap : Nat) (ys : List EvV) : Prop := RowsFr B 56 7 w (.slice (some ⟨g, 0, none⟩) ys.length cap) (ys.map evRow)

theorem EvOwn.cells {B g cap : Nat} {w : World} {ys : List EvV} (h : EvOwn B w g cap ys) : ∀ i (hi : i < ys.length) j, j < 7 → w.cell? ⟨g, i * 7 + j, none⟩ = some (.int .i64 ((evRow ys[i]).getD j 0)) := fun i hi j hj => by
  obtain ⟨ad, c, h1, h2, h3, h4⟩ := RowsFr.at h
  rcases h4 with h4 | ⟨b, off, h4, h5⟩
  · rw [List.map_eq_nil_iff] at h4; subst h4; simp at hi
  · rw [List.length_map] at h1
    simp only [Value.slice.injEq] at h1
    obtain ⟨rfl, _, rfl⟩ := h1
    have := h5 i (by rw [List.length_map]; exact hi) j hj
    simp only [Option.some.injEq, Addr.mk.injEq] at h4
    obtain ⟨rfl, rfl, _⟩ := h4
    rw [List.getElem_map, Nat.zero_add] at this
    exact this

theorem EvOwn.le {B g cap : Nat} {w : World} {ys : List EvV} (h : EvOwn B w g cap ys) : ys.length ≤ cap ∧ cap ≤ maxLen := by
  rcases h with ⟨h1, _⟩ | ⟨g', cap', f, h1, h2, h3, h4, h5⟩
  · simp at h1
  · simp only [Value.slice.injEq, Option.some.injEq, Addr.mk.injEq] at h1
    obtain ⟨_, _, rfl⟩ := h1
    rw [List.length_map] at h3
    exact ⟨h3, h4⟩

theorem EvOwn.on {B g cap : Nat} {w w' : World} {ys : List EvV} (hb : Below w.heap.size w w') (h : EvOwn B w g cap ys) : EvOwn B w' g cap ys := RowsFr.on hb h

theorem evOwn_of_owns {B : Nat} {w : World} {v : Value} {ys : List EvV} (hne : 0 < ys.length) (h : w.ownsRow B 56 7 v ys.length (flatCells (ys.map evRow))) : ∃ g cap, v = .slice (some ⟨g, 0, none⟩) ys.length cap ∧ EvOwn B w g cap ys := by
  obtain ⟨g, cap, rfl, _, _⟩ := h.form hne
  exact ⟨g, cap, rfl, RowsFr.of_owns (evRow_len ys) (by rw [List.length_map]; exact h)⟩

theorem sSort_of {W w' : World} {b g k n off : Nat} {x y : EvV} (hx : W.cell? ⟨b, off + k * 7, none⟩ = some (.int .i64 x.time) ∧ W.cell? ⟨b, off + k * 7 + 1, none⟩ = some (.int .i64 x.to) ∧ W.cell? ⟨b, off + k * 7 + 2, none⟩ = some (.int .i64 x.src) ∧ W.cell? ⟨b, off + k * 7 + 3, none⟩ = some (.int .i64 x.count) ∧ W.cell? ⟨b, off + k * 7 + 4, none⟩ = some (.int .i64 x.n) ∧ W.cell? ⟨b, off + k * 7 + 5, none⟩ = some (.int .i64 x.kind) ∧ W.cell? ⟨b, off + k * 7 + 6, none⟩ = some (.int .i64 x.arg)) (B : ∀ j, j < 7 → W.cell? ⟨g, n * 7 + j, none⟩ = some (.int .i64 ((evRow y).getD j 0))) (hb : Below W.heap.size W w') :
    w'.cell? ⟨b, off + k * 7, none⟩ = some (.int .i64 x.time) ∧ w'.cell? ⟨b, off + k * 7 + 1, none⟩ = some (.int .i64 x.to) ∧ w'.cell? ⟨b, off + k * 7 + 2, none⟩ = some (.int .i64 x.src) ∧ w'.cell? ⟨b, off + k * 7 + 3, none⟩ = some (.int .i64 x.count) ∧ w'.cell? ⟨b, off + k * 7 + 4, none⟩ = some (.int .i64 x.n) ∧ w'.cell? ⟨b, off + k * 7 + 5, none⟩ = some (.int .i64 x.kind) ∧ w'.cell? ⟨b, off + k * 7 + 6, none⟩ = some (.int .i64 x.arg) ∧ w'.cell? ⟨g, n * 7, none⟩ = some (.int .i64 y.time) ∧ w'.cell? ⟨g, n * 7 + 1, none⟩ = some (.int .i64 y.to) ∧ w'.cell? ⟨g, n * 7 + 2, none⟩ = some (.int .i64 y.src) ∧ w'.cell? ⟨g, n * 7 + 3, none⟩ = some (.int .i64 y.count) ∧ w'.cell? ⟨g, n * 7 + 4, none⟩ = some (.int .i64 y.n) ∧ w'.cell? ⟨g, n * 7 + 5, none⟩ = some (.int .i64 y.kind) ∧ w'.cell? ⟨g, n * 7 + 6, none⟩ = some (.int .i64 y.arg) ∧ Below W.heap.size W w' :=
  ⟨cell_on hb hx.1, cell_on hb hx.2.1, cell_on hb hx.2.2.1, cell_on hb hx.2.2.2.1, cell_on hb hx.2.2.2.2.1, cell_on hb hx.2.2.2.2.2.1, cell_on hb hx.2.2.2.2.2.2, cell_on hb (B 0 (by omega)), cell_on hb (B 1 (by omega)), cell_on hb (B 2 (by omega)), cell_on hb (B 3 (by omega)), cell_on hb (B 4 (by omega)), cell_on hb (B 5 (by omega)), cell_on hb (B 6 (by omega)), hb⟩

theorem sx_of {W V : World} {b off k : Nat} {x : EvV} (hx : W.cell? ⟨b, off + k * 7, none⟩ = some (.int .i64 x.time) ∧ W.cell? ⟨b, off + k * 7 + 1, none⟩ = some (.int .i64 x.to) ∧ W.cell? ⟨b, off + k * 7 + 2, none⟩ = some (.int .i64 x.src) ∧ W.cell? ⟨b, off + k * 7 + 3, none⟩ = some (.int .i64 x.count) ∧ W.cell? ⟨b, off + k * 7 + 4, none⟩ = some (.int .i64 x.n) ∧ W.cell? ⟨b, off + k * 7 + 5, none⟩ = some (.int .i64 x.kind) ∧ W.cell? ⟨b, off + k * 7 + 6, none⟩ = some (.int .i64 x.arg)) (hb : Below W.heap.size W V) : V.cell? ⟨b, off + k * 7, none⟩ = some (.int .i64 x.time) ∧ V.cell? ⟨b, off + k * 7 + 1, none⟩ = some (.int .i64 x.to) ∧ V.cell? ⟨b, off + k * 7 + 2, none⟩ = some (.int .i64 x.src) ∧ V.cell? ⟨b, off + k * 7 + 3, none⟩ = some (.int .i64 x.count) ∧ V.cell? ⟨b, off + k * 7 + 4, none⟩ = some (.int .i64 x.n) ∧ V.cell? ⟨b, off + k * 7 + 5, none⟩ = some (.int .i64 x.kind) ∧ V.cell? ⟨b, off + k * 7 + 6, none⟩ = some (.int .i64 x.arg) :=
  ⟨cell_on hb hx.1, cell_on hb hx.2.1, cell_on hb hx.2.2.1, cell_on hb hx.2.2.2.1, cell_on hb hx.2.2.2.2.1, cell_on hb hx.2.2.2.2.2.1, cell_on hb hx.2.2.2.2.2.2⟩

/-- With one place shifted. -/
theorem shift_set (ys : List EvV) (t : EvV) (n : Nat) (hn : n < ys.length) : (ys.take (n + 1) ++ t :: ys.drop (n + 1)).set (n + 1) ys[n] = ys.take n ++ ys[n] :: ys.drop n := by
  have h1 : (ys.take (n + 1)).length = n + 1 := by rw [List.length_take]; omega
  rw [List.set_append_right _ _ (by omega), h1, Nat.sub_self, List.set_cons_zero, List.take_succ_eq_append_getElem hn, List.append_assoc]
  conv => rhs; rw [List.drop_eq_getElem_cons hn]
  rfl

theorem place_set (ys : List EvV) (t x : EvV) (n : Nat) (hn : n ≤ ys.length) : (ys.take n ++ t :: ys.drop n).set n x = ys.take n ++ x :: ys.drop n := by
  have h1 : (ys.take n).length = n := by rw [List.length_take]; omega
  rw [List.set_append_right _ _ (by omega), h1, Nat.sub_self, List.set_cons_zero]

theorem place_len (ys : List EvV) (t : EvV) (n : Nat) (hn : n ≤ ys.length) : (ys.take n ++ t :: ys.drop n).length = ys.length + 1 := by
  rw [List.length_append, List.length_cons, List.length_take, List.length_drop]; omega

theorem place_at (ys : List EvV) (t : EvV) (n : Nat) (hn : n < ys.length) : (ys.take (n + 1) ++ t :: ys.drop (n + 1))[n]? = some ys[n] := by
  rw [List.getElem?_append_left (by rw [List.length_take]; omega), List.getElem?_take, if_pos (by omega), List.getElem?_eq_getElem hn]

theorem EvOwn.set {B g cap : Nat} {w : World} {ys : List EvV} {k : Nat} (hk : k < ys.length) (x : EvV) (h : EvOwn B w g cap ys) : EvOwn B (setRow w g (k * 7) (evRow x)) g cap (ys.set k x) := by
  have e := RowsFr.setAt (k := k) (by rw [List.length_map]; exact hk) (evRow x) rfl h
  unfold EvOwn
  rw [List.length_set, List.map_set]
  exact e

theorem EvOwn.fz {B g cap : Nat} {w : World} {ys : List EvV} (h : EvOwn B w g cap ys) (hne : 0 < ys.length) : ∀ i, w.frozen? ⟨g, i, none⟩ = false := by
  obtain ⟨g', cap', e1, _, _, _, e2⟩ := RowsFr.own h (by intro e; rw [List.map_eq_nil_iff] at e; subst e; simp at hne)
  simp only [Value.slice.injEq, Option.some.injEq, Addr.mk.injEq] at e1
  obtain ⟨⟨rfl, _⟩, _, _⟩ := e1
  exact e2

theorem EvOwn.blk {B g cap : Nat} {w : World} {ys : List EvV} (h : EvOwn B w g cap ys) : B ≤ g ∧ g < w.heap.size := RowsFr.blk h g rfl

set_option maxRecDepth 100000 in
set_option maxHeartbeats 1000000 in
theorem specEventSort_any (S : Strict evLess) (v0 : Value) (os : List EvV) (w : World) (h : RowsAt 7 w v0 (os.map evRow)) (hx : os.length ≤ 1000000000) :
    Calls Tryz.prog 47 #[v0] w fun e w' => ∃ vr zs, e = .returned vr ∧ Up evLess zs ∧ (∀ a, a ∈ zs ↔ a ∈ os) ∧ RowsFr w.heap.size 56 7 w' vr (zs.map evRow) ∧ Below w.heap.size w w' := by
  obtain ⟨i7, hi7, hz70, hz71, hz72⟩ := infoT_parts infoT_EvH
  obtain ⟨ad, cap, rfl, hlc, hm, hc⟩ := h
  rw [List.length_map] at *
  unfold maxLen at hm
  have HC := hide hc
  clear hc
  have hb0 : Below w.heap.size w (w.alloc (.cells #[] 56)) := (Below.refl _ _).alloc (Nat.le_refl _) _
  have ho0 : EvOwn w.heap.size (w.alloc (.cells #[] 56)) w.heap.size 0 [] := RowsFr.of_owns (fun r hr => by simp at hr) (World.ownsRow_lit w #[] 0 (Nat.le_refl _) (Nat.zero_le _) rfl)
  have HB0 := hide hb0
  have HO0 := hide ho0
  clear hb0 ho0
  go_enter Tryz.func47, Tryz.ntmps47
  go_wp2_with fail
  generalize (w.alloc (.cells #[] 56)) = W1 at *
  go_loopw [3, 4] (fun l i wr => ∃ (k g cp : Nat) (ys : List EvV), k ≤ os.length ∧ i = .int .i64 k ∧ l = .slice (some ⟨g, 0, none⟩) ys.length cp ∧ ys.length ≤ k ∧ Hid (Up evLess ys) ∧ Hid (∀ a, a ∈ ys ↔ a ∈ os.take k) ∧ Hid (EvOwn w.heap.size wr g cp ys) ∧ Hid (Below w.heap.size w wr)) (fun _ i _ => os.length - (intOf i).toNat)
  case atStart => exact ⟨0, w.heap.size, 0, [], Nat.zero_le _, rfl, rfl, Nat.le_refl _, hide List.Pairwise.nil, hide (by simp), HO0, HB0⟩
  case round =>
    obtain ⟨k, g, cp, ys, hk, rfl, rfl, hyl, HA, HP, HO, HB⟩ := hrel
    by_cases hlt : k < os.length
    · have hkI : (k : Int) < (os.length : Int) := by omega
      have hk0 : (0 : Int) ≤ (k : Int) := by omega
      have hcp := (unhide HO).le
      have hcp1 := hcp.1
      have hcp2 := hcp.2
      unfold maxLen at hcp2
      clear hcp
      obtain ⟨b, off, had, hcell⟩ : ∃ b off, ad = some ⟨b, off, none⟩ ∧ ∀ j, j < 7 → w.cell? ⟨b, off + k * 7 + j, none⟩ = some (.int .i64 ((evRow os[k]).getD j 0)) := by
        rcases unhide HC with h | ⟨b, off, h1, h2⟩
        · rw [List.map_eq_nil_iff] at h; subst h; simp at hlt
        · refine ⟨b, off, h1, fun j hj => ?_⟩
          have := h2 k (by rw [List.length_map]; exact hlt) j hj
          rwa [List.getElem_map] at this
      subst had
      have HXK : Hid (os.take (k + 1) = os.take k ++ [os[k]]) := hide (take_more os k hlt)
      generalize os[k] = x at *
      have p0 := hcell 0 (by omega)
      have p1 := hcell 1 (by omega)
      have p2 := hcell 2 (by omega)
      have p3 := hcell 3 (by omega)
      have p4 := hcell 4 (by omega)
      have p5 := hcell 5 (by omega)
      have p6 := hcell 6 (by omega)
      simp [evRow] at p0 p1 p2 p3 p4 p5 p6
      clear hcell
      have HPW : Hid (w.cell? ⟨b, off + k * 7, none⟩ = some (.int .i64 x.time) ∧ w.cell? ⟨b, off + k * 7 + 1, none⟩ = some (.int .i64 x.to) ∧ w.cell? ⟨b, off + k * 7 + 2, none⟩ = some (.int .i64 x.src) ∧ w.cell? ⟨b, off + k * 7 + 3, none⟩ = some (.int .i64 x.count) ∧ w.cell? ⟨b, off + k * 7 + 4, none⟩ = some (.int .i64 x.n) ∧ w.cell? ⟨b, off + k * 7 + 5, none⟩ = some (.int .i64 x.kind) ∧ w.cell? ⟨b, off + k * 7 + 6, none⟩ = some (.int .i64 x.arg)) := hide ⟨p0, p1, p2, p3, p4, p5, p6⟩
      have HPX : Hid (wr.cell? ⟨b, off + k * 7, none⟩ = some (.int .i64 x.time) ∧ wr.cell? ⟨b, off + k * 7 + 1, none⟩ = some (.int .i64 x.to) ∧ wr.cell? ⟨b, off + k * 7 + 2, none⟩ = some (.int .i64 x.src) ∧ wr.cell? ⟨b, off + k * 7 + 3, none⟩ = some (.int .i64 x.count) ∧ wr.cell? ⟨b, off + k * 7 + 4, none⟩ = some (.int .i64 x.n) ∧ wr.cell? ⟨b, off + k * 7 + 5, none⟩ = some (.int .i64 x.kind) ∧ wr.cell? ⟨b, off + k * 7 + 6, none⟩ = some (.int .i64 x.arg)) := hide (sx_of (unhide HPW) (unhide HB))
      clear p0 p1 p2 p3 p4 p5 p6
      go_wp2_with fail
      generalize wr = wo at *
      go_loopw [5] (fun i wq => ∃ (m : Nat), m ≤ ys.length ∧ i = .int .i64 m ∧ Hid (PlaceOf evLess ys x m) ∧ Hid (Below wo.heap.size wo wq)) (fun i _ => (intOf i).toNat)
      case atStart => exact ⟨ys.length, Nat.le_refl _, rfl, hide (PlaceOf.start ys x), hide (Below.refl _ _)⟩
      case round =>
        obtain ⟨m, hm, rfl, HPL, HBQ⟩ := hrel
        have hmI : (m : Int) ≤ (ys.length : Int) := by omega
        go_upto_region 6 with fail
        go_cut [29] from 16 to 29 (fun c wx => ∃ bb : Bool, c = .bool bb ∧ Hid (bb = true → 0 < m ∧ ∀ y, ys[m - 1]? = some y → evLess x y = true) ∧ Hid (bb = false → 0 < m → ∀ y, ys[m - 1]? = some y → evLess x y = false) ∧ Hid (Below wo.heap.size wo wx))
        case first =>
          by_cases hm0 : m = 0
          · subst hm0
            have hd : decide ((0 : Int) < 0) = false := by decide
            go_quiet (fail)
            go_wp2_with fail
            go_meet
            exact ⟨false, rfl, hide (fun h => by cases h), hide (fun _ h => absurd h (Nat.lt_irrefl 0)), hide (below_then (unhide HBQ) (below_drewN (Below.refl _ _) _))⟩
          · obtain ⟨n, rfl⟩ : ∃ n, m = n + 1 := ⟨m - 1, by omega⟩
            have hn : n < ys.length := by omega
            have hB := ((unhide HO).on (unhide HBQ)).cells n hn
            have HY : Hid (∀ y, ys[n + 1 - 1]? = some y → y = ys[n]) := hide (fun y hy => by
              rw [Nat.add_sub_cancel, List.getElem?_eq_getElem hn] at hy
              exact (Option.some.inj hy).symm)
            generalize ys[n] = y at *
            have hX := unhide HPX
            have hX2 : Hid (wr.cell? ⟨b, off + k * 7, none⟩ = some (.int .i64 x.time) ∧ wr.cell? ⟨b, off + k * 7 + 1, none⟩ = some (.int .i64 x.to) ∧ wr.cell? ⟨b, off + k * 7 + 2, none⟩ = some (.int .i64 x.src) ∧ wr.cell? ⟨b, off + k * 7 + 3, none⟩ = some (.int .i64 x.count) ∧ wr.cell? ⟨b, off + k * 7 + 4, none⟩ = some (.int .i64 x.n) ∧ wr.cell? ⟨b, off + k * 7 + 5, none⟩ = some (.int .i64 x.kind) ∧ wr.cell? ⟨b, off + k * 7 + 6, none⟩ = some (.int .i64 x.arg)) := hide ⟨cell_on (unhide HBQ) hX.1, cell_on (unhide HBQ) hX.2.1, cell_on (unhide HBQ) hX.2.2.1, cell_on (unhide HBQ) hX.2.2.2.1, cell_on (unhide HBQ) hX.2.2.2.2.1, cell_on (unhide HBQ) hX.2.2.2.2.2.1, cell_on (unhide HBQ) hX.2.2.2.2.2.2⟩
            have hnI2 : (n : Int) < (ys.length : Int) := by omega
            have hw1 : IntKind.i64.wrap ((n : Int) + 1 - 1) = (n : Int) := by rw [IntKind.wrap_i64]; omega
            have hw2 : IntKind.i64.wrap (n : Int) = (n : Int) := by rw [IntKind.wrap_i64]; omega
            have hw3 : IntKind.i64.wrap (((n + 1 : Nat) : Int) - 1) = (n : Int) := by rw [IntKind.wrap_i64]; omega
            have hn0 : (0 : Int) ≤ (n : Int) := by omega
            have hd : decide ((0 : Int) < (n : Int) + 1) = true := decide_eq_true (by omega)
            have hd2 : (0 : Int) < (n : Int) + 1 := by omega
            go_region_held3 (fun w' => w'.cell? ⟨b, off + k * 7, none⟩ = some (.int .i64 x.time) ∧ w'.cell? ⟨b, off + k * 7 + 1, none⟩ = some (.int .i64 x.to) ∧ w'.cell? ⟨b, off + k * 7 + 2, none⟩ = some (.int .i64 x.src) ∧ w'.cell? ⟨b, off + k * 7 + 3, none⟩ = some (.int .i64 x.count) ∧ w'.cell? ⟨b, off + k * 7 + 4, none⟩ = some (.int .i64 x.n) ∧ w'.cell? ⟨b, off + k * 7 + 5, none⟩ = some (.int .i64 x.kind) ∧ w'.cell? ⟨b, off + k * 7 + 6, none⟩ = some (.int .i64 x.arg) ∧ w'.cell? ⟨g, n * 7, none⟩ = some (.int .i64 y.time) ∧ w'.cell? ⟨g, n * 7 + 1, none⟩ = some (.int .i64 y.to) ∧ w'.cell? ⟨g, n * 7 + 2, none⟩ = some (.int .i64 y.src) ∧ w'.cell? ⟨g, n * 7 + 3, none⟩ = some (.int .i64 y.count) ∧ w'.cell? ⟨g, n * 7 + 4, none⟩ = some (.int .i64 y.n) ∧ w'.cell? ⟨g, n * 7 + 5, none⟩ = some (.int .i64 y.kind) ∧ w'.cell? ⟨g, n * 7 + 6, none⟩ = some (.int .i64 y.arg) ∧ Below wr.heap.size wr w')
              ((go_split_ands; refine sSort_of (unhide hX2) hB ?_; first | exact (Below.refl _ _).drew | exact below_then (by assumption) hbe))
              (first
                | (go_at_call 75; refine (specEventLess_any x y _).mono ?_; rintro e we ⟨rfl, hbe⟩; have hBe := below_then (a := wr) (by go_split_ands; assumption) hbe))
            go_wp2_with fail
            go_meet
            exact ⟨evLess x y, rfl, hide (fun h => ⟨by omega, fun z hz => by rw [(unhide HY) z hz]; exact h⟩), hide (fun h _ z hz => by rw [(unhide HY) z hz]; exact h), hide (below_then (unhide HBQ) hBe)⟩
        case rest =>
          obtain ⟨bb, rfl, HT, HF, HBX⟩ := hcut
          cases bb
          · generalize wc = wp at *
            go_upto_region 8 with fail
            go_cut [45] from 32 to 45 (fun c wx => ∃ bb : Bool, c = .bool bb ∧ Hid (bb = true → 0 < m ∧ ys[m - 1]? = some x) ∧ Hid (bb = false → 0 < m → ¬ ys[m - 1]? = some x) ∧ Hid (Below wp.heap.size wp wx))
            case first =>
              by_cases hm0 : m = 0
              · subst hm0
                have hd : decide ((0 : Int) < 0) = false := by decide
                go_quiet (fail)
                go_wp2_with fail
                go_meet
                exact ⟨false, rfl, hide (fun h => by cases h), hide (fun _ h => absurd h (Nat.lt_irrefl 0)), hide (below_drewN (Below.refl _ _) _)⟩
              · obtain ⟨n, rfl⟩ : ∃ n, m = n + 1 := ⟨m - 1, by omega⟩
                have hn : n < ys.length := by omega
                have hB := ((unhide HO).on (unhide HBX)).cells n hn
                have HY : Hid (ys[n + 1 - 1]? = some ys[n]) := hide (by rw [Nat.add_sub_cancel]; exact List.getElem?_eq_getElem hn)
                generalize ys[n] = y at *
                have hX := unhide HPX
                obtain ⟨x0, x1, x2, x3, x4, x5, x6⟩ : wp.cell? ⟨b, off + k * 7, none⟩ = some (.int .i64 x.time) ∧ wp.cell? ⟨b, off + k * 7 + 1, none⟩ = some (.int .i64 x.to) ∧ wp.cell? ⟨b, off + k * 7 + 2, none⟩ = some (.int .i64 x.src) ∧ wp.cell? ⟨b, off + k * 7 + 3, none⟩ = some (.int .i64 x.count) ∧ wp.cell? ⟨b, off + k * 7 + 4, none⟩ = some (.int .i64 x.n) ∧ wp.cell? ⟨b, off + k * 7 + 5, none⟩ = some (.int .i64 x.kind) ∧ wp.cell? ⟨b, off + k * 7 + 6, none⟩ = some (.int .i64 x.arg) := ⟨cell_on (unhide HBX) hX.1, cell_on (unhide HBX) hX.2.1, cell_on (unhide HBX) hX.2.2.1, cell_on (unhide HBX) hX.2.2.2.1, cell_on (unhide HBX) hX.2.2.2.2.1, cell_on (unhide HBX) hX.2.2.2.2.2.1, cell_on (unhide HBX) hX.2.2.2.2.2.2⟩
                have y0 := hB 0 (by omega)
                have y1 := hB 1 (by omega)
                have y2 := hB 2 (by omega)
                have y3 := hB 3 (by omega)
                have y4 := hB 4 (by omega)
                have y5 := hB 5 (by omega)
                have y6 := hB 6 (by omega)
                simp [evRow] at y0 y1 y2 y3 y4 y5 y6
                clear hB
                have hnI2 : (n : Int) < (ys.length : Int) := by omega
                have hw1 : IntKind.i64.wrap ((n : Int) + 1 - 1) = (n : Int) := by rw [IntKind.wrap_i64]; omega
                have hw2 : IntKind.i64.wrap (n : Int) = (n : Int) := by rw [IntKind.wrap_i64]; omega
                have hw3 : IntKind.i64.wrap (((n + 1 : Nat) : Int) - 1) = (n : Int) := by rw [IntKind.wrap_i64]; omega
                have hn0 : (0 : Int) ≤ (n : Int) := by omega
                have hd : decide ((0 : Int) < (n : Int) + 1) = true := decide_eq_true (by omega)
                have hd2 : (0 : Int) < (n : Int) + 1 := by omega
                obtain ⟨r, hr⟩ := eq_event y x
                have hg1 := guard_ev
                have he1 : ∀ w, (binOp .eql 56 (.agg #[.int .i64 y.time, .int .i64 y.to, .int .i64 y.src, .int .i64 y.count, .int .i64 y.n, .int .i64 y.kind, .int .i64 y.arg]) (.agg #[.int .i64 x.time, .int .i64 x.to, .int .i64 x.src, .int .i64 x.count, .int .i64 x.n, .int .i64 x.kind, .int .i64 x.arg])).run Tryz.prog w = .ok (.bool r) w := hr.op
                have HR := hide hr.iff
                clear hr
                go_quiet (fail)
                go_wp2_with fail
                go_meet
                exact ⟨r, rfl, hide (fun h => ⟨by omega, by rw [unhide HY, ((unhide HR).1 h)]⟩), hide (fun h _ e => by
                  rw [unhide HY] at e
                  have := (unhide HR).2 (Option.some.inj e)
                  rw [this] at h; cases h), hide (below_drewN (Below.refl _ _) _)⟩
            case rest =>
              obtain ⟨bb, rfl, HT2, HF2, HBY⟩ := hcut
              have HBC := hide (below_then (unhide HB) (below_then (unhide HBX) (unhide HBY)))
              have HOC := hide (((unhide HO).on (unhide HBX)).on (unhide HBY))
              cases bb
              · have HUP : Hid (Up evLess (ys.take m ++ x :: ys.drop m)) := hide (up_place S (unhide HA) (unhide HPL) (fun h0 => by
                  have hlt1 : m - 1 < ys.length := by omega
                  have h1 := (unhide HF) rfl h0 _ (List.getElem?_eq_getElem hlt1)
                  cases h2 : evLess ys[m - 1] x
                  · have h3 := S.tot _ _ h2 h1
                    exact absurd (by rw [List.getElem?_eq_getElem hlt1, h3]) ((unhide HF2) rfl h0)
                  · rfl))
                have HMB : Hid (∀ a, a ∈ ys.take m ++ x :: ys.drop m ↔ a ∈ os.take (k + 1)) := hide (fun a => by
                  rw [ins_mem, unhide HXK, List.mem_append, List.mem_singleton, (unhide HP) a, or_comm])
                obtain ⟨x0, x1, x2, x3, x4, x5, x6⟩ : wc.cell? ⟨b, off + k * 7, none⟩ = some (.int .i64 x.time) ∧ wc.cell? ⟨b, off + k * 7 + 1, none⟩ = some (.int .i64 x.to) ∧ wc.cell? ⟨b, off + k * 7 + 2, none⟩ = some (.int .i64 x.src) ∧ wc.cell? ⟨b, off + k * 7 + 3, none⟩ = some (.int .i64 x.count) ∧ wc.cell? ⟨b, off + k * 7 + 4, none⟩ = some (.int .i64 x.n) ∧ wc.cell? ⟨b, off + k * 7 + 5, none⟩ = some (.int .i64 x.kind) ∧ wc.cell? ⟨b, off + k * 7 + 6, none⟩ = some (.int .i64 x.arg) := sx_of (unhide HPW) (unhide HBC)
                have hbA : Below wc.heap.size wc (wc.alloc (.cells #[.int .i64 x.time, .int .i64 x.to, .int .i64 x.src, .int .i64 x.count, .int .i64 x.n, .int .i64 x.kind, .int .i64 x.arg] 56)) := (Below.refl _ _).alloc (Nat.le_refl _) _
                have hownA : (wc.alloc (.cells #[.int .i64 x.time, .int .i64 x.to, .int .i64 x.src, .int .i64 x.count, .int .i64 x.n, .int .i64 x.kind, .int .i64 x.arg] 56)).ownsRow w.heap.size 56 7 (.slice (some ⟨g, 0, none⟩) ys.length cp) ys.length (flatCells (ys.map evRow)) := by
                  have e := ownsOn hbA (RowsFr.owns (by omega) (evRow_len ys) (unhide HOC))
                  rwa [List.length_map] at e
                have hsw := (unhide HBC).size
                go_wp2_with (at_builtin; refine wpList_append_lies _ (by rfl) _ _ _ (by rfl) w.heap.size 56 i7 _ 7 56 slice_EvH hi7 hz70 hz71 hz72 (by rfl) (by omega) (.slice (some ⟨g, 0, none⟩) ys.length cp) ys.length (flatCells (ys.map evRow)) (by rfl) hownA ⟨wc.heap.size, 0, none⟩ 1 1 (evCells x) (by rfl) (by rfl) (World.news_of_block (cs := #[.int .i64 x.time, .int .i64 x.to, .int .i64 x.src, .int .i64 x.count, .int .i64 x.n, .int .i64 x.kind, .int .i64 x.arg]) (t := 56) (fr := (0, 0)) (heap_alloc_new wc _)) (by simp [Value.oneCell']) (by omega) (by unfold maxLen; omega) (by omega) (by simp; omega) (wc.heap.size + 1) (by simp) ?_; intro g2 cap2 w3 hown3 hgrow hat hlt3)
                have hb3 : Below w.heap.size w w3 := Below.grown ((unhide HBC).trans (hbA.mono hsw)) hgrow (by simp; omega) (fun q hq => (hownA.lt q hq).1)
                have hr3 : EvOwn w.heap.size w3 g2 cap2 (ys.take ys.length ++ x :: ys.drop ys.length) := by
                  rw [List.take_length, List.drop_length]
                  unfold EvOwn
                  rw [List.length_append, List.map_append]
                  refine rowsFr_snoc (n := 7) (fun r hr => ?_) (by rw [List.length_map]; exact hown3)
                  have := evRow_len (ys ++ [x]); rw [List.map_append] at this; exact this r hr
                have HB3 := hide hb3
                have HR3 := hide hr3
                clear hb3 hr3 hown3 hgrow hat hlt3 hownA hbA x0 x1 x2 x3 x4 x5 x6
                go_loopw [6] (fun i wq => ∃ (n : Nat) (t : EvV), m ≤ n ∧ n ≤ ys.length ∧ i = .int .i64 n ∧ Hid (EvOwn w.heap.size wq g2 cap2 (ys.take n ++ t :: ys.drop n)) ∧ Hid (Below w.heap.size w wq)) (fun i _ => (intOf i).toNat)
                case atStart => exact ⟨ys.length, x, hm, Nat.le_refl _, by simp, HR3, HB3⟩
                case round =>
                  obtain ⟨n, t, hmn, hn, rfl, HON, HBN⟩ := hrel
                  have hlen := place_len ys t n hn
                  have hfz := (unhide HON).fz (by omega)
                  have hle := (unhide HON).le
                  have hle1 := hle.1
                  have hle2 := hle.2
                  rw [hlen] at hle1
                  unfold maxLen at hle2
                  have hblk := (unhide HON).blk
                  have hblk1 := hblk.1
                  clear hle hblk
                  by_cases hgt : m < n
                  · obtain ⟨l, rfl⟩ : ∃ l, n = l + 1 := ⟨n - 1, by omega⟩
                    have hl : l < ys.length := by omega
                    have hA := (unhide HON).cells l (by omega)
                    have hB := (unhide HON).cells (l + 1) (by omega)
                    have hge : (ys.take (l + 1) ++ t :: ys.drop (l + 1))[l]'(by omega) = ys[l] := by
                      have := place_at ys t l hl
                      rw [List.getElem?_eq_getElem (by omega)] at this
                      exact Option.some.inj this
                    rw [hge] at hA
                    have HSET : Hid ((ys.take (l + 1) ++ t :: ys.drop (l + 1)).set (l + 1) ys[l] = ys.take l ++ ys[l] :: ys.drop l) := hide (shift_set ys t l hl)
                    generalize ys[l] = y at *
                    have a0 := hA 0 (by omega)
                    have a1 := hA 1 (by omega)
                    have a2 := hA 2 (by omega)
                    have a3 := hA 3 (by omega)
                    have a4 := hA 4 (by omega)
                    have a5 := hA 5 (by omega)
                    have a6 := hA 6 (by omega)
                    have b0 := hB 0 (by omega)
                    have b1 := hB 1 (by omega)
                    have b2 := hB 2 (by omega)
                    have b3 := hB 3 (by omega)
                    have b4 := hB 4 (by omega)
                    have b5 := hB 5 (by omega)
                    have b6 := hB 6 (by omega)
                    have z0 := hfz ((l + 1) * 7 + 0)
                    have z1 := hfz ((l + 1) * 7 + 1)
                    have z2 := hfz ((l + 1) * 7 + 2)
                    have z3 := hfz ((l + 1) * 7 + 3)
                    have z4 := hfz ((l + 1) * 7 + 4)
                    have z5 := hfz ((l + 1) * 7 + 5)
                    have z6 := hfz ((l + 1) * 7 + 6)
                    simp [evRow] at a0 a1 a2 a3 a4 a5 a6
                    simp only [Nat.add_zero] at b0 z0
                    clear hA hB hfz hge
                    have hlI : (l : Int) < (ys.length : Int) + 1 := by omega
                    have hlI2 : (l : Int) + 1 < (ys.length : Int) + 1 := by omega
                    have hl0 : (0 : Int) ≤ (l : Int) := by omega
                    have hl1 : (0 : Int) ≤ (l : Int) + 1 := by omega
                    have hgtI : (m : Int) < (l : Int) + 1 := by omega
                    go_wp2_with fail
                    go_roundw
                    case rel =>
                      refine ⟨l, y, by omega, by omega, rfl, hide ?_, hide (setRow_below (evRow y) ((l + 1) * 7) wr (unhide HBN) hblk1)⟩
                      have e := (unhide HON).set (k := l + 1) (by omega) y
                      rw [unhide HSET] at e
                      exact e
                    case measure => simp [intOf]
                  · obtain rfl : m = n := by omega
                    have hB := (unhide HON).cells m (by omega)
                    obtain ⟨x0, x1, x2, x3, x4, x5, x6⟩ : wr.cell? ⟨b, off + k * 7, none⟩ = some (.int .i64 x.time) ∧ wr.cell? ⟨b, off + k * 7 + 1, none⟩ = some (.int .i64 x.to) ∧ wr.cell? ⟨b, off + k * 7 + 2, none⟩ = some (.int .i64 x.src) ∧ wr.cell? ⟨b, off + k * 7 + 3, none⟩ = some (.int .i64 x.count) ∧ wr.cell? ⟨b, off + k * 7 + 4, none⟩ = some (.int .i64 x.n) ∧ wr.cell? ⟨b, off + k * 7 + 5, none⟩ = some (.int .i64 x.kind) ∧ wr.cell? ⟨b, off + k * 7 + 6, none⟩ = some (.int .i64 x.arg) := sx_of (unhide HPW) (unhide HBN)
                    have b0 := hB 0 (by omega)
                    have b1 := hB 1 (by omega)
                    have b2 := hB 2 (by omega)
                    have b3 := hB 3 (by omega)
                    have b4 := hB 4 (by omega)
                    have b5 := hB 5 (by omega)
                    have b6 := hB 6 (by omega)
                    have z0 := hfz (m * 7 + 0)
                    have z1 := hfz (m * 7 + 1)
                    have z2 := hfz (m * 7 + 2)
                    have z3 := hfz (m * 7 + 3)
                    have z4 := hfz (m * 7 + 4)
                    have z5 := hfz (m * 7 + 5)
                    have z6 := hfz (m * 7 + 6)
                    simp only [Nat.add_zero] at b0 z0
                    clear hB hfz
                    have HSET : Hid ((ys.take m ++ t :: ys.drop m).set m x = ys.take m ++ x :: ys.drop m) := hide (place_set ys t x m hn)
                    have HZL : Hid ((ys.take m ++ x :: ys.drop m).length = ys.length + 1) := hide (place_len ys x m hn)
                    have hmI2 : (m : Int) < (ys.length : Int) + 1 := by omega
                    have hm0 : (0 : Int) ≤ (m : Int) := by omega
                    go_wp2_with fail
                    go_roundw
                    case rel =>
                      refine ⟨k + 1, g2, cap2, ys.take m ++ x :: ys.drop m, by omega, by simp, by rw [unhide HZL], by rw [unhide HZL]; omega, HUP, HMB, hide ?_, hide (setRow_below (evRow x) (m * 7) wr (unhide HBN) hblk1)⟩
                      have e := (unhide HON).set (k := m) (by omega) x
                      rw [unhide HSET] at e
                      exact e
                    case measure => simp [intOf]; omega
              · have hin := (unhide HT2) rfl
                have hxin : x ∈ ys := List.mem_of_getElem? hin.2
                go_wp2_with fail
                go_roundw
                case rel =>
                  refine ⟨k + 1, g, cp, ys, by omega, by simp, rfl, by omega, HA, hide (fun a => ?_), HOC, HBC⟩
                  rw [unhide HXK, List.mem_append, List.mem_singleton, ← (unhide HP) a]
                  constructor
                  · exact Or.inl
                  · rintro (h | rfl)
                    · exact h
                    · exact hxin
                case measure => simp [intOf]; omega
          · have hm0 := ((unhide HT) rfl).1
            go_wp2_with fail
            go_roundw
            case rel =>
              obtain ⟨n, rfl⟩ : ∃ n, m = n + 1 := ⟨m - 1, by omega⟩
              refine ⟨n, by omega, by simp, hide ?_, HBX⟩
              exact (unhide HPL).step (((unhide HT) rfl).2 _ (by rw [Nat.add_sub_cancel]; exact List.getElem?_eq_getElem (by omega)))
            case measure => simp [intOf]; omega
    · have hke : k = os.length := by omega
      go_wp2_with fail
      go_ret
      exact ⟨_, ys, rfl, unhide HA, fun a => by rw [(unhide HP) a, hke, List.take_length], unhide HO, unhide HB⟩
end Go.Proofs.YtiljjhipiinafaaGreat.E
