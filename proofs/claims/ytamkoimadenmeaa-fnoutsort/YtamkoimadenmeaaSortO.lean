/- spec.OutSort: one by one, each to its place. -/
import Derived.Test.YtamkoimadenmeaaHeapO9
import Derived.Test.YtamkoimadenmeaaLess4o
import Derived.Test.YtamkoimadenmeaaAppAny
import Derived.Deep.CutBlock
namespace Go.Proofs.Ytamkoimadenmeaa
open Go.RowKit
set_option linter.unusedVariables false
set_option linter.unusedSimpArgs false

/-- A list in its own block: its block and its cells. -/
def OutOwn (B : Nat) (w : World) (g cap : Nat) (ys : List OutV) : Prop := RowsFr B 24 5 w (.slice (some ⟨g, 0, none⟩) ys.length cap) (ys.map outRow)

theorem OutOwn.cells {B g cap : Nat} {w : World} {ys : List OutV} (h : OutOwn B w g cap ys) : ∀ i (hi : i < ys.length) j, j < 5 → w.cell? ⟨g, i * 5 + j, none⟩ = some (.int .i64 ((outRow ys[i]).getD j 0)) := fun i hi j hj => by
  obtain ⟨ad, c, h1, h2, h3, h4⟩ := RowsFr.at h
  rcases h4 with h4 | ⟨b, off, h4, h5⟩
  · rw [List.map_eq_nil_iff] at h4; subst h4; simp at hi
  · rw [List.length_map] at h1
    simp only [Value.slice.injEq] at h1
    obtain ⟨rfl, _, rfl⟩ := h1
    have := h5 i (by rw [List.length_map]; exact hi) j hj
    simp only [Option.some.injEq, Addr.mk.injEq] at h4
    obtain ⟨rfl, rfl, _⟩ := h4
    rw [List.getElem_map, Nat.zero_add] at this
    exact this

theorem OutOwn.le {B g cap : Nat} {w : World} {ys : List OutV} (h : OutOwn B w g cap ys) : ys.length ≤ cap ∧ cap ≤ maxLen := by
  rcases h with ⟨h1, _⟩ | ⟨g', cap', f, h1, h2, h3, h4, h5⟩
  · simp at h1
  · simp only [Value.slice.injEq, Option.some.injEq, Addr.mk.injEq] at h1
    obtain ⟨_, _, rfl⟩ := h1
    rw [List.length_map] at h3
    exact ⟨h3, h4⟩

theorem OutOwn.on {B g cap : Nat} {w w' : World} {ys : List OutV} (hb : Below w.heap.size w w') (h : OutOwn B w g cap ys) : OutOwn B w' g cap ys := RowsFr.on hb h

theorem outOwn_of_owns {B : Nat} {w : World} {v : Value} {ys : List OutV} (hne : 0 < ys.length) (h : w.ownsRow B 24 5 v ys.length (flatCells (ys.map outRow))) : ∃ g cap, v = .slice (some ⟨g, 0, none⟩) ys.length cap ∧ OutOwn B w g cap ys := by
  obtain ⟨g, cap, rfl, _, _⟩ := h.form hne
  exact ⟨g, cap, rfl, RowsFr.of_owns (outRow_len ys) (by rw [List.length_map]; exact h)⟩

/-- The cells of a part of the list, from place k on, m of them. -/
theorem OutOwn.part {B g cap k m : Nat} {w : World} {ys : List OutV} (h : OutOwn B w g cap ys) (hkm : k + m ≤ ys.length) :
    ∀ j u, (flatCells (((ys.drop k).take m).map outRow))[j]? = some u → w.cell? ((⟨g, k * 5, none⟩ : Addr).add j) = some u := fun j u hu => by
  have hadd : (⟨g, k * 5, none⟩ : Addr).add j = ⟨g, k * 5 + j, none⟩ := by unfold Addr.add; split <;> simp_all
  rw [hadd]
  have hlen : ((ys.drop k).take m).length = m := by rw [List.length_take, List.length_drop]; omega
  have hj : j < m * 5 := by
    have := (List.getElem?_eq_some_iff.1 hu).1
    rw [flatCells_len _ (outRow_len _), List.length_map, hlen] at this
    exact this
  have hd : j / 5 * 5 + j % 5 = j := by omega
  have hq : j / 5 < m := by omega
  have h1 := flatCells_at (((ys.drop k).take m).map outRow) (outRow_len _) (j / 5) (by rw [List.length_map, hlen]; exact hq) (j % 5) (by omega)
  rw [hd, hu] at h1
  have h2 := h.cells (k + j / 5) (by omega) (j % 5) (by omega)
  rw [show (k + j / 5) * 5 + j % 5 = k * 5 + j by omega] at h2
  rw [h2, h1, List.getElem_map, List.getElem_take, List.getElem_drop]

theorem flat_one (rs : List (List Int)) : ∀ u ∈ flatCells rs, u.oneCell' = true := fun u hu => by
  simp only [flatCells, List.mem_flatMap, List.mem_map] at hu
  obtain ⟨r, _, x, _, rfl⟩ := hu
  rfl

theorem take_drop_part (ys : List OutV) (k : Nat) : (ys.drop 0).take k = ys.take k := by simp

theorem sx_of {W V : World} {b off k : Nat} {x : OutV} (hx : W.cell? ⟨b, off + k * 5, none⟩ = some (.int .i64 x.time) ∧ W.cell? ⟨b, off + k * 5 + 1, none⟩ = some (.int .i64 x.proc) ∧ W.cell? ⟨b, off + k * 5 + 2, none⟩ = some (.int .i64 x.count) ∧ W.cell? ⟨b, off + k * 5 + 3, none⟩ = some (.int .i64 x.n) ∧ W.cell? ⟨b, off + k * 5 + 4, none⟩ = some (.int .i64 x.value)) (hb : Below W.heap.size W V) :
    V.cell? ⟨b, off + k * 5, none⟩ = some (.int .i64 x.time) ∧ V.cell? ⟨b, off + k * 5 + 1, none⟩ = some (.int .i64 x.proc) ∧ V.cell? ⟨b, off + k * 5 + 2, none⟩ = some (.int .i64 x.count) ∧ V.cell? ⟨b, off + k * 5 + 3, none⟩ = some (.int .i64 x.n) ∧ V.cell? ⟨b, off + k * 5 + 4, none⟩ = some (.int .i64 x.value) :=
  ⟨cell_on hb hx.1, cell_on hb hx.2.1, cell_on hb hx.2.2.1, cell_on hb hx.2.2.2.1, cell_on hb hx.2.2.2.2⟩

theorem take_flat {ys : List OutV} {m : Nat} (hm : m ≤ ys.length) : (flatCells ((ys.take m).map outRow)).length = m * 5 := by
  rw [flatCells_len _ (outRow_len _), List.length_map, List.length_take, Nat.min_eq_left hm]
theorem drop_flat {ys : List OutV} {m : Nat} (hm : m ≤ ys.length) : (flatCells ((ys.drop m).map outRow)).length = (ys.length - m) * 5 := by
  rw [flatCells_len _ (outRow_len _), List.length_map, List.length_drop]
theorem take_news {B g cap m : Nat} {w : World} {ys : List OutV} (h : OutOwn B w g cap ys) (hm : m ≤ ys.length) : ∀ j u, (flatCells ((ys.take m).map outRow))[j]? = some u → w.cell? ((⟨g, 0, none⟩ : Addr).add j) = some u := by
  have e := h.part (k := 0) (m := m) (by omega)
  rw [Nat.zero_mul, List.drop_zero] at e
  exact e
theorem drop_at {g cp m n : Nat} (hm : m ≤ n) (hn : n ≤ cp) : ∃ o, (if cp = m then some (⟨g, 0, none⟩ : Addr) else some ⟨g, m * 5, none⟩) = some ⟨g, o, none⟩ ∧ (o = m * 5 ∨ n = m) := by
  by_cases h : cp = m
  · exact ⟨0, by rw [if_pos h], Or.inr (by omega)⟩
  · exact ⟨m * 5, by rw [if_neg h], Or.inl rfl⟩
theorem drop_news {B g cap m o : Nat} {w : World} {ys : List OutV} (h : OutOwn B w g cap ys) (hm : m ≤ ys.length) (ho : o = m * 5 ∨ ys.length = m) : ∀ j u, (flatCells ((ys.drop m).map outRow))[j]? = some u → w.cell? ((⟨g, o, none⟩ : Addr).add j) = some u := by
  rcases ho with rfl | ho
  · have e := h.part (k := m) (m := ys.length - m) (by omega)
    rw [List.take_of_length_le (by rw [List.length_drop]; exact Nat.le_refl _)] at e
    exact e
  · rw [List.drop_of_length_le (by omega)]
    intro j u hj
    simp [flatCells] at hj
theorem news_kept {V V' : World} {f : Nat} {v : Value} {xs : List Value} (h : ∀ j u, xs[j]? = some u → V.cell? ((⟨f, 0, none⟩ : Addr).add j) = some u) (hg : V.grownBy V' v.ownBlock) (hne : v.ownBlock ≠ some f) : ∀ j u, xs[j]? = some u → V'.cell? ((⟨f, 0, none⟩ : Addr).add j) = some u := fun j u hj => by
  refine hg.cell (h j u hj) (fun e => hne ?_)
  have hadd : ((⟨f, 0, none⟩ : Addr).add j).block = f := by unfold Addr.add; split <;> rfl
  rw [hadd] at e
  exact e.symm
theorem outOwn_ins {B m : Nat} {w : World} {v : Value} {ys : List OutV} {x : OutV} (hm : m ≤ ys.length) (h : w.ownsRow B 24 5 v (m + 1 + (ys.length - m)) (flatCells ((ys.take m).map outRow) ++ outCells x ++ flatCells ((ys.drop m).map outRow))) :
    ∃ g cap zs, zs = ys.take m ++ x :: ys.drop m ∧ v = .slice (some ⟨g, 0, none⟩) zs.length cap ∧ OutOwn B w g cap zs := by
  have hl : (ys.take m ++ x :: ys.drop m).length = m + 1 + (ys.length - m) := by rw [List.length_append, List.length_cons, List.length_take, List.length_drop]; omega
  suffices hs : ∃ g cap, v = .slice (some ⟨g, 0, none⟩) (ys.take m ++ x :: ys.drop m).length cap ∧ OutOwn B w g cap (ys.take m ++ x :: ys.drop m) by
    obtain ⟨g, cap, h1, h2⟩ := hs
    exact ⟨g, cap, _, rfl, h1, h2⟩
  refine outOwn_of_owns (by rw [hl]; omega) ?_
  have e : flatCells ((ys.take m ++ x :: ys.drop m).map outRow) = flatCells ((ys.take m).map outRow) ++ outCells x ++ flatCells ((ys.drop m).map outRow) := by
    simp [flatCells, List.flatMap_append, outRow]
  rw [hl, e]
  exact h

theorem sSort_of {W w' : World} {b g k n off : Nat} {x y : OutV} (hx : W.cell? ⟨b, off + k * 5, none⟩ = some (.int .i64 x.time) ∧ W.cell? ⟨b, off + k * 5 + 1, none⟩ = some (.int .i64 x.proc) ∧ W.cell? ⟨b, off + k * 5 + 2, none⟩ = some (.int .i64 x.count) ∧ W.cell? ⟨b, off + k * 5 + 3, none⟩ = some (.int .i64 x.n) ∧ W.cell? ⟨b, off + k * 5 + 4, none⟩ = some (.int .i64 x.value)) (B : ∀ j, j < 5 → W.cell? ⟨g, n * 5 + j, none⟩ = some (.int .i64 ((outRow y).getD j 0))) (hb : Below W.heap.size W w') :
    w'.cell? ⟨b, off + k * 5, none⟩ = some (.int .i64 x.time) ∧ w'.cell? ⟨b, off + k * 5 + 1, none⟩ = some (.int .i64 x.proc) ∧ w'.cell? ⟨b, off + k * 5 + 2, none⟩ = some (.int .i64 x.count) ∧ w'.cell? ⟨b, off + k * 5 + 3, none⟩ = some (.int .i64 x.n) ∧ w'.cell? ⟨b, off + k * 5 + 4, none⟩ = some (.int .i64 x.value) ∧ w'.cell? ⟨g, n * 5, none⟩ = some (.int .i64 y.time) ∧ w'.cell? ⟨g, n * 5 + 1, none⟩ = some (.int .i64 y.proc) ∧ w'.cell? ⟨g, n * 5 + 2, none⟩ = some (.int .i64 y.count) ∧ w'.cell? ⟨g, n * 5 + 3, none⟩ = some (.int .i64 y.n) ∧ w'.cell? ⟨g, n * 5 + 4, none⟩ = some (.int .i64 y.value) ∧ Below W.heap.size W w' :=
  ⟨cell_on hb hx.1, cell_on hb hx.2.1, cell_on hb hx.2.2.1, cell_on hb hx.2.2.2.1, cell_on hb hx.2.2.2.2, cell_on hb (B 0 (by omega)), cell_on hb (B 1 (by omega)), cell_on hb (B 2 (by omega)), cell_on hb (B 3 (by omega)), cell_on hb (B 4 (by omega)), hb⟩

set_option maxRecDepth 100000 in
set_option maxHeartbeats 1000000 in
theorem specOutSort_any (S : Strict outLess) (v0 : Value) (os : List OutV) (w : World) (h : RowsAt 5 w v0 (os.map outRow)) (hx : os.length ≤ 1000000000) :
    Calls Try.prog 9 #[v0] w fun e w' => ∃ vr zs, e = .returned vr ∧ zs.Perm os ∧ Asc outLess zs ∧ RowsFr w.heap.size 24 5 w' vr (zs.map outRow) ∧ Below w.heap.size w w' := by
  obtain ⟨i7, hi7, hz70, hz71, hz72⟩ := infoT_parts infoT_Out
  obtain ⟨ad, cap, rfl, hlc, hm, hc⟩ := h
  rw [List.length_map] at *
  unfold maxLen at hm
  have HC := hide hc
  clear hc
  have hb0 : Below w.heap.size w (w.alloc (.cells #[] 24)) := (Below.refl _ _).alloc (Nat.le_refl _) _
  have ho0 : OutOwn w.heap.size (w.alloc (.cells #[] 24)) w.heap.size 0 [] := RowsFr.of_owns (fun r hr => by simp at hr) (World.ownsRow_lit w #[] 0 (Nat.le_refl _) (Nat.zero_le _) rfl)
  have HB0 := hide hb0
  have HO0 := hide ho0
  clear hb0 ho0
  go_enter Try.func9, Try.ntmps9
  go_wp2_with fail
  generalize (w.alloc (.cells #[] 24)) = W1 at *
  go_loopw [3, 4] (fun l i wr => ∃ (k g cp : Nat) (ys : List OutV), k ≤ os.length ∧ i = .int .i64 k ∧ l = .slice (some ⟨g, 0, none⟩) ys.length cp ∧ Hid (ys.length = k) ∧ Hid (ys.Perm (os.take k)) ∧ Hid (Asc outLess ys) ∧ Hid (OutOwn w.heap.size wr g cp ys) ∧ Hid (Below w.heap.size w wr)) (fun _ i _ => os.length - (intOf i).toNat)
  case atStart => exact ⟨0, w.heap.size, 0, [], Nat.zero_le _, rfl, rfl, hide rfl, hide (by simp), hide List.Pairwise.nil, HO0, HB0⟩
  case round =>
    obtain ⟨k, g, cp, ys, hk, rfl, rfl, HYL, HP, HA, HO, HB⟩ := hrel
    have hyl1 : ys.length ≤ k := Nat.le_of_eq (unhide HYL)
    have hyl2 : k ≤ ys.length := Nat.le_of_eq (unhide HYL).symm
    by_cases hlt : k < os.length
    · have hkI : (k : Int) < (os.length : Int) := by omega
      have hk0 : (0 : Int) ≤ (k : Int) := by omega
      have hcp := (unhide HO).le
      have hcp1 := hcp.1
      have hcp2 := hcp.2
      unfold maxLen at hcp2
      clear hcp
      obtain ⟨b, off, had, hcell⟩ : ∃ b off, ad = some ⟨b, off, none⟩ ∧ ∀ j, j < 5 → wr.cell? ⟨b, off + k * 5 + j, none⟩ = some (.int .i64 ((outRow os[k]).getD j 0)) := by
        rcases unhide HC with h | ⟨b, off, h1, h2⟩
        · rw [List.map_eq_nil_iff] at h; subst h; simp at hlt
        · refine ⟨b, off, h1, fun j hj => ?_⟩
          have := cell_on (unhide HB) (h2 k (by rw [List.length_map]; exact hlt) j hj)
          rwa [List.getElem_map] at this
      subst had
      have HXK : Hid (os.take (k + 1) = os.take k ++ [os[k]]) := hide (take_more os k hlt)
      generalize os[k] = x at *
      have p0 := hcell 0 (by omega)
      have p1 := hcell 1 (by omega)
      have p2 := hcell 2 (by omega)
      have p3 := hcell 3 (by omega)
      have p4 := hcell 4 (by omega)
      simp [outRow] at p0 p1 p2 p3 p4
      clear hcell
      have HPX : Hid (wr.cell? ⟨b, off + k * 5, none⟩ = some (.int .i64 x.time) ∧ wr.cell? ⟨b, off + k * 5 + 1, none⟩ = some (.int .i64 x.proc) ∧ wr.cell? ⟨b, off + k * 5 + 2, none⟩ = some (.int .i64 x.count) ∧ wr.cell? ⟨b, off + k * 5 + 3, none⟩ = some (.int .i64 x.n) ∧ wr.cell? ⟨b, off + k * 5 + 4, none⟩ = some (.int .i64 x.value)) := hide ⟨p0, p1, p2, p3, p4⟩
      clear p0 p1 p2 p3 p4
      go_wp2_with fail
      generalize wr = wo at *
      go_loopw [5] (fun i wq => ∃ (m : Nat), m ≤ ys.length ∧ i = .int .i64 m ∧ Hid (PlaceOf outLess ys x m) ∧ Hid (Below wo.heap.size wo wq)) (fun i _ => (intOf i).toNat)
      case atStart => exact ⟨ys.length, Nat.le_refl _, rfl, hide (PlaceOf.start ys x), hide (Below.refl _ _)⟩
      case round =>
        obtain ⟨m, hm, rfl, HPL, HBQ⟩ := hrel
        have hmI : (m : Int) ≤ (ys.length : Int) := by omega
        go_upto_region 6 with fail
        go_cut [28] from 15 to 28 (fun c wx => ∃ bb : Bool, c = .bool bb ∧ Hid (bb = true → 0 < m ∧ ∀ y, ys[m - 1]? = some y → outLess x y = true) ∧ Hid (bb = false → 0 < m → ∀ y, ys[m - 1]? = some y → outLess x y = false) ∧ Hid (Below wo.heap.size wo wx))
        case first =>
          by_cases hm0 : m = 0
          · subst hm0
            have hd : decide ((0 : Int) < 0) = false := by decide
            go_quiet (fail)
            go_wp2_with fail
            go_meet
            exact ⟨false, rfl, hide (fun h => by cases h), hide (fun _ h => absurd h (Nat.lt_irrefl 0)), hide (below_then (unhide HBQ) (below_drewN (Below.refl _ _) _))⟩
          · obtain ⟨n, rfl⟩ : ∃ n, m = n + 1 := ⟨m - 1, by omega⟩
            have hn : n < ys.length := by omega
            have hB := ((unhide HO).on (unhide HBQ)).cells n hn
            have HY : Hid (∀ y, ys[n + 1 - 1]? = some y → y = ys[n]) := hide (fun y hy => by
              rw [Nat.add_sub_cancel, List.getElem?_eq_getElem hn] at hy
              exact (Option.some.inj hy).symm)
            generalize ys[n] = y at *
            have hX := unhide HPX
            have hX2 : Hid (wr.cell? ⟨b, off + k * 5, none⟩ = some (.int .i64 x.time) ∧ wr.cell? ⟨b, off + k * 5 + 1, none⟩ = some (.int .i64 x.proc) ∧ wr.cell? ⟨b, off + k * 5 + 2, none⟩ = some (.int .i64 x.count) ∧ wr.cell? ⟨b, off + k * 5 + 3, none⟩ = some (.int .i64 x.n) ∧ wr.cell? ⟨b, off + k * 5 + 4, none⟩ = some (.int .i64 x.value)) := hide ⟨cell_on (unhide HBQ) hX.1, cell_on (unhide HBQ) hX.2.1, cell_on (unhide HBQ) hX.2.2.1, cell_on (unhide HBQ) hX.2.2.2.1, cell_on (unhide HBQ) hX.2.2.2.2⟩
            have hnI : (n : Int) < (k : Int) := by omega
            have hnI2 : (n : Int) < (ys.length : Int) := by omega
            have hw1 : IntKind.i64.wrap ((n : Int) + 1 - 1) = (n : Int) := by rw [IntKind.wrap_i64]; omega
            have hw2 : IntKind.i64.wrap (n : Int) = (n : Int) := by rw [IntKind.wrap_i64]; omega
            have hw3 : IntKind.i64.wrap (((n + 1 : Nat) : Int) - 1) = (n : Int) := by rw [IntKind.wrap_i64]; omega
            have hn0 : (0 : Int) ≤ (n : Int) := by omega
            have hd : decide ((0 : Int) < (n : Int) + 1) = true := decide_eq_true (by omega)
            have hd2 : (0 : Int) < (n : Int) + 1 := by omega
            go_region_held3 (fun w' => w'.cell? ⟨b, off + k * 5, none⟩ = some (.int .i64 x.time) ∧ w'.cell? ⟨b, off + k * 5 + 1, none⟩ = some (.int .i64 x.proc) ∧ w'.cell? ⟨b, off + k * 5 + 2, none⟩ = some (.int .i64 x.count) ∧ w'.cell? ⟨b, off + k * 5 + 3, none⟩ = some (.int .i64 x.n) ∧ w'.cell? ⟨b, off + k * 5 + 4, none⟩ = some (.int .i64 x.value) ∧ w'.cell? ⟨g, n * 5, none⟩ = some (.int .i64 y.time) ∧ w'.cell? ⟨g, n * 5 + 1, none⟩ = some (.int .i64 y.proc) ∧ w'.cell? ⟨g, n * 5 + 2, none⟩ = some (.int .i64 y.count) ∧ w'.cell? ⟨g, n * 5 + 3, none⟩ = some (.int .i64 y.n) ∧ w'.cell? ⟨g, n * 5 + 4, none⟩ = some (.int .i64 y.value) ∧ Below wr.heap.size wr w')
              ((go_split_ands; refine sSort_of (unhide hX2) hB ?_; first | exact (Below.refl _ _).drew | exact below_then (by assumption) hbe))
              (first
                | (go_at_call 7; refine (specOutLess_any x y _).mono ?_; rintro e we ⟨rfl, hbe⟩; have hBe := below_then (a := wr) (by go_split_ands; assumption) hbe))
            go_wp2_with fail
            go_meet
            exact ⟨outLess x y, rfl, hide (fun h => ⟨by omega, fun z hz => by rw [(unhide HY) z hz]; exact h⟩), hide (fun h _ z hz => by rw [(unhide HY) z hz]; exact h), hide (below_then (unhide HBQ) hBe)⟩
        case rest =>
          obtain ⟨bb, rfl, HT, HF, HBX⟩ := hcut
          cases bb
          · go_upto_region 8 with fail
            have hmcp : (m : Int) ≤ (cp : Int) := by omega
            have hm0 : (0 : Int) ≤ (m : Int) := by omega
            have HXC : Hid (wc.cell? ⟨b, off + k * 5, none⟩ = some (.int .i64 x.time) ∧ wc.cell? ⟨b, off + k * 5 + 1, none⟩ = some (.int .i64 x.proc) ∧ wc.cell? ⟨b, off + k * 5 + 2, none⟩ = some (.int .i64 x.count) ∧ wc.cell? ⟨b, off + k * 5 + 3, none⟩ = some (.int .i64 x.n) ∧ wc.cell? ⟨b, off + k * 5 + 4, none⟩ = some (.int .i64 x.value)) := hide (sx_of (unhide HPX) (unhide HBX))
            have hOc := (unhide HO).on (unhide HBX)
            refine wp_region_noPanic ?_
            refine wp_region_held_drew (S := fun w' : World => w'.cell? ⟨b, off + k * 5, none⟩ = some (.int .i64 x.time) ∧ w'.cell? ⟨b, off + k * 5 + 1, none⟩ = some (.int .i64 x.proc) ∧ w'.cell? ⟨b, off + k * 5 + 2, none⟩ = some (.int .i64 x.count) ∧ w'.cell? ⟨b, off + k * 5 + 3, none⟩ = some (.int .i64 x.n) ∧ w'.cell? ⟨b, off + k * 5 + 4, none⟩ = some (.int .i64 x.value)) (by kernel_rfl) (unhide HXC) (fun hHeld => ?_)
            have hbd : Below wc.heap.size wc wc.drew := (Below.refl _ _).drew
            have HXD : Hid (wc.drew.cell? ⟨b, off + k * 5, none⟩ = some (.int .i64 x.time) ∧ wc.drew.cell? ⟨b, off + k * 5 + 1, none⟩ = some (.int .i64 x.proc) ∧ wc.drew.cell? ⟨b, off + k * 5 + 2, none⟩ = some (.int .i64 x.count) ∧ wc.drew.cell? ⟨b, off + k * 5 + 3, none⟩ = some (.int .i64 x.n) ∧ wc.drew.cell? ⟨b, off + k * 5 + 4, none⟩ = some (.int .i64 x.value)) := hide (sx_of (unhide HXC) hbd)
            have hOd := hOc.on hbd
            have HBD := hide (below_then (unhide HBX) hbd)
            have HOD := hide hOd
            clear hOd hOc hbd
            generalize wc.drew = wd at *
            refine wpAnyH_take (i := 1) (v := ?_) rfl (by kernel_rfl) (by kernel_rfl) (by kernel_rfl) (fun _ _ _ h => h) (Or.inl ⟨by kernel_rfl, ?_⟩) hHeld ?_
            rotate_left
            · (intro w hSw; (try dsimp only at hSw); obtain ⟨s0, s1, s2, s3, s4⟩ := hSw; go_simp; try with_reducible rfl)
            try simp only [Act.put, List.setIfInBounds_toArray, List.set_cons_zero, List.set_cons_succ]
            refine wpAnyH_take (i := 2) (v := ?_) rfl (by kernel_rfl) (by kernel_rfl) (by kernel_rfl) (fun _ _ _ h => h) (Or.inl ⟨by kernel_rfl, ?_⟩) hHeld ?_
            rotate_left
            · (intro w hSw; (try dsimp only at hSw); obtain ⟨s0, s1, s2, s3, s4⟩ := hSw; go_simp; try with_reducible rfl)
            try simp only [Act.put, List.setIfInBounds_toArray, List.set_cons_zero, List.set_cons_succ]
            refine wpAnyH_take (i := 3) (v := ?_) rfl (by kernel_rfl) (by kernel_rfl) (by kernel_rfl) (fun _ _ _ h => h) (Or.inl ⟨by kernel_rfl, ?_⟩) hHeld ?_
            rotate_left
            · (intro w hSw; (try dsimp only at hSw); obtain ⟨s0, s1, s2, s3, s4⟩ := hSw; go_simp; try with_reducible rfl)
            try simp only [Act.put, List.setIfInBounds_toArray, List.set_cons_zero, List.set_cons_succ]
            refine wpAnyH_take (i := 5) (v := ?_) rfl (by kernel_rfl) (by kernel_rfl) (by kernel_rfl) (fun _ _ _ h => h) (Or.inl ⟨by kernel_rfl, ?_⟩) hHeld ?_
            rotate_left
            · (intro w hSw; (try dsimp only at hSw); obtain ⟨s0, s1, s2, s3, s4⟩ := hSw; go_simp; try with_reducible rfl)
            try simp only [Act.put, List.setIfInBounds_toArray, List.set_cons_zero, List.set_cons_succ]
            refine wpAnyH_take (i := 6) (v := ?_) rfl (by kernel_rfl) (by kernel_rfl) (by kernel_rfl) (fun _ _ _ h => h) (Or.inl ⟨by kernel_rfl, ?_⟩) hHeld ?_
            rotate_left
            · (intro w hSw; (try dsimp only at hSw); obtain ⟨s0, s1, s2, s3, s4⟩ := hSw; go_simp; try with_reducible rfl)
            try simp only [Act.put, List.setIfInBounds_toArray, List.set_cons_zero, List.set_cons_succ]
            refine wpAnyH_take (i := 7) (v := ?_) rfl (by kernel_rfl) (by kernel_rfl) (by kernel_rfl) (fun _ _ _ h => h) (Or.inl ⟨by kernel_rfl, ?_⟩) hHeld ?_
            rotate_left
            · (intro w hSw; (try dsimp only at hSw); obtain ⟨s0, s1, s2, s3, s4⟩ := hSw; go_simp; try with_reducible rfl)
            try simp only [Act.put, List.setIfInBounds_toArray, List.set_cons_zero, List.set_cons_succ]
            refine wpAnyH_take (i := 8) (v := ?_) rfl (by kernel_rfl) (by kernel_rfl) (by kernel_rfl) (fun _ _ _ h => h) (Or.inl ⟨by kernel_rfl, ?_⟩) hHeld ?_
            rotate_left
            · (intro w hSw; (try dsimp only at hSw); obtain ⟨s0, s1, s2, s3, s4⟩ := hSw; go_simp; try with_reducible rfl)
            try simp only [Act.put, List.setIfInBounds_toArray, List.set_cons_zero, List.set_cons_succ]
            refine wpAnyH_take (i := 11) (v := ?_) rfl (by kernel_rfl) (by kernel_rfl) (by kernel_rfl) (fun _ _ _ h => h) (Or.inl ⟨by kernel_rfl, ?_⟩) hHeld ?_
            rotate_left
            · (intro w hSw; (try dsimp only at hSw); obtain ⟨s0, s1, s2, s3, s4⟩ := hSw; go_simp; try with_reducible rfl)
            try simp only [Act.put, List.setIfInBounds_toArray, List.set_cons_zero, List.set_cons_succ]
            refine wpAnyH_take (i := 12) (v := ?_) rfl (by kernel_rfl) (by kernel_rfl) (by kernel_rfl) (fun _ _ _ h => h) (Or.inl ⟨by kernel_rfl, ?_⟩) hHeld ?_
            rotate_left
            · (intro w hSw; (try dsimp only at hSw); obtain ⟨s0, s1, s2, s3, s4⟩ := hSw; go_simp; try with_reducible rfl)
            try simp only [Act.put, List.setIfInBounds_toArray, List.set_cons_zero, List.set_cons_succ]
            refine wpAnyH_take (i := 13) (v := ?_) rfl (by kernel_rfl) (by kernel_rfl) (by kernel_rfl) (fun _ _ _ h => h) (Or.inl ⟨by kernel_rfl, ?_⟩) hHeld ?_
            rotate_left
            · (intro w hSw; (try dsimp only at hSw); obtain ⟨s0, s1, s2, s3, s4⟩ := hSw; go_simp; try with_reducible rfl)
            try simp only [Act.put, List.setIfInBounds_toArray, List.set_cons_zero, List.set_cons_succ]
            obtain ⟨o6, ho61, ho62⟩ := drop_at (g := g) hm hcp1
            simp only [ho61]
            have HO62 := hide ho62
            clear ho61 ho62
            have hB0 : Below wd.heap.size wd wd := Below.refl _ _
            have hB := hB0
            clear hB0
            refine wpAnyH_ready (rs := [0, 9]) (by kernel_rfl) (by simp) ?_
            refine AllReadyH.cons rfl (fun K hK => ?_) ?_
            · skip
              go_simp
              have hbN : Below wd.heap.size wd (wd.alloc (.cells #[] 24)) := (Below.refl _ _).alloc (Nat.le_refl _) _
              have ownE : (wd.alloc (.cells #[] 24)).ownsRow wd.heap.size 24 5 (.slice (some ⟨wd.heap.size, 0, none⟩) 0 0) 0 [] := World.ownsRow_lit wd #[] 0 hB.size (Nat.zero_le _) rfl
              have hsV1 : wd.heap.size < (wd.alloc (.cells #[] 24)).heap.size := by simp
              have hBn := below_then hB hbN
              generalize wd.alloc (.cells #[] 24) = V1 at *
              refine hK.out _ _ (sx_of (unhide HXD) hBn) (fun hHeld => ?_)
              replace hB := hBn
              clear hK K hBn
              try simp only [Act.put, List.setIfInBounds_toArray, List.set_cons_zero, List.set_cons_succ]
              refine wpAnyH_ready (rs := [4, 9]) (by kernel_rfl) (by simp) ?_
              refine AllReadyH.cons rfl (fun K hK => ?_) ?_
              · skip
                refine step_append_any _ (by rfl) _ _ _ (by rfl) wd.heap.size 24 i7 _ 5 40 slice_OutT hi7 hz70 hz71 hz72 (by rfl) (by omega) (.slice (some ⟨wd.heap.size, 0, none⟩) 0 0) 0 [] (by rfl) ownE ⟨g, 0, none⟩ m cp (flatCells ((ys.take m).map outRow)) (by rfl) (take_flat hm) (take_news ((unhide HOD).on hB) hm) (flat_one _) (by unfold maxLen; omega) (by omega) hB.size ?_
                intro v4 V2 own4 grow4 hat4
                have hBn : Below wd.heap.size wd V2 := Below.grown hB grow4 hB.size (fun q hq => (ownE.lt q hq).1)
                rw [Nat.zero_add, List.nil_append] at own4
                refine hK.out _ _ (sx_of (unhide HXD) hBn) (fun hHeld => ?_)
                clear ownE
                replace hB := hBn
                clear hK K hBn
                try simp only [Act.put, List.setIfInBounds_toArray, List.set_cons_zero, List.set_cons_succ]
                refine wpAnyH_ready (rs := [9]) (by kernel_rfl) (by simp) ?_
                refine AllReadyH.cons rfl (fun K hK => ?_) AllReadyH.nil
                go_simp
                have hbN : Below V2.heap.size V2 (V2.alloc (.cells #[.int .i64 x.time, .int .i64 x.proc, .int .i64 x.count, .int .i64 x.n, .int .i64 x.value] 24)) := (Below.refl _ _).alloc (Nat.le_refl _) _
                have news : ∀ j u, (outCells x)[j]? = some u → (V2.alloc (.cells #[.int .i64 x.time, .int .i64 x.proc, .int .i64 x.count, .int .i64 x.n, .int .i64 x.value] 24)).cell? ((⟨V2.heap.size, 0, none⟩ : Addr).add j) = some u := World.news_of_block (cs := #[.int .i64 x.time, .int .i64 x.proc, .int .i64 x.count, .int .i64 x.n, .int .i64 x.value]) (t := 24) (fr := (0, 0)) (heap_alloc_new V2 _)
                have hsV3 : V2.heap.size < (V2.alloc (.cells #[.int .i64 x.time, .int .i64 x.proc, .int .i64 x.count, .int .i64 x.n, .int .i64 x.value] 24)).heap.size := by simp
                have hBn := below_then hB hbN
                generalize V2.alloc (.cells #[.int .i64 x.time, .int .i64 x.proc, .int .i64 x.count, .int .i64 x.n, .int .i64 x.value] 24) = V3 at *
                replace own4 := ownsOn hbN own4
                refine hK.out _ _ (sx_of (unhide HXD) hBn) (fun hHeld => ?_)
                clear hbN
                replace hB := hBn
                clear hK K hBn
                try simp only [Act.put, List.setIfInBounds_toArray, List.set_cons_zero, List.set_cons_succ]
                refine wpAnyH_ready (rs := [10]) (by kernel_rfl) (by simp) ?_
                refine AllReadyH.cons rfl (fun K hK => ?_) AllReadyH.nil
                refine step_append_lies _ (by rfl) _ _ _ (by rfl) wd.heap.size 24 i7 _ 5 40 slice_OutT hi7 hz70 hz71 hz72 (by rfl) (by omega) v4 m (flatCells ((ys.take m).map outRow)) (by rfl) own4 ⟨V2.heap.size, 0, none⟩ 1 1 (outCells x) (by rfl) (by rfl) news (by simp [Value.oneCell']) (by omega) (by unfold maxLen; omega) (by omega) hB.size V3.heap.size rfl ?_
                intro g5 cap5 V5 own5 grow5 hat5 hlt5
                have hBn : Below wd.heap.size wd V5 := Below.grown hB grow5 hB.size (fun q hq => (own4.lt q hq).1)
                refine hK.out _ _ (sx_of (unhide HXD) hBn) (fun hHeld => ?_)
                replace hB := hBn
                clear hK K hBn
                try simp only [Act.put, List.setIfInBounds_toArray, List.set_cons_zero, List.set_cons_succ]
                refine wpAnyH_ready (rs := [14]) (by kernel_rfl) (by simp) ?_
                refine AllReadyH.cons rfl (fun K hK => ?_) AllReadyH.nil
                refine step_append_any _ (by rfl) _ _ _ (by rfl) wd.heap.size 24 i7 _ 5 40 slice_OutT hi7 hz70 hz71 hz72 (by rfl) (by omega) (.slice (some ⟨g5, 0, none⟩) (m + 1) cap5) (m + 1) (flatCells ((ys.take m).map outRow) ++ outCells x) (by rfl) own5 ⟨g, o6, none⟩ (ys.length - m) (cp - m) (flatCells ((ys.drop m).map outRow)) (by rfl) (drop_flat hm) (drop_news ((unhide HOD).on hB) hm (unhide HO62)) (flat_one _) (by unfold maxLen; omega) (by omega) hB.size ?_
                intro v6 V6 own6 grow6 hat6
                have hBn : Below wd.heap.size wd V6 := Below.grown hB grow6 hB.size (fun q hq => (own5.lt q hq).1)
                obtain ⟨g6, cap6, zs, hzs, rfl, ho6⟩ := outOwn_ins hm own6
                have HZS := hide hzs
                clear hzs
                refine hK.out _ _ (sx_of (unhide HXD) hBn) (fun hHeld => ?_)
                replace hB := hBn
                clear hK K hBn
                try simp only [Act.put, List.setIfInBounds_toArray, List.set_cons_zero, List.set_cons_succ]
                refine wpAnyH_take (i := 15) (v := ?_) rfl (by kernel_rfl) (by kernel_rfl) (by kernel_rfl) (fun _ _ _ h => h) (Or.inl ⟨by kernel_rfl, ?_⟩) hHeld ?_
                rotate_left
                · (intro w hSw; (try dsimp only at hSw); go_simp; try with_reducible rfl)
                try simp only [Act.put, List.setIfInBounds_toArray, List.set_cons_zero, List.set_cons_succ]
                refine wpAnyH_done (by kernel_rfl) ?_ _
                refine NoPanic.normal ?_
                have hwo := below_then (unhide HBD) hB
                have hww := below_then (unhide HB) hwo
                have HO6 : Hid (OutOwn w.heap.size V6 g6 cap6 zs) := hide (RowsFr.less (below_then (unhide HB) (unhide HBD)).size ho6)
                have HW6 := hide hww
                have HL6 : Hid (zs.length = k + 1) := hide (by rw [unhide HZS, List.length_append, List.length_cons, List.length_take, List.length_drop]; omega)
                have HP6 : Hid (zs.Perm (os.take (k + 1))) := hide (by rw [unhide HZS, unhide HXK]; exact (ins_perm ys m x).trans ((List.Perm.cons x (unhide HP)).trans (List.perm_append_singleton x (os.take k)).symm))
                have HA6 : Hid (Asc outLess zs) := hide (by rw [unhide HZS]; exact asc_place S (unhide HA) (unhide HPL) (fun h0 => (unhide HF) rfl h0 _ (List.getElem?_eq_getElem (by omega))))
                clear own4 own5 own6 grow4 grow5 grow6 hat4 hat5 hat6 hlt5 news ho6 hwo hww hB
                go_wp2_with fail
                go_roundw
                case rel => exact ⟨k + 1, g6, cap6, zs, by omega, by simp, rfl, HL6, HP6, HA6, HO6, HW6⟩
                case measure => simp [intOf]; omega
              · (refine AllReadyH.cons rfl (fun K hK => ?_) AllReadyH.nil)
                go_simp
                have hbN : Below V1.heap.size V1 (V1.alloc (.cells #[.int .i64 x.time, .int .i64 x.proc, .int .i64 x.count, .int .i64 x.n, .int .i64 x.value] 24)) := (Below.refl _ _).alloc (Nat.le_refl _) _
                have news : ∀ j u, (outCells x)[j]? = some u → (V1.alloc (.cells #[.int .i64 x.time, .int .i64 x.proc, .int .i64 x.count, .int .i64 x.n, .int .i64 x.value] 24)).cell? ((⟨V1.heap.size, 0, none⟩ : Addr).add j) = some u := World.news_of_block (cs := #[.int .i64 x.time, .int .i64 x.proc, .int .i64 x.count, .int .i64 x.n, .int .i64 x.value]) (t := 24) (fr := (0, 0)) (heap_alloc_new V1 _)
                have hsV2 : V1.heap.size < (V1.alloc (.cells #[.int .i64 x.time, .int .i64 x.proc, .int .i64 x.count, .int .i64 x.n, .int .i64 x.value] 24)).heap.size := by simp
                have hBn := below_then hB hbN
                generalize V1.alloc (.cells #[.int .i64 x.time, .int .i64 x.proc, .int .i64 x.count, .int .i64 x.n, .int .i64 x.value] 24) = V2 at *
                replace ownE := ownsOn hbN ownE
                refine hK.out _ _ (sx_of (unhide HXD) hBn) (fun hHeld => ?_)
                clear hbN
                replace hB := hBn
                clear hK K hBn
                try simp only [Act.put, List.setIfInBounds_toArray, List.set_cons_zero, List.set_cons_succ]
                refine wpAnyH_ready (rs := [4]) (by kernel_rfl) (by simp) ?_
                refine AllReadyH.cons rfl (fun K hK => ?_) AllReadyH.nil
                refine step_append_any _ (by rfl) _ _ _ (by rfl) wd.heap.size 24 i7 _ 5 40 slice_OutT hi7 hz70 hz71 hz72 (by rfl) (by omega) (.slice (some ⟨wd.heap.size, 0, none⟩) 0 0) 0 [] (by rfl) ownE ⟨g, 0, none⟩ m cp (flatCells ((ys.take m).map outRow)) (by rfl) (take_flat hm) (take_news ((unhide HOD).on hB) hm) (flat_one _) (by unfold maxLen; omega) (by omega) hB.size ?_
                intro v4 V3 own4 grow4 hat4
                have hBn : Below wd.heap.size wd V3 := Below.grown hB grow4 hB.size (fun q hq => (ownE.lt q hq).1)
                rw [Nat.zero_add, List.nil_append] at own4
                replace news : ∀ j u, (outCells x)[j]? = some u → V3.cell? ((⟨V1.heap.size, 0, none⟩ : Addr).add j) = some u := news_kept news grow4 (by simp only [Value.ownBlock, ne_eq, Option.some.injEq]; omega)
                refine hK.out _ _ (sx_of (unhide HXD) hBn) (fun hHeld => ?_)
                clear ownE
                replace hB := hBn
                clear hK K hBn
                try simp only [Act.put, List.setIfInBounds_toArray, List.set_cons_zero, List.set_cons_succ]
                refine wpAnyH_ready (rs := [10]) (by kernel_rfl) (by simp) ?_
                refine AllReadyH.cons rfl (fun K hK => ?_) AllReadyH.nil
                refine step_append_lies _ (by rfl) _ _ _ (by rfl) wd.heap.size 24 i7 _ 5 40 slice_OutT hi7 hz70 hz71 hz72 (by rfl) (by omega) v4 m (flatCells ((ys.take m).map outRow)) (by rfl) own4 ⟨V1.heap.size, 0, none⟩ 1 1 (outCells x) (by rfl) (by rfl) news (by simp [Value.oneCell']) (by omega) (by unfold maxLen; omega) (by omega) hB.size V3.heap.size rfl ?_
                intro g5 cap5 V5 own5 grow5 hat5 hlt5
                have hBn : Below wd.heap.size wd V5 := Below.grown hB grow5 hB.size (fun q hq => (own4.lt q hq).1)
                refine hK.out _ _ (sx_of (unhide HXD) hBn) (fun hHeld => ?_)
                replace hB := hBn
                clear hK K hBn
                try simp only [Act.put, List.setIfInBounds_toArray, List.set_cons_zero, List.set_cons_succ]
                refine wpAnyH_ready (rs := [14]) (by kernel_rfl) (by simp) ?_
                refine AllReadyH.cons rfl (fun K hK => ?_) AllReadyH.nil
                refine step_append_any _ (by rfl) _ _ _ (by rfl) wd.heap.size 24 i7 _ 5 40 slice_OutT hi7 hz70 hz71 hz72 (by rfl) (by omega) (.slice (some ⟨g5, 0, none⟩) (m + 1) cap5) (m + 1) (flatCells ((ys.take m).map outRow) ++ outCells x) (by rfl) own5 ⟨g, o6, none⟩ (ys.length - m) (cp - m) (flatCells ((ys.drop m).map outRow)) (by rfl) (drop_flat hm) (drop_news ((unhide HOD).on hB) hm (unhide HO62)) (flat_one _) (by unfold maxLen; omega) (by omega) hB.size ?_
                intro v6 V6 own6 grow6 hat6
                have hBn : Below wd.heap.size wd V6 := Below.grown hB grow6 hB.size (fun q hq => (own5.lt q hq).1)
                obtain ⟨g6, cap6, zs, hzs, rfl, ho6⟩ := outOwn_ins hm own6
                have HZS := hide hzs
                clear hzs
                refine hK.out _ _ (sx_of (unhide HXD) hBn) (fun hHeld => ?_)
                replace hB := hBn
                clear hK K hBn
                try simp only [Act.put, List.setIfInBounds_toArray, List.set_cons_zero, List.set_cons_succ]
                refine wpAnyH_take (i := 15) (v := ?_) rfl (by kernel_rfl) (by kernel_rfl) (by kernel_rfl) (fun _ _ _ h => h) (Or.inl ⟨by kernel_rfl, ?_⟩) hHeld ?_
                rotate_left
                · (intro w hSw; (try dsimp only at hSw); go_simp; try with_reducible rfl)
                try simp only [Act.put, List.setIfInBounds_toArray, List.set_cons_zero, List.set_cons_succ]
                refine wpAnyH_done (by kernel_rfl) ?_ _
                refine NoPanic.normal ?_
                have hwo := below_then (unhide HBD) hB
                have hww := below_then (unhide HB) hwo
                have HO6 : Hid (OutOwn w.heap.size V6 g6 cap6 zs) := hide (RowsFr.less (below_then (unhide HB) (unhide HBD)).size ho6)
                have HW6 := hide hww
                have HL6 : Hid (zs.length = k + 1) := hide (by rw [unhide HZS, List.length_append, List.length_cons, List.length_take, List.length_drop]; omega)
                have HP6 : Hid (zs.Perm (os.take (k + 1))) := hide (by rw [unhide HZS, unhide HXK]; exact (ins_perm ys m x).trans ((List.Perm.cons x (unhide HP)).trans (List.perm_append_singleton x (os.take k)).symm))
                have HA6 : Hid (Asc outLess zs) := hide (by rw [unhide HZS]; exact asc_place S (unhide HA) (unhide HPL) (fun h0 => (unhide HF) rfl h0 _ (List.getElem?_eq_getElem (by omega))))
                clear own4 own5 own6 grow4 grow5 grow6 hat4 hat5 hat6 hlt5 news ho6 hwo hww hB
                go_wp2_with fail
                go_roundw
                case rel => exact ⟨k + 1, g6, cap6, zs, by omega, by simp, rfl, HL6, HP6, HA6, HO6, HW6⟩
                case measure => simp [intOf]; omega
            · (refine AllReadyH.cons rfl (fun K hK => ?_) AllReadyH.nil)
              go_simp
              have hbN : Below wd.heap.size wd (wd.alloc (.cells #[.int .i64 x.time, .int .i64 x.proc, .int .i64 x.count, .int .i64 x.n, .int .i64 x.value] 24)) := (Below.refl _ _).alloc (Nat.le_refl _) _
              have news : ∀ j u, (outCells x)[j]? = some u → (wd.alloc (.cells #[.int .i64 x.time, .int .i64 x.proc, .int .i64 x.count, .int .i64 x.n, .int .i64 x.value] 24)).cell? ((⟨wd.heap.size, 0, none⟩ : Addr).add j) = some u := World.news_of_block (cs := #[.int .i64 x.time, .int .i64 x.proc, .int .i64 x.count, .int .i64 x.n, .int .i64 x.value]) (t := 24) (fr := (0, 0)) (heap_alloc_new wd _)
              have hsV1 : wd.heap.size < (wd.alloc (.cells #[.int .i64 x.time, .int .i64 x.proc, .int .i64 x.count, .int .i64 x.n, .int .i64 x.value] 24)).heap.size := by simp
              have hBn := below_then hB hbN
              generalize wd.alloc (.cells #[.int .i64 x.time, .int .i64 x.proc, .int .i64 x.count, .int .i64 x.n, .int .i64 x.value] 24) = V1 at *
              refine hK.out _ _ (sx_of (unhide HXD) hBn) (fun hHeld => ?_)
              replace hB := hBn
              clear hK K hBn
              try simp only [Act.put, List.setIfInBounds_toArray, List.set_cons_zero, List.set_cons_succ]
              refine wpAnyH_ready (rs := [0]) (by kernel_rfl) (by simp) ?_
              refine AllReadyH.cons rfl (fun K hK => ?_) AllReadyH.nil
              go_simp
              have hbN : Below V1.heap.size V1 (V1.alloc (.cells #[] 24)) := (Below.refl _ _).alloc (Nat.le_refl _) _
              have ownE : (V1.alloc (.cells #[] 24)).ownsRow wd.heap.size 24 5 (.slice (some ⟨V1.heap.size, 0, none⟩) 0 0) 0 [] := World.ownsRow_lit V1 #[] 0 hB.size (Nat.zero_le _) rfl
              have hsV2 : V1.heap.size < (V1.alloc (.cells #[] 24)).heap.size := by simp
              have hBn := below_then hB hbN
              generalize V1.alloc (.cells #[] 24) = V2 at *
              replace news : ∀ j u, (outCells x)[j]? = some u → V2.cell? ((⟨wd.heap.size, 0, none⟩ : Addr).add j) = some u := fun j u hj => cell_on hbN (news j u hj)
              refine hK.out _ _ (sx_of (unhide HXD) hBn) (fun hHeld => ?_)
              clear hbN
              replace hB := hBn
              clear hK K hBn
              try simp only [Act.put, List.setIfInBounds_toArray, List.set_cons_zero, List.set_cons_succ]
              refine wpAnyH_ready (rs := [4]) (by kernel_rfl) (by simp) ?_
              refine AllReadyH.cons rfl (fun K hK => ?_) AllReadyH.nil
              refine step_append_any _ (by rfl) _ _ _ (by rfl) wd.heap.size 24 i7 _ 5 40 slice_OutT hi7 hz70 hz71 hz72 (by rfl) (by omega) (.slice (some ⟨V1.heap.size, 0, none⟩) 0 0) 0 [] (by rfl) ownE ⟨g, 0, none⟩ m cp (flatCells ((ys.take m).map outRow)) (by rfl) (take_flat hm) (take_news ((unhide HOD).on hB) hm) (flat_one _) (by unfold maxLen; omega) (by omega) hB.size ?_
              intro v4 V3 own4 grow4 hat4
              have hBn : Below wd.heap.size wd V3 := Below.grown hB grow4 hB.size (fun q hq => (ownE.lt q hq).1)
              rw [Nat.zero_add, List.nil_append] at own4
              replace news : ∀ j u, (outCells x)[j]? = some u → V3.cell? ((⟨wd.heap.size, 0, none⟩ : Addr).add j) = some u := news_kept news grow4 (by simp only [Value.ownBlock, ne_eq, Option.some.injEq]; omega)
              refine hK.out _ _ (sx_of (unhide HXD) hBn) (fun hHeld => ?_)
              clear ownE
              replace hB := hBn
              clear hK K hBn
              try simp only [Act.put, List.setIfInBounds_toArray, List.set_cons_zero, List.set_cons_succ]
              refine wpAnyH_ready (rs := [10]) (by kernel_rfl) (by simp) ?_
              refine AllReadyH.cons rfl (fun K hK => ?_) AllReadyH.nil
              refine step_append_lies _ (by rfl) _ _ _ (by rfl) wd.heap.size 24 i7 _ 5 40 slice_OutT hi7 hz70 hz71 hz72 (by rfl) (by omega) v4 m (flatCells ((ys.take m).map outRow)) (by rfl) own4 ⟨wd.heap.size, 0, none⟩ 1 1 (outCells x) (by rfl) (by rfl) news (by simp [Value.oneCell']) (by omega) (by unfold maxLen; omega) (by omega) hB.size V3.heap.size rfl ?_
              intro g5 cap5 V5 own5 grow5 hat5 hlt5
              have hBn : Below wd.heap.size wd V5 := Below.grown hB grow5 hB.size (fun q hq => (own4.lt q hq).1)
              refine hK.out _ _ (sx_of (unhide HXD) hBn) (fun hHeld => ?_)
              replace hB := hBn
              clear hK K hBn
              try simp only [Act.put, List.setIfInBounds_toArray, List.set_cons_zero, List.set_cons_succ]
              refine wpAnyH_ready (rs := [14]) (by kernel_rfl) (by simp) ?_
              refine AllReadyH.cons rfl (fun K hK => ?_) AllReadyH.nil
              refine step_append_any _ (by rfl) _ _ _ (by rfl) wd.heap.size 24 i7 _ 5 40 slice_OutT hi7 hz70 hz71 hz72 (by rfl) (by omega) (.slice (some ⟨g5, 0, none⟩) (m + 1) cap5) (m + 1) (flatCells ((ys.take m).map outRow) ++ outCells x) (by rfl) own5 ⟨g, o6, none⟩ (ys.length - m) (cp - m) (flatCells ((ys.drop m).map outRow)) (by rfl) (drop_flat hm) (drop_news ((unhide HOD).on hB) hm (unhide HO62)) (flat_one _) (by unfold maxLen; omega) (by omega) hB.size ?_
              intro v6 V6 own6 grow6 hat6
              have hBn : Below wd.heap.size wd V6 := Below.grown hB grow6 hB.size (fun q hq => (own5.lt q hq).1)
              obtain ⟨g6, cap6, zs, hzs, rfl, ho6⟩ := outOwn_ins hm own6
              have HZS := hide hzs
              clear hzs
              refine hK.out _ _ (sx_of (unhide HXD) hBn) (fun hHeld => ?_)
              replace hB := hBn
              clear hK K hBn
              try simp only [Act.put, List.setIfInBounds_toArray, List.set_cons_zero, List.set_cons_succ]
              refine wpAnyH_take (i := 15) (v := ?_) rfl (by kernel_rfl) (by kernel_rfl) (by kernel_rfl) (fun _ _ _ h => h) (Or.inl ⟨by kernel_rfl, ?_⟩) hHeld ?_
              rotate_left
              · (intro w hSw; (try dsimp only at hSw); go_simp; try with_reducible rfl)
              try simp only [Act.put, List.setIfInBounds_toArray, List.set_cons_zero, List.set_cons_succ]
              refine wpAnyH_done (by kernel_rfl) ?_ _
              refine NoPanic.normal ?_
              have hwo := below_then (unhide HBD) hB
              have hww := below_then (unhide HB) hwo
              have HO6 : Hid (OutOwn w.heap.size V6 g6 cap6 zs) := hide (RowsFr.less (below_then (unhide HB) (unhide HBD)).size ho6)
              have HW6 := hide hww
              have HL6 : Hid (zs.length = k + 1) := hide (by rw [unhide HZS, List.length_append, List.length_cons, List.length_take, List.length_drop]; omega)
              have HP6 : Hid (zs.Perm (os.take (k + 1))) := hide (by rw [unhide HZS, unhide HXK]; exact (ins_perm ys m x).trans ((List.Perm.cons x (unhide HP)).trans (List.perm_append_singleton x (os.take k)).symm))
              have HA6 : Hid (Asc outLess zs) := hide (by rw [unhide HZS]; exact asc_place S (unhide HA) (unhide HPL) (fun h0 => (unhide HF) rfl h0 _ (List.getElem?_eq_getElem (by omega))))
              clear own4 own5 own6 grow4 grow5 grow6 hat4 hat5 hat6 hlt5 news ho6 hwo hww hB
              go_wp2_with fail
              go_roundw
              case rel => exact ⟨k + 1, g6, cap6, zs, by omega, by simp, rfl, HL6, HP6, HA6, HO6, HW6⟩
              case measure => simp [intOf]; omega
          · have hm0 := ((unhide HT) rfl).1
            go_wp2_with fail
            go_roundw
            case rel =>
              obtain ⟨n, rfl⟩ : ∃ n, m = n + 1 := ⟨m - 1, by omega⟩
              refine ⟨n, by omega, by simp, hide ?_, HBX⟩
              exact (unhide HPL).step (((unhide HT) rfl).2 _ (by rw [Nat.add_sub_cancel]; exact List.getElem?_eq_getElem (by omega)))
            case measure => simp [intOf]; omega
    · have hke : k = os.length := by omega
      go_wp2_with fail
      go_ret
      exact ⟨_, ys, rfl, by have := unhide HP; rwa [hke, List.take_length] at this, unhide HA, unhide HO, unhide HB⟩
end Go.Proofs.Ytamkoimadenmeaa
