/- spec.l31Step. -/
import Derived.Test.YtocgfngcgekciaaSC1
import Derived.Test.YtocgfngcgekciaaSDoP
import Derived.Test.YtocgfngcgekciaaSOk2
namespace Go.Proofs.Ytocgfngcgekciaa
open Go.RowKit
set_option linter.unusedVariables false
set_option linter.unusedSimpArgs false


/-- A grid whose blocks are such as P says; its lists are not in its own block. -/
structure PGrid (P : Nat → Prop) (w : World) (g cap : Nat) (f : Nat → Value) (ls : List (List Int)) : Prop where
  row : w.rowIs g 28 cap f
  own : P g
  len : ls.length ≤ cap
  max : cap ≤ maxLen
  rows : ∀ i (h : i < ls.length), ∃ b, RowsBl b 1 w (f i) (ls[i].map fun z => [z]) ∧ (ls[i] ≠ [] → P b ∧ b ≠ g)

theorem below_tr3 {B : Nat} {w0 w a b : World} (h : Below B w0 w) (h1 : Below w.heap.size w a) (h2 : Below a.heap.size a b) (hB : B ≤ w.heap.size) : Below B w0 b := (h.trans (h1.mono hB)).trans (h2.mono (Nat.le_trans hB h1.size))
theorem mapNe {l : List Int} (h : l.map (fun z => [z]) ≠ []) : l ≠ [] := fun e => h (by rw [e]; rfl)
theorem neMap {l : List Int} (h : l ≠ []) : l.map (fun z => [z]) ≠ [] := fun e => h (List.map_eq_nil_iff.1 e)
theorem SGrid.p {P : Nat → Prop} {N M : Nat} {w : World} {g cap : Nat} {f : Nat → Value} {ls : List (List Int)} (h : SGrid N M w g cap f ls) (hP : ∀ b, N ≤ b → b < M → P b) : PGrid P w g cap f ls :=
  ⟨h.row, hP g h.lo h.hi, h.len, h.max, fun i hi => by
    obtain ⟨b, h1, h2, h3, h4⟩ := h.rows i hi
    exact ⟨b, h1, fun _ => ⟨hP b h2 h3, h4⟩⟩⟩
theorem PGrid.at {P : Nat → Prop} {w : World} {g cap : Nat} {f : Nat → Value} {ls : List (List Int)} (h : PGrid P w g cap f ls) : GridAt w (gridV g cap ls) ls :=
  ⟨_, cap, rfl, h.len, Nat.le_trans h.len h.max, Or.inr ⟨g, 0, rfl, fun i hi => ⟨f i, by rw [Nat.zero_add]; exact h.row.cell (by have := h.len; omega), by
    obtain ⟨b, hb, _⟩ := h.rows i hi
    exact hb.1⟩⟩⟩
theorem PGrid.keep {P : Nat → Prop} {w w' : World} {g cap : Nat} {f : Nat → Value} {ls : List (List Int)} (h : PGrid P w g cap f ls) (hk : ∀ b, P b → b < w.heap.size → w'.heap[b]? = w.heap[b]?) : PGrid P w' g cap f ls :=
  ⟨h.row.of_block (hk g h.own h.row.lt), h.own, h.len, h.max, fun i hi => by
    obtain ⟨b, hb, h1⟩ := h.rows i hi
    exact ⟨b, hb.keep (fun e => hk b (h1 (mapNe e)).1 (hb.lt (by omega) e)), h1⟩⟩
theorem PGrid.on {P : Nat → Prop} {w w' : World} {g cap : Nat} {f : Nat → Value} {ls : List (List Int)} (h : PGrid P w g cap f ls) (hb : Below w.heap.size w w') : PGrid P w' g cap f ls := h.keep (fun b _ hl => hb.block b hl)
theorem PGrid.to {P Q : Nat → Prop} {w : World} {g cap : Nat} {f : Nat → Value} {ls : List (List Int)} (h : PGrid P w g cap f ls) (hQ : ∀ b, P b → b < w.heap.size → Q b) : PGrid Q w g cap f ls :=
  ⟨h.row, hQ g h.own h.row.lt, h.len, h.max, fun i hi => by
    obtain ⟨b, hb, h1⟩ := h.rows i hi
    exact ⟨b, hb, fun e => ⟨hQ b (h1 e).1 (hb.lt (by omega) (neMap e)), (h1 e).2⟩⟩⟩
theorem PGrid.to' {P : Nat → Prop} {w w' : World} {g cap : Nat} {f : Nat → Value} {ls : List (List Int)} (h : PGrid P w' g cap f ls) (h0 : PGrid P w g cap f ls) : PGrid (fun b => P b ∧ b < w.heap.size ∨ w.heap.size + 3 ≤ b) w' g cap f ls :=
  ⟨h.row, Or.inl ⟨h.own, h0.row.lt⟩, h.len, h.max, fun i hi => by
    obtain ⟨b, hb, h1⟩ := h0.rows i hi
    obtain ⟨b2, hb2, h2⟩ := h.rows i hi
    by_cases e : ls[i] = []
    · exact ⟨b2, hb2, fun e2 => absurd e e2⟩
    · have e1 : b2 = b := by
        have := (hb.2.resolve_left (neMap e)).symm.trans (hb2.2.resolve_left (neMap e))
        exact (Option.some.inj this).symm
      subst e1
      exact ⟨b2, hb2, fun _ => ⟨Or.inl ⟨(h1 e).1, hb.lt (by omega) (neMap e)⟩, (h1 e).2⟩⟩⟩
theorem PGrid.put {P Q : Nat → Prop} {k b9 : Nat} {w w2 : World} {g cap : Nat} {f : Nat → Value} {ls : List (List Int)} {v : Value} {l : List Int} (h : PGrid P w g cap f ls) (hk : k < ls.length) (hb : Below w.heap.size w w2)
    (hr : RowsBl b9 1 w2 v (l.map fun z => [z])) (hb9 : b9 ≠ g) (hQ : ∀ b, P b → b < w.heap.size → Q b) (hQ9 : Q b9) : PGrid Q (w2.setCell ⟨g, k, none⟩ v) g cap (setF f k v) (ls.set k l) := by
  have hoth : ∀ b, b ≠ g → (w2.setCell ⟨g, k, none⟩ v).heap[b]? = w2.heap[b]? := fun b hb => Below.heap_setCell w2 ⟨g, k, none⟩ v b (by show b ≠ g; exact hb)
  refine ⟨rowIs_set1 (h.row.of_block (hb.block g h.row.lt)), hQ g h.own h.row.lt, by rw [List.length_set]; exact h.len, h.max, fun i hi => ?_⟩
  have hi' : i < ls.length := by simpa using hi
  by_cases e : i = k
  · subst e
    simp only [setF, if_pos, List.getElem_set_self]
    exact ⟨b9, hr.keep (fun _ => hoth b9 hb9), fun _ => ⟨hQ9, hb9⟩⟩
  · have e2 : (ls.set k l)[i] = ls[i] := by simp [List.getElem_set, Ne.symm e]
    simp only [setF, if_neg e]
    rw [e2]
    obtain ⟨b, h1, h2⟩ := h.rows i hi'
    exact ⟨b, (h1.on hb).keep (fun e => hoth b (h2 (mapNe e)).2), fun e => ⟨hQ b (h2 e).1 (h1.lt (by omega) (neMap e)), (h2 e).2⟩⟩

def Stepped (P : Nat → Prop) (s' : SlotV) (g cap : Nat) (w : World) (e : Ending) (w' : World) : Prop := e = .returned (slotAgg s' (gridV g cap s'.rows)) ∧ (∃ f', PGrid (fun b => P b ∧ b < w.heap.size ∨ w.heap.size ≤ b) w' g cap f' s'.rows) ∧ (∀ b, b < w.heap.size → b ≠ g → w'.heap[b]? = w.heap[b]?) ∧ w.heap.size ≤ w'.heap.size ∧ (∀ B w0, Below B w0 w → B ≤ g → B ≤ w.heap.size → Below B w0 w')

/-- What is so before the answer is laid. -/
structure BeforeAns (P : Nat → Prop) (rows : List (List Int)) (g cap : Nat) (w W : World) : Prop where
  grid : ∃ f, PGrid (fun b => P b ∧ b < w.heap.size ∨ w.heap.size + 3 ≤ b) W g cap f rows
  oth : ∀ b, b < w.heap.size → b ≠ g → W.heap[b]? = w.heap[b]?
  size : w.heap.size ≤ W.heap.size
  bel : ∀ B w0, Below B w0 w → B ≤ g → B ≤ w.heap.size → Below B w0 W

theorem stepped_fin {P : Nat → Prop} {num cnt : Int} {n g cap : Nat} {rows : List (List Int)} {w W : World} (h : BeforeAns P rows g cap w W) (hn : rows.length = n) (xs : List Value) :
    Stepped P ⟨num, cnt, rows⟩ g cap w (.returned (.agg #[.int .i64 num, .int .i64 cnt, .slice (some ⟨g, 0, none⟩) n cap])) (setVals W (w.heap.size + 2) 0 xs) := by
  obtain ⟨f, hg⟩ := h.grid
  subst hn
  have ho : ∀ b, b ≠ w.heap.size + 2 → (setVals W (w.heap.size + 2) 0 xs).heap[b]? = W.heap[b]? := fun b hb => setVals_other _ _ _ b hb
  refine ⟨rfl, ⟨f, (hg.keep (fun b hb _ => ho b (by omega))).to (fun b hb _ => by rcases hb with hb | hb; exact Or.inl hb; exact Or.inr (by omega))⟩, fun b h1 h2 => (ho b (by omega)).trans (h.oth b h1 h2), by rw [setVals_size]; exact h.size, fun B w0 h1 h2 h3 => setVals_below _ _ _ (h.bel B w0 h1 h2 h3) (by omega)⟩

set_option maxRecDepth 100000 in
set_option maxHeartbeats 4000000 in
theorem l31Step_any (P : Nat → Prop) (s : SlotV) (g cap : Nat) (f : Nat → Value) (sec : Bool) (sct num cnt : Int) (data : List Int) (a : Option Addr) (c : Nat) (w : World) (h : PGrid P w g cap f s.rows) (hl : s.rows.length ≤ 1048576) (hdat : NumsAt w (.slice a data.length c) data) (hdl : data.length ≤ 1048576) :
    Calls Try.prog 68 #[.agg #[.int .i64 s.num, .int .i64 s.cnt, .slice (some ⟨g, 0, none⟩) s.rows.length cap], .agg #[.bool sec, .int .i64 sct, .int .i64 num, .int .i64 cnt, .slice a data.length c]] w (Stepped P (stepS s ⟨sec, sct, num, cnt, data⟩) g cap w) := by
  obtain ⟨iI, hiI, hzi0, hzi1, hzi2⟩ := infoT_parts info_cpInt
  obtain ⟨W3, hW3⟩ : ∃ W3, W3 = (((w.alloc (.cells #[.int .i64 s.num, .int .i64 s.cnt, .slice (some ⟨g, 0, none⟩) s.rows.length cap] 25)).alloc (.cells #[.bool sec, .int .i64 sct, .int .i64 num, .int .i64 cnt, .slice a data.length c] 45)).alloc (.cells #[.int .i64 0, .int .i64 0, .slice none 0 0] 25)) := ⟨_, rfl⟩
  have hs1 : (w.alloc (.cells #[.int .i64 s.num, .int .i64 s.cnt, .slice (some ⟨g, 0, none⟩) s.rows.length cap] 25)).heap.size = w.heap.size + 1 := by simp
  have hs2 : ((w.alloc (.cells #[.int .i64 s.num, .int .i64 s.cnt, .slice (some ⟨g, 0, none⟩) s.rows.length cap] 25)).alloc (.cells #[.bool sec, .int .i64 sct, .int .i64 num, .int .i64 cnt, .slice a data.length c] 45)).heap.size = w.heap.size + 2 := by simp
  have hs3 : W3.heap.size = w.heap.size + 3 := by rw [hW3]; simp
  have hb3 : Below w.heap.size w W3 := by rw [hW3]; exact (((Below.refl _ _).alloc (Nat.le_refl _) _).alloc (by simp only [World.size_alloc]; omega) _).alloc (by simp only [World.size_alloc]; omega) _
  have K0 : Hid (W3.rowIs w.heap.size 25 3 (fun i => [Value.int .i64 s.num, .int .i64 s.cnt, .slice (some ⟨g, 0, none⟩) s.rows.length cap].getD i undef)) := hide (by
    rw [hW3]
    exact (row_new w [.int .i64 s.num, .int .i64 s.cnt, .slice (some ⟨g, 0, none⟩) s.rows.length cap] 25).of_block ((((Below.refl _ _).alloc (Nat.le_refl _) _).alloc (by rw [hs1, hs2]; omega) _).block w.heap.size (by rw [hs1]; omega)))
  have K1 : Hid (W3.rowIs (w.heap.size + 1) 45 5 (fun i => [Value.bool sec, .int .i64 sct, .int .i64 num, .int .i64 cnt, .slice a data.length c].getD i undef)) := hide (by
    have e := row_new (w.alloc (.cells #[.int .i64 s.num, .int .i64 s.cnt, .slice (some ⟨g, 0, none⟩) s.rows.length cap] 25)) [.bool sec, .int .i64 sct, .int .i64 num, .int .i64 cnt, .slice a data.length c] 45
    rw [hs1] at e
    rw [hW3]
    exact e.of_block (((Below.refl _ _).alloc (Nat.le_refl _) _).block (w.heap.size + 1) (by rw [hs2]; omega)))
  have HROW4 : Hid (W3.rowIs (w.heap.size + 2) 25 3 (fun i => [Value.int .i64 0, .int .i64 0, .slice none 0 0].getD i undef)) := hide (by
    have e := row_new ((w.alloc (.cells #[.int .i64 s.num, .int .i64 s.cnt, .slice (some ⟨g, 0, none⟩) s.rows.length cap] 25)).alloc (.cells #[.bool sec, .int .i64 sct, .int .i64 num, .int .i64 cnt, .slice a data.length c] 45)) [.int .i64 0, .int .i64 0, .slice none 0 0] 25
    rw [hs2] at e
    rw [hW3]
    exact e)
  have HG := hide h
  have HDAT := hide (hdat.on hb3)
  have HDL := hide hdl
  have HL := hide hl
  have HB3 := hide hb3
  have HS3 := hide hs3
  have HGW := hide h.row.lt
  have m0 : W3.cell? ⟨w.heap.size, 0, none⟩ = some (.int .i64 s.num) := (unhide K0).cell (i := 0) (by omega)
  have m1 : W3.cell? ⟨w.heap.size, 1, none⟩ = some (.int .i64 s.cnt) := (unhide K0).cell (i := 1) (by omega)
  have m2 : W3.cell? ⟨w.heap.size, 2, none⟩ = some (.slice (some ⟨g, 0, none⟩) s.rows.length cap) := (unhide K0).cell (i := 2) (by omega)
  have f0 := (unhide K0).frozen 0
  have f1 := (unhide K0).frozen 1
  have n1 : W3.cell? ⟨w.heap.size + 1, 1, none⟩ = some (.int .i64 sct) := (unhide K1).cell (i := 1) (by omega)
  have n2 : W3.cell? ⟨w.heap.size + 1, 2, none⟩ = some (.int .i64 num) := (unhide K1).cell (i := 2) (by omega)
  have n3 : W3.cell? ⟨w.heap.size + 1, 3, none⟩ = some (.int .i64 cnt) := (unhide K1).cell (i := 3) (by omega)
  have n4 : W3.cell? ⟨w.heap.size + 1, 4, none⟩ = some (.slice a data.length c) := (unhide K1).cell (i := 4) (by omega)
  go_enter Try.func68, Try.ntmps68
  go_upto_region 1 with fail
  rw [← hW3]
  clear hW3 hs1 hs2 hs3 hb3 h hl hdat hdl
  have HOUT3 : Hid (BeforeAns P s.rows g cap w W3) := hide ⟨⟨f, ((unhide HG).on (unhide HB3)).to' (unhide HG)⟩, fun b h1 _ => (unhide HB3).block b h1, (unhide HB3).size, fun B w0 h1 _ h3 => h1.trans ((unhide HB3).mono h3)⟩
  by_cases h1 : sct = -1
  · have hst : stepS s ⟨sec, sct, num, cnt, data⟩ = ⟨num, cnt, s.rows⟩ := by simp [stepS, h1]
    have HST := hide hst
    have e1 : (sct == -1) = true := by simp [h1]
    clear h1 hst
    go_upto_region 6 with fail
    change Code.wp _ _ _ _ (setVals W3 w.heap.size 0 [.int .i64 num, .int .i64 cnt])
    have hk := setVals_row [.int .i64 num, .int .i64 cnt] 0 W3 _ (unhide K0)
    have ho : ∀ b, b ≠ w.heap.size → (setVals W3 w.heap.size 0 [.int .i64 num, .int .i64 cnt]).heap[b]? = W3.heap[b]? := fun b hb => setVals_other _ _ _ b hb
    replace HROW4 := hide ((unhide HROW4).of_block (ho (w.heap.size + 2) (by omega)))
    have HOUT : Hid (BeforeAns P s.rows g cap w (setVals W3 w.heap.size 0 [.int .i64 num, .int .i64 cnt])) := hide (by
      obtain ⟨⟨f5, hg⟩, k1, k2, k3⟩ := unhide HOUT3
      exact ⟨⟨f5, hg.keep (fun b hb _ => ho b (by omega))⟩, fun b h1 h2 => (ho b (by omega)).trans (k1 b h1 h2), by rw [setVals_size]; exact k2, fun B w0 h1 h2 h3 => setVals_below _ _ _ (k3 B w0 h1 h2 h3) h3⟩)
    clear m0 m1 m2 f0 f1 n1 n2 n3 n4 e1
    have m0 := hk.cell (i := 0) (by omega)
    have m1 := hk.cell (i := 1) (by omega)
    have m2 := hk.cell (i := 2) (by omega)
    simp at m0 m1 m2
    clear hk ho
    generalize setVals W3 w.heap.size 0 [.int .i64 num, .int .i64 cnt] = W4 at *
    have hrr := unhide HROW4
    have e0 : W4.cell? ⟨w.heap.size + 2, 0, none⟩ = some (.int .i64 0) := hrr.cell (i := 0) (by omega)
    have e1 : W4.cell? ⟨w.heap.size + 2, 1, none⟩ = some (.int .i64 0) := hrr.cell (i := 1) (by omega)
    have e2 : W4.cell? ⟨w.heap.size + 2, 2, none⟩ = some (.slice none 0 0) := hrr.cell (i := 2) (by omega)
    have z0 := hrr.frozen 0
    have z1 := hrr.frozen 1
    have z2 := hrr.frozen 2
    have hrow := setVals_row [.int .i64 num, .int .i64 cnt, .slice (some ⟨g, 0, none⟩) s.rows.length cap] 0 W4 _ hrr
    have y0 := hrow.cell (i := 0) (by simp)
    have y1 := hrow.cell (i := 1) (by simp)
    have y2 := hrow.cell (i := 2) (by simp)
    simp at y0 y1 y2
    have HFIN := hide (stepped_fin (num := num) (cnt := cnt) (unhide HOUT) (n := s.rows.length) rfl [.int .i64 num, .int .i64 cnt, .slice (some ⟨g, 0, none⟩) s.rows.length cap])
    rw [← unhide HST] at HFIN
    have Y0 := hide y0
    have Y1 := hide y1
    have Y2 := hide y2
    clear y0 y1 y2 hrow hrr
    go_wp2_with fail
    show bodyPost _ _ _ _ _ (setVals W4 (w.heap.size + 2) 0 [.int .i64 num, .int .i64 cnt, .slice (some ⟨g, 0, none⟩) s.rows.length cap])
    clear m0 m1 m2 e0 e1 e2 z0 z1 z2
    generalize setVals W4 (w.heap.size + 2) 0 [.int .i64 num, .int .i64 cnt, .slice (some ⟨g, 0, none⟩) s.rows.length cap] = W9 at *
    have y0 := unhide Y0
    have y1 := unhide Y1
    have y2 := unhide Y2
    exact bodyPost_ret (v := .agg #[.int .i64 num, .int .i64 cnt, .slice (some ⟨g, 0, none⟩) s.rows.length cap]) (by simp [results, Try.results68, go_sem, y0, y1, y2]) rfl (unhide HFIN)
  · have e1 : (sct == -1) = false := by simp [h1]
    have hlen := unhide HL
    go_upto_region 4 with fail
    go_wp2_with fail
    refine (l6In_any sct 0 ((s.rows.length : Int) - 1) W3).mono ?_
    rintro e w' ⟨rfl, hw⟩
    obtain rfl := hw.symm
    clear hw
    cases h2 : inR 0 ((s.rows.length : Int) - 1) sct
    · have hst : stepS s ⟨sec, sct, num, cnt, data⟩ = ⟨s.num, s.cnt, s.rows⟩ := by simp [stepS, h1, h2]
      have HST := hide hst
      have HOUT := HOUT3
      clear h1 h2 hst hlen e1
      go_upto_region 6 with fail
      clear f0 f1 n1 n2 n3 n4
      have hrr := unhide HROW4
      have e0 : W3.cell? ⟨w.heap.size + 2, 0, none⟩ = some (.int .i64 0) := hrr.cell (i := 0) (by omega)
      have e1 : W3.cell? ⟨w.heap.size + 2, 1, none⟩ = some (.int .i64 0) := hrr.cell (i := 1) (by omega)
      have e2 : W3.cell? ⟨w.heap.size + 2, 2, none⟩ = some (.slice none 0 0) := hrr.cell (i := 2) (by omega)
      have z0 := hrr.frozen 0
      have z1 := hrr.frozen 1
      have z2 := hrr.frozen 2
      have hrow := setVals_row [.int .i64 s.num, .int .i64 s.cnt, .slice (some ⟨g, 0, none⟩) s.rows.length cap] 0 W3 _ hrr
      have y0 := hrow.cell (i := 0) (by simp)
      have y1 := hrow.cell (i := 1) (by simp)
      have y2 := hrow.cell (i := 2) (by simp)
      simp at y0 y1 y2
      have HFIN := hide (stepped_fin (num := s.num) (cnt := s.cnt) (unhide HOUT) (n := s.rows.length) rfl [.int .i64 s.num, .int .i64 s.cnt, .slice (some ⟨g, 0, none⟩) s.rows.length cap])
      rw [← unhide HST] at HFIN
      have Y0 := hide y0
      have Y1 := hide y1
      have Y2 := hide y2
      clear y0 y1 y2 hrow hrr
      go_wp2_with fail
      show bodyPost _ _ _ _ _ (setVals W3 (w.heap.size + 2) 0 [.int .i64 s.num, .int .i64 s.cnt, .slice (some ⟨g, 0, none⟩) s.rows.length cap])
      clear m0 m1 m2 e0 e1 e2 z0 z1 z2
      generalize setVals W3 (w.heap.size + 2) 0 [.int .i64 s.num, .int .i64 s.cnt, .slice (some ⟨g, 0, none⟩) s.rows.length cap] = W9 at *
      have y0 := unhide Y0
      have y1 := unhide Y1
      have y2 := unhide Y2
      exact bodyPost_ret (v := .agg #[.int .i64 s.num, .int .i64 s.cnt, .slice (some ⟨g, 0, none⟩) s.rows.length cap]) (by simp [results, Try.results68, go_sem, y0, y1, y2]) rfl (unhide HFIN)
    · have hst : stepS s ⟨sec, sct, num, cnt, data⟩ = ⟨s.num, s.cnt, s.rows.set sct.toNat data⟩ := by simp [stepS, h1, h2]
      have hr := inR_iff.1 h2
      obtain ⟨k, rfl⟩ : ∃ k : Nat, sct = (k : Int) := ⟨sct.toNat, by omega⟩
      rw [Int.toNat_natCast] at hst
      have HST := hide hst
      have hkL : k < s.rows.length := by omega
      have HKL := hide hkL
      have hkI : (k : Int) < (s.rows.length : Int) := by omega
      have hk0 : (0 : Int) ≤ (k : Int) := by omega
      clear h1 h2 hst hr hkL e1
      go_upto_region 5 with fail
      have HA : Hid (∀ w2, Below W3.heap.size W3 w2 → w2.cell? ⟨w.heap.size, 2, none⟩ = some (.slice (some ⟨g, 0, none⟩) s.rows.length cap) ∧ w2.cell? ⟨w.heap.size + 1, 1, none⟩ = some (.int .i64 (k : Int)) ∧ w2.cell? ⟨w.heap.size + 1, 4, none⟩ = some (.slice a data.length c)) := hide (fun w2 h2 => ⟨cell_on h2 m2, cell_on h2 n1, cell_on h2 n4⟩)
      have hown := ((unhide HG).on (unhide HB3)).row
      refine wp_region_last (L := 9) (S := fun w' : World => w'.cell? ⟨w.heap.size, 2, none⟩ = some (.slice (some ⟨g, 0, none⟩) s.rows.length cap) ∧ w'.cell? ⟨w.heap.size + 1, 1, none⟩ = some (.int .i64 (k : Int)) ∧ w'.cell? ⟨w.heap.size + 1, 4, none⟩ = some (.slice a data.length c)) (by kernel_rfl) ?_
      have hHeld : (fun w' : World => w'.cell? ⟨w.heap.size, 2, none⟩ = some (.slice (some ⟨g, 0, none⟩) s.rows.length cap) ∧ w'.cell? ⟨w.heap.size + 1, 1, none⟩ = some (.int .i64 (k : Int)) ∧ w'.cell? ⟨w.heap.size + 1, 4, none⟩ = some (.slice a data.length c)) W3.drew := (unhide HA) _ (Below.refl _ _).drew
      refine wpAnyL_take (i := 0) (v := ?_) (by kernel_rfl) rfl (by kernel_rfl) (by kernel_rfl) (by kernel_rfl) (fun _ _ _ h => h) hHeld (Or.inl ⟨by kernel_rfl, ?_⟩) ?_
      rotate_left
      · (intro w hSw; (try dsimp only at hSw); obtain ⟨s0, s1, s2⟩ := hSw; go_simp; try with_reducible rfl)
      refine wpAnyL_take (i := 1) (v := ?_) (by kernel_rfl) rfl (by kernel_rfl) (by kernel_rfl) (by kernel_rfl) (fun _ _ _ h => h) hHeld (Or.inl ⟨by kernel_rfl, ?_⟩) ?_
      rotate_left
      · (intro w hSw; (try dsimp only at hSw); obtain ⟨s0, s1, s2⟩ := hSw; go_simp; try with_reducible rfl)
      refine wpAnyL_take (i := 2) (v := ?_) (by kernel_rfl) rfl (by kernel_rfl) (by kernel_rfl) (by kernel_rfl) (fun _ _ _ h => h) hHeld (Or.inl ⟨by kernel_rfl, ?_⟩) ?_
      rotate_left
      · (intro w hSw; (try dsimp only at hSw); obtain ⟨s0, s1, s2⟩ := hSw; go_simp; try with_reducible rfl)
      refine wpAnyL_take (i := 3) (v := ?_) (by kernel_rfl) rfl (by kernel_rfl) (by kernel_rfl) (by kernel_rfl) (fun _ _ _ h => h) hHeld (Or.inl ⟨by kernel_rfl, ?_⟩) ?_
      rotate_left
      · (intro w hSw; (try dsimp only at hSw); obtain ⟨s0, s1, s2⟩ := hSw; go_simp; try with_reducible rfl)
      refine wpAnyL_take (i := 5) (v := ?_) (by kernel_rfl) rfl (by kernel_rfl) (by kernel_rfl) (by kernel_rfl) (fun _ _ _ h => h) hHeld (Or.inl ⟨by kernel_rfl, ?_⟩) ?_
      rotate_left
      · (intro w hSw; (try dsimp only at hSw); obtain ⟨s0, s1, s2⟩ := hSw; go_simp; try with_reducible rfl)
      refine wpAnyL_take (i := 6) (v := ?_) (by kernel_rfl) rfl (by kernel_rfl) (by kernel_rfl) (by kernel_rfl) (fun _ _ _ h => h) hHeld (Or.inl ⟨by kernel_rfl, ?_⟩) ?_
      rotate_left
      · (intro w hSw; (try dsimp only at hSw); obtain ⟨s0, s1, s2⟩ := hSw; go_simp; try with_reducible rfl)
      refine wpAnyL_one (i := 4) (by kernel_rfl) rfl (fun K hK => ?_)
      go_simp
      have hb4 : Below W3.heap.size W3 (W3.alloc (.cells #[] 3)).drew := ((Below.refl _ _).alloc (Nat.le_refl _) _).drew
      refine held_on hK ?_ (fun hHeld => ?_)
      · exact (unhide HA) _ hb4
      clear hK K
      refine wpAnyL_one (i := 7) (by kernel_rfl) rfl (fun K hK => ?_)
      refine step_append_empty _ (by rfl) (.tmp 25) (.tmp 27) 28 (by rfl) 3 iI _ 1 8 slice_Int hiI hzi0 hzi1 hzi2 (by omega) (some ⟨W3.drew.heap.size, 0, none⟩) (by rfl) (data.map fun x => [x]) (.slice a data.length c) (by rfl) ((unhide HDAT).on hb4) (rowlenInt data) (by have := unhide HDL; rw [List.length_map]; omega) ?_
      intro v2 w5 hv2 hb5 hne
      have hs4 : (W3.alloc (.cells #[] 3)).drew.heap.size = W3.heap.size + 1 := by simp
      have hb45 := below_then hb4 hb5
      refine held_on hK ?_ (fun hHeld => ?_)
      · exact (unhide HA) _ hb45
      clear hK K
      obtain ⟨xa, xc, hxv⟩ : ∃ xa xc, v2 = .slice xa data.length xc := by
        obtain ⟨⟨xa, xc, e, _⟩, _⟩ := hv2
        rw [List.length_map] at e
        exact ⟨xa, xc, e⟩
      subst hxv
      rw [hs4] at hv2
      have HV2 := hide hv2
      have hcur := (hown.of_block (hb45.block g (by have := unhide HGW; have := unhide HS3; omega))).cell (i := k) (by have := (unhide HG).len; have := unhide HKL; omega)
      have hfro := (hown.of_block (hb45.block g (by have := unhide HGW; have := unhide HS3; omega))).frozen k
      have HB45 := hide hb45
      clear hb4 hb5 hne hs4 hv2 hb45
      refine wpAnyL_one (i := 8) (by kernel_rfl) rfl (fun K hK => ?_)
      go_simp
      refine held_on hK ?_ (fun hHeld => ?_)
      · exact hHeld
      clear hK K
      refine wpAnyL_end (by kernel_rfl) rfl (fun K hK => ?_)
      go_simp
      refine hK.out _ _ ?_
      clear hK K
      refine wpAnyL_done (by kernel_rfl) ?_ _
      have HOUT : Hid (BeforeAns P (s.rows.set k data) g cap w (w5.setCell ⟨g, k, none⟩ (.slice xa data.length xc))) := hide (by
        have hgw := unhide HGW
        have hs3 := unhide HS3
        have hb := (unhide HB45)
        have ho : ∀ b, b ≠ g → (w5.setCell ⟨g, k, none⟩ (.slice xa data.length xc)).heap[b]? = w5.heap[b]? := fun b hb => Below.heap_setCell w5 ⟨g, k, none⟩ _ b (by show b ≠ g; exact hb)
        exact ⟨⟨_, (unhide HG).put (unhide HKL) (below_then (unhide HB3) hb) (unhide HV2) (by omega) (fun b h1 h2 => Or.inl ⟨h1, h2⟩) (Or.inr (by omega))⟩, fun b h1 h2 => (ho b h2).trans ((hb.block b (by omega)).trans ((unhide HB3).block b h1)), by have := hb.size; simp; omega, fun B w0 h1 h2 h3 => setVals_below [.slice xa data.length xc] k w5 (below_tr3 h1 (unhide HB3) hb h3) h2⟩)
      have hgq : ∀ j, j < 3 → w.heap.size + j ≠ g := fun j _ => by have := unhide HGW; omega
      have hk0' : ∀ b, b < W3.heap.size → b ≠ g → (w5.setCell ⟨g, k, none⟩ (.slice xa data.length xc)).heap[b]? = W3.heap[b]? := fun b h1 h2 => (Below.heap_setCell w5 ⟨g, k, none⟩ _ b (by show b ≠ g; exact h2)).trans ((unhide HB45).block b h1)
      replace HROW4 := hide ((unhide HROW4).of_block (hk0' (w.heap.size + 2) (by have := unhide HS3; omega) (hgq 2 (by omega))))
      have hq0 := (unhide K0).of_block (hk0' w.heap.size (by have := unhide HS3; omega) (hgq 0 (by omega)))
      clear m0 m1 m2 f0 f1 n1 n2 n3 n4 hcur hfro hown hgq hk0'
      generalize w5.setCell ⟨g, k, none⟩ (.slice xa data.length xc) = W6 at *
      have m0 : W6.cell? ⟨w.heap.size, 0, none⟩ = some (.int .i64 s.num) := hq0.cell (i := 0) (by omega)
      have m1 : W6.cell? ⟨w.heap.size, 1, none⟩ = some (.int .i64 s.cnt) := hq0.cell (i := 1) (by omega)
      have m2 : W6.cell? ⟨w.heap.size, 2, none⟩ = some (.slice (some ⟨g, 0, none⟩) s.rows.length cap) := hq0.cell (i := 2) (by omega)
      clear hq0
      have hrr := unhide HROW4
      have e0 : W6.cell? ⟨w.heap.size + 2, 0, none⟩ = some (.int .i64 0) := hrr.cell (i := 0) (by omega)
      have e1 : W6.cell? ⟨w.heap.size + 2, 1, none⟩ = some (.int .i64 0) := hrr.cell (i := 1) (by omega)
      have e2 : W6.cell? ⟨w.heap.size + 2, 2, none⟩ = some (.slice none 0 0) := hrr.cell (i := 2) (by omega)
      have z0 := hrr.frozen 0
      have z1 := hrr.frozen 1
      have z2 := hrr.frozen 2
      have hrow := setVals_row [.int .i64 s.num, .int .i64 s.cnt, .slice (some ⟨g, 0, none⟩) s.rows.length cap] 0 W6 _ hrr
      have y0 := hrow.cell (i := 0) (by simp)
      have y1 := hrow.cell (i := 1) (by simp)
      have y2 := hrow.cell (i := 2) (by simp)
      simp at y0 y1 y2
      have HFIN := hide (stepped_fin (num := s.num) (cnt := s.cnt) (unhide HOUT) (n := s.rows.length) (List.length_set ..) [.int .i64 s.num, .int .i64 s.cnt, .slice (some ⟨g, 0, none⟩) s.rows.length cap])
      rw [← unhide HST] at HFIN
      have Y0 := hide y0
      have Y1 := hide y1
      have Y2 := hide y2
      clear y0 y1 y2 hrow hrr
      go_wp2_with fail
      show bodyPost _ _ _ _ _ (setVals W6 (w.heap.size + 2) 0 [.int .i64 s.num, .int .i64 s.cnt, .slice (some ⟨g, 0, none⟩) s.rows.length cap])
      clear m0 m1 m2 e0 e1 e2 z0 z1 z2
      generalize setVals W6 (w.heap.size + 2) 0 [.int .i64 s.num, .int .i64 s.cnt, .slice (some ⟨g, 0, none⟩) s.rows.length cap] = W9 at *
      have y0 := unhide Y0
      have y1 := unhide Y1
      have y2 := unhide Y2
      exact bodyPost_ret (v := .agg #[.int .i64 s.num, .int .i64 s.cnt, .slice (some ⟨g, 0, none⟩) s.rows.length cap]) (by simp [results, Try.results68, go_sem, y0, y1, y2]) rfl (unhide HFIN)
end Go.Proofs.Ytocgfngcgekciaa
