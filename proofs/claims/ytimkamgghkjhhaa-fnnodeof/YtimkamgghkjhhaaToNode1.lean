/- nodeWork.toNode of a node that has done nothing, and was told nothing. -/
import Derived.Test.YtimkamgghkjhhaaNode2
import Derived.Test.YtimkamgghkjhhaaLanes3
import Derived.Test.YtimkamgghkjhhaaCopyI
import Derived.Test.YtimkamgghkjhhaaVwA
import Derived.Maps.Own
import Derived.Test.YtimkamgghkjhhaaApp2
import Derived.Test.YtimkamgghkjhhaaInv
import Derived.Deep.Cut
import Derived.Deep.CutRange
namespace Go.Proofs.Ytimkamgghkjhhaa
open Go.RowKit
set_option linter.unusedVariables false
set_option linter.unusedSimpArgs false

theorem rowsLn {α : Type} {f : α → List Int} {k : Nat} {w : World} {v : Value} {l : List α} (h : RowsAt k w v (l.map f)) : ∃ a c, v = .slice a l.length c := by
  obtain ⟨a, c, e, _⟩ := h
  rw [List.length_map] at e
  exact ⟨a, c, e⟩

theorem nums3 {w : World} {p o : Nat} {a b c : Int} (h0 : w.cell? ⟨p, o, none⟩ = some (.int .i64 a)) (h1 : w.cell? ⟨p, o + 1, none⟩ = some (.int .i64 b)) (h2 : w.cell? ⟨p, o + 2, none⟩ = some (.int .i64 c)) :
    NumsAt w (.slice (some ⟨p, o, none⟩) 3 3) [a, b, c] := by
  refine ⟨some ⟨p, o, none⟩, 3, rfl, Nat.le_refl _, (show 3 ≤ maxLen by decide), Or.inr ⟨p, o, rfl, fun i hi j hj => ?_⟩⟩
  obtain rfl : j = 0 := by omega
  have hi3 : i < 3 := by simpa using hi
  match i, hi3 with
  | 0, _ => simpa using h0
  | 1, _ => simpa using h1
  | 2, _ => simpa using h2

/-- A node that is made but for its views: where its lists lie. -/
def Made (B : Nat) (n : NodeV) (q : Nat) (w0 wx : World) : Prop :=
  ∃ vl vk vo vn p0 p1 p2 p3 p4, wx.rowIs q 31 13 (fun i => (nodeCells n vl vk vo (.slice none 0 0) vn).getD i undef) ∧ B ≤ q ∧ B ≤ p0 ∧ p0 ≤ p1 ∧ p1 ≤ p2 ∧ p2 ≤ p3 ∧ p3 ≤ p4 ∧ p4 ≤ wx.heap.size ∧ (q < p0 ∨ p1 ≤ q) ∧
    LanesOwn p0 p1 wx vl n.lanes ∧ RowsFr p1 65 7 wx vk (n.kept.map evRow) ∧ (∀ b, vk.ownBlock = some b → b < p2 ∧ b ≠ q) ∧ RowsFr p2 103 5 wx vo (n.outs.map outRow) ∧ (∀ b, vo.ownBlock = some b → b < p3 ∧ b ≠ q) ∧
    RowsFr p3 3 1 wx vn (n.known.map fun z => [z]) ∧ (∀ b, vn.ownBlock = some b → b < p4 ∧ b ≠ q) ∧ Below B w0 wx

theorem made_of {B q : Nat} {n : NodeV} {vl vk vo vn : Value} {W0 W : World} {b1 e1 b2 e2 b3 e3 b4 e4 : Nat} {f : Nat → Value} (hq : W.rowIs q 31 13 f) (hBq : B ≤ q) (h0 : B ≤ b1) (h1 : b1 ≤ e1) (h2 : e1 ≤ b2) (h3 : b2 ≤ e2) (h4 : e2 ≤ b3) (h5 : b3 ≤ e3) (h6 : e3 ≤ b4) (h7 : b4 ≤ e4) (h8 : e4 ≤ W.heap.size)
    (hq1 : q < b1 ∨ e1 ≤ q) (hq2 : q < b2 ∨ e2 ≤ q) (hq3 : q < b3 ∨ e3 ≤ q) (hq4 : q < b4 ∨ e4 ≤ q) (HL : LanesOwn b1 e1 W vl n.lanes) (HK : RowsFr b2 65 7 W vk (n.kept.map evRow)) (HKb : ∀ b, vk.ownBlock = some b → b < e2)
    (HO : RowsFr b3 103 5 W vo (n.outs.map outRow)) (HOb : ∀ b, vo.ownBlock = some b → b < e3) (HN : RowsFr b4 3 1 W vn (n.known.map fun z => [z])) (HNb : ∀ b, vn.ownBlock = some b → b < e4) (hb : Below B W0 W) :
    Made B n q W0 (setVals W q 0 (nodeCells n vl vk vo (.slice none 0 0) vn)) := by
  have k2 : ∀ b, vk.ownBlock = some b → b ≠ q := fun b e => by have := (HK.blk b e).1; have := HKb b e; omega
  have k3 : ∀ b, vo.ownBlock = some b → b ≠ q := fun b e => by have := (HO.blk b e).1; have := HOb b e; omega
  have k4 : ∀ b, vn.ownBlock = some b → b ≠ q := fun b e => by have := (HN.blk b e).1; have := HNb b e; omega
  refine ⟨vl, vk, vo, vn, b1, e1, e2, e3, e4, (setVals_row _ 0 W _ hq).congr (fun i hi => ?_), hBq, h0, h1, by omega, by omega, by omega, ?_, hq1, HL.keep (fun b x1 x2 _ => setVals_other _ 0 W b (by omega)),
    (HK.less h2).block (fun b e _ => setVals_other _ 0 W b (k2 b e)), fun b e => ⟨HKb b e, k2 b e⟩, (HO.less h4).block (fun b e _ => setVals_other _ 0 W b (k3 b e)), fun b e => ⟨HOb b e, k3 b e⟩, (HN.less h6).block (fun b e _ => setVals_other _ 0 W b (k4 b e)), fun b e => ⟨HNb b e, k4 b e⟩, setVals_below _ 0 W hb hBq⟩
  · have e : (0 ≤ i ∧ i < 0 + (nodeCells n vl vk vo (.slice none 0 0) vn).length) := ⟨Nat.zero_le _, by simpa using hi⟩
    rw [if_pos e]
    rfl
  · rw [setVals_size]; exact h8

set_option maxRecDepth 100000 in
set_option maxHeartbeats 20000000 in
theorem toNode_first (p d m : Nat) (id inc g led ver k0 k1 k2 rd low : Int) (up : Bool) (bs : List StV) (ks : List EvV) (os : List OutV) (ba ka oa : Option Addr) (bc kc oc : Nat) (w : World)
    (hrow : w.rowIs p 73 16 (fun i => ([.int .i64 id, .int .i64 inc, .int .i64 g, .slice ba bs.length bc, .slice ka ks.length kc, .slice oa os.length oc, .int .i64 led, .bool up, .slice (some ⟨d, 0, none⟩) bs.length bs.length, .int .i64 ver, .map (some m), .int .i64 k0, .int .i64 k1, .int .i64 k2, .int .i64 rd, .int .i64 low] : List Value).getD i undef)) (hD : w.rowIs d 35 bs.length (fun _ => .slice none 0 0)) (hM : w.heap[m]? = some (.map #[] 0))
    (hBS : RowsAt 3 w (.slice ba bs.length bc) (bs.map stRw)) (hKS : RowsAt 7 w (.slice ka ks.length kc) (ks.map evRow)) (hOS : RowsAt 5 w (.slice oa os.length oc) (os.map outRow))
    (hlen : (procsTo id 4).length = bs.length) (hlb : bs.length ≤ 1000) (hlk : ks.length ≤ 1048576) (hlo : os.length ≤ 1048576)
    (K : Act → World → Prop) (Q : Exit → Act → World → Prop) : True := trivial


/-- What the operations of toNode's struct have made. -/
def toNodeF (id inc g led ver rd low : Int) (up : Bool) (xs : List (Int × StV)) (ks : List EvV) (os : List OutV) (ns : List Int) : Nat → (Nat → Nat) → (Nat → Nat) → (Nat → Value) → World → Prop
  | 20, lo, hi, u, w => LanesOwn (lo 20) (hi 20) w (u 20) (nilLanes xs)
  | 21, lo, hi, u, w => LanesOwn (lo 21) (hi 21) w (u 21) (nilLanes xs)
  | 27, lo, hi, u, w => RowsFr (lo 27) 65 7 w (u 27) (ks.map evRow) ∧ ∀ b, (u 27).ownBlock = some b → b < hi 27
  | 33, lo, hi, u, w => RowsFr (lo 33) 103 5 w (u 33) (os.map outRow) ∧ ∀ b, (u 33).ownBlock = some b → b < hi 33
  | 47, lo, hi, u, w => RowsFr (lo 47) 3 1 w (u 47) (ns.map fun z => [z]) ∧ ∀ b, (u 47).ownBlock = some b → b < hi 47
  | 56, lo, hi, u, w => u 56 = .agg #[.int .i64 id, .bool up, .int .i64 inc, .int .i64 g, u 21, u 27, u 33, .int .i64 led, .int .i64 ver, .slice none 0 0, u 47, .int .i64 rd, .int .i64 low]
  | 57, lo, hi, u, w => u 57 = .pointer (some ⟨lo 57, 0, none⟩) ∧ lo 57 < hi 57 ∧ w.rowIs (lo 57) 31 13 (fun i => [.int .i64 0, .bool false, .int .i64 0, .int .i64 0, .slice none 0 0, .slice none 0 0, .slice none 0 0, .int .i64 0, .int .i64 0, .slice none 0 0, .slice none 0 0, .int .i64 0, .int .i64 0].getD i undef)
  | _, _, _, _, _ => True

def ToNode (N : NodeV) (w : World) (e : Ending) (w' : World) : Prop :=
  ∃ vl vk vo vv vn, e = .returned (nodeAgg N vl vk vo vv vn) ∧ NodeOwn w.heap.size w'.heap.size w' N vl vk vo vv vn ∧ Below w.heap.size w w'

set_option maxRecDepth 100000 in
set_option maxHeartbeats 20000000 in
theorem toNode_any (p d m : Nat) (id inc g led ver k0 k1 k2 rd low : Int) (up : Bool) (bs : List StV) (ks : List EvV) (os : List OutV) (ba ka oa : Option Addr) (bc kc oc : Nat) (w : World)
    (hrow : w.rowIs p 73 16 (fun i => ([.int .i64 id, .int .i64 inc, .int .i64 g, .slice ba bs.length bc, .slice ka ks.length kc, .slice oa os.length oc, .int .i64 led, .bool up, .slice (some ⟨d, 0, none⟩) bs.length bs.length, .int .i64 ver, .map (some m), .int .i64 k0, .int .i64 k1, .int .i64 k2, .int .i64 rd, .int .i64 low] : List Value).getD i undef)) (hD : w.rowIs d 35 bs.length (fun _ => .slice none 0 0)) (hM : w.heap[m]? = some (.map #[] 0))
    (hBS : RowsAt 3 w (.slice ba bs.length bc) (bs.map stRw)) (hKS : RowsAt 7 w (.slice ka ks.length kc) (ks.map evRow)) (hOS : RowsAt 5 w (.slice oa os.length oc) (os.map outRow))
    (hlen : (procsTo id 4).length = bs.length) (hlb : bs.length ≤ 1000) (hlk : ks.length ≤ 1048576) (hlo : os.length ≤ 1048576) :
    Calls Try.prog 31 #[.pointer (some ⟨p, 0, none⟩)] w fun e w' => ToNode (⟨id, up, inc, g, nilLanes ((procsTo id 4).zip bs), ks, os, led, ver, nilViews 3, [k0, k1, k2], rd, low⟩ : NodeV) w e w' := by
  have hl4 := procsTo_len id 4
  have hx0 : Below w.heap.size w (w.alloc (.cells #[.int .i64 0, .bool false, .int .i64 0, .int .i64 0, .slice none 0 0, .slice none 0 0, .slice none 0 0, .int .i64 0, .int .i64 0, .slice none 0 0, .slice none 0 0, .int .i64 0, .int .i64 0] 31)) := (Below.refl _ _).alloc (Nat.le_refl _) _
  have RR : Hid ((w.alloc (.cells #[.int .i64 0, .bool false, .int .i64 0, .int .i64 0, .slice none 0 0, .slice none 0 0, .slice none 0 0, .int .i64 0, .int .i64 0, .slice none 0 0, .slice none 0 0, .int .i64 0, .int .i64 0] 31)).rowIs w.heap.size 31 13 (fun i => [.int .i64 0, .bool false, .int .i64 0, .int .i64 0, .slice none 0 0, .slice none 0 0, .slice none 0 0, .int .i64 0, .int .i64 0, .slice none 0 0, .slice none 0 0, .int .i64 0, .int .i64 0].getD i undef)) := hide (row_new w [.int .i64 0, .bool false, .int .i64 0, .int .i64 0, .slice none 0 0, .slice none 0 0, .slice none 0 0, .int .i64 0, .int .i64 0, .slice none 0 0, .slice none 0 0, .int .i64 0, .int .i64 0] 31)
  have RP := hide (hrow.of_block (hx0.block p hrow.lt))
  have RD := hide (hD.of_block (hx0.block d hD.lt))
  have hml : m < w.heap.size := by
    rcases Nat.lt_or_ge m w.heap.size with h | h
    · exact h
    · rw [Array.getElem?_eq_none h] at hM; cases hM
  have HMM := hide ((hx0.block m hml).trans hM)
  have HBS := hide (hBS.on hx0)
  have HKS := hide (hKS.on hx0)
  have HOS := hide (hOS.on hx0)
  have HX0 := hide hx0
  have HXS : Hid ((w.alloc (.cells #[.int .i64 0, .bool false, .int .i64 0, .int .i64 0, .slice none 0 0, .slice none 0 0, .slice none 0 0, .int .i64 0, .int .i64 0, .slice none 0 0, .slice none 0 0, .int .i64 0, .int .i64 0] 31)).heap.size = w.heap.size + 1) := hide (by simp)
  have HPW : Hid (p < w.heap.size) := hide hrow.lt
  have HML := hide hml
  clear hx0 hrow hD hM hBS hKS hOS hml
  go_enter Try.func31, Try.ntmps31
  go_upto_region 1 with fail
  generalize (w.alloc (.cells #[.int .i64 0, .bool false, .int .i64 0, .int .i64 0, .slice none 0 0, .slice none 0 0, .slice none 0 0, .int .i64 0, .int .i64 0, .slice none 0 0, .slice none 0 0, .int .i64 0, .int .i64 0] 31)) = XX at *
  obtain ⟨X, hX⟩ : ∃ X, X = XX.drew := ⟨_, rfl⟩
  have HXX := hide hX
  have HDR : Hid (Below XX.heap.size XX X) := hide (by rw [hX]; exact (Below.refl _ _).drew)
  replace HXS : Hid (X.heap.size = w.heap.size + 1) := hide (by rw [hX]; exact unhide HXS)
  clear hX
  replace HX0 := hide (below_then (unhide HX0) (unhide HDR))
  replace RR := hide ((unhide RR).of_block ((unhide HDR).block w.heap.size (unhide RR).lt))
  replace RP := hide ((unhide RP).of_block ((unhide HDR).block p (unhide RP).lt))
  replace RD := hide ((unhide RD).of_block ((unhide HDR).block d (unhide RD).lt))
  have HML2 := hide (show m < XX.heap.size by have h1 := unhide HMM; rcases Nat.lt_or_ge m XX.heap.size with h | h; exact h; rw [Array.getElem?_eq_none h] at h1; cases h1)
  replace HMM := hide (((unhide HDR).block m (unhide HML2)).trans (unhide HMM))
  replace HBS := hide ((unhide HBS).on (unhide HDR))
  replace HKS := hide ((unhide HKS).on (unhide HDR))
  replace HOS := hide ((unhide HOS).on (unhide HDR))
  clear HDR HML2
  go_cut [3] from 5 to 61 (fun t wx => ∃ q, t = .pointer (some ⟨q, 0, none⟩) ∧ Hid (Made X.heap.size (⟨id, up, inc, g, nilLanes ((procsTo id 4).zip bs), ks, os, led, ver, nilViews 3, [k0, k1, k2], rd, low⟩ : NodeV) q X wx))
  case first =>
    refine wp_region_last (L := 58) (S := fun w' : World => w'.cell? ⟨p, 0, none⟩ = some (.int .i64 id) ∧ w'.cell? ⟨p, 1, none⟩ = some (.int .i64 inc) ∧ w'.cell? ⟨p, 2, none⟩ = some (.int .i64 g) ∧ w'.cell? ⟨p, 4, none⟩ = some (.slice ka ks.length kc) ∧ w'.cell? ⟨p, 5, none⟩ = some (.slice oa os.length oc) ∧ w'.cell? ⟨p, 6, none⟩ = some (.int .i64 led) ∧ w'.cell? ⟨p, 7, none⟩ = some (.bool up) ∧ w'.cell? ⟨p, 9, none⟩ = some (.int .i64 ver) ∧ w'.cell? ⟨p, 14, none⟩ = some (.int .i64 rd) ∧ w'.cell? ⟨p, 15, none⟩ = some (.int .i64 low)) (by kernel_rfl) ?_
    rw [← unhide HXX]
    clear HXX
    have HB := hide (Below.refl X.heap.size X)
    have hHeld : (fun w' : World => w'.cell? ⟨p, 0, none⟩ = some (.int .i64 id) ∧ w'.cell? ⟨p, 1, none⟩ = some (.int .i64 inc) ∧ w'.cell? ⟨p, 2, none⟩ = some (.int .i64 g) ∧ w'.cell? ⟨p, 4, none⟩ = some (.slice ka ks.length kc) ∧ w'.cell? ⟨p, 5, none⟩ = some (.slice oa os.length oc) ∧ w'.cell? ⟨p, 6, none⟩ = some (.int .i64 led) ∧ w'.cell? ⟨p, 7, none⟩ = some (.bool up) ∧ w'.cell? ⟨p, 9, none⟩ = some (.int .i64 ver) ∧ w'.cell? ⟨p, 14, none⟩ = some (.int .i64 rd) ∧ w'.cell? ⟨p, 15, none⟩ = some (.int .i64 low)) X := ⟨(unhide RP).cell (i := 0) (by omega), (unhide RP).cell (i := 1) (by omega), (unhide RP).cell (i := 2) (by omega), (unhide RP).cell (i := 4) (by omega), (unhide RP).cell (i := 5) (by omega), (unhide RP).cell (i := 6) (by omega), (unhide RP).cell (i := 7) (by omega), (unhide RP).cell (i := 9) (by omega), (unhide RP).cell (i := 14) (by omega), (unhide RP).cell (i := 15) (by omega)⟩
    refine wpAnyL_take (i := 0) (v := ?_) (by kernel_rfl) rfl (by kernel_rfl) (by kernel_rfl) (by kernel_rfl) (fun _ _ _ h => h) hHeld (Or.inl ⟨by kernel_rfl, ?_⟩) ?_
    rotate_left
    · (intro w hSw; (try dsimp only at hSw); obtain ⟨s0, s1, s2, s3, s4, s5, s6, s7, s8, s9⟩ := hSw; go_simp; try with_reducible rfl)
    refine wpAnyL_take (i := 1) (v := ?_) (by kernel_rfl) rfl (by kernel_rfl) (by kernel_rfl) (by kernel_rfl) (fun _ _ _ h => h) hHeld (Or.inl ⟨by kernel_rfl, ?_⟩) ?_
    rotate_left
    · (intro w hSw; (try dsimp only at hSw); obtain ⟨s0, s1, s2, s3, s4, s5, s6, s7, s8, s9⟩ := hSw; go_simp; try with_reducible rfl)
    refine wpAnyL_take (i := 2) (v := ?_) (by kernel_rfl) rfl (by kernel_rfl) (by kernel_rfl) (by kernel_rfl) (fun _ _ _ h => h) hHeld (Or.inl ⟨by kernel_rfl, ?_⟩) ?_
    rotate_left
    · (intro w hSw; (try dsimp only at hSw); obtain ⟨s0, s1, s2, s3, s4, s5, s6, s7, s8, s9⟩ := hSw; go_simp; try with_reducible rfl)
    refine wpAnyL_take (i := 3) (v := ?_) (by kernel_rfl) rfl (by kernel_rfl) (by kernel_rfl) (by kernel_rfl) (fun _ _ _ h => h) hHeld (Or.inl ⟨by kernel_rfl, ?_⟩) ?_
    rotate_left
    · (intro w hSw; (try dsimp only at hSw); obtain ⟨s0, s1, s2, s3, s4, s5, s6, s7, s8, s9⟩ := hSw; go_simp; try with_reducible rfl)
    refine wpAnyL_take (i := 4) (v := ?_) (by kernel_rfl) rfl (by kernel_rfl) (by kernel_rfl) (by kernel_rfl) (fun _ _ _ h => h) hHeld (Or.inl ⟨by kernel_rfl, ?_⟩) ?_
    rotate_left
    · (intro w hSw; (try dsimp only at hSw); obtain ⟨s0, s1, s2, s3, s4, s5, s6, s7, s8, s9⟩ := hSw; go_simp; try with_reducible rfl)
    refine wpAnyL_take (i := 5) (v := ?_) (by kernel_rfl) rfl (by kernel_rfl) (by kernel_rfl) (by kernel_rfl) (fun _ _ _ h => h) hHeld (Or.inl ⟨by kernel_rfl, ?_⟩) ?_
    rotate_left
    · (intro w hSw; (try dsimp only at hSw); obtain ⟨s0, s1, s2, s3, s4, s5, s6, s7, s8, s9⟩ := hSw; go_simp; try with_reducible rfl)
    refine wpAnyL_take (i := 6) (v := ?_) (by kernel_rfl) rfl (by kernel_rfl) (by kernel_rfl) (by kernel_rfl) (fun _ _ _ h => h) hHeld (Or.inl ⟨by kernel_rfl, ?_⟩) ?_
    rotate_left
    · (intro w hSw; (try dsimp only at hSw); obtain ⟨s0, s1, s2, s3, s4, s5, s6, s7, s8, s9⟩ := hSw; go_simp; try with_reducible rfl)
    refine wpAnyL_take (i := 7) (v := ?_) (by kernel_rfl) rfl (by kernel_rfl) (by kernel_rfl) (by kernel_rfl) (fun _ _ _ h => h) hHeld (Or.inl ⟨by kernel_rfl, ?_⟩) ?_
    rotate_left
    · (intro w hSw; (try dsimp only at hSw); obtain ⟨s0, s1, s2, s3, s4, s5, s6, s7, s8, s9⟩ := hSw; go_simp; try with_reducible rfl)
    refine wpAnyL_take (i := 8) (v := ?_) (by kernel_rfl) rfl (by kernel_rfl) (by kernel_rfl) (by kernel_rfl) (fun _ _ _ h => h) hHeld (Or.inl ⟨by kernel_rfl, ?_⟩) ?_
    rotate_left
    · (intro w hSw; (try dsimp only at hSw); obtain ⟨s0, s1, s2, s3, s4, s5, s6, s7, s8, s9⟩ := hSw; go_simp; try with_reducible rfl)
    refine wpAnyL_take (i := 9) (v := ?_) (by kernel_rfl) rfl (by kernel_rfl) (by kernel_rfl) (by kernel_rfl) (fun _ _ _ h => h) hHeld (Or.inl ⟨by kernel_rfl, ?_⟩) ?_
    rotate_left
    · (intro w hSw; (try dsimp only at hSw); obtain ⟨s0, s1, s2, s3, s4, s5, s6, s7, s8, s9⟩ := hSw; go_simp; try with_reducible rfl)
    refine wpAnyL_take (i := 10) (v := ?_) (by kernel_rfl) rfl (by kernel_rfl) (by kernel_rfl) (by kernel_rfl) (fun _ _ _ h => h) hHeld (Or.inl ⟨by kernel_rfl, ?_⟩) ?_
    rotate_left
    · (intro w hSw; (try dsimp only at hSw); obtain ⟨s0, s1, s2, s3, s4, s5, s6, s7, s8, s9⟩ := hSw; go_simp; try with_reducible rfl)
    refine wpAnyL_take (i := 11) (v := ?_) (by kernel_rfl) rfl (by kernel_rfl) (by kernel_rfl) (by kernel_rfl) (fun _ _ _ h => h) hHeld (Or.inl ⟨by kernel_rfl, ?_⟩) ?_
    rotate_left
    · (intro w hSw; (try dsimp only at hSw); obtain ⟨s0, s1, s2, s3, s4, s5, s6, s7, s8, s9⟩ := hSw; go_simp; try with_reducible rfl)
    refine wpAnyL_take (i := 12) (v := ?_) (by kernel_rfl) rfl (by kernel_rfl) (by kernel_rfl) (by kernel_rfl) (fun _ _ _ h => h) hHeld (Or.inl ⟨by kernel_rfl, ?_⟩) ?_
    rotate_left
    · (intro w hSw; (try dsimp only at hSw); obtain ⟨s0, s1, s2, s3, s4, s5, s6, s7, s8, s9⟩ := hSw; go_simp; try with_reducible rfl)
    refine wpAnyL_take (i := 13) (v := ?_) (by kernel_rfl) rfl (by kernel_rfl) (by kernel_rfl) (by kernel_rfl) (fun _ _ _ h => h) hHeld (Or.inl ⟨by kernel_rfl, ?_⟩) ?_
    rotate_left
    · (intro w hSw; (try dsimp only at hSw); obtain ⟨s0, s1, s2, s3, s4, s5, s6, s7, s8, s9⟩ := hSw; go_simp; try with_reducible rfl)
    refine wpAnyL_take (i := 14) (v := ?_) (by kernel_rfl) rfl (by kernel_rfl) (by kernel_rfl) (by kernel_rfl) (fun _ _ _ h => h) hHeld (Or.inl ⟨by kernel_rfl, ?_⟩) ?_
    rotate_left
    · (intro w hSw; (try dsimp only at hSw); obtain ⟨s0, s1, s2, s3, s4, s5, s6, s7, s8, s9⟩ := hSw; go_simp; try with_reducible rfl)
    refine wpAnyL_take (i := 15) (v := ?_) (by kernel_rfl) rfl (by kernel_rfl) (by kernel_rfl) (by kernel_rfl) (fun _ _ _ h => h) hHeld (Or.inl ⟨by kernel_rfl, ?_⟩) ?_
    rotate_left
    · (intro w hSw; (try dsimp only at hSw); obtain ⟨s0, s1, s2, s3, s4, s5, s6, s7, s8, s9⟩ := hSw; go_simp; try with_reducible rfl)
    refine wpAnyL_take (i := 16) (v := ?_) (by kernel_rfl) rfl (by kernel_rfl) (by kernel_rfl) (by kernel_rfl) (fun _ _ _ h => h) hHeld (Or.inl ⟨by kernel_rfl, ?_⟩) ?_
    rotate_left
    · (intro w hSw; (try dsimp only at hSw); obtain ⟨s0, s1, s2, s3, s4, s5, s6, s7, s8, s9⟩ := hSw; go_simp; try with_reducible rfl)
    refine wpAnyL_take (i := 17) (v := ?_) (by kernel_rfl) rfl (by kernel_rfl) (by kernel_rfl) (by kernel_rfl) (fun _ _ _ h => h) hHeld (Or.inl ⟨by kernel_rfl, ?_⟩) ?_
    rotate_left
    · (intro w hSw; (try dsimp only at hSw); obtain ⟨s0, s1, s2, s3, s4, s5, s6, s7, s8, s9⟩ := hSw; go_simp; try with_reducible rfl)
    refine wpAnyL_take (i := 18) (v := ?_) (by kernel_rfl) rfl (by kernel_rfl) (by kernel_rfl) (by kernel_rfl) (fun _ _ _ h => h) hHeld (Or.inl ⟨by kernel_rfl, ?_⟩) ?_
    rotate_left
    · (intro w hSw; (try dsimp only at hSw); obtain ⟨s0, s1, s2, s3, s4, s5, s6, s7, s8, s9⟩ := hSw; go_simp; try with_reducible rfl)
    refine wpAnyL_take (i := 19) (v := ?_) (by kernel_rfl) rfl (by kernel_rfl) (by kernel_rfl) (by kernel_rfl) (fun _ _ _ h => h) hHeld (Or.inl ⟨by kernel_rfl, ?_⟩) ?_
    rotate_left
    · (intro w hSw; (try dsimp only at hSw); obtain ⟨s0, s1, s2, s3, s4, s5, s6, s7, s8, s9⟩ := hSw; go_simp; try with_reducible rfl)
    refine wpAnyL_take (i := 22) (v := ?_) (by kernel_rfl) rfl (by kernel_rfl) (by kernel_rfl) (by kernel_rfl) (fun _ _ _ h => h) hHeld (Or.inl ⟨by kernel_rfl, ?_⟩) ?_
    rotate_left
    · (intro w hSw; (try dsimp only at hSw); obtain ⟨s0, s1, s2, s3, s4, s5, s6, s7, s8, s9⟩ := hSw; go_simp; try with_reducible rfl)
    refine wpAnyL_take (i := 23) (v := ?_) (by kernel_rfl) rfl (by kernel_rfl) (by kernel_rfl) (by kernel_rfl) (fun _ _ _ h => h) hHeld (Or.inl ⟨by kernel_rfl, ?_⟩) ?_
    rotate_left
    · (intro w hSw; (try dsimp only at hSw); obtain ⟨s0, s1, s2, s3, s4, s5, s6, s7, s8, s9⟩ := hSw; go_simp; try with_reducible rfl)
    refine wpAnyL_take (i := 24) (v := ?_) (by kernel_rfl) rfl (by kernel_rfl) (by kernel_rfl) (by kernel_rfl) (fun _ _ _ h => h) hHeld (Or.inl ⟨by kernel_rfl, ?_⟩) ?_
    rotate_left
    · (intro w hSw; (try dsimp only at hSw); obtain ⟨s0, s1, s2, s3, s4, s5, s6, s7, s8, s9⟩ := hSw; go_simp; try with_reducible rfl)
    refine wpAnyL_take (i := 25) (v := ?_) (by kernel_rfl) rfl (by kernel_rfl) (by kernel_rfl) (by kernel_rfl) (fun _ _ _ h => h) hHeld (Or.inl ⟨by kernel_rfl, ?_⟩) ?_
    rotate_left
    · (intro w hSw; (try dsimp only at hSw); obtain ⟨s0, s1, s2, s3, s4, s5, s6, s7, s8, s9⟩ := hSw; go_simp; try with_reducible rfl)
    refine wpAnyL_take (i := 26) (v := ?_) (by kernel_rfl) rfl (by kernel_rfl) (by kernel_rfl) (by kernel_rfl) (fun _ _ _ h => h) hHeld (Or.inl ⟨by kernel_rfl, ?_⟩) ?_
    rotate_left
    · (intro w hSw; (try dsimp only at hSw); obtain ⟨s0, s1, s2, s3, s4, s5, s6, s7, s8, s9⟩ := hSw; go_simp; try with_reducible rfl)
    refine wpAnyL_take (i := 28) (v := ?_) (by kernel_rfl) rfl (by kernel_rfl) (by kernel_rfl) (by kernel_rfl) (fun _ _ _ h => h) hHeld (Or.inl ⟨by kernel_rfl, ?_⟩) ?_
    rotate_left
    · (intro w hSw; (try dsimp only at hSw); obtain ⟨s0, s1, s2, s3, s4, s5, s6, s7, s8, s9⟩ := hSw; go_simp; try with_reducible rfl)
    refine wpAnyL_take (i := 29) (v := ?_) (by kernel_rfl) rfl (by kernel_rfl) (by kernel_rfl) (by kernel_rfl) (fun _ _ _ h => h) hHeld (Or.inl ⟨by kernel_rfl, ?_⟩) ?_
    rotate_left
    · (intro w hSw; (try dsimp only at hSw); obtain ⟨s0, s1, s2, s3, s4, s5, s6, s7, s8, s9⟩ := hSw; go_simp; try with_reducible rfl)
    refine wpAnyL_take (i := 30) (v := ?_) (by kernel_rfl) rfl (by kernel_rfl) (by kernel_rfl) (by kernel_rfl) (fun _ _ _ h => h) hHeld (Or.inl ⟨by kernel_rfl, ?_⟩) ?_
    rotate_left
    · (intro w hSw; (try dsimp only at hSw); obtain ⟨s0, s1, s2, s3, s4, s5, s6, s7, s8, s9⟩ := hSw; go_simp; try with_reducible rfl)
    refine wpAnyL_take (i := 31) (v := ?_) (by kernel_rfl) rfl (by kernel_rfl) (by kernel_rfl) (by kernel_rfl) (fun _ _ _ h => h) hHeld (Or.inl ⟨by kernel_rfl, ?_⟩) ?_
    rotate_left
    · (intro w hSw; (try dsimp only at hSw); obtain ⟨s0, s1, s2, s3, s4, s5, s6, s7, s8, s9⟩ := hSw; go_simp; try with_reducible rfl)
    refine wpAnyL_take (i := 32) (v := ?_) (by kernel_rfl) rfl (by kernel_rfl) (by kernel_rfl) (by kernel_rfl) (fun _ _ _ h => h) hHeld (Or.inl ⟨by kernel_rfl, ?_⟩) ?_
    rotate_left
    · (intro w hSw; (try dsimp only at hSw); obtain ⟨s0, s1, s2, s3, s4, s5, s6, s7, s8, s9⟩ := hSw; go_simp; try with_reducible rfl)
    refine wpAnyL_take (i := 34) (v := ?_) (by kernel_rfl) rfl (by kernel_rfl) (by kernel_rfl) (by kernel_rfl) (fun _ _ _ h => h) hHeld (Or.inl ⟨by kernel_rfl, ?_⟩) ?_
    rotate_left
    · (intro w hSw; (try dsimp only at hSw); obtain ⟨s0, s1, s2, s3, s4, s5, s6, s7, s8, s9⟩ := hSw; go_simp; try with_reducible rfl)
    refine wpAnyL_take (i := 35) (v := ?_) (by kernel_rfl) rfl (by kernel_rfl) (by kernel_rfl) (by kernel_rfl) (fun _ _ _ h => h) hHeld (Or.inl ⟨by kernel_rfl, ?_⟩) ?_
    rotate_left
    · (intro w hSw; (try dsimp only at hSw); obtain ⟨s0, s1, s2, s3, s4, s5, s6, s7, s8, s9⟩ := hSw; go_simp; try with_reducible rfl)
    refine wpAnyL_take (i := 36) (v := ?_) (by kernel_rfl) rfl (by kernel_rfl) (by kernel_rfl) (by kernel_rfl) (fun _ _ _ h => h) hHeld (Or.inl ⟨by kernel_rfl, ?_⟩) ?_
    rotate_left
    · (intro w hSw; (try dsimp only at hSw); obtain ⟨s0, s1, s2, s3, s4, s5, s6, s7, s8, s9⟩ := hSw; go_simp; try with_reducible rfl)
    refine wpAnyL_take (i := 37) (v := ?_) (by kernel_rfl) rfl (by kernel_rfl) (by kernel_rfl) (by kernel_rfl) (fun _ _ _ h => h) hHeld (Or.inl ⟨by kernel_rfl, ?_⟩) ?_
    rotate_left
    · (intro w hSw; (try dsimp only at hSw); obtain ⟨s0, s1, s2, s3, s4, s5, s6, s7, s8, s9⟩ := hSw; go_simp; try with_reducible rfl)
    refine wpAnyL_take (i := 38) (v := ?_) (by kernel_rfl) rfl (by kernel_rfl) (by kernel_rfl) (by kernel_rfl) (fun _ _ _ h => h) hHeld (Or.inl ⟨by kernel_rfl, ?_⟩) ?_
    rotate_left
    · (intro w hSw; (try dsimp only at hSw); obtain ⟨s0, s1, s2, s3, s4, s5, s6, s7, s8, s9⟩ := hSw; go_simp; try with_reducible rfl)
    refine wpAnyL_take (i := 39) (v := ?_) (by kernel_rfl) rfl (by kernel_rfl) (by kernel_rfl) (by kernel_rfl) (fun _ _ _ h => h) hHeld (Or.inl ⟨by kernel_rfl, ?_⟩) ?_
    rotate_left
    · (intro w hSw; (try dsimp only at hSw); obtain ⟨s0, s1, s2, s3, s4, s5, s6, s7, s8, s9⟩ := hSw; go_simp; try with_reducible rfl)
    refine wpAnyL_take (i := 40) (v := ?_) (by kernel_rfl) rfl (by kernel_rfl) (by kernel_rfl) (by kernel_rfl) (fun _ _ _ h => h) hHeld (Or.inl ⟨by kernel_rfl, ?_⟩) ?_
    rotate_left
    · (intro w hSw; (try dsimp only at hSw); obtain ⟨s0, s1, s2, s3, s4, s5, s6, s7, s8, s9⟩ := hSw; go_simp; try with_reducible rfl)
    refine wpAnyL_take (i := 41) (v := ?_) (by kernel_rfl) rfl (by kernel_rfl) (by kernel_rfl) (by kernel_rfl) (fun _ _ _ h => h) hHeld (Or.inl ⟨by kernel_rfl, ?_⟩) ?_
    rotate_left
    · (intro w hSw; (try dsimp only at hSw); obtain ⟨s0, s1, s2, s3, s4, s5, s6, s7, s8, s9⟩ := hSw; go_simp; try with_reducible rfl)
    refine wpAnyL_take (i := 42) (v := ?_) (by kernel_rfl) rfl (by kernel_rfl) (by kernel_rfl) (by kernel_rfl) (fun _ _ _ h => h) hHeld (Or.inl ⟨by kernel_rfl, ?_⟩) ?_
    rotate_left
    · (intro w hSw; (try dsimp only at hSw); obtain ⟨s0, s1, s2, s3, s4, s5, s6, s7, s8, s9⟩ := hSw; go_simp; try with_reducible rfl)
    refine wpAnyL_take (i := 43) (v := ?_) (by kernel_rfl) rfl (by kernel_rfl) (by kernel_rfl) (by kernel_rfl) (fun _ _ _ h => h) hHeld (Or.inl ⟨by kernel_rfl, ?_⟩) ?_
    rotate_left
    · (intro w hSw; (try dsimp only at hSw); obtain ⟨s0, s1, s2, s3, s4, s5, s6, s7, s8, s9⟩ := hSw; go_simp; try with_reducible rfl)
    refine wpAnyL_take (i := 44) (v := ?_) (by kernel_rfl) rfl (by kernel_rfl) (by kernel_rfl) (by kernel_rfl) (fun _ _ _ h => h) hHeld (Or.inl ⟨by kernel_rfl, ?_⟩) ?_
    rotate_left
    · (intro w hSw; (try dsimp only at hSw); obtain ⟨s0, s1, s2, s3, s4, s5, s6, s7, s8, s9⟩ := hSw; go_simp; try with_reducible rfl)
    refine wpAnyL_take (i := 45) (v := ?_) (by kernel_rfl) rfl (by kernel_rfl) (by kernel_rfl) (by kernel_rfl) (fun _ _ _ h => h) hHeld (Or.inl ⟨by kernel_rfl, ?_⟩) ?_
    rotate_left
    · (intro w hSw; (try dsimp only at hSw); obtain ⟨s0, s1, s2, s3, s4, s5, s6, s7, s8, s9⟩ := hSw; go_simp; try with_reducible rfl)
    refine wpAnyL_take (i := 46) (v := ?_) (by kernel_rfl) rfl (by kernel_rfl) (by kernel_rfl) (by kernel_rfl) (fun _ _ _ h => h) hHeld (Or.inl ⟨by kernel_rfl, ?_⟩) ?_
    rotate_left
    · (intro w hSw; (try dsimp only at hSw); obtain ⟨s0, s1, s2, s3, s4, s5, s6, s7, s8, s9⟩ := hSw; go_simp; try with_reducible rfl)
    refine wpAnyL_take (i := 48) (v := ?_) (by kernel_rfl) rfl (by kernel_rfl) (by kernel_rfl) (by kernel_rfl) (fun _ _ _ h => h) hHeld (Or.inl ⟨by kernel_rfl, ?_⟩) ?_
    rotate_left
    · (intro w hSw; (try dsimp only at hSw); obtain ⟨s0, s1, s2, s3, s4, s5, s6, s7, s8, s9⟩ := hSw; go_simp; try with_reducible rfl)
    refine wpAnyL_take (i := 49) (v := ?_) (by kernel_rfl) rfl (by kernel_rfl) (by kernel_rfl) (by kernel_rfl) (fun _ _ _ h => h) hHeld (Or.inl ⟨by kernel_rfl, ?_⟩) ?_
    rotate_left
    · (intro w hSw; (try dsimp only at hSw); obtain ⟨s0, s1, s2, s3, s4, s5, s6, s7, s8, s9⟩ := hSw; go_simp; try with_reducible rfl)
    refine wpAnyL_take (i := 50) (v := ?_) (by kernel_rfl) rfl (by kernel_rfl) (by kernel_rfl) (by kernel_rfl) (fun _ _ _ h => h) hHeld (Or.inl ⟨by kernel_rfl, ?_⟩) ?_
    rotate_left
    · (intro w hSw; (try dsimp only at hSw); obtain ⟨s0, s1, s2, s3, s4, s5, s6, s7, s8, s9⟩ := hSw; go_simp; try with_reducible rfl)
    refine wpAnyL_take (i := 51) (v := ?_) (by kernel_rfl) rfl (by kernel_rfl) (by kernel_rfl) (by kernel_rfl) (fun _ _ _ h => h) hHeld (Or.inl ⟨by kernel_rfl, ?_⟩) ?_
    rotate_left
    · (intro w hSw; (try dsimp only at hSw); obtain ⟨s0, s1, s2, s3, s4, s5, s6, s7, s8, s9⟩ := hSw; go_simp; try with_reducible rfl)
    refine wpAnyL_take (i := 52) (v := ?_) (by kernel_rfl) rfl (by kernel_rfl) (by kernel_rfl) (by kernel_rfl) (fun _ _ _ h => h) hHeld (Or.inl ⟨by kernel_rfl, ?_⟩) ?_
    rotate_left
    · (intro w hSw; (try dsimp only at hSw); obtain ⟨s0, s1, s2, s3, s4, s5, s6, s7, s8, s9⟩ := hSw; go_simp; try with_reducible rfl)
    refine wpAnyL_take (i := 53) (v := ?_) (by kernel_rfl) rfl (by kernel_rfl) (by kernel_rfl) (by kernel_rfl) (fun _ _ _ h => h) hHeld (Or.inl ⟨by kernel_rfl, ?_⟩) ?_
    rotate_left
    · (intro w hSw; (try dsimp only at hSw); obtain ⟨s0, s1, s2, s3, s4, s5, s6, s7, s8, s9⟩ := hSw; go_simp; try with_reducible rfl)
    refine wpAnyL_take (i := 54) (v := ?_) (by kernel_rfl) rfl (by kernel_rfl) (by kernel_rfl) (by kernel_rfl) (fun _ _ _ h => h) hHeld (Or.inl ⟨by kernel_rfl, ?_⟩) ?_
    rotate_left
    · (intro w hSw; (try dsimp only at hSw); obtain ⟨s0, s1, s2, s3, s4, s5, s6, s7, s8, s9⟩ := hSw; go_simp; try with_reducible rfl)
    refine wpAnyL_take (i := 55) (v := ?_) (by kernel_rfl) rfl (by kernel_rfl) (by kernel_rfl) (by kernel_rfl) (fun _ _ _ h => h) hHeld (Or.inl ⟨by kernel_rfl, ?_⟩) ?_
    rotate_left
    · (intro w hSw; (try dsimp only at hSw); obtain ⟨s0, s1, s2, s3, s4, s5, s6, s7, s8, s9⟩ := hSw; go_simp; try with_reducible rfl)
    refine wpAnyL_inv (m := 1) [(20, 25), (21, 26), (27, 32), (33, 38), (47, 52), (56, 61), (57, 3)] (Below X.heap.size X) (fun w w' => Below w.heap.size w w') (toNodeF id inc g led ver rd low up ((procsTo id 4).zip bs) ks os [k0, k1, k2]) (by kernel_rfl) (fun _ _ h => h.size) ?cong ?st ?step ?fin (Below.refl _ _) hHeld
    case cong =>
      intro p hp lo hi u lo' hi' u' w hq hF
      simp only [List.mem_cons, List.not_mem_nil, or_false] at hp
      rcases hp with rfl | rfl | rfl | rfl | rfl | rfl | rfl
      · obtain ⟨e1, e2, e3⟩ := hq 20 (Or.inl rfl)
        simpa only [toNodeF, e1, e2, e3] using hF
      · obtain ⟨e1, e2, e3⟩ := hq 21 (Or.inl rfl)
        simpa only [toNodeF, e1, e2, e3] using hF
      · obtain ⟨e1, e2, e3⟩ := hq 27 (Or.inl rfl)
        simpa only [toNodeF, e1, e2, e3] using hF
      · obtain ⟨e1, e2, e3⟩ := hq 33 (Or.inl rfl)
        simpa only [toNodeF, e1, e2, e3] using hF
      · obtain ⟨e1, e2, e3⟩ := hq 47 (Or.inl rfl)
        simpa only [toNodeF, e1, e2, e3] using hF
      · obtain ⟨_, _, e1⟩ := hq 56 (Or.inl rfl)
        obtain ⟨_, _, e2⟩ := hq 21 (Or.inr (by kernel_rfl))
        obtain ⟨_, _, e3⟩ := hq 27 (Or.inr (by kernel_rfl))
        obtain ⟨_, _, e4⟩ := hq 33 (Or.inr (by kernel_rfl))
        obtain ⟨_, _, e5⟩ := hq 47 (Or.inr (by kernel_rfl))
        simpa only [toNodeF, e1, e2, e3, e4, e5] using hF
      · obtain ⟨e1, e2, e3⟩ := hq 57 (Or.inl rfl)
        simpa only [toNodeF, e1, e2, e3] using hF
    case st =>
      intro p hp lo hi u w w' hR hhi hF
      simp only [List.mem_cons, List.not_mem_nil, or_false] at hp
      rcases hp with rfl | rfl | rfl | rfl | rfl | rfl | rfl
      · exact LanesOwn.on hR hF
      · exact LanesOwn.on hR hF
      · exact ⟨RowsFr.on hR hF.1, hF.2⟩
      · exact ⟨RowsFr.on hR hF.1, hF.2⟩
      · exact ⟨RowsFr.on hR hF.1, hF.2⟩
      · exact hF
      · exact ⟨hF.1, hF.2.1, hF.2.2.of_block (hR.block _ hF.2.2.lt)⟩
    case step =>
      intro p hp lo hi u w1 hG hS hsz hdep
      simp only [List.mem_cons, List.not_mem_nil, or_false] at hp
      rcases hp with rfl | rfl | rfl | rfl | rfl | rfl | rfl
      · have RPw := (unhide RP).of_block (hG.block p (unhide RP).lt)
        refine wpOp_step rfl (fun K hK => ?_)
        simp only [setsA, setsT]
        go_simp
        refine (lanes_nil p d id bs ba bc w1 (RPw.cell (i := 0) (by omega)) (RPw.cell (i := 3) (by omega)) (RPw.cell (i := 8) (by omega)) ((unhide HBS).on hG) (fun i hi => ((unhide RD).of_block (hG.block d (unhide RD).lt)).cell (i := i) hi) hlen).mono ?_
        rintro e w2 ⟨v, rfl, hf, hb⟩
        have hG2 := below_then hG hb
        have RPv := (unhide RP).of_block (hG2.block p (unhide RP).lt)
        refine hK _ _ ⟨v, by simp [setsA, setsT, Act.put], hG2, ⟨RPv.cell (i := 0) (by omega), RPv.cell (i := 1) (by omega), RPv.cell (i := 2) (by omega), RPv.cell (i := 4) (by omega), RPv.cell (i := 5) (by omega), RPv.cell (i := 6) (by omega), RPv.cell (i := 7) (by omega), RPv.cell (i := 9) (by omega), RPv.cell (i := 14) (by omega), RPv.cell (i := 15) (by omega)⟩, hb, ?_⟩
        simpa [toNodeF, upd, updN] using hf
      · obtain ⟨hfa, hl1, hl2, hl3⟩ := hdep (20, 25) (by simp) (by kernel_rfl)
        have hfa2 : LanesOwn (lo 20) (hi 20) w1 (u 20) (nilLanes ((procsTo id 4).zip bs)) := hfa
        have RPw := (unhide RP).of_block (hG.block p (unhide RP).lt)
        obtain ⟨la0, lc0, ev0⟩ := hfa2.at.sliced
        rw [ev0] at hfa2
        refine wpOp_step rfl (fun K hK => ?_)
        simp only [setsA, setsT]
        go_simp
        refine (copyEachLane_nil _ _ w1 hfa2.at (by simp [List.length_zip]; omega)).mono ?_
        rintro e w2 ⟨v, rfl, hf, hb⟩
        have hG2 := below_then hG hb
        have RPv := (unhide RP).of_block (hG2.block p (unhide RP).lt)
        refine hK _ _ ⟨v, by simp [setsA, setsT, Act.put, ev0], hG2, ⟨RPv.cell (i := 0) (by omega), RPv.cell (i := 1) (by omega), RPv.cell (i := 2) (by omega), RPv.cell (i := 4) (by omega), RPv.cell (i := 5) (by omega), RPv.cell (i := 6) (by omega), RPv.cell (i := 7) (by omega), RPv.cell (i := 9) (by omega), RPv.cell (i := 14) (by omega), RPv.cell (i := 15) (by omega)⟩, hb, ?_⟩
        simpa [toNodeF, upd, updN] using hf
      · have RPw := (unhide RP).of_block (hG.block p (unhide RP).lt)
        refine wpOp_step rfl (fun K hK => ?_)
        simp only [setsA, setsT]
        go_simp
        refine (copyListEvent_any _ ks w1 ((unhide HKS).on hG) hlk).mono ?_
        rintro e w2 ⟨v, rfl, hf, hb⟩
        have hG2 := below_then hG hb
        have RPv := (unhide RP).of_block (hG2.block p (unhide RP).lt)
        refine hK _ _ ⟨v, by simp [setsA, setsT, Act.put], hG2, ⟨RPv.cell (i := 0) (by omega), RPv.cell (i := 1) (by omega), RPv.cell (i := 2) (by omega), RPv.cell (i := 4) (by omega), RPv.cell (i := 5) (by omega), RPv.cell (i := 6) (by omega), RPv.cell (i := 7) (by omega), RPv.cell (i := 9) (by omega), RPv.cell (i := 14) (by omega), RPv.cell (i := 15) (by omega)⟩, hb, ?_⟩
        simpa [toNodeF, upd, updN] using ⟨hf, fun b hb2 => (hf.blk b hb2).2⟩
      · have RPw := (unhide RP).of_block (hG.block p (unhide RP).lt)
        refine wpOp_step rfl (fun K hK => ?_)
        simp only [setsA, setsT]
        go_simp
        refine (copyListOut_any _ os w1 ((unhide HOS).on hG) hlo).mono ?_
        rintro e w2 ⟨v, rfl, hf, hb⟩
        have hG2 := below_then hG hb
        have RPv := (unhide RP).of_block (hG2.block p (unhide RP).lt)
        refine hK _ _ ⟨v, by simp [setsA, setsT, Act.put], hG2, ⟨RPv.cell (i := 0) (by omega), RPv.cell (i := 1) (by omega), RPv.cell (i := 2) (by omega), RPv.cell (i := 4) (by omega), RPv.cell (i := 5) (by omega), RPv.cell (i := 6) (by omega), RPv.cell (i := 7) (by omega), RPv.cell (i := 9) (by omega), RPv.cell (i := 14) (by omega), RPv.cell (i := 15) (by omega)⟩, hb, ?_⟩
        simpa [toNodeF, upd, updN] using ⟨hf, fun b hb2 => (hf.blk b hb2).2⟩
      · have RPw := (unhide RP).of_block (hG.block p (unhide RP).lt)
        refine wpOp_step rfl (fun K hK => ?_)
        simp only [setsA, setsT]
        go_simp
        refine (copyListInt_any _ [k0, k1, k2] w1 (nums3 (RPw.cell (i := 11) (by omega)) (RPw.cell (i := 12) (by omega)) (RPw.cell (i := 13) (by omega))) (by simp)).mono ?_
        rintro e w2 ⟨v, rfl, hf, hb⟩
        have hG2 := below_then hG hb
        have RPv := (unhide RP).of_block (hG2.block p (unhide RP).lt)
        refine hK _ _ ⟨v, by simp [setsA, setsT, Act.put], hG2, ⟨RPv.cell (i := 0) (by omega), RPv.cell (i := 1) (by omega), RPv.cell (i := 2) (by omega), RPv.cell (i := 4) (by omega), RPv.cell (i := 5) (by omega), RPv.cell (i := 6) (by omega), RPv.cell (i := 7) (by omega), RPv.cell (i := 9) (by omega), RPv.cell (i := 14) (by omega), RPv.cell (i := 15) (by omega)⟩, hb, ?_⟩
        simpa [toNodeF, upd, updN] using ⟨hf, fun b hb2 => (hf.blk b hb2).2⟩
      · have f1 : LanesOwn (lo 21) (hi 21) w1 (u 21) (nilLanes ((procsTo id 4).zip bs)) := (hdep (21, 26) (by simp) (by kernel_rfl)).1
        have f2 := (hdep (27, 32) (by simp) (by kernel_rfl)).1
        have f3 := (hdep (33, 38) (by simp) (by kernel_rfl)).1
        have f4 := (hdep (47, 52) (by simp) (by kernel_rfl)).1
        obtain ⟨a1, c1, e1⟩ := f1.at.sliced
        obtain ⟨a2, c2, e2⟩ := rowsLn (RowsFr.at f2.1)
        obtain ⟨a3, c3, e3⟩ := rowsLn (RowsFr.at f3.1)
        obtain ⟨a4, c4, e4⟩ := rowsLn (RowsFr.at f4.1)
        clear f1 f2 f3 f4
        refine wpOp_step rfl (fun K hK => ?_)
        simp only [setsA, setsT]
        go_simp
        refine hK _ _ ⟨.agg #[.int .i64 id, .bool up, .int .i64 inc, .int .i64 g, .slice a1 (nilLanes ((procsTo id 4).zip bs)).length c1, .slice a2 ks.length c2, .slice a3 os.length c3, .int .i64 led, .int .i64 ver, .slice none 0 0, .slice a4 ([k0, k1, k2] : List Int).length c4, .int .i64 rd, .int .i64 low], by simp [setsA, setsT, Act.put, e1, e2, e3, e4], hG, hS, Below.refl _ _, ?_⟩
        simp [toNodeF, upd, updN, e1, e2, e3, e4]
      · have RPw := (unhide RP).of_block (hG.block p (unhide RP).lt)
        refine wpOp_step rfl (fun K hK => ?_)
        simp only [setsA, setsT]
        go_simp
        have hb : Below w1.heap.size w1 (w1.alloc (.cells #[.int .i64 0, .bool false, .int .i64 0, .int .i64 0, .slice none 0 0, .slice none 0 0, .slice none 0 0, .int .i64 0, .int .i64 0, .slice none 0 0, .slice none 0 0, .int .i64 0, .int .i64 0] 31)) := (Below.refl _ _).alloc (Nat.le_refl _) _
        have hG2 := below_then hG hb
        have RPv := (unhide RP).of_block (hG2.block p (unhide RP).lt)
        refine hK _ _ ⟨.pointer (some ⟨w1.heap.size, 0, none⟩), by simp [setsA, setsT, Act.put], hG2, ⟨RPv.cell (i := 0) (by omega), RPv.cell (i := 1) (by omega), RPv.cell (i := 2) (by omega), RPv.cell (i := 4) (by omega), RPv.cell (i := 5) (by omega), RPv.cell (i := 6) (by omega), RPv.cell (i := 7) (by omega), RPv.cell (i := 9) (by omega), RPv.cell (i := 14) (by omega), RPv.cell (i := 15) (by omega)⟩, hb, ?_⟩
        refine ⟨by simp [upd, updN], by simp [updN], ?_⟩
        simpa [updN] using row_new w1 [.int .i64 0, .bool false, .int .i64 0, .int .i64 0, .slice none 0 0, .slice none 0 0, .slice none 0 0, .int .i64 0, .int .i64 0, .slice none 0 0, .slice none 0 0, .int .i64 0, .int .i64 0] 31
    case fin =>
      intro lo hi u w1 hG hS hD
      have f1 : LanesOwn (lo 21) (hi 21) w1 (u 21) (nilLanes ((procsTo id 4).zip bs)) := hD.f (21, 26) (by simp)
      have f2 := hD.f (27, 32) (by simp)
      have f3 := hD.f (33, 38) (by simp)
      have f4 := hD.f (47, 52) (by simp)
      have f5 := hD.f (56, 61) (by simp)
      obtain ⟨f6, f7, f8⟩ := hD.f (57, 3) (by simp)
      obtain ⟨a1, c1, e1⟩ := f1.at.sliced
      obtain ⟨a2, c2, e2⟩ := rowsLn (RowsFr.at f2.1)
      obtain ⟨a3, c3, e3⟩ := rowsLn (RowsFr.at f3.1)
      obtain ⟨a4, c4, e4⟩ := rowsLn (RowsFr.at f4.1)
      simp only [toNodeF, e1, e2, e3, e4] at f1 f2 f3 f4 f5
      have l1 := hD.ge (21, 26) (by simp)
      have l2 := hD.le (21, 26) (by simp)
      have l3 := hD.ord (27, 32) (by simp) (21, 26) (by simp) (by kernel_rfl)
      have l4 := hD.le (27, 32) (by simp)
      have l5 := hD.ord (33, 38) (by simp) (27, 32) (by simp) (by kernel_rfl)
      have l6 := hD.le (33, 38) (by simp)
      have l7 := hD.ord (47, 52) (by simp) (33, 38) (by simp) (by kernel_rfl)
      have l8 := hD.le (47, 52) (by simp)
      have l9 := hD.top (47, 52) (by simp)
      have lA := hD.apart (57, 3) (by simp) (21, 26) (by simp) (by simp)
      have lB := hD.apart (57, 3) (by simp) (27, 32) (by simp) (by simp)
      have lC := hD.apart (57, 3) (by simp) (33, 38) (by simp) (by simp)
      have lD := hD.apart (57, 3) (by simp) (47, 52) (by simp) (by simp)
      have lE := hD.ge (57, 3) (by simp)
      simp only at l1 l2 l3 l4 l5 l6 l7 l8 l9 lA lB lC lD lE
      generalize lo 57 = q at *
      have y0 : w1.cell? ⟨q, 0, none⟩ = some (.int .i64 0) := f8.cell (i := 0) (by omega)
      have z0 : w1.frozen? ⟨q, 0, none⟩ = false := f8.frozen 0
      have y1 : w1.cell? ⟨q, 1, none⟩ = some (.bool false) := f8.cell (i := 1) (by omega)
      have z1 : w1.frozen? ⟨q, 1, none⟩ = false := f8.frozen 1
      have y2 : w1.cell? ⟨q, 2, none⟩ = some (.int .i64 0) := f8.cell (i := 2) (by omega)
      have z2 : w1.frozen? ⟨q, 2, none⟩ = false := f8.frozen 2
      have y3 : w1.cell? ⟨q, 3, none⟩ = some (.int .i64 0) := f8.cell (i := 3) (by omega)
      have z3 : w1.frozen? ⟨q, 3, none⟩ = false := f8.frozen 3
      have y4 : w1.cell? ⟨q, 4, none⟩ = some (.slice none 0 0) := f8.cell (i := 4) (by omega)
      have z4 : w1.frozen? ⟨q, 4, none⟩ = false := f8.frozen 4
      have y5 : w1.cell? ⟨q, 5, none⟩ = some (.slice none 0 0) := f8.cell (i := 5) (by omega)
      have z5 : w1.frozen? ⟨q, 5, none⟩ = false := f8.frozen 5
      have y6 : w1.cell? ⟨q, 6, none⟩ = some (.slice none 0 0) := f8.cell (i := 6) (by omega)
      have z6 : w1.frozen? ⟨q, 6, none⟩ = false := f8.frozen 6
      have y7 : w1.cell? ⟨q, 7, none⟩ = some (.int .i64 0) := f8.cell (i := 7) (by omega)
      have z7 : w1.frozen? ⟨q, 7, none⟩ = false := f8.frozen 7
      have y8 : w1.cell? ⟨q, 8, none⟩ = some (.int .i64 0) := f8.cell (i := 8) (by omega)
      have z8 : w1.frozen? ⟨q, 8, none⟩ = false := f8.frozen 8
      have y9 : w1.cell? ⟨q, 9, none⟩ = some (.slice none 0 0) := f8.cell (i := 9) (by omega)
      have z9 : w1.frozen? ⟨q, 9, none⟩ = false := f8.frozen 9
      have y10 : w1.cell? ⟨q, 10, none⟩ = some (.slice none 0 0) := f8.cell (i := 10) (by omega)
      have z10 : w1.frozen? ⟨q, 10, none⟩ = false := f8.frozen 10
      have y11 : w1.cell? ⟨q, 11, none⟩ = some (.int .i64 0) := f8.cell (i := 11) (by omega)
      have z11 : w1.frozen? ⟨q, 11, none⟩ = false := f8.frozen 11
      have y12 : w1.cell? ⟨q, 12, none⟩ = some (.int .i64 0) := f8.cell (i := 12) (by omega)
      have z12 : w1.frozen? ⟨q, 12, none⟩ = false := f8.frozen 12
      have HM : Hid (Made X.heap.size (⟨id, up, inc, g, nilLanes ((procsTo id 4).zip bs), ks, os, led, ver, nilViews 3, [k0, k1, k2], rd, low⟩ : NodeV) q X (setVals w1 q 0 [.int .i64 id, .bool up, .int .i64 inc, .int .i64 g, .slice a1 (nilLanes ((procsTo id 4).zip bs)).length c1, .slice a2 ks.length c2, .slice a3 os.length c3, .int .i64 led, .int .i64 ver, .slice none 0 0, .slice a4 ([k0, k1, k2] : List Int).length c4, .int .i64 rd, .int .i64 low])) := hide (made_of (n := (⟨id, up, inc, g, nilLanes ((procsTo id 4).zip bs), ks, os, led, ver, nilViews 3, [k0, k1, k2], rd, low⟩ : NodeV)) (b1 := lo 21) (e1 := hi 21) (b2 := lo 27) (e2 := hi 27) (b3 := lo 33) (e3 := hi 33) (b4 := lo 47) (e4 := hi 47) f8 (by omega) (by omega) (by omega) (by omega) (by omega) (by omega) (by omega) (by omega) (by omega) (by omega) (by omega) (by omega) (by omega) (by omega) f1 f2.1 f2.2 f3.1 f3.2 f4.1 f4.2 hG)
      clear f1 f2 f3 f4 f7 f8 l1 l2 l3 l4 l5 l6 l7 l8 l9 lA lB lC lD lE hD hG hS
      simp only [setsA, setsT, f5, f6]
      refine wpAnyL_end (by kernel_rfl) rfl (fun K hK => ?_)
      go_simp
      refine hK.out _ _ ?_
      clear hK K
      refine wpAnyL_done (by kernel_rfl) ?_ _
      clear y0 z0 y1 z1 y2 z2 y3 z3 y4 z4 y5 z5 y6 z6 y7 z7 y8 z8 y9 z9 y10 z10 y11 z11 y12 z12
      go_step
      go_step
      go_meet
      case rel => exact ⟨_, rfl, HM⟩
  case rest =>
    obtain ⟨q, rfl, HM⟩ := hcut
    obtain ⟨vl, vk, vo, vn, p0, p1, p2, p3, p4, hq, hBq, h0, h1, h2, h3, h4, h5, hqq, hl, hk, hkb, ho, hob, hn, hnb, hb⟩ := unhide HM
    obtain ⟨al, acl, e1⟩ := hl.at.sliced
    obtain ⟨ak, ack, e2⟩ := RowsFr_sliced hk
    obtain ⟨ao, aco, e3⟩ := RowsFr_sliced ho
    obtain ⟨an, acn, e5⟩ := RowsFr_sliced hn
    rw [List.length_map] at e2 e3 e5
    subst e1 e2 e3 e5
    obtain ⟨i3, hi3, hz30, hz31, hz32⟩ := infoT_parts info_ViewT
    have HV0 : Hid (Viewed wc.heap.size X.heap.size q (⟨id, up, inc, g, nilLanes ((procsTo id 4).zip bs), ks, os, led, ver, nilViews 3, [k0, k1, k2], rd, low⟩ : NodeV) (.slice al (nilLanes ((procsTo id 4).zip bs)).length acl) (.slice ak ks.length ack) (.slice ao os.length aco) (.slice an ([k0, k1, k2] : List Int).length acn) 0 (.slice none 0 0) X wc wc) := hide ⟨hq, World.ownsRow_nil _ _ _ _, fun _ _ _ => rfl, Nat.le_refl _, hb⟩
    have hxs := unhide HXS
    have hpw := unhide HPW
    have hmw := unhide HML
    have hqlt : q < wc.heap.size := hq.lt
    have HRP : Hid (wc.cell? ⟨p, 10, none⟩ = some (.map (some m))) := hide (((unhide RP).of_block (hb.block p (by omega))).cell (i := 10) (by omega))
    have HMC : Hid (wc.heap[m]? = some (.map #[] 0)) := hide ((hb.block m (by omega)).trans (unhide HMM))
    have HRRc := hide ((unhide RR).of_block (hb.block w.heap.size (by omega)))
    have HL := hide hl
    have HK := hide hk
    have HKB := hide hkb
    have HO := hide ho
    have HOB := hide hob
    have HN := hide hn
    have HNB := hide hnb
    have hlk : ∀ w : World, w.heap[m]? = some (.map #[] 0) → ∀ z : Int, (Instr.lookup 70 (.map (some m)) (.int .i64 z) false).run Try.prog w = .ok (.agg #[.int .i64 0, .int .i64 0, .slice none 0 0]) w := fun w h z => look_none z h
    clear hq hl hk hkb ho hob hn hnb hb HM RP RD RR HMM HBS HKS HOS HXX HXS HPW HML
    go_wp2_with fail
    go_loopw [62] (fun i wr => ∃ (k : Nat) (va : Option Addr) (vc : Nat), k ≤ 3 ∧ i = .int .i64 k ∧ Hid (Viewed wc.heap.size X.heap.size q (⟨id, up, inc, g, nilLanes ((procsTo id 4).zip bs), ks, os, led, ver, nilViews 3, [k0, k1, k2], rd, low⟩ : NodeV) (.slice al (nilLanes ((procsTo id 4).zip bs)).length acl) (.slice ak ks.length ack) (.slice ao os.length aco) (.slice an ([k0, k1, k2] : List Int).length acn) k (.slice va k vc) X wc wr)) (fun i _ => 3 - (intOf i).toNat)
    case atStart => exact ⟨0, none, 0, Nat.zero_le _, rfl, HV0⟩
    case round =>
      obtain ⟨k, va, vc, hk, rfl, HV⟩ := hrel
      by_cases hlt : k < 3
      · have hkI : (k : Int) < 3 := by omega
        have hv := unhide HV
        have c9 : wr.cell? ⟨q, 9, none⟩ = some (.slice va k vc) := hv.row.cell (i := 9) (by omega)
        have f9 : wr.frozen? ⟨q, 9, none⟩ = false := hv.row.frozen 9
        have cp : wr.cell? ⟨p, 10, none⟩ = some (.map (some m)) := (World.cell?_of_block (a := ⟨p, 10, none⟩) (hv.keep p (by omega) (by omega))).trans (unhide HRP)
        have hmm : wr.heap[m]? = some (.map #[] 0) := (hv.keep m (by omega) (by omega)).trans (unhide HMC)
        have HOWN := hide hv.own
        have hsz := hv.size
        clear hv
        go_wp2_with fail
        refine wp_region_last (L := 12) (S := fun w' : World => w'.cell? ⟨q, 9, none⟩ = some (.slice va k vc) ∧ w'.cell? ⟨p, 10, none⟩ = some (.map (some m)) ∧ w'.heap[m]? = some (.map #[] 0)) (by kernel_rfl) ?_
        have hHeld : (fun w' : World => w'.cell? ⟨q, 9, none⟩ = some (.slice va k vc) ∧ w'.cell? ⟨p, 10, none⟩ = some (.map (some m)) ∧ w'.heap[m]? = some (.map #[] 0)) wr.drew := ⟨c9, cp, hmm⟩
        refine wpAnyL_take (i := 0) (v := ?_) (by kernel_rfl) rfl (by kernel_rfl) (by kernel_rfl) (by kernel_rfl) (fun _ _ _ h => h) hHeld (Or.inl ⟨by kernel_rfl, ?_⟩) ?_
        rotate_left
        · (intro w hSw; (try dsimp only at hSw); obtain ⟨s0, s1, s2⟩ := hSw; go_simp; try with_reducible rfl)
        refine wpAnyL_take (i := 1) (v := ?_) (by kernel_rfl) rfl (by kernel_rfl) (by kernel_rfl) (by kernel_rfl) (fun _ _ _ h => h) hHeld (Or.inl ⟨by kernel_rfl, ?_⟩) ?_
        rotate_left
        · (intro w hSw; (try dsimp only at hSw); obtain ⟨s0, s1, s2⟩ := hSw; go_simp; try with_reducible rfl)
        refine wpAnyL_take (i := 2) (v := ?_) (by kernel_rfl) rfl (by kernel_rfl) (by kernel_rfl) (by kernel_rfl) (fun _ _ _ h => h) hHeld (Or.inl ⟨by kernel_rfl, ?_⟩) ?_
        rotate_left
        · (intro w hSw; (try dsimp only at hSw); obtain ⟨s0, s1, s2⟩ := hSw; go_simp; try with_reducible rfl)
        refine wpAnyL_take (i := 3) (v := ?_) (by kernel_rfl) rfl (by kernel_rfl) (by kernel_rfl) (by kernel_rfl) (fun _ _ _ h => h) hHeld (Or.inl ⟨by kernel_rfl, ?_⟩) ?_
        rotate_left
        · (intro w hSw; (try dsimp only at hSw); obtain ⟨s0, s1, s2⟩ := hSw; go_simp; try with_reducible rfl)
        refine wpAnyL_take (i := 4) (v := ?_) (by kernel_rfl) rfl (by kernel_rfl) (by kernel_rfl) (by kernel_rfl) (fun _ _ _ h => h) hHeld (Or.inl ⟨by kernel_rfl, ?_⟩) ?_
        rotate_left
        · (intro w hSw; (try dsimp only at hSw); obtain ⟨s0, s1, s2⟩ := hSw; go_simp; try with_reducible rfl)
        refine wpAnyL_take (i := 5) (v := ?_) (by kernel_rfl) rfl (by kernel_rfl) (by kernel_rfl) (by kernel_rfl) (fun _ _ _ h => h) hHeld (Or.inl ⟨by kernel_rfl, ?_⟩) ?_
        rotate_left
        · (intro w hSw; (try dsimp only at hSw); obtain ⟨s0, s1, s2⟩ := hSw; go_simp; try with_reducible rfl)
        refine wpAnyL_take (i := 6) (v := ?_) (by kernel_rfl) rfl (by kernel_rfl) (by kernel_rfl) (by kernel_rfl) (fun _ _ _ h => h) hHeld (Or.inl ⟨by kernel_rfl, ?_⟩) ?_
        rotate_left
        · (intro w hSw; (try dsimp only at hSw); obtain ⟨s0, s1, s2⟩ := hSw; go_simp; try with_reducible rfl)
        refine wpAnyL_take (i := 7) (v := ?_) (by kernel_rfl) rfl (by kernel_rfl) (by kernel_rfl) (by kernel_rfl) (fun _ _ _ h => h) hHeld (Or.inl ⟨by kernel_rfl, ?_⟩) ?_
        rotate_left
        · (intro w hSw; (try dsimp only at hSw); obtain ⟨s0, s1, s2⟩ := hSw; have e7 := hlk w s2 k; go_simp; try with_reducible rfl)
        refine wpAnyL_one (i := 8) (by kernel_rfl) rfl (fun K hK => ?_)
        go_simp
        refine (copyView_nil 0 0 0 _).mono ?_
        rintro e w6 ⟨rfl, hb6⟩
        go_wp2_with fail
        have hb56 : Below wr.heap.size wr w6 := below_then (Below.refl _ _).drew hb6
        refine held_on hK ?_ (fun hHeld => ?_)
        · exact ⟨cell_on hb56 c9, cell_on hb56 cp, (hb56.block m (by omega)).trans hmm⟩
        clear hK K
        refine wpAnyL_one (i := 9) (by kernel_rfl) rfl (fun K hK => ?_)
        go_simp
        have hbA : Below wr.heap.size wr (w6.alloc (.cells #[.int .i64 0, .int .i64 0, .slice none 0 0] 106)) := below_then hb56 ((Below.refl _ _).alloc (Nat.le_refl _) _)
        refine held_on hK ?_ (fun hHeld => ?_)
        · exact ⟨cell_on hbA c9, cell_on hbA cp, (hbA.block m (by omega)).trans hmm⟩
        clear hK K
        have hownA : (w6.alloc (.cells #[.int .i64 0, .int .i64 0, .slice none 0 0] 106)).ownsRow wc.heap.size 106 3 (.slice va k vc) k (viewFlat k) := ownsOn hbA (unhide HOWN)
        have hs6 : wr.heap.size ≤ w6.heap.size := hb56.size
        refine wpAnyL_one (i := 10) (by kernel_rfl) rfl (fun K hK => ?_)
        refine step_append_lies _ (by rfl) _ _ _ (by rfl) wc.heap.size 106 i3 _ 3 40 slice_ViewT hi3 hz30 hz31 hz32 (by rfl) (by omega) (.slice va k vc) k (viewFlat k) (by rfl) hownA ⟨w6.heap.size, 0, none⟩ 1 1 [.int .i64 0, .int .i64 0, .slice none 0 0] (by rfl) (by rfl) (World.news_of_block (cs := #[.int .i64 0, .int .i64 0, .slice none 0 0]) (t := 106) (fr := (0, 0)) (heap_alloc_new w6 _)) (by simp [Value.oneCell']) (by omega) (by unfold maxLen; omega) (by omega) (by simp; omega) (w6.heap.size + 1) (by simp) ?_
        intro g2 cap2 w7 hown7 hgrow7 hat7 hlt7
        have hs7 := (unhide HV).step hqlt hBq hbA hgrow7 hown7
        have hlt9 := (unhide HOWN).lt
        have kc := hgrow7.cell (cell_on hbA c9) (fun e => by have := (hlt9 q e.symm).1; omega)
        have kp := hgrow7.cell (cell_on hbA cp) (fun e => by have := (hlt9 p e.symm).1; omega)
        have km := (hgrow7.block m (by have := hbA.size; omega) (fun e => by have := (hlt9 m e.symm).1; omega)).trans ((hbA.block m (by omega)).trans hmm)
        have kf : w7.frozen? ⟨q, 9, none⟩ = false := by (rw [hgrow7.frozen_far ⟨q, 9, none⟩ (show q < _ by have := hbA.size; omega) (fun e => by have := (hlt9 q e.symm).1; omega), hbA.frozen (p := ⟨q, 9, none⟩) (show q < wr.heap.size by omega)]; exact f9)
        have HV7 := hide hs7
        clear hs7 hown7 hat7 hlt7 hgrow7 hlt9
        refine held_on hK ?_ (fun hHeld => ?_)
        · exact ⟨kc, kp, km⟩
        clear hK K
        refine wpAnyL_one (i := 11) (by kernel_rfl) rfl (fun K hK => ?_)
        go_simp
        refine held_on hK ?_ (fun hHeld => ?_)
        · exact hHeld
        clear hK K
        refine wpAnyL_end (by kernel_rfl) rfl (fun K hK => ?_)
        go_simp
        refine hK.out _ _ ?_
        clear hK K
        refine wpAnyL_done (by kernel_rfl) ?_ _
        go_wp2_with fail
        go_roundw
        case rel => exact ⟨k + 1, _, _, by omega, by go_num, HV7⟩
        case measure => simp [intOf]; omega
      · obtain rfl : k = 3 := by omega
        have hv := unhide HV
        have y0 : wr.cell? ⟨q, 0, none⟩ = some (.int .i64 id) := hv.row.cell (i := 0) (by omega)
        have y1 : wr.cell? ⟨q, 1, none⟩ = some (.bool up) := hv.row.cell (i := 1) (by omega)
        have y2 : wr.cell? ⟨q, 2, none⟩ = some (.int .i64 inc) := hv.row.cell (i := 2) (by omega)
        have y3 : wr.cell? ⟨q, 3, none⟩ = some (.int .i64 g) := hv.row.cell (i := 3) (by omega)
        have y4 : wr.cell? ⟨q, 4, none⟩ = some (.slice al (nilLanes ((procsTo id 4).zip bs)).length acl) := hv.row.cell (i := 4) (by omega)
        have y5 : wr.cell? ⟨q, 5, none⟩ = some ((.slice ak ks.length ack)) := hv.row.cell (i := 5) (by omega)
        have y6 : wr.cell? ⟨q, 6, none⟩ = some ((.slice ao os.length aco)) := hv.row.cell (i := 6) (by omega)
        have y7 : wr.cell? ⟨q, 7, none⟩ = some (.int .i64 led) := hv.row.cell (i := 7) (by omega)
        have y8 : wr.cell? ⟨q, 8, none⟩ = some (.int .i64 ver) := hv.row.cell (i := 8) (by omega)
        have y9 : wr.cell? ⟨q, 9, none⟩ = some (.slice va 3 vc) := hv.row.cell (i := 9) (by omega)
        have yA : wr.cell? ⟨q, 10, none⟩ = some ((.slice an ([k0, k1, k2] : List Int).length acn)) := hv.row.cell (i := 10) (by omega)
        have yB : wr.cell? ⟨q, 11, none⟩ = some (.int .i64 rd) := hv.row.cell (i := 11) (by omega)
        have yC : wr.cell? ⟨q, 12, none⟩ = some (.int .i64 low) := hv.row.cell (i := 12) (by omega)
        have hrr := (unhide HRRc).of_block (hv.keep w.heap.size (by omega) (by omega))
        have x0 : wr.cell? ⟨w.heap.size, 0, none⟩ = some (.int .i64 0) := hrr.cell (i := 0) (by omega)
        have z0 : wr.frozen? ⟨w.heap.size, 0, none⟩ = false := hrr.frozen 0
        have x1 : wr.cell? ⟨w.heap.size, 1, none⟩ = some (.bool false) := hrr.cell (i := 1) (by omega)
        have z1 : wr.frozen? ⟨w.heap.size, 1, none⟩ = false := hrr.frozen 1
        have x2 : wr.cell? ⟨w.heap.size, 2, none⟩ = some (.int .i64 0) := hrr.cell (i := 2) (by omega)
        have z2 : wr.frozen? ⟨w.heap.size, 2, none⟩ = false := hrr.frozen 2
        have x3 : wr.cell? ⟨w.heap.size, 3, none⟩ = some (.int .i64 0) := hrr.cell (i := 3) (by omega)
        have z3 : wr.frozen? ⟨w.heap.size, 3, none⟩ = false := hrr.frozen 3
        have x4 : wr.cell? ⟨w.heap.size, 4, none⟩ = some (.slice none 0 0) := hrr.cell (i := 4) (by omega)
        have z4 : wr.frozen? ⟨w.heap.size, 4, none⟩ = false := hrr.frozen 4
        have x5 : wr.cell? ⟨w.heap.size, 5, none⟩ = some (.slice none 0 0) := hrr.cell (i := 5) (by omega)
        have z5 : wr.frozen? ⟨w.heap.size, 5, none⟩ = false := hrr.frozen 5
        have x6 : wr.cell? ⟨w.heap.size, 6, none⟩ = some (.slice none 0 0) := hrr.cell (i := 6) (by omega)
        have z6 : wr.frozen? ⟨w.heap.size, 6, none⟩ = false := hrr.frozen 6
        have x7 : wr.cell? ⟨w.heap.size, 7, none⟩ = some (.int .i64 0) := hrr.cell (i := 7) (by omega)
        have z7 : wr.frozen? ⟨w.heap.size, 7, none⟩ = false := hrr.frozen 7
        have x8 : wr.cell? ⟨w.heap.size, 8, none⟩ = some (.int .i64 0) := hrr.cell (i := 8) (by omega)
        have z8 : wr.frozen? ⟨w.heap.size, 8, none⟩ = false := hrr.frozen 8
        have x9 : wr.cell? ⟨w.heap.size, 9, none⟩ = some (.slice none 0 0) := hrr.cell (i := 9) (by omega)
        have z9 : wr.frozen? ⟨w.heap.size, 9, none⟩ = false := hrr.frozen 9
        have x10 : wr.cell? ⟨w.heap.size, 10, none⟩ = some (.slice none 0 0) := hrr.cell (i := 10) (by omega)
        have z10 : wr.frozen? ⟨w.heap.size, 10, none⟩ = false := hrr.frozen 10
        have x11 : wr.cell? ⟨w.heap.size, 11, none⟩ = some (.int .i64 0) := hrr.cell (i := 11) (by omega)
        have z11 : wr.frozen? ⟨w.heap.size, 11, none⟩ = false := hrr.frozen 11
        have x12 : wr.cell? ⟨w.heap.size, 12, none⟩ = some (.int .i64 0) := hrr.cell (i := 12) (by omega)
        have z12 : wr.frozen? ⟨w.heap.size, 12, none⟩ = false := hrr.frozen 12
        have HRW := hide hrr
        clear hv hrr
        go_wp2_with fail
        clear y0 y1 y2 y3 y4 y5 y6 y7 y8 y9 yA yB yC x0 z0 x1 z1 x2 z2 x3 z3 x4 z4 x5 z5 x6 z6 x7 z7 x8 z8 x9 z9 x10 z10 x11 z11 x12 z12
        have hrow := setVals_row [.int .i64 id, .bool up, .int .i64 inc, .int .i64 g, (.slice al (nilLanes ((procsTo id 4).zip bs)).length acl), (.slice ak ks.length ack), (.slice ao os.length aco), .int .i64 led, .int .i64 ver, .slice va 3 vc, (.slice an ([k0, k1, k2] : List Int).length acn), .int .i64 rd, .int .i64 low] 0 wr _ (unhide HRW)
        show bodyPost _ _ _ _ _ (setVals wr w.heap.size 0 [.int .i64 id, .bool up, .int .i64 inc, .int .i64 g, (.slice al (nilLanes ((procsTo id 4).zip bs)).length acl), (.slice ak ks.length ack), (.slice ao os.length aco), .int .i64 led, .int .i64 ver, .slice va 3 vc, (.slice an ([k0, k1, k2] : List Int).length acn), .int .i64 rd, .int .i64 low])
        have hoth := fun b (hb : b ≠ w.heap.size) => setVals_other (b := w.heap.size) [.int .i64 id, .bool up, .int .i64 inc, .int .i64 g, (.slice al (nilLanes ((procsTo id 4).zip bs)).length acl), (.slice ak ks.length ack), (.slice ao os.length aco), .int .i64 led, .int .i64 ver, .slice va 3 vc, (.slice an ([k0, k1, k2] : List Int).length acn), .int .i64 rd, .int .i64 low] 0 wr b hb
        have hsz9 := setVals_size (b := w.heap.size) [.int .i64 id, .bool up, .int .i64 inc, .int .i64 g, (.slice al (nilLanes ((procsTo id 4).zip bs)).length acl), (.slice ak ks.length ack), (.slice ao os.length aco), .int .i64 led, .int .i64 ver, .slice va 3 vc, (.slice an ([k0, k1, k2] : List Int).length acn), .int .i64 rd, .int .i64 low] 0 wr
        have hbl9 := setVals_below (b := w.heap.size) (B := w.heap.size) (a := w) [.int .i64 id, .bool up, .int .i64 inc, .int .i64 g, (.slice al (nilLanes ((procsTo id 4).zip bs)).length acl), (.slice ak ks.length ack), (.slice ao os.length aco), .int .i64 led, .int .i64 ver, .slice va 3 vc, (.slice an ([k0, k1, k2] : List Int).length acn), .int .i64 rd, .int .i64 low] 0 wr (below_then (unhide HX0) (unhide HV).bel) (Nat.le_refl _)
        generalize setVals wr w.heap.size 0 [.int .i64 id, .bool up, .int .i64 inc, .int .i64 g, (.slice al (nilLanes ((procsTo id 4).zip bs)).length acl), (.slice ak ks.length ack), (.slice ao os.length aco), .int .i64 led, .int .i64 ver, .slice va 3 vc, (.slice an ([k0, k1, k2] : List Int).length acn), .int .i64 rd, .int .i64 low] = W9 at *
        have x0 : W9.cell? ⟨w.heap.size, 0, none⟩ = some (.int .i64 id) := hrow.cell (i := 0) (by omega)
        have x1 : W9.cell? ⟨w.heap.size, 1, none⟩ = some (.bool up) := hrow.cell (i := 1) (by omega)
        have x2 : W9.cell? ⟨w.heap.size, 2, none⟩ = some (.int .i64 inc) := hrow.cell (i := 2) (by omega)
        have x3 : W9.cell? ⟨w.heap.size, 3, none⟩ = some (.int .i64 g) := hrow.cell (i := 3) (by omega)
        have x4 : W9.cell? ⟨w.heap.size, 4, none⟩ = some (.slice al (nilLanes ((procsTo id 4).zip bs)).length acl) := hrow.cell (i := 4) (by omega)
        have x5 : W9.cell? ⟨w.heap.size, 5, none⟩ = some ((.slice ak ks.length ack)) := hrow.cell (i := 5) (by omega)
        have x6 : W9.cell? ⟨w.heap.size, 6, none⟩ = some ((.slice ao os.length aco)) := hrow.cell (i := 6) (by omega)
        have x7 : W9.cell? ⟨w.heap.size, 7, none⟩ = some (.int .i64 led) := hrow.cell (i := 7) (by omega)
        have x8 : W9.cell? ⟨w.heap.size, 8, none⟩ = some (.int .i64 ver) := hrow.cell (i := 8) (by omega)
        have x9 : W9.cell? ⟨w.heap.size, 9, none⟩ = some (.slice va 3 vc) := hrow.cell (i := 9) (by omega)
        have x10 : W9.cell? ⟨w.heap.size, 10, none⟩ = some ((.slice an ([k0, k1, k2] : List Int).length acn)) := hrow.cell (i := 10) (by omega)
        have x11 : W9.cell? ⟨w.heap.size, 11, none⟩ = some (.int .i64 rd) := hrow.cell (i := 11) (by omega)
        have x12 : W9.cell? ⟨w.heap.size, 12, none⟩ = some (.int .i64 low) := hrow.cell (i := 12) (by omega)
        have hks := (unhide HV).size
        have hkp : ∀ b, b < wc.heap.size → b ≠ q → b ≠ w.heap.size → W9.heap[b]? = wc.heap[b]? := fun b h1 h2 h3 => (hoth b h3).trans ((unhide HV).keep b h1 h2)
        have hkk := (unhide HK).blk
        have hko := (unhide HO).blk
        have hkn := (unhide HN).blk
        refine bodyPost_ret (v := nodeAgg (⟨id, up, inc, g, nilLanes ((procsTo id 4).zip bs), ks, os, led, ver, nilViews 3, [k0, k1, k2], rd, low⟩ : NodeV) (.slice al (nilLanes ((procsTo id 4).zip bs)).length acl) (.slice ak ks.length ack) (.slice ao os.length aco) (.slice va 3 vc) (.slice an ([k0, k1, k2] : List Int).length acn)) (by simp [results, Try.results31, go_sem, x0, x1, x2, x3, x4, x5, x6, x7, x8, x9, x10, x11, x12]) rfl ⟨(.slice al (nilLanes ((procsTo id 4).zip bs)).length acl), (.slice ak ks.length ack), (.slice ao os.length aco), .slice va 3 vc, (.slice an ([k0, k1, k2] : List Int).length acn), rfl, ⟨p1, p2, p3, p4, by omega, by omega, by omega, by omega, by omega, ?_, ?_, fun b e => (unhide HKB b e).1, ?_, fun b e => (unhide HOB b e).1, ?_, fun b e => (unhide HNB b e).1, ?_⟩, hbl9⟩
        · exact ((unhide HL).keep (fun b h1 h2 h3 => hkp b h3 (by omega) (by omega))).wide (by omega) (Nat.le_refl _)
        · exact (unhide HK).block (fun b e hl => hkp b hl (unhide HKB b e).2 (by have := (hkk b e).1; omega))
        · exact (unhide HO).block (fun b e hl => hkp b hl (unhide HOB b e).2 (by have := (hko b e).1; omega))
        · exact (unhide HN).block (fun b e hl => hkp b hl (unhide HNB b e).2 (by have := (hkn b e).1; omega))
        · exact ((viewsOwn_of_owns (unhide HV).own (Nat.le_refl _)).keep (fun b h1 h2 h3 => hoth b (by omega))).wide h5 (by omega)
end Go.Proofs.Ytimkamgghkjhhaa
