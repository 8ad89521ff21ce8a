/- Nodes in memory of their own; the exact laws' mark and held of them. -/
import Derived.Test.YtimkamgghkjhhaaNode1
import Derived.Test.YtimkamgghkjhhaaLanes2
import Derived.Test.YtimkamgghkjhhaaViews2
import Derived.Test.YtimkamgghkjhhaaNums2
import Derived.Deep.Cut
namespace Go.Proofs.Ytimkamgghkjhhaa
open Go.RowKit
set_option linter.unusedVariables false
set_option linter.unusedSimpArgs false

/-- A node whose lists lie in memory of their own: lanes, what it kept, outs, what is known, views, in this order. -/
def NodeOwn (N M : Nat) (w : World) (n : NodeV) (vl vk vo vv vn : Value) : Prop :=
  ∃ p1 p2 p3 p4, N ≤ p1 ∧ p1 ≤ p2 ∧ p2 ≤ p3 ∧ p3 ≤ p4 ∧ p4 ≤ M ∧ LanesOwn N p1 w vl n.lanes ∧ RowsFr p1 65 7 w vk (n.kept.map evRow) ∧ (∀ b, vk.ownBlock = some b → b < p2) ∧ RowsFr p2 103 5 w vo (n.outs.map outRow) ∧ (∀ b, vo.ownBlock = some b → b < p3) ∧ RowsFr p3 3 1 w vn (n.known.map fun z => [z]) ∧ (∀ b, vn.ownBlock = some b → b < p4) ∧ ViewsOwn p4 M w vv n.views

theorem NodeOwn.at {N M : Nat} {w : World} {n : NodeV} {vl vk vo vv vn : Value} (h : NodeOwn N M w n vl vk vo vv vn) : NodeAt w n vl vk vo vv vn := by
  obtain ⟨_, _, _, _, _, _, _, _, _, hl, hk, _, ho, _, hn, _, hv⟩ := h
  exact ⟨hl.at, hk.at, ho.at, hv.at, hn.at⟩
theorem NodeOwn.on {N M : Nat} {w w' : World} {n : NodeV} {vl vk vo vv vn : Value} (hb : Below w.heap.size w w') (h : NodeOwn N M w n vl vk vo vv vn) : NodeOwn N M w' n vl vk vo vv vn := by
  obtain ⟨p1, p2, p3, p4, q0, q1, q2, q3, q4, hl, hk, hkb, ho, hob, hn, hnb, hv⟩ := h
  exact ⟨p1, p2, p3, p4, q0, q1, q2, q3, q4, hl.on hb, hk.on hb, hkb, ho.on hb, hob, hn.on hb, hnb, hv.on hb⟩

theorem LanesOwn.only {N M : Nat} {w w' : World} {v u : Value} {ls : List LaneV} (ho : OnlyOf u w w') (hb : ∀ g, u.ownBlock = some g → g < N ∨ M ≤ g) (h : LanesOwn N M w v ls) : LanesOwn N M w' v ls :=
  h.keep (fun b h1 h2 _ => ho.other b (fun e => by have := hb b e; omega))
theorem ViewsOwn.only {N M : Nat} {w w' : World} {v u : Value} {ls : List ViewV} (ho : OnlyOf u w w') (hb : ∀ g, u.ownBlock = some g → g < N ∨ M ≤ g) (h : ViewsOwn N M w v ls) : ViewsOwn N M w' v ls :=
  h.keep (fun b h1 h2 _ => ho.other b (fun e => by have := hb b e; omega))
theorem RowsFr.within {N t m A B : Nat} {w w' : World} {v : Value} {rs : List (List Int)} (hw : Within A B w w') (hb : ∀ g, v.ownBlock = some g → g < A ∨ B ≤ g) (h : RowsFr N t m w v rs) : RowsFr N t m w' v rs :=
  h.block (fun g hg _ => hw.other g (by have := hb g hg; omega))
theorem RowsFr.only {N t m : Nat} {w w' : World} {v u : Value} {rs : List (List Int)} (ho : OnlyOf u w w') (hb : ∀ g, v.ownBlock = some g → u.ownBlock ≠ some g) (h : RowsFr N t m w v rs) : RowsFr N t m w' v rs :=
  h.block (fun g hg _ => ho.other g (hb g hg))

def szN (n : NodeV) : Int := gSz szL n.lanes + 7 * (n.kept.length : Int) + 5 * (n.outs.length : Int) + gSz szV n.views + (n.known.length : Int)

/-- The lists of a node that was marked. -/
structure NodeMarked (w : World) (n : NodeV) (k0 : Int) (vl vk vo vv vn : Value) : Prop where
  l : LanesAt w vl (gMark markL szL k0 n.lanes)
  k : RowsAt 7 w vk (markRows 7 (k0 + gSz szL n.lanes) n.kept.length)
  o : RowsAt 5 w vo (markRows 5 (k0 + gSz szL n.lanes + 7 * (n.kept.length : Int)) n.outs.length)
  v : ViewsAt w vv (gMark markV szV (k0 + gSz szL n.lanes + 7 * (n.kept.length : Int) + 5 * (n.outs.length : Int)) n.views)
  n : RowsAt 1 w vn (markRows 1 (k0 + gSz szL n.lanes + 7 * (n.kept.length : Int) + 5 * (n.outs.length : Int) + gSz szV n.views) n.known.length)

theorem NodeMarked.on {w w' : World} {n : NodeV} {k0 : Int} {vl vk vo vv vn : Value} (hb : Below w.heap.size w w') (h : NodeMarked w n k0 vl vk vo vv vn) : NodeMarked w' n k0 vl vk vo vv vn :=
  ⟨h.l.on hb, h.k.on hb, h.o.on hb, h.v.on hb, h.n.on hb⟩

end Go.Proofs.Ytimkamgghkjhhaa
