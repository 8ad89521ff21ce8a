/- What a rule does, plainly; and contracts of spec's l1Run.get and put. -/
import Derived.Test.YtjbgiepaehefpaaDoorSp3
import Derived.Test.YtjbgiepaehefpaaDoorEv
import Derived.Deep.RegionHeld3
import Derived.Deep.AppendLies
import Derived.StillTactics
import Derived.OwnWalk
import Derived.Laws.Pointers
import Derived.OneCell
namespace Go.Proofs.YtjbgiepaehefpaaDoor
open Go.RowKit
set_option linter.unusedVariables false

def getR (s : StV) (r : Int) : Int := if r = 0 then s.x else s.y
def putR (s : StV) (r n : Int) : StV := if r = 0 then { s with x := n % 1000 } else { s with y := n % 1000 }

/-- A run in memory: the struct at block q, what it has sent and let out in blocks of their own, from two ahead of it on. -/
structure RunMem (w : World) (q : Nat) (s : StV) (ev : EvV) (vs vo : Value) (sends : List EvV) (outs : List OutV) : Prop where
  x0 : w.cell? ⟨q, 0, none⟩ = some (.int .i64 s.x)
  x1 : w.cell? ⟨q, 1, none⟩ = some (.int .i64 s.y)
  x2 : w.cell? ⟨q, 2, none⟩ = some (.int .i64 s.c)
  e0 : w.cell? ⟨q, 3, none⟩ = some (.int .i64 ev.time)
  e1 : w.cell? ⟨q, 4, none⟩ = some (.int .i64 ev.to)
  e6 : w.cell? ⟨q, 9, none⟩ = some (.int .i64 ev.arg)
  cs : w.cell? ⟨q, 10, none⟩ = some vs
  co : w.cell? ⟨q, 11, none⟩ = some vo
  fz : ∀ i, w.frozen? ⟨q, i, none⟩ = false
  os : w.ownsRow (q - 2) 38 7 vs sends.length (evsCells sends)
  oo : w.ownsRow (q - 2) 48 5 vo outs.length (outsCells outs)
  ne : vs.ownBlock = none ∨ vs.ownBlock ≠ vo.ownBlock
  ns : vs.ownBlock ≠ some q
  no : vo.ownBlock ≠ some q

theorem get0 (q : Nat) (x : Int) (w : World) (h : w.cell? ⟨q, 0, none⟩ = some (.int .i64 x)) :
    Calls Tryd.prog 80 #[.pointer (some ⟨q, 0, none⟩), .int .i64 0] w fun e w' => e = .returned (.int .i64 x) ∧ w' = w := by
  go_enter Tryd.func80, Tryd.ntmps80
  go_wp2
  go_ret
  exact ⟨rfl, rfl⟩
theorem get1 (q : Nat) (y : Int) (w : World) (h : w.cell? ⟨q, 1, none⟩ = some (.int .i64 y)) :
    Calls Tryd.prog 80 #[.pointer (some ⟨q, 0, none⟩), .int .i64 1] w fun e w' => e = .returned (.int .i64 y) ∧ w' = w := by
  go_enter Tryd.func80, Tryd.ntmps80
  go_wp2
  go_ret
  exact ⟨rfl, rfl⟩
theorem get_any (q : Nat) (s : StV) (r : Int) (hr : r = 0 ∨ r = 1) (w : World) (h0 : w.cell? ⟨q, 0, none⟩ = some (.int .i64 s.x)) (h1 : w.cell? ⟨q, 1, none⟩ = some (.int .i64 s.y)) :
    Calls Tryd.prog 80 #[.pointer (some ⟨q, 0, none⟩), .int .i64 r] w fun e w' => e = .returned (.int .i64 (getR s r)) ∧ w' = w := by
  rcases hr with rfl | rfl
  · exact get0 q s.x w h0
  · exact get1 q s.y w h1
theorem put0 (q : Nat) (x n : Int) (w : World) (h : w.cell? ⟨q, 0, none⟩ = some (.int .i64 x)) (hf : w.frozen? ⟨q, 0, none⟩ = false) (h0 : 0 ≤ n) (h1 : n ≤ 100000) :
    Calls Tryd.prog 79 #[.pointer (some ⟨q, 0, none⟩), .int .i64 0, .int .i64 n] w fun e w' => e = .returned (.tuple #[]) ∧ w' = w.setCell ⟨q, 0, none⟩ (.int .i64 (n % 1000)) := by
  go_enter Tryd.func79, Tryd.ntmps79
  go_wp2
  go_end0
  exact ⟨rfl, rfl⟩
theorem put1 (q : Nat) (y n : Int) (w : World) (h : w.cell? ⟨q, 1, none⟩ = some (.int .i64 y)) (hf : w.frozen? ⟨q, 1, none⟩ = false) (h0 : 0 ≤ n) (h1 : n ≤ 100000) :
    Calls Tryd.prog 79 #[.pointer (some ⟨q, 0, none⟩), .int .i64 1, .int .i64 n] w fun e w' => e = .returned (.tuple #[]) ∧ w' = w.setCell ⟨q, 1, none⟩ (.int .i64 (n % 1000)) := by
  go_enter Tryd.func79, Tryd.ntmps79
  go_wp2
  go_end0
  exact ⟨rfl, rfl⟩
theorem put_any (q : Nat) (s : StV) (r n : Int) (hr : r = 0 ∨ r = 1) (w : World) (h0 : w.cell? ⟨q, 0, none⟩ = some (.int .i64 s.x)) (h1 : w.cell? ⟨q, 1, none⟩ = some (.int .i64 s.y)) (hf : ∀ i, w.frozen? ⟨q, i, none⟩ = false) (k0 : 0 ≤ n) (k1 : n ≤ 100000) :
    Calls Tryd.prog 79 #[.pointer (some ⟨q, 0, none⟩), .int .i64 r, .int .i64 n] w fun e w' => e = .returned (.tuple #[]) ∧ w' = w.setCell ⟨q, r.toNat, none⟩ (.int .i64 (n % 1000)) := by
  rcases hr with rfl | rfl
  · exact put0 q s.x n w h0 (hf 0) k0 k1
  · exact put1 q s.y n w h1 (hf 1) k0 k1
end Go.Proofs.YtjbgiepaehefpaaDoor
