/- impl's appWork in memory; contracts of its get and put. -/
import Derived.Test.YtjbgiepaehefpaaDoorRun7
namespace Go.Proofs.YtjbgiepaehefpaaDoor
open Go.RowKit
set_option linter.unusedVariables false

/-- Work in memory: the struct at block q, what it has sent and let out in blocks behind it. -/
structure ImMem (w : World) (q : Nat) (s : StV) (ev : EvV) (sk : Int) (vs vo : Value) (sends : List EvV) (outs : List OutV) : Prop where
  e0 : w.cell? ⟨q, 0, none⟩ = some (.int .i64 ev.time)
  e1 : w.cell? ⟨q, 1, none⟩ = some (.int .i64 ev.to)
  e6 : w.cell? ⟨q, 6, none⟩ = some (.int .i64 ev.arg)
  e2 : w.cell? ⟨q, 2, none⟩ = some (.int .i64 ev.src)
  e3 : w.cell? ⟨q, 3, none⟩ = some (.int .i64 ev.count)
  e4 : w.cell? ⟨q, 4, none⟩ = some (.int .i64 ev.n)
  e5 : w.cell? ⟨q, 5, none⟩ = some (.int .i64 ev.kind)
  x0 : w.cell? ⟨q, 7, none⟩ = some (.int .i64 s.x)
  x1 : w.cell? ⟨q, 8, none⟩ = some (.int .i64 s.y)
  x2 : w.cell? ⟨q, 9, none⟩ = some (.int .i64 s.c)
  ck : w.cell? ⟨q, 10, none⟩ = some (.int .i64 sk)
  cs : w.cell? ⟨q, 11, none⟩ = some vs
  co : w.cell? ⟨q, 12, none⟩ = some vo
  fz : ∀ i, w.frozen? ⟨q, i, none⟩ = false
  os : w.ownsRow (q + 1) 38 7 vs sends.length (evsCells sends)
  oo : w.ownsRow (q + 1) 48 5 vo outs.length (outsCells outs)
  ne : vs.ownBlock = none ∨ vs.ownBlock ≠ vo.ownBlock

theorem iget0 (q : Nat) (x : Int) (w : World) (h : w.cell? ⟨q, 7, none⟩ = some (.int .i64 x)) :
    Calls Tryd.prog 118 #[.pointer (some ⟨q, 0, none⟩), .int .i64 0] w fun e w' => e = .returned (.int .i64 x) ∧ w' = w := by
  go_enter Tryd.func118, Tryd.ntmps118
  go_wp2
  go_ret
  exact ⟨rfl, rfl⟩
theorem iget1 (q : Nat) (y : Int) (w : World) (h : w.cell? ⟨q, 8, none⟩ = some (.int .i64 y)) :
    Calls Tryd.prog 118 #[.pointer (some ⟨q, 0, none⟩), .int .i64 1] w fun e w' => e = .returned (.int .i64 y) ∧ w' = w := by
  go_enter Tryd.func118, Tryd.ntmps118
  go_wp2
  go_ret
  exact ⟨rfl, rfl⟩
theorem iget_any (q : Nat) (s : StV) (r : Int) (hr : r = 0 ∨ r = 1) (w : World) (h0 : w.cell? ⟨q, 7, none⟩ = some (.int .i64 s.x)) (h1 : w.cell? ⟨q, 8, none⟩ = some (.int .i64 s.y)) :
    Calls Tryd.prog 118 #[.pointer (some ⟨q, 0, none⟩), .int .i64 r] w fun e w' => e = .returned (.int .i64 (getR s r)) ∧ w' = w := by
  rcases hr with rfl | rfl
  · exact iget0 q s.x w h0
  · exact iget1 q s.y w h1
theorem iput0 (q : Nat) (x n : Int) (w : World) (h : w.cell? ⟨q, 7, none⟩ = some (.int .i64 x)) (hf : w.frozen? ⟨q, 7, none⟩ = false) (h0 : 0 ≤ n) (h1 : n ≤ 100000) :
    Calls Tryd.prog 175 #[.pointer (some ⟨q, 0, none⟩), .int .i64 0, .int .i64 n] w fun e w' => e = .returned (.tuple #[]) ∧ w' = w.setCell ⟨q, 7, none⟩ (.int .i64 (n % 1000)) := by
  go_enter Tryd.func175, Tryd.ntmps175
  go_wp2
  go_end0
  exact ⟨rfl, rfl⟩
theorem iput1 (q : Nat) (y n : Int) (w : World) (h : w.cell? ⟨q, 8, none⟩ = some (.int .i64 y)) (hf : w.frozen? ⟨q, 8, none⟩ = false) (h0 : 0 ≤ n) (h1 : n ≤ 100000) :
    Calls Tryd.prog 175 #[.pointer (some ⟨q, 0, none⟩), .int .i64 1, .int .i64 n] w fun e w' => e = .returned (.tuple #[]) ∧ w' = w.setCell ⟨q, 8, none⟩ (.int .i64 (n % 1000)) := by
  go_enter Tryd.func175, Tryd.ntmps175
  go_wp2
  go_end0
  exact ⟨rfl, rfl⟩
theorem iput_any (q : Nat) (s : StV) (r n : Int) (hr : r = 0 ∨ r = 1) (w : World) (h0 : w.cell? ⟨q, 7, none⟩ = some (.int .i64 s.x)) (h1 : w.cell? ⟨q, 8, none⟩ = some (.int .i64 s.y)) (hf : ∀ i, w.frozen? ⟨q, i, none⟩ = false) (k0 : 0 ≤ n) (k1 : n ≤ 100000) :
    Calls Tryd.prog 175 #[.pointer (some ⟨q, 0, none⟩), .int .i64 r, .int .i64 n] w fun e w' => e = .returned (.tuple #[]) ∧ w' = w.setCell ⟨q, 7 + r.toNat, none⟩ (.int .i64 (n % 1000)) := by
  rcases hr with rfl | rfl
  · exact iput0 q s.x n w h0 (hf 7) k0 k1
  · exact iput1 q s.y n w h1 (hf 8) k0 k1
end Go.Proofs.YtjbgiepaehefpaaDoor
