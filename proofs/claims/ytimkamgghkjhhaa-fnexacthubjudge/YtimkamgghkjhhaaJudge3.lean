/- impl.openHub: a hub at work. -/
import Derived.Test.YtimkamgghkjhhaaJudge2
import Derived.Deep.RegionHeld3
import Derived.Deep.Cut
namespace Go.Proofs.Ytimkamgghkjhhaa
open Go.RowKit
set_option linter.unusedVariables false
set_option linter.unusedSimpArgs false

abbrev workCells (rd : Int) (A B C : Ans) : List Value := [.int .i64 rd, .int .i64 A.x0.kind, .int .i64 A.x0.frm, .int .i64 A.x0.dst, .int .i64 A.x0.inc, .int .i64 A.x0.ver, .int .i64 A.x0.rd, .int .i64 A.x0.g, .slice A.s0.a0 A.x0.incs.length A.s0.c0, .slice A.s0.a1 A.x0.vers.length A.s0.c1, .slice A.s0.a2 A.x0.evs.length A.s0.c2, .slice A.s0.a3 A.x0.outs.length A.s0.c3, .int .i64 A.x1.kind, .int .i64 A.x1.frm, .int .i64 A.x1.dst, .int .i64 A.x1.inc, .int .i64 A.x1.ver, .int .i64 A.x1.rd, .int .i64 A.x1.g, .slice A.s1.a0 A.x1.incs.length A.s1.c0, .slice A.s1.a1 A.x1.vers.length A.s1.c1, .slice A.s1.a2 A.x1.evs.length A.s1.c2, .slice A.s1.a3 A.x1.outs.length A.s1.c3, .int .i64 A.x2.kind, .int .i64 A.x2.frm, .int .i64 A.x2.dst, .int .i64 A.x2.inc, .int .i64 A.x2.ver, .int .i64 A.x2.rd, .int .i64 A.x2.g, .slice A.s2.a0 A.x2.incs.length A.s2.c0, .slice A.s2.a1 A.x2.vers.length A.s2.c1, .slice A.s2.a2 A.x2.evs.length A.s2.c2, .slice A.s2.a3 A.x2.outs.length A.s2.c3, .int .u8 (bitsB A.t0 A.t1 A.t2), .int .i64 B.x0.kind, .int .i64 B.x0.frm, .int .i64 B.x0.dst, .int .i64 B.x0.inc, .int .i64 B.x0.ver, .int .i64 B.x0.rd, .int .i64 B.x0.g, .slice B.s0.a0 B.x0.incs.length B.s0.c0, .slice B.s0.a1 B.x0.vers.length B.s0.c1, .slice B.s0.a2 B.x0.evs.length B.s0.c2, .slice B.s0.a3 B.x0.outs.length B.s0.c3, .int .i64 B.x1.kind, .int .i64 B.x1.frm, .int .i64 B.x1.dst, .int .i64 B.x1.inc, .int .i64 B.x1.ver, .int .i64 B.x1.rd, .int .i64 B.x1.g, .slice B.s1.a0 B.x1.incs.length B.s1.c0, .slice B.s1.a1 B.x1.vers.length B.s1.c1, .slice B.s1.a2 B.x1.evs.length B.s1.c2, .slice B.s1.a3 B.x1.outs.length B.s1.c3, .int .i64 B.x2.kind, .int .i64 B.x2.frm, .int .i64 B.x2.dst, .int .i64 B.x2.inc, .int .i64 B.x2.ver, .int .i64 B.x2.rd, .int .i64 B.x2.g, .slice B.s2.a0 B.x2.incs.length B.s2.c0, .slice B.s2.a1 B.x2.vers.length B.s2.c1, .slice B.s2.a2 B.x2.evs.length B.s2.c2, .slice B.s2.a3 B.x2.outs.length B.s2.c3, .int .u8 (bitsB B.t0 B.t1 B.t2), .int .i64 C.x0.kind, .int .i64 C.x0.frm, .int .i64 C.x0.dst, .int .i64 C.x0.inc, .int .i64 C.x0.ver, .int .i64 C.x0.rd, .int .i64 C.x0.g, .slice C.s0.a0 C.x0.incs.length C.s0.c0, .slice C.s0.a1 C.x0.vers.length C.s0.c1, .slice C.s0.a2 C.x0.evs.length C.s0.c2, .slice C.s0.a3 C.x0.outs.length C.s0.c3, .int .i64 C.x1.kind, .int .i64 C.x1.frm, .int .i64 C.x1.dst, .int .i64 C.x1.inc, .int .i64 C.x1.ver, .int .i64 C.x1.rd, .int .i64 C.x1.g, .slice C.s1.a0 C.x1.incs.length C.s1.c0, .slice C.s1.a1 C.x1.vers.length C.s1.c1, .slice C.s1.a2 C.x1.evs.length C.s1.c2, .slice C.s1.a3 C.x1.outs.length C.s1.c3, .int .i64 C.x2.kind, .int .i64 C.x2.frm, .int .i64 C.x2.dst, .int .i64 C.x2.inc, .int .i64 C.x2.ver, .int .i64 C.x2.rd, .int .i64 C.x2.g, .slice C.s2.a0 C.x2.incs.length C.s2.c0, .slice C.s2.a1 C.x2.vers.length C.s2.c1, .slice C.s2.a2 C.x2.evs.length C.s2.c2, .slice C.s2.a3 C.x2.outs.length C.s2.c3, .int .u8 (bitsB C.t0 C.t1 C.t2)]
abbrev workF (rd : Int) (A B C : Ans) : Nat → Value := fun i => (workCells rd A B C).getD i undef
def FrmIn (ns : List WordV) : Prop := ∀ n ∈ ns, 0 ≤ n.frm ∧ n.frm ≤ 2

theorem row_of_cells {w : World} {t : TypeId} {c : Array Value} (cs : List Value) (h : c = cs.toArray) : (w.alloc (.cells c t)).rowIs w.heap.size t cs.length (fun i => cs.getD i undef) := by
  subst h
  exact row_new w cs t

theorem sOh_of {X w' : World} {r : Nat} {c0 c1 c2 c3 : Value} (h : CellsAt X r 0 [c0, c1, c2, c3]) (hb : Below X.heap.size X w') :
    w'.cell? ⟨r, 0, none⟩ = some c0 ∧ w'.cell? ⟨r, 1, none⟩ = some c1 ∧ w'.cell? ⟨r, 2, none⟩ = some c2 ∧ w'.cell? ⟨r, 3, none⟩ = some c3 ∧ Below X.heap.size X w' :=
  ⟨(h.on hb) 0 (by simp), (h.on hb) 1 (by simp), (h.on hb) 2 (by simp), (h.on hb) 3 (by simp), hb⟩
theorem AnsOf.back {w x : World} {A : Ans} {ns : List WordV} {k : Nat} (hb : Below w.heap.size w x) (h : AnsOf w A ns k) : AnsOf x A ns k := ⟨h.1.on hb, h.2.1.on hb, h.2.2.on hb⟩

set_option maxRecDepth 100000 in
set_option maxHeartbeats 4000000 in
theorem openHub_any (n : HubV) (v1 v2 v3 : Value) (w : World) (h : HubAt w n v1 v2 v3) (f1 : FrmIn n.ones) (f2 : FrmIn n.twos) (f3 : FrmIn n.outs) :
    Calls Try.prog 57 #[hubAgg n v1 v2 v3] w fun e w' => ∃ A B C q, e = .returned (.pointer (some ⟨q, 0, none⟩)) ∧ w'.rowIs q 137 103 (workF n.rd A B C) ∧ AnsOf w' A n.ones n.ones.length ∧ AnsOf w' B n.twos n.twos.length ∧ AnsOf w' C n.outs n.outs.length ∧ w.heap.size ≤ q ∧ Below w.heap.size w w' := by
  obtain ⟨⟨a0, ac0, e1⟩, ⟨a1, ac1, e2⟩, ⟨a2, ac2, e3⟩⟩ := h.sliced
  subst e1 e2 e3
  have hb0 : Below w.heap.size w (w.alloc (.cells #[.int .i64 n.rd, .slice a0 n.ones.length ac0, .slice a1 n.twos.length ac1, .slice a2 n.outs.length ac2] 51)) := (Below.refl _ _).alloc (Nat.le_refl _) _
  have HA := hide (cellsAt_new w [.int .i64 n.rd, .slice a0 n.ones.length ac0, .slice a1 n.twos.length ac1, .slice a2 n.outs.length ac2] 51)
  have H := hide (h.on hb0)
  have HB0 := hide hb0
  have F1 := hide f1
  have F2 := hide f2
  have F3 := hide f3
  have HSZ : Hid (w.heap.size ≤ (w.alloc (.cells #[.int .i64 n.rd, .slice a0 n.ones.length ac0, .slice a1 n.twos.length ac1, .slice a2 n.outs.length ac2] 51)).heap.size) := hide hb0.size
  clear hb0 h f1 f2 f3
  go_enter Try.func57, Try.ntmps57
  go_upto_region 1 with fail
  change Hid (CellsAt (w.alloc (.cells #[.int .i64 n.rd, .slice a0 n.ones.length ac0, .slice a1 n.twos.length ac1, .slice a2 n.outs.length ac2] 51)) _ _ _) at HA
  generalize (w.alloc (.cells #[.int .i64 n.rd, .slice a0 n.ones.length ac0, .slice a1 n.twos.length ac1, .slice a2 n.outs.length ac2] 51)) = X at *
  go_region_held3 (fun w' => w'.cell? ⟨w.heap.size, 0, none⟩ = some (.int .i64 n.rd) ∧ w'.cell? ⟨w.heap.size, 1, none⟩ = some (.slice a0 n.ones.length ac0) ∧ w'.cell? ⟨w.heap.size, 2, none⟩ = some (.slice a1 n.twos.length ac1) ∧ w'.cell? ⟨w.heap.size, 3, none⟩ = some (.slice a2 n.outs.length ac2) ∧ Below X.heap.size X w')
    ((go_split_ands; refine sOh_of (unhide HA) ?_; first | exact (Below.refl _ _).drew | exact hBc.alloc hBc.size _ | exact below_then (by assumption) hbc | exact below_then (by assumption) hbb | exact below_then (by assumption) hba))
    (first
      | (go_at_call 95; (with_reducible show Calls _ _ #[Value.slice a0 _ _] _ _); (refine (openAnswers_any (.slice a0 n.ones.length ac0) n.ones _ ((unhide H).a.on (by go_split_ands; assumption)) (unhide F1)).mono ?_); rintro e wa ⟨A, rfl, hA, hba⟩; have hBa := below_then (a := X) (by go_split_ands; assumption) hba)
      | (go_at_call 95; (with_reducible show Calls _ _ #[Value.slice a1 _ _] _ _); (refine (openAnswers_any (.slice a1 n.twos.length ac1) n.twos _ ((unhide H).b.on hBa) (unhide F2)).mono ?_); rintro e wb ⟨B, rfl, hB, hbb⟩; have hBb := below_then (a := X) hBa hbb)
      | (go_at_call 95; (with_reducible show Calls _ _ #[Value.slice a2 _ _] _ _); (refine (openAnswers_any (.slice a2 n.outs.length ac2) n.outs _ ((unhide H).c.on hBb) (unhide F3)).mono ?_); rintro e wc ⟨C, rfl, hC, hbc⟩; have hBc := below_then (a := X) hBb hbc))
  have HA1 := hide (AnsOf.back hbc (AnsOf.back hbb (AnsOf.back hba hA)))
  have HB1 := hide (AnsOf.back hbc (AnsOf.back hbb hB))
  have HC1 := hide (AnsOf.back hbc hC)
  have HS1 := hide (Nat.le_trans (unhide HSZ) hBc.size)
  have HBc := hide (hBc.mono (unhide HSZ))
  go_wp2_with fail
  go_ret
  have hx : ∀ (o : Obj), Below wc.heap.size wc (wc.alloc o) := fun o => (Below.refl _ _).alloc (Nat.le_refl _) _
  refine ⟨A, B, C, wc.heap.size, rfl, row_of_cells (workCells n.rd A B C) (by kernel_rfl), AnsOf.back (hx _) (unhide HA1), AnsOf.back (hx _) (unhide HB1), AnsOf.back (hx _) (unhide HC1), unhide HS1, ?_⟩
  exact (unhide HB0).trans ((unhide HBc).trans ((hx _).mono (unhide HS1)))
end Go.Proofs.Ytimkamgghkjhhaa
