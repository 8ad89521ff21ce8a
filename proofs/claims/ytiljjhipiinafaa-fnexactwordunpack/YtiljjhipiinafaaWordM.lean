/- Words: the exact laws' mark and held of them; toWord's lists apart. -/
import Derived.Test.YtiljjhipiinafaaWord1
import Derived.Test.YtiljjhipiinafaaNums2
import Derived.Test.YtiljjhipiinafaaFlatOut
namespace Go.Proofs.Ytiljjhipiinafaa
open Go.RowKit
set_option linter.unusedVariables false
set_option linter.unusedSimpArgs false

/-- The lists of a word lie in blocks of their own, none in another one's. -/
structure Apart4 (vi vv ve vo : Value) : Prop where
  iv : ∀ g, vi.ownBlock = some g → vv.ownBlock ≠ some g
  ie : ∀ g, vi.ownBlock = some g → ve.ownBlock ≠ some g
  io : ∀ g, vi.ownBlock = some g → vo.ownBlock ≠ some g
  xe : ∀ g, vv.ownBlock = some g → ve.ownBlock ≠ some g
  xo : ∀ g, vv.ownBlock = some g → vo.ownBlock ≠ some g
  eo : ∀ g, ve.ownBlock = some g → vo.ownBlock ≠ some g

/-- The lists of a word, marked from k on. -/
structure WordMk (w : World) (k : Int) (n : WordV) (vi vv ve vo : Value) : Prop where
  i : RowsAt 1 w vi (markRows 1 k n.incs.length)
  v : RowsAt 1 w vv (markRows 1 (k + n.incs.length) n.vers.length)
  e : RowsAt 7 w ve (markRows 7 (k + n.incs.length + n.vers.length) n.evs.length)
  o : RowsAt 5 w vo (markRows 5 (k + n.incs.length + n.vers.length + 7 * n.evs.length) n.outs.length)

theorem WordMk.on {w w' : World} {k : Int} {n : WordV} {vi vv ve vo : Value} (hb : Below w.heap.size w w') (h : WordMk w k n vi vv ve vo) : WordMk w' k n vi vv ve vo := ⟨h.i.on hb, h.v.on hb, h.e.on hb, h.o.on hb⟩

/-- What a word's marks write: its lists' blocks alone. -/
structure Only4 (vi vv ve vo : Value) (w w' : World) : Prop where
  size : w.heap.size ≤ w'.heap.size
  other : ∀ b, b < w.heap.size → vi.ownBlock ≠ some b → vv.ownBlock ≠ some b → ve.ownBlock ≠ some b → vo.ownBlock ≠ some b → w'.heap[b]? = w.heap[b]?
  below : ∀ B, B ≤ w.heap.size → (∀ g, vi.ownBlock = some g ∨ vv.ownBlock = some g ∨ ve.ownBlock = some g ∨ vo.ownBlock = some g → B ≤ g) → Below B w w'

def wordSz (n : WordV) : Int := n.incs.length + n.vers.length + 7 * n.evs.length + 5 * n.outs.length

theorem RowsFr.ne {N t n : Nat} {w w' : World} {v u : Value} {rs : List (List Int)} (h : RowsFr N t n w u rs) (ho : OnlyOf v w w') (ha : ∀ g, v.ownBlock = some g → u.ownBlock ≠ some g) : RowsFr N t n w' u rs :=
  h.other ho (by
    cases hu : u.ownBlock with
    | none => exact Or.inl rfl
    | some g => exact Or.inr (fun e => ha g e.symm hu))

set_option maxRecDepth 100000 in
set_option maxHeartbeats 4000000 in
theorem markWord_any (N : Nat) (n : WordV) (vi vv ve vo : Value) (k0 : Int) (w : World) (h : WordFr N w n vi vv ve vo) (ap : Apart4 vi vv ve vo) (l0 : n.incs.length ≤ 1048576) (l1 : n.vers.length ≤ 1048576) (l2 : n.evs.length ≤ 1048576) (l3 : n.outs.length ≤ 1048576) (h0 : 0 ≤ k0) (h1 : k0 ≤ 1000000) :
    Calls Try.prog 17 #[wordAgg n vi vv ve vo, .int .i64 k0] w fun e w' => e = .returned (.int .i64 (k0 + wordSz n)) ∧ WordMk w' k0 n vi vv ve vo ∧ Only4 vi vv ve vo w w' := by
  obtain ⟨⟨a0, ac0, e1⟩, ⟨a1, ac1, e2⟩, ⟨a2, ac2, e3⟩, ⟨a3, ac3, e4⟩⟩ := h.at.sliced
  subst e1 e2 e3 e4
  have hb0 : Below w.heap.size w (w.alloc (.cells #[.int .i64 n.kind, .int .i64 n.frm, .int .i64 n.dst, .int .i64 n.inc, .int .i64 n.ver, .int .i64 n.rd, .int .i64 n.g, .slice a0 n.incs.length ac0, .slice a1 n.vers.length ac1, .slice a2 n.evs.length ac2, .slice a3 n.outs.length ac3] 27)) := (Below.refl _ _).alloc (Nat.le_refl _) _
  have HA0 := cellsAt_new w [.int .i64 n.kind, .int .i64 n.frm, .int .i64 n.dst, .int .i64 n.inc, .int .i64 n.ver, .int .i64 n.rd, .int .i64 n.g, .slice a0 n.incs.length ac0, .slice a1 n.vers.length ac1, .slice a2 n.evs.length ac2, .slice a3 n.outs.length ac3] 27
  change CellsAt (w.alloc (.cells #[.int .i64 n.kind, .int .i64 n.frm, .int .i64 n.dst, .int .i64 n.inc, .int .i64 n.ver, .int .i64 n.rd, .int .i64 n.g, .slice a0 n.incs.length ac0, .slice a1 n.vers.length ac1, .slice a2 n.evs.length ac2, .slice a3 n.outs.length ac3] 27)) _ _ _ at HA0
  have F := hide (h.on hb0)
  have HL : Hid (∀ g, (Value.ownBlock (.slice a0 n.incs.length ac0) = some g → g < w.heap.size) ∧ (Value.ownBlock (.slice a1 n.vers.length ac1) = some g → g < w.heap.size) ∧ (Value.ownBlock (.slice a2 n.evs.length ac2) = some g → g < w.heap.size) ∧ (Value.ownBlock (.slice a3 n.outs.length ac3) = some g → g < w.heap.size)) := hide (fun g => ⟨fun e => (h.i.blk g e).2, fun e => (h.v.blk g e).2, fun e => (h.e.blk g e).2, fun e => (h.o.blk g e).2⟩)
  have AP := hide ap
  have HA := hide HA0
  have HB := hide hb0
  clear h HA0 hb0 ap
  go_enter Try.func17, Try.ntmps17
  go_upto_region 1 with fail
  generalize (w.alloc (.cells #[.int .i64 n.kind, .int .i64 n.frm, .int .i64 n.dst, .int .i64 n.inc, .int .i64 n.ver, .int .i64 n.rd, .int .i64 n.g, .slice a0 n.incs.length ac0, .slice a1 n.vers.length ac1, .slice a2 n.evs.length ac2, .slice a3 n.outs.length ac3] 27)) = X0 at *
  have c0 : X0.cell? ⟨w.heap.size, 7, none⟩ = some (.slice a0 n.incs.length ac0) := (unhide HA) 7 (by simp)
  go_wp2_with fail
  clear c0
  have hroom := ((unhide F).i).room
  (try rw [List.length_map] at hroom)
  refine (markIntS_any N 3 _ n.incs.length _ _ hroom (by omega) (by omega) (by omega)).mono ?_
  rintro e w1 ⟨rfl, hr, ho⟩
  clear hroom
  have R1 := hide hr
  have O1 := hide ho
  clear hr ho
  have K1 : Hid (∀ i, w1.cell? ⟨w.heap.size, i, none⟩ = X0.cell? ⟨w.heap.size, i, none⟩) := hide (fun i => (World.cell?_of_block (w := X0) ((unhide O1).other w.heap.size (fun e => by have := ((unhide HL) w.heap.size).1 e; omega))))
  have c1 : w1.cell? ⟨w.heap.size, 8, none⟩ = some (.slice a1 n.vers.length ac1) := (unhide K1 8).trans ((unhide HA) 8 (by simp))
  go_wp2_with fail
  clear c1
  have hroom := (((unhide F).v.ne (unhide O1) (unhide AP).iv)).room
  (try rw [List.length_map] at hroom)
  refine (markIntS_any N 3 _ n.vers.length _ _ hroom (by omega) (by omega) (by omega)).mono ?_
  rintro e w2 ⟨rfl, hr, ho⟩
  clear hroom
  have R2 := hide hr
  have O2 := hide ho
  clear hr ho
  have K2 : Hid (∀ i, w2.cell? ⟨w.heap.size, i, none⟩ = X0.cell? ⟨w.heap.size, i, none⟩) := hide (fun i => (World.cell?_of_block (w := w1) ((unhide O2).other w.heap.size (fun e => by have := ((unhide HL) w.heap.size).2.1 e; omega))).trans ((unhide K1) i))
  have c2 : w2.cell? ⟨w.heap.size, 9, none⟩ = some (.slice a2 n.evs.length ac2) := (unhide K2 9).trans ((unhide HA) 9 (by simp))
  go_wp2_with fail
  clear c2
  have hroom := ((((unhide F).e.ne (unhide O1) (unhide AP).ie).ne (unhide O2) (unhide AP).xe)).room
  (try rw [List.length_map] at hroom)
  refine (markEventS_any N 53 _ n.evs.length _ _ hroom (by omega) (by omega) (by omega)).mono ?_
  rintro e w3 ⟨rfl, hr, ho⟩
  clear hroom
  have R3 := hide hr
  have O3 := hide ho
  clear hr ho
  have K3 : Hid (∀ i, w3.cell? ⟨w.heap.size, i, none⟩ = X0.cell? ⟨w.heap.size, i, none⟩) := hide (fun i => (World.cell?_of_block (w := w2) ((unhide O3).other w.heap.size (fun e => by have := ((unhide HL) w.heap.size).2.2.1 e; omega))).trans ((unhide K2) i))
  have c3 : w3.cell? ⟨w.heap.size, 10, none⟩ = some (.slice a3 n.outs.length ac3) := (unhide K3 10).trans ((unhide HA) 10 (by simp))
  go_wp2_with fail
  clear c3
  have hroom := (((((unhide F).o.ne (unhide O1) (unhide AP).io).ne (unhide O2) (unhide AP).xo).ne (unhide O3) (unhide AP).eo)).room
  (try rw [List.length_map] at hroom)
  refine (markOutS_any N 56 _ n.outs.length _ _ hroom (by omega) (by omega) (by omega)).mono ?_
  rintro e w4 ⟨rfl, hr, ho⟩
  clear hroom
  have R4 := hide hr
  have O4 := hide ho
  clear hr ho
  have K4 : Hid (∀ i, w4.cell? ⟨w.heap.size, i, none⟩ = X0.cell? ⟨w.heap.size, i, none⟩) := hide (fun i => (World.cell?_of_block (w := w3) ((unhide O4).other w.heap.size (fun e => by have := ((unhide HL) w.heap.size).2.2.2 e; omega))).trans ((unhide K3) i))
  go_wp2_with fail
  go_ret
  refine ⟨ret_int (by unfold wordSz; omega), ⟨((((unhide R1).ne (unhide O2) (fun g e1 e2 => (unhide AP).iv g e2 e1)).ne (unhide O3) (fun g e1 e2 => (unhide AP).ie g e2 e1)).ne (unhide O4) (fun g e1 e2 => (unhide AP).io g e2 e1)).at, (((unhide R2).ne (unhide O3) (fun g e1 e2 => (unhide AP).xe g e2 e1)).ne (unhide O4) (fun g e1 e2 => (unhide AP).xo g e2 e1)).at, ((unhide R3).ne (unhide O4) (fun g e1 e2 => (unhide AP).eo g e2 e1)).at, (unhide R4).at⟩, ⟨?_, ?_, ?_⟩⟩
  · rw [(unhide O4).size, (unhide O3).size, (unhide O2).size, (unhide O1).size]; exact (unhide HB).size
  · intro b hb h1 h2 h3 h4
    exact ((unhide O4).other b h4).trans (((unhide O3).other b h3).trans (((unhide O2).other b h2).trans (((unhide O1).other b h1).trans ((unhide HB).block b hb))))
  · intro B hB hg
    exact ((((unhide HB).mono hB).trans ((unhide O1).below B (fun g e => hg g (.inl e)))).trans ((unhide O2).below B (fun g e => hg g (.inr (.inl e))))).trans (((unhide O3).below B (fun g e => hg g (.inr (.inr (.inl e))))).trans ((unhide O4).below B (fun g e => hg g (.inr (.inr (.inr e))))))

set_option maxRecDepth 100000 in
set_option maxHeartbeats 4000000 in
theorem heldWord_any (n : WordV) (vi vv ve vo : Value) (k0 : Int) (w : World) (h : WordMk w k0 n vi vv ve vo) (l0 : n.incs.length ≤ 1048576) (l1 : n.vers.length ≤ 1048576) (l2 : n.evs.length ≤ 1048576) (l3 : n.outs.length ≤ 1048576) (h0 : 0 ≤ k0) (h1 : k0 ≤ 1000000) :
    Calls Try.prog 22 #[wordAgg n vi vv ve vo, .int .i64 k0] w fun e w' => e = .returned (.int .i64 (k0 + wordSz n)) ∧ Below w.heap.size w w' := by
  obtain ⟨a0, ac0, e1⟩ : ∃ a c, vi = .slice a n.incs.length c := by obtain ⟨a, c, e, _⟩ := h.i; rw [markRows_length] at e; exact ⟨a, c, e⟩
  obtain ⟨a1, ac1, e2⟩ : ∃ a c, vv = .slice a n.vers.length c := by obtain ⟨a, c, e, _⟩ := h.v; rw [markRows_length] at e; exact ⟨a, c, e⟩
  obtain ⟨a2, ac2, e3⟩ : ∃ a c, ve = .slice a n.evs.length c := by obtain ⟨a, c, e, _⟩ := h.e; rw [markRows_length] at e; exact ⟨a, c, e⟩
  obtain ⟨a3, ac3, e4⟩ : ∃ a c, vo = .slice a n.outs.length c := by obtain ⟨a, c, e, _⟩ := h.o; rw [markRows_length] at e; exact ⟨a, c, e⟩
  subst e1 e2 e3 e4
  have hb0 : Below w.heap.size w (w.alloc (.cells #[.int .i64 n.kind, .int .i64 n.frm, .int .i64 n.dst, .int .i64 n.inc, .int .i64 n.ver, .int .i64 n.rd, .int .i64 n.g, .slice a0 n.incs.length ac0, .slice a1 n.vers.length ac1, .slice a2 n.evs.length ac2, .slice a3 n.outs.length ac3] 27)) := (Below.refl _ _).alloc (Nat.le_refl _) _
  have HA0 := cellsAt_new w [.int .i64 n.kind, .int .i64 n.frm, .int .i64 n.dst, .int .i64 n.inc, .int .i64 n.ver, .int .i64 n.rd, .int .i64 n.g, .slice a0 n.incs.length ac0, .slice a1 n.vers.length ac1, .slice a2 n.evs.length ac2, .slice a3 n.outs.length ac3] 27
  change CellsAt (w.alloc (.cells #[.int .i64 n.kind, .int .i64 n.frm, .int .i64 n.dst, .int .i64 n.inc, .int .i64 n.ver, .int .i64 n.rd, .int .i64 n.g, .slice a0 n.incs.length ac0, .slice a1 n.vers.length ac1, .slice a2 n.evs.length ac2, .slice a3 n.outs.length ac3] 27)) _ _ _ at HA0
  have F := hide (h.on hb0)
  have HA := hide HA0
  have HB := hide hb0
  clear h HA0 hb0
  go_enter Try.func22, Try.ntmps22
  go_upto_region 1 with fail
  generalize (w.alloc (.cells #[.int .i64 n.kind, .int .i64 n.frm, .int .i64 n.dst, .int .i64 n.inc, .int .i64 n.ver, .int .i64 n.rd, .int .i64 n.g, .slice a0 n.incs.length ac0, .slice a1 n.vers.length ac1, .slice a2 n.evs.length ac2, .slice a3 n.outs.length ac3] 27)) = X0 at *
  have c0 : X0.cell? ⟨w.heap.size, 7, none⟩ = some (.slice a0 n.incs.length ac0) := (unhide HA) 7 (by simp)
  go_wp2_with fail
  clear c0
  refine (heldIntS_any _ n.incs.length _ _ (unhide F).i (by omega) (by omega) (by omega)).mono ?_
  rintro e w1 ⟨rfl, hw1⟩
  obtain rfl := hw1.symm
  have q0 : 0 ≤ (k0 + (n.incs.length : Int)) := by omega
  have c1 : X0.cell? ⟨w.heap.size, 8, none⟩ = some (.slice a1 n.vers.length ac1) := (unhide HA) 8 (by simp)
  go_wp2_with fail
  clear c1
  refine (heldIntS_any _ n.vers.length _ _ (unhide F).v (by omega) (by omega) (by omega)).mono ?_
  rintro e w2 ⟨rfl, hw2⟩
  obtain rfl := hw2.symm
  have q1 : 0 ≤ (k0 + (n.incs.length : Int) + (n.vers.length : Int)) := by omega
  have c2 : X0.cell? ⟨w.heap.size, 9, none⟩ = some (.slice a2 n.evs.length ac2) := (unhide HA) 9 (by simp)
  go_wp2_with fail
  clear c2
  refine (heldEventS_any _ n.evs.length _ _ (unhide F).e (by omega) (by omega) (by omega)).mono ?_
  rintro e w3 ⟨rfl, hw3⟩
  obtain rfl := hw3.symm
  have q2 : 0 ≤ (k0 + (n.incs.length : Int) + (n.vers.length : Int) + 7 * n.evs.length) := by omega
  have c3 : X0.cell? ⟨w.heap.size, 10, none⟩ = some (.slice a3 n.outs.length ac3) := (unhide HA) 10 (by simp)
  go_wp2_with fail
  clear c3
  refine (heldOutS_any _ n.outs.length _ _ (unhide F).o (by omega) (by omega) (by omega)).mono ?_
  rintro e w4 ⟨rfl, hw4⟩
  obtain rfl := hw4.symm
  have q3 : 0 ≤ (k0 + (n.incs.length : Int) + (n.vers.length : Int) + 7 * n.evs.length) + 5 * n.outs.length := by omega
  go_wp2_with fail
  go_ret
  exact ⟨ret_int (by unfold wordSz; omega), unhide HB⟩

set_option maxRecDepth 100000 in
set_option maxHeartbeats 4000000 in
theorem toWordA_any (n : WordV) (vi vv ve vo : Value) (w : World) (h : WordAt w n vi vv ve vo) (hl0 : n.incs.length ≤ 1048576) (hl1 : n.vers.length ≤ 1048576) (hl2 : n.evs.length ≤ 1048576) (hl3 : n.outs.length ≤ 1048576) :
    Calls Try.prog 14 #[wordAgg n vi vv ve vo] w fun e w' => ∃ ui uv ue uo, e = .returned (wordAgg n ui uv ue uo) ∧ WordFr (w.heap.size + 1) w' n ui uv ue uo ∧ Apart4 ui uv ue uo ∧ Below w.heap.size w w' := by
  obtain ⟨⟨a0, ac0, e1⟩, ⟨a1, ac1, e2⟩, ⟨a2, ac2, e3⟩, ⟨a3, ac3, e4⟩⟩ := h.sliced
  subst e1 e2 e3 e4
  have hb0 : Below w.heap.size w (((w.alloc (.cells #[.int .i64 n.kind, .int .i64 n.frm, .int .i64 n.dst, .int .i64 n.inc, .int .i64 n.ver, .int .i64 n.rd, .int .i64 n.g, .slice a0 n.incs.length ac0, .slice a1 n.vers.length ac1, .slice a2 n.evs.length ac2, .slice a3 n.outs.length ac3] 38)).alloc (.cells #[.int .i64 0, .int .i64 0, .int .i64 0, .int .i64 0, .int .i64 0, .int .i64 0, .int .i64 0, .slice none 0 0, .slice none 0 0, .slice none 0 0, .slice none 0 0] 27)).alloc (.cells #[.int .i64 n.kind, .int .i64 n.frm, .int .i64 n.dst, .int .i64 n.inc, .int .i64 n.ver, .int .i64 n.rd, .int .i64 n.g, .slice none 0 0, .slice none 0 0, .slice none 0 0, .slice none 0 0] 27)) := (((Below.refl _ _).alloc (Nat.le_refl _) _).alloc (by simp) _).alloc (by simp; omega) _
  have rA : (((w.alloc (.cells #[.int .i64 n.kind, .int .i64 n.frm, .int .i64 n.dst, .int .i64 n.inc, .int .i64 n.ver, .int .i64 n.rd, .int .i64 n.g, .slice a0 n.incs.length ac0, .slice a1 n.vers.length ac1, .slice a2 n.evs.length ac2, .slice a3 n.outs.length ac3] 38)).alloc (.cells #[.int .i64 0, .int .i64 0, .int .i64 0, .int .i64 0, .int .i64 0, .int .i64 0, .int .i64 0, .slice none 0 0, .slice none 0 0, .slice none 0 0, .slice none 0 0] 27)).alloc (.cells #[.int .i64 n.kind, .int .i64 n.frm, .int .i64 n.dst, .int .i64 n.inc, .int .i64 n.ver, .int .i64 n.rd, .int .i64 n.g, .slice none 0 0, .slice none 0 0, .slice none 0 0, .slice none 0 0] 27)).rowIs w.heap.size 38 11 (fun i => [.int .i64 n.kind, .int .i64 n.frm, .int .i64 n.dst, .int .i64 n.inc, .int .i64 n.ver, .int .i64 n.rd, .int .i64 n.g, .slice a0 n.incs.length ac0, .slice a1 n.vers.length ac1, .slice a2 n.evs.length ac2, .slice a3 n.outs.length ac3].getD i undef) :=
    (row_new w [.int .i64 n.kind, .int .i64 n.frm, .int .i64 n.dst, .int .i64 n.inc, .int .i64 n.ver, .int .i64 n.rd, .int .i64 n.g, .slice a0 n.incs.length ac0, .slice a1 n.vers.length ac1, .slice a2 n.evs.length ac2, .slice a3 n.outs.length ac3] 38).of_block ((((Below.refl _ _).alloc (Nat.le_refl _) _).alloc (by simp) _).block w.heap.size (by simp))
  have hs1 : (w.alloc (.cells #[.int .i64 n.kind, .int .i64 n.frm, .int .i64 n.dst, .int .i64 n.inc, .int .i64 n.ver, .int .i64 n.rd, .int .i64 n.g, .slice a0 n.incs.length ac0, .slice a1 n.vers.length ac1, .slice a2 n.evs.length ac2, .slice a3 n.outs.length ac3] 38)).heap.size = w.heap.size + 1 := by simp
  have hs2 : ((w.alloc (.cells #[.int .i64 n.kind, .int .i64 n.frm, .int .i64 n.dst, .int .i64 n.inc, .int .i64 n.ver, .int .i64 n.rd, .int .i64 n.g, .slice a0 n.incs.length ac0, .slice a1 n.vers.length ac1, .slice a2 n.evs.length ac2, .slice a3 n.outs.length ac3] 38)).alloc (.cells #[.int .i64 0, .int .i64 0, .int .i64 0, .int .i64 0, .int .i64 0, .int .i64 0, .int .i64 0, .slice none 0 0, .slice none 0 0, .slice none 0 0, .slice none 0 0] 27)).heap.size = w.heap.size + 2 := by simp
  have rR : (((w.alloc (.cells #[.int .i64 n.kind, .int .i64 n.frm, .int .i64 n.dst, .int .i64 n.inc, .int .i64 n.ver, .int .i64 n.rd, .int .i64 n.g, .slice a0 n.incs.length ac0, .slice a1 n.vers.length ac1, .slice a2 n.evs.length ac2, .slice a3 n.outs.length ac3] 38)).alloc (.cells #[.int .i64 0, .int .i64 0, .int .i64 0, .int .i64 0, .int .i64 0, .int .i64 0, .int .i64 0, .slice none 0 0, .slice none 0 0, .slice none 0 0, .slice none 0 0] 27)).alloc (.cells #[.int .i64 n.kind, .int .i64 n.frm, .int .i64 n.dst, .int .i64 n.inc, .int .i64 n.ver, .int .i64 n.rd, .int .i64 n.g, .slice none 0 0, .slice none 0 0, .slice none 0 0, .slice none 0 0] 27)).rowIs (w.heap.size + 1) 27 11 (fun i => [.int .i64 0, .int .i64 0, .int .i64 0, .int .i64 0, .int .i64 0, .int .i64 0, .int .i64 0, .slice none 0 0, .slice none 0 0, .slice none 0 0, .slice none 0 0].getD i undef) := by
    have e := row_new (w.alloc (.cells #[.int .i64 n.kind, .int .i64 n.frm, .int .i64 n.dst, .int .i64 n.inc, .int .i64 n.ver, .int .i64 n.rd, .int .i64 n.g, .slice a0 n.incs.length ac0, .slice a1 n.vers.length ac1, .slice a2 n.evs.length ac2, .slice a3 n.outs.length ac3] 38)) [.int .i64 0, .int .i64 0, .int .i64 0, .int .i64 0, .int .i64 0, .int .i64 0, .int .i64 0, .slice none 0 0, .slice none 0 0, .slice none 0 0, .slice none 0 0] 27
    rw [hs1] at e
    exact e.of_block (((Below.refl _ _).alloc (Nat.le_refl _) _).block (w.heap.size + 1) (by simp))
  have rO : (((w.alloc (.cells #[.int .i64 n.kind, .int .i64 n.frm, .int .i64 n.dst, .int .i64 n.inc, .int .i64 n.ver, .int .i64 n.rd, .int .i64 n.g, .slice a0 n.incs.length ac0, .slice a1 n.vers.length ac1, .slice a2 n.evs.length ac2, .slice a3 n.outs.length ac3] 38)).alloc (.cells #[.int .i64 0, .int .i64 0, .int .i64 0, .int .i64 0, .int .i64 0, .int .i64 0, .int .i64 0, .slice none 0 0, .slice none 0 0, .slice none 0 0, .slice none 0 0] 27)).alloc (.cells #[.int .i64 n.kind, .int .i64 n.frm, .int .i64 n.dst, .int .i64 n.inc, .int .i64 n.ver, .int .i64 n.rd, .int .i64 n.g, .slice none 0 0, .slice none 0 0, .slice none 0 0, .slice none 0 0] 27)).rowIs (w.heap.size + 2) 27 11 (fun i => [.int .i64 n.kind, .int .i64 n.frm, .int .i64 n.dst, .int .i64 n.inc, .int .i64 n.ver, .int .i64 n.rd, .int .i64 n.g, .slice none 0 0, .slice none 0 0, .slice none 0 0, .slice none 0 0].getD i undef) := by
    have e := row_new ((w.alloc (.cells #[.int .i64 n.kind, .int .i64 n.frm, .int .i64 n.dst, .int .i64 n.inc, .int .i64 n.ver, .int .i64 n.rd, .int .i64 n.g, .slice a0 n.incs.length ac0, .slice a1 n.vers.length ac1, .slice a2 n.evs.length ac2, .slice a3 n.outs.length ac3] 38)).alloc (.cells #[.int .i64 0, .int .i64 0, .int .i64 0, .int .i64 0, .int .i64 0, .int .i64 0, .int .i64 0, .slice none 0 0, .slice none 0 0, .slice none 0 0, .slice none 0 0] 27)) [.int .i64 n.kind, .int .i64 n.frm, .int .i64 n.dst, .int .i64 n.inc, .int .i64 n.ver, .int .i64 n.rd, .int .i64 n.g, .slice none 0 0, .slice none 0 0, .slice none 0 0, .slice none 0 0] 27
    rw [hs2] at e
    exact e
  have hs3 : w.heap.size + 3 ≤ (((w.alloc (.cells #[.int .i64 n.kind, .int .i64 n.frm, .int .i64 n.dst, .int .i64 n.inc, .int .i64 n.ver, .int .i64 n.rd, .int .i64 n.g, .slice a0 n.incs.length ac0, .slice a1 n.vers.length ac1, .slice a2 n.evs.length ac2, .slice a3 n.outs.length ac3] 38)).alloc (.cells #[.int .i64 0, .int .i64 0, .int .i64 0, .int .i64 0, .int .i64 0, .int .i64 0, .int .i64 0, .slice none 0 0, .slice none 0 0, .slice none 0 0, .slice none 0 0] 27)).alloc (.cells #[.int .i64 n.kind, .int .i64 n.frm, .int .i64 n.dst, .int .i64 n.inc, .int .i64 n.ver, .int .i64 n.rd, .int .i64 n.g, .slice none 0 0, .slice none 0 0, .slice none 0 0, .slice none 0 0] 27)).heap.size := by simp
  have H := hide h
  have HB := hide hb0
  have RA := hide rA
  have RR := hide rR
  have RO := hide rO
  have HZ := hide hs3
  clear h hb0 rA rR rO hs1 hs2 hs3
  go_enter Try.func14, Try.ntmps14
  go_upto_region 9 with fail
  generalize (((w.alloc (.cells #[.int .i64 n.kind, .int .i64 n.frm, .int .i64 n.dst, .int .i64 n.inc, .int .i64 n.ver, .int .i64 n.rd, .int .i64 n.g, .slice a0 n.incs.length ac0, .slice a1 n.vers.length ac1, .slice a2 n.evs.length ac2, .slice a3 n.outs.length ac3] 38)).alloc (.cells #[.int .i64 0, .int .i64 0, .int .i64 0, .int .i64 0, .int .i64 0, .int .i64 0, .int .i64 0, .slice none 0 0, .slice none 0 0, .slice none 0 0, .slice none 0 0] 27)).alloc (.cells #[.int .i64 n.kind, .int .i64 n.frm, .int .i64 n.dst, .int .i64 n.inc, .int .i64 n.ver, .int .i64 n.rd, .int .i64 n.g, .slice none 0 0, .slice none 0 0, .slice none 0 0, .slice none 0 0] 27)) = W0 at *
  have m7 : W0.cell? ⟨w.heap.size, 7, none⟩ = some (.slice a0 n.incs.length ac0) := (unhide RA).cell (i := 7) (by omega)
  go_wp2_with fail
  clear m7
  refine (toIntS_any _ n.incs _ ((unhide H).i.on (unhide HB)) hl0).mono ?_
  rintro e w1 ⟨u0, rfl, hf, hb⟩
  obtain ⟨d0, k0, e0⟩ := rowsLen hf.at
  subst e0
  have hz := unhide HZ
  have hsz := hb.size
  have F0 := hide ((hf.less (M := w.heap.size + 3) (by omega)).setOther' (r := w.heap.size + 2) (o := 7) (u := .slice d0 n.incs.length k0) (by omega))
  have ro := (unhide RO).of_block (hb.block (w.heap.size + 2) (by omega))
  have g : w1.cell? ⟨w.heap.size + 2, 7, none⟩ = some (.slice none 0 0) := ro.cell (i := 7) (by omega)
  have z : w1.frozen? ⟨w.heap.size + 2, 7, none⟩ = false := ro.frozen 7
  replace RO : Hid ((w1.setCell ⟨w.heap.size + 2, 7, none⟩ (.slice d0 n.incs.length k0)).rowIs (w.heap.size + 2) 27 11 (fun i => [.int .i64 n.kind, .int .i64 n.frm, .int .i64 n.dst, .int .i64 n.inc, .int .i64 n.ver, .int .i64 n.rd, .int .i64 n.g, .slice d0 n.incs.length k0, .slice none 0 0, .slice none 0 0, .slice none 0 0].getD i undef)) := hide (rowL_set ro 7 (by simp) _)
  replace RA := hide (((unhide RA).of_block (hb.block w.heap.size (by omega))).of_block (Below.heap_setCell w1 ⟨w.heap.size + 2, 7, none⟩ (.slice d0 n.incs.length k0) w.heap.size (show w.heap.size ≠ w.heap.size + 2 by omega)))
  replace RR := hide (((unhide RR).of_block (hb.block (w.heap.size + 1) (by omega))).of_block (Below.heap_setCell w1 ⟨w.heap.size + 2, 7, none⟩ (.slice d0 n.incs.length k0) (w.heap.size + 1) (show w.heap.size + 1 ≠ w.heap.size + 2 by omega)))
  replace HB := hide ((below_then (unhide HB) hb).setCell (p := ⟨w.heap.size + 2, 7, none⟩) (show w.heap.size ≤ w.heap.size + 2 by omega) (.slice d0 n.incs.length k0))
  replace HZ : Hid (w.heap.size + 3 ≤ (w1.setCell ⟨w.heap.size + 2, 7, none⟩ (.slice d0 n.incs.length k0)).heap.size) := hide (by rw [show (w1.setCell ⟨w.heap.size + 2, 7, none⟩ (.slice d0 n.incs.length k0)).heap.size = w1.heap.size from by simp]; omega)
  clear hf hb hz hsz ro
  go_upto_region 10 with fail
  clear g z
  generalize w1.setCell ⟨w.heap.size + 2, 7, none⟩ (.slice d0 n.incs.length k0) = W1 at *
  have m8 : W1.cell? ⟨w.heap.size, 8, none⟩ = some (.slice a1 n.vers.length ac1) := (unhide RA).cell (i := 8) (by omega)
  go_wp2_with fail
  clear m8
  refine (toIntS_any _ n.vers _ ((unhide H).v.on (unhide HB)) hl1).mono ?_
  rintro e w2 ⟨u1, rfl, hf, hb⟩
  obtain ⟨d1, k1, e1⟩ := rowsLen hf.at
  subst e1
  have hz := unhide HZ
  have hsz := hb.size
  have D01 := hide (fun (g : Nat) (h1 : Value.ownBlock (.slice d0 n.incs.length k0) = some g) (h2 : Value.ownBlock (.slice d1 n.vers.length k1) = some g) => (by have a := ((unhide F0).blk g h1).2; have b := (hf.blk g h2).1; omega : False))
  have F1 := hide ((hf.less (M := w.heap.size + 3) (by omega)).setOther' (r := w.heap.size + 2) (o := 8) (u := .slice d1 n.vers.length k1) (by omega))
  replace F0 := hide (((unhide F0).on hb).setOther' (r := w.heap.size + 2) (o := 8) (u := .slice d1 n.vers.length k1) (by omega))
  have ro := (unhide RO).of_block (hb.block (w.heap.size + 2) (by omega))
  have g : w2.cell? ⟨w.heap.size + 2, 8, none⟩ = some (.slice none 0 0) := ro.cell (i := 8) (by omega)
  have z : w2.frozen? ⟨w.heap.size + 2, 8, none⟩ = false := ro.frozen 8
  replace RO : Hid ((w2.setCell ⟨w.heap.size + 2, 8, none⟩ (.slice d1 n.vers.length k1)).rowIs (w.heap.size + 2) 27 11 (fun i => [.int .i64 n.kind, .int .i64 n.frm, .int .i64 n.dst, .int .i64 n.inc, .int .i64 n.ver, .int .i64 n.rd, .int .i64 n.g, .slice d0 n.incs.length k0, .slice d1 n.vers.length k1, .slice none 0 0, .slice none 0 0].getD i undef)) := hide (rowL_set ro 8 (by simp) _)
  replace RA := hide (((unhide RA).of_block (hb.block w.heap.size (by omega))).of_block (Below.heap_setCell w2 ⟨w.heap.size + 2, 8, none⟩ (.slice d1 n.vers.length k1) w.heap.size (show w.heap.size ≠ w.heap.size + 2 by omega)))
  replace RR := hide (((unhide RR).of_block (hb.block (w.heap.size + 1) (by omega))).of_block (Below.heap_setCell w2 ⟨w.heap.size + 2, 8, none⟩ (.slice d1 n.vers.length k1) (w.heap.size + 1) (show w.heap.size + 1 ≠ w.heap.size + 2 by omega)))
  replace HB := hide ((below_then (unhide HB) hb).setCell (p := ⟨w.heap.size + 2, 8, none⟩) (show w.heap.size ≤ w.heap.size + 2 by omega) (.slice d1 n.vers.length k1))
  replace HZ : Hid (w.heap.size + 3 ≤ (w2.setCell ⟨w.heap.size + 2, 8, none⟩ (.slice d1 n.vers.length k1)).heap.size) := hide (by rw [show (w2.setCell ⟨w.heap.size + 2, 8, none⟩ (.slice d1 n.vers.length k1)).heap.size = w2.heap.size from by simp]; omega)
  clear hf hb hz hsz ro
  go_upto_region 11 with fail
  clear g z
  generalize w2.setCell ⟨w.heap.size + 2, 8, none⟩ (.slice d1 n.vers.length k1) = W2 at *
  have m9 : W2.cell? ⟨w.heap.size, 9, none⟩ = some (.slice a2 n.evs.length ac2) := (unhide RA).cell (i := 9) (by omega)
  go_wp2_with fail
  clear m9
  refine (toEventS_any _ (n.evs.map evRow) _ ((unhide H).e.on (unhide HB)) (by rw [List.length_map]; exact hl2)).mono ?_
  rintro e w3 ⟨u2, rfl, hf, hb⟩
  obtain ⟨d2, k2, e2⟩ := rowsLen hf.at
  subst e2
  have hz := unhide HZ
  have hsz := hb.size
  have D02 := hide (fun (g : Nat) (h1 : Value.ownBlock (.slice d0 n.incs.length k0) = some g) (h2 : Value.ownBlock (.slice d2 n.evs.length k2) = some g) => (by have a := ((unhide F0).blk g h1).2; have b := (hf.blk g h2).1; omega : False))
  have D12 := hide (fun (g : Nat) (h1 : Value.ownBlock (.slice d1 n.vers.length k1) = some g) (h2 : Value.ownBlock (.slice d2 n.evs.length k2) = some g) => (by have a := ((unhide F1).blk g h1).2; have b := (hf.blk g h2).1; omega : False))
  have F2 := hide ((hf.less (M := w.heap.size + 3) (by omega)).setOther' (r := w.heap.size + 2) (o := 9) (u := .slice d2 n.evs.length k2) (by omega))
  replace F0 := hide (((unhide F0).on hb).setOther' (r := w.heap.size + 2) (o := 9) (u := .slice d2 n.evs.length k2) (by omega))
  replace F1 := hide (((unhide F1).on hb).setOther' (r := w.heap.size + 2) (o := 9) (u := .slice d2 n.evs.length k2) (by omega))
  have ro := (unhide RO).of_block (hb.block (w.heap.size + 2) (by omega))
  have g : w3.cell? ⟨w.heap.size + 2, 9, none⟩ = some (.slice none 0 0) := ro.cell (i := 9) (by omega)
  have z : w3.frozen? ⟨w.heap.size + 2, 9, none⟩ = false := ro.frozen 9
  replace RO : Hid ((w3.setCell ⟨w.heap.size + 2, 9, none⟩ (.slice d2 n.evs.length k2)).rowIs (w.heap.size + 2) 27 11 (fun i => [.int .i64 n.kind, .int .i64 n.frm, .int .i64 n.dst, .int .i64 n.inc, .int .i64 n.ver, .int .i64 n.rd, .int .i64 n.g, .slice d0 n.incs.length k0, .slice d1 n.vers.length k1, .slice d2 n.evs.length k2, .slice none 0 0].getD i undef)) := hide (rowL_set ro 9 (by simp) _)
  replace RA := hide (((unhide RA).of_block (hb.block w.heap.size (by omega))).of_block (Below.heap_setCell w3 ⟨w.heap.size + 2, 9, none⟩ (.slice d2 n.evs.length k2) w.heap.size (show w.heap.size ≠ w.heap.size + 2 by omega)))
  replace RR := hide (((unhide RR).of_block (hb.block (w.heap.size + 1) (by omega))).of_block (Below.heap_setCell w3 ⟨w.heap.size + 2, 9, none⟩ (.slice d2 n.evs.length k2) (w.heap.size + 1) (show w.heap.size + 1 ≠ w.heap.size + 2 by omega)))
  replace HB := hide ((below_then (unhide HB) hb).setCell (p := ⟨w.heap.size + 2, 9, none⟩) (show w.heap.size ≤ w.heap.size + 2 by omega) (.slice d2 n.evs.length k2))
  replace HZ : Hid (w.heap.size + 3 ≤ (w3.setCell ⟨w.heap.size + 2, 9, none⟩ (.slice d2 n.evs.length k2)).heap.size) := hide (by rw [show (w3.setCell ⟨w.heap.size + 2, 9, none⟩ (.slice d2 n.evs.length k2)).heap.size = w3.heap.size from by simp]; omega)
  clear hf hb hz hsz ro
  go_upto_region 12 with fail
  clear g z
  generalize w3.setCell ⟨w.heap.size + 2, 9, none⟩ (.slice d2 n.evs.length k2) = W3 at *
  have m10 : W3.cell? ⟨w.heap.size, 10, none⟩ = some (.slice a3 n.outs.length ac3) := (unhide RA).cell (i := 10) (by omega)
  go_wp2_with fail
  clear m10
  refine (toOutS_any _ (n.outs.map outRow) _ ((unhide H).o.on (unhide HB)) (by rw [List.length_map]; exact hl3)).mono ?_
  rintro e w4 ⟨u3, rfl, hf, hb⟩
  obtain ⟨d3, k3, e3⟩ := rowsLen hf.at
  subst e3
  have hz := unhide HZ
  have hsz := hb.size
  have D03 := hide (fun (g : Nat) (h1 : Value.ownBlock (.slice d0 n.incs.length k0) = some g) (h2 : Value.ownBlock (.slice d3 n.outs.length k3) = some g) => (by have a := ((unhide F0).blk g h1).2; have b := (hf.blk g h2).1; omega : False))
  have D13 := hide (fun (g : Nat) (h1 : Value.ownBlock (.slice d1 n.vers.length k1) = some g) (h2 : Value.ownBlock (.slice d3 n.outs.length k3) = some g) => (by have a := ((unhide F1).blk g h1).2; have b := (hf.blk g h2).1; omega : False))
  have D23 := hide (fun (g : Nat) (h1 : Value.ownBlock (.slice d2 n.evs.length k2) = some g) (h2 : Value.ownBlock (.slice d3 n.outs.length k3) = some g) => (by have a := ((unhide F2).blk g h1).2; have b := (hf.blk g h2).1; omega : False))
  have F3 := hide ((hf.less (M := w.heap.size + 3) (by omega)).setOther' (r := w.heap.size + 2) (o := 10) (u := .slice d3 n.outs.length k3) (by omega))
  replace F0 := hide (((unhide F0).on hb).setOther' (r := w.heap.size + 2) (o := 10) (u := .slice d3 n.outs.length k3) (by omega))
  replace F1 := hide (((unhide F1).on hb).setOther' (r := w.heap.size + 2) (o := 10) (u := .slice d3 n.outs.length k3) (by omega))
  replace F2 := hide (((unhide F2).on hb).setOther' (r := w.heap.size + 2) (o := 10) (u := .slice d3 n.outs.length k3) (by omega))
  have ro := (unhide RO).of_block (hb.block (w.heap.size + 2) (by omega))
  have g : w4.cell? ⟨w.heap.size + 2, 10, none⟩ = some (.slice none 0 0) := ro.cell (i := 10) (by omega)
  have z : w4.frozen? ⟨w.heap.size + 2, 10, none⟩ = false := ro.frozen 10
  replace RO : Hid ((w4.setCell ⟨w.heap.size + 2, 10, none⟩ (.slice d3 n.outs.length k3)).rowIs (w.heap.size + 2) 27 11 (fun i => [.int .i64 n.kind, .int .i64 n.frm, .int .i64 n.dst, .int .i64 n.inc, .int .i64 n.ver, .int .i64 n.rd, .int .i64 n.g, .slice d0 n.incs.length k0, .slice d1 n.vers.length k1, .slice d2 n.evs.length k2, .slice d3 n.outs.length k3].getD i undef)) := hide (rowL_set ro 10 (by simp) _)
  replace RA := hide (((unhide RA).of_block (hb.block w.heap.size (by omega))).of_block (Below.heap_setCell w4 ⟨w.heap.size + 2, 10, none⟩ (.slice d3 n.outs.length k3) w.heap.size (show w.heap.size ≠ w.heap.size + 2 by omega)))
  replace RR := hide (((unhide RR).of_block (hb.block (w.heap.size + 1) (by omega))).of_block (Below.heap_setCell w4 ⟨w.heap.size + 2, 10, none⟩ (.slice d3 n.outs.length k3) (w.heap.size + 1) (show w.heap.size + 1 ≠ w.heap.size + 2 by omega)))
  replace HB := hide ((below_then (unhide HB) hb).setCell (p := ⟨w.heap.size + 2, 10, none⟩) (show w.heap.size ≤ w.heap.size + 2 by omega) (.slice d3 n.outs.length k3))
  replace HZ : Hid (w.heap.size + 3 ≤ (w4.setCell ⟨w.heap.size + 2, 10, none⟩ (.slice d3 n.outs.length k3)).heap.size) := hide (by rw [show (w4.setCell ⟨w.heap.size + 2, 10, none⟩ (.slice d3 n.outs.length k3)).heap.size = w4.heap.size from by simp]; omega)
  clear hf hb hz hsz ro
  go_upto_region 13 with fail
  clear g z
  generalize w4.setCell ⟨w.heap.size + 2, 10, none⟩ (.slice d3 n.outs.length k3) = W4 at *
  have p0 : W4.cell? ⟨w.heap.size + 2, 0, none⟩ = some (.int .i64 n.kind) := (unhide RO).cell (i := 0) (by omega)
  have p1 : W4.cell? ⟨w.heap.size + 2, 1, none⟩ = some (.int .i64 n.frm) := (unhide RO).cell (i := 1) (by omega)
  have p2 : W4.cell? ⟨w.heap.size + 2, 2, none⟩ = some (.int .i64 n.dst) := (unhide RO).cell (i := 2) (by omega)
  have p3 : W4.cell? ⟨w.heap.size + 2, 3, none⟩ = some (.int .i64 n.inc) := (unhide RO).cell (i := 3) (by omega)
  have p4 : W4.cell? ⟨w.heap.size + 2, 4, none⟩ = some (.int .i64 n.ver) := (unhide RO).cell (i := 4) (by omega)
  have p5 : W4.cell? ⟨w.heap.size + 2, 5, none⟩ = some (.int .i64 n.rd) := (unhide RO).cell (i := 5) (by omega)
  have p6 : W4.cell? ⟨w.heap.size + 2, 6, none⟩ = some (.int .i64 n.g) := (unhide RO).cell (i := 6) (by omega)
  have p7 : W4.cell? ⟨w.heap.size + 2, 7, none⟩ = some (.slice d0 n.incs.length k0) := (unhide RO).cell (i := 7) (by omega)
  have p8 : W4.cell? ⟨w.heap.size + 2, 8, none⟩ = some (.slice d1 n.vers.length k1) := (unhide RO).cell (i := 8) (by omega)
  have p9 : W4.cell? ⟨w.heap.size + 2, 9, none⟩ = some (.slice d2 n.evs.length k2) := (unhide RO).cell (i := 9) (by omega)
  have p10 : W4.cell? ⟨w.heap.size + 2, 10, none⟩ = some (.slice d3 n.outs.length k3) := (unhide RO).cell (i := 10) (by omega)
  have r0 : W4.cell? ⟨w.heap.size + 1, 0, none⟩ = some (.int .i64 0) := (unhide RR).cell (i := 0) (by omega)
  have s0 : W4.frozen? ⟨w.heap.size + 1, 0, none⟩ = false := (unhide RR).frozen 0
  have r1 : W4.cell? ⟨w.heap.size + 1, 1, none⟩ = some (.int .i64 0) := (unhide RR).cell (i := 1) (by omega)
  have s1 : W4.frozen? ⟨w.heap.size + 1, 1, none⟩ = false := (unhide RR).frozen 1
  have r2 : W4.cell? ⟨w.heap.size + 1, 2, none⟩ = some (.int .i64 0) := (unhide RR).cell (i := 2) (by omega)
  have s2 : W4.frozen? ⟨w.heap.size + 1, 2, none⟩ = false := (unhide RR).frozen 2
  have r3 : W4.cell? ⟨w.heap.size + 1, 3, none⟩ = some (.int .i64 0) := (unhide RR).cell (i := 3) (by omega)
  have s3 : W4.frozen? ⟨w.heap.size + 1, 3, none⟩ = false := (unhide RR).frozen 3
  have r4 : W4.cell? ⟨w.heap.size + 1, 4, none⟩ = some (.int .i64 0) := (unhide RR).cell (i := 4) (by omega)
  have s4 : W4.frozen? ⟨w.heap.size + 1, 4, none⟩ = false := (unhide RR).frozen 4
  have r5 : W4.cell? ⟨w.heap.size + 1, 5, none⟩ = some (.int .i64 0) := (unhide RR).cell (i := 5) (by omega)
  have s5 : W4.frozen? ⟨w.heap.size + 1, 5, none⟩ = false := (unhide RR).frozen 5
  have r6 : W4.cell? ⟨w.heap.size + 1, 6, none⟩ = some (.int .i64 0) := (unhide RR).cell (i := 6) (by omega)
  have s6 : W4.frozen? ⟨w.heap.size + 1, 6, none⟩ = false := (unhide RR).frozen 6
  have r7 : W4.cell? ⟨w.heap.size + 1, 7, none⟩ = some (.slice none 0 0) := (unhide RR).cell (i := 7) (by omega)
  have s7 : W4.frozen? ⟨w.heap.size + 1, 7, none⟩ = false := (unhide RR).frozen 7
  have r8 : W4.cell? ⟨w.heap.size + 1, 8, none⟩ = some (.slice none 0 0) := (unhide RR).cell (i := 8) (by omega)
  have s8 : W4.frozen? ⟨w.heap.size + 1, 8, none⟩ = false := (unhide RR).frozen 8
  have r9 : W4.cell? ⟨w.heap.size + 1, 9, none⟩ = some (.slice none 0 0) := (unhide RR).cell (i := 9) (by omega)
  have s9 : W4.frozen? ⟨w.heap.size + 1, 9, none⟩ = false := (unhide RR).frozen 9
  have r10 : W4.cell? ⟨w.heap.size + 1, 10, none⟩ = some (.slice none 0 0) := (unhide RR).cell (i := 10) (by omega)
  have s10 : W4.frozen? ⟨w.heap.size + 1, 10, none⟩ = false := (unhide RR).frozen 10
  have EB := hide (setVals_below [.int .i64 n.kind, .int .i64 n.frm, .int .i64 n.dst, .int .i64 n.inc, .int .i64 n.ver, .int .i64 n.rd, .int .i64 n.g, .slice d0 n.incs.length k0, .slice d1 n.vers.length k1, .slice d2 n.evs.length k2, .slice d3 n.outs.length k3] 0 W4 (unhide HB) (show w.heap.size ≤ w.heap.size + 1 by omega))
  have E0 := hide ((unhide F0).setV (r := w.heap.size + 1) (o := 0) (by omega) [.int .i64 n.kind, .int .i64 n.frm, .int .i64 n.dst, .int .i64 n.inc, .int .i64 n.ver, .int .i64 n.rd, .int .i64 n.g, .slice d0 n.incs.length k0, .slice d1 n.vers.length k1, .slice d2 n.evs.length k2, .slice d3 n.outs.length k3])
  have E1 := hide ((unhide F1).setV (r := w.heap.size + 1) (o := 0) (by omega) [.int .i64 n.kind, .int .i64 n.frm, .int .i64 n.dst, .int .i64 n.inc, .int .i64 n.ver, .int .i64 n.rd, .int .i64 n.g, .slice d0 n.incs.length k0, .slice d1 n.vers.length k1, .slice d2 n.evs.length k2, .slice d3 n.outs.length k3])
  have E2 := hide ((unhide F2).setV (r := w.heap.size + 1) (o := 0) (by omega) [.int .i64 n.kind, .int .i64 n.frm, .int .i64 n.dst, .int .i64 n.inc, .int .i64 n.ver, .int .i64 n.rd, .int .i64 n.g, .slice d0 n.incs.length k0, .slice d1 n.vers.length k1, .slice d2 n.evs.length k2, .slice d3 n.outs.length k3])
  have E3 := hide ((unhide F3).setV (r := w.heap.size + 1) (o := 0) (by omega) [.int .i64 n.kind, .int .i64 n.frm, .int .i64 n.dst, .int .i64 n.inc, .int .i64 n.ver, .int .i64 n.rd, .int .i64 n.g, .slice d0 n.incs.length k0, .slice d1 n.vers.length k1, .slice d2 n.evs.length k2, .slice d3 n.outs.length k3])
  clear F0 F1 F2 F3 HB RA RR RO HZ H
  go_wp2_with fail
  refine bodyPost_ret (v := wordAgg n (.slice d0 n.incs.length k0) (.slice d1 n.vers.length k1) (.slice d2 n.evs.length k2) (.slice d3 n.outs.length k3)) (by simp [results, Try.results14, go_sem, r0, r1, r2, r3, r4, r5, r6, r7, r8, r9, r10]) rfl ⟨_, _, _, _, rfl, ⟨(unhide E0).less (by omega), (unhide E1).less (by omega), (unhide E2).less (by omega), (unhide E3).less (by omega)⟩, ⟨unhide D01, unhide D02, unhide D03, unhide D12, unhide D13, unhide D23⟩, unhide EB⟩
end Go.Proofs.Ytiljjhipiinafaa
