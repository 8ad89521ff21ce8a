/- Chains of links in memory: impl.linkLane, impl.lastLink. -/
import Derived.Test.YtjdaedcpjfcpjaaBox
import Derived.Deep.Cut
namespace Go.Proofs.Ytjdaedcpjfcpjaa
open Go.RowKit
set_option linter.unusedVariables false
set_option linter.unusedSimpArgs false

abbrev ptrTo (nx : Option Nat) : Value := .pointer (nx.map fun b => ⟨b, 0, none⟩)
def baseQ (s : StV) : PastV := ⟨⟨0, 0, 0, 0, 0, 0, 0⟩, s, [], []⟩

/-- A link: what was done, and the next one. What its lists are lies in W. -/
def LinkAt (W w : World) (b : Nat) (q : PastV) (nx : Option Nat) : Prop :=
  ∃ vs vo f, w.rowIs b 75 13 f ∧ (∀ j (hj : j < 12), f j = (pastCells q vs vo)[j]) ∧ f 12 = ptrTo nx ∧ PastAt W vs vo q

theorem LinkAt.blk {W w w' : World} {b : Nat} {q : PastV} {nx : Option Nat} (hk : w'.heap[b]? = w.heap[b]?) (h : LinkAt W w b q nx) : LinkAt W w' b q nx := by
  obtain ⟨vs, vo, f, h1, h2, h3, h4⟩ := h
  exact ⟨vs, vo, f, h1.of_block hk, h2, h3, h4⟩

theorem LinkAt.lt {W w : World} {b : Nat} {q : PastV} {nx : Option Nat} (h : LinkAt W w b q nx) : b < w.heap.size := by
  obtain ⟨vs, vo, f, h1, _⟩ := h
  exact h1.lt

theorem LinkAt.cells {W w : World} {b : Nat} {q : PastV} {nx : Option Nat} (h : LinkAt W w b q nx) : ∃ vs vo, CellsAt w b 0 (pastCells q vs vo) ∧ w.cell? ⟨b, 12, none⟩ = some (ptrTo nx) ∧ w.frozen? ⟨b, 12, none⟩ = false ∧ PastAt W vs vo q := by
  obtain ⟨vs, vo, f, h1, h2, h3, h4⟩ := h
  refine ⟨vs, vo, fun j hj => ?_, ?_, h1.frozen 12, h4⟩
  · have hj' : j < 12 := hj
    rw [Nat.zero_add, h1.cell (by omega), h2 j hj']
  · rw [h1.cell (by omega), h3]

structure Chain (W : World) (N : Nat) (w : World) (gs : List Nat) (qs : List PastV) : Prop where
  len : gs.length = qs.length
  lo : ∀ i (h : i < gs.length), N ≤ gs[i]
  asc : ∀ i j (hi : i < gs.length) (hj : j < gs.length), i < j → gs[i] < gs[j]
  node : ∀ i (h : i < gs.length) (h' : i < qs.length), LinkAt W w gs[i] qs[i] gs[i + 1]?

theorem Chain.on {W w w' : World} {N : Nat} {gs : List Nat} {qs : List PastV} (hb : Below w.heap.size w w') (h : Chain W N w gs qs) : Chain W N w' gs qs :=
  ⟨h.len, h.lo, h.asc, fun i hi hi' => (h.node i hi hi').blk (hb.block _ (h.node i hi hi').lt)⟩

theorem Chain.snoc {W w w' : World} {N k b : Nat} {gs : List Nat} {qs : List PastV} {q : PastV} (h : Chain W N w gs qs) (hk : k + 1 = gs.length) (hk' : k < gs.length) (hk2 : k < qs.length) (hb : w.heap.size ≤ b)
    (ho : ∀ c, c < w.heap.size → c ≠ gs[k] → w'.heap[c]? = w.heap[c]?) (h1 : LinkAt W w' gs[k] qs[k] (some b)) (h2 : LinkAt W w' b q none) : Chain W N w' (gs ++ [b]) (qs ++ [q]) := by
  have hlt : ∀ i (hi : i < gs.length), gs[i] < w.heap.size := fun i hi => (h.node i hi (by rw [← h.len]; exact hi)).lt
  refine ⟨by simp [h.len], fun i hi => ?_, fun i j hi hj hij => ?_, fun i hi hi' => ?_⟩
  · by_cases e : i < gs.length
    · rw [List.getElem_append_left e]; exact h.lo i e
    · rw [List.getElem_append_right (by omega)]
      have := h.lo k hk'
      have := hlt k hk'
      simp; omega
  · have hi2 : i < gs.length := by simp at hj; omega
    rw [List.getElem_append_left hi2]
    by_cases e : j < gs.length
    · rw [List.getElem_append_left e]; exact h.asc i j hi2 e hij
    · rw [List.getElem_append_right (by omega)]
      have := hlt i hi2
      simp; omega
  · by_cases e : i < gs.length
    · have e' : i < qs.length := by rw [← h.len]; exact e
      rw [List.getElem_append_left e, List.getElem_append_left e']
      by_cases e2 : i = k
      · subst e2
        rw [List.getElem?_append_right (by omega), show i + 1 - gs.length = 0 by omega]
        exact h1
      · have hi1 : i + 1 < gs.length := by omega
        rw [List.getElem?_append_left hi1]
        have hlk := h.asc i k e hk' (by omega)
        exact (h.node i e e').blk (ho _ (hlt i e) (by omega))
    · obtain rfl : i = gs.length := by simp at hi; omega
      have e3 : gs.length = qs.length := h.len
      rw [List.getElem_append_right (by omega), List.getElem_append_right (by omega), List.getElem?_append_right (by omega)]
      simp only [e3, Nat.sub_self, List.getElem_cons_zero, show qs.length + 1 - qs.length = 1 by omega, List.getElem?_cons_succ, List.getElem?_nil]
      exact h2

theorem linkRow_new {W w : World} {b : Nat} {q : PastV} {vs vo : Value} (nx : Option Nat) (hr : w.rowIs b 75 13 (fun i => (pastCells q vs vo ++ [ptrTo nx]).getD i undef)) (hp : PastAt W vs vo q) : LinkAt W w b q nx :=
  ⟨vs, vo, _, hr, fun j hj => by
    have h1 : j < (pastCells q vs vo).length := hj
    simp only [List.getD_eq_getElem?_getD, List.getElem?_append_left h1, List.getElem?_eq_getElem h1, Option.getD_some], rfl, hp⟩

theorem LinkAt.next {W w : World} {b : Nat} {q : PastV} {nx : Option Nat} (n2 : Option Nat) (h : LinkAt W w b q nx) : LinkAt W (w.setCell ⟨b, 12, none⟩ (ptrTo n2)) b q n2 := by
  obtain ⟨vs, vo, f, h1, h2, h3, h4⟩ := h
  refine ⟨vs, vo, _, h1.set 12 (ptrTo n2), fun j hj => ?_, ?_, h4⟩
  · show (if j = 12 then _ else f j) = _
    rw [if_neg (by omega)]; exact h2 j hj
  · show (if 12 = 12 then _ else f 12) = _
    rw [if_pos rfl]

theorem nilPast (W : World) (s : StV) : PastAt W (.slice none 0 0) (.slice none 0 0) (baseQ s) :=
  ⟨⟨none, 0, rfl, Nat.le_refl _, Nat.zero_le _, Or.inl rfl⟩, ⟨none, 0, rfl, Nat.le_refl _, Nat.zero_le _, Or.inl rfl⟩⟩

set_option maxRecDepth 100000 in
set_option maxHeartbeats 2000000 in
theorem linkLane_any (proc : Int) (s : StV) (v : Value) (ps : List PastV) (w : World) (h : PastsAt w v ps) :
    Calls Try.prog 50 #[laneAgg proc s v] w fun e w' => ∃ g gs, e = .returned (.pointer (some ⟨g, 0, none⟩)) ∧ Chain w w.heap.size w' (g :: gs) (baseQ s :: ps) ∧ Below w.heap.size w w' := by
  obtain ⟨a1, c1, rfl, hlc, hm, hcells⟩ := h
  unfold maxLen at hm
  have HC := hide hcells
  clear hcells
  have hb1 : Below w.heap.size w ((w.alloc (.cells #[.int .i64 proc, .int .i64 s.x, .int .i64 s.y, .int .i64 s.c, .slice a1 ps.length c1] 32)).alloc (.cells #[.int .i64 0, .int .i64 0, .int .i64 0, .int .i64 0, .int .i64 0, .int .i64 0, .int .i64 0, .int .i64 s.x, .int .i64 s.y, .int .i64 s.c, .slice none 0 0, .slice none 0 0, .pointer none] 75)) := ((Below.refl _ _).alloc (Nat.le_refl _) _).alloc (by simp) _
  have hr1 : ((w.alloc (.cells #[.int .i64 proc, .int .i64 s.x, .int .i64 s.y, .int .i64 s.c, .slice a1 ps.length c1] 32)).alloc (.cells #[.int .i64 0, .int .i64 0, .int .i64 0, .int .i64 0, .int .i64 0, .int .i64 0, .int .i64 0, .int .i64 s.x, .int .i64 s.y, .int .i64 s.c, .slice none 0 0, .slice none 0 0, .pointer none] 75)).rowIs (w.heap.size + 1) 75 13 (fun i => (pastCells (baseQ s) (.slice none 0 0) (.slice none 0 0) ++ [ptrTo none]).getD i undef) := by
    have e := row_new (w.alloc (.cells #[.int .i64 proc, .int .i64 s.x, .int .i64 s.y, .int .i64 s.c, .slice a1 ps.length c1] 32)) (pastCells (baseQ s) (.slice none 0 0) (.slice none 0 0) ++ [ptrTo none]) 75
    have hs : (w.alloc (.cells #[.int .i64 proc, .int .i64 s.x, .int .i64 s.y, .int .i64 s.c, .slice a1 ps.length c1] 32)).heap.size = w.heap.size + 1 := by simp
    rw [hs] at e
    exact e
  have HB1 := hide hb1
  have HR1 := hide hr1
  clear hb1 hr1
  go_enter Try.func50, Try.ntmps50
  go_wp2_with fail
  generalize ((w.alloc (.cells #[.int .i64 proc, .int .i64 s.x, .int .i64 s.y, .int .i64 s.c, .slice a1 ps.length c1] 32)).alloc (.cells #[.int .i64 0, .int .i64 0, .int .i64 0, .int .i64 0, .int .i64 0, .int .i64 0, .int .i64 0, .int .i64 s.x, .int .i64 s.y, .int .i64 s.c, .slice none 0 0, .slice none 0 0, .pointer none] 75)) = w1 at *
  go_loopw [4, 16] (fun l i wr => ∃ (k g : Nat) (gs : List Nat) (hg : k < ((w.heap.size + 1) :: gs).length), k ≤ ps.length ∧ i = .int .i64 k ∧ l = .pointer (some ⟨g, 0, none⟩) ∧ Hid (g = ((w.heap.size + 1) :: gs)[k]) ∧ Hid (k + 1 = ((w.heap.size + 1) :: gs).length) ∧ Hid (Chain w w.heap.size wr ((w.heap.size + 1) :: gs) (baseQ s :: ps.take k)) ∧ Hid (Below w.heap.size w wr)) (fun _ i _ => ps.length - (intOf i).toNat)
  case atStart =>
    refine ⟨0, w.heap.size + 1, [], by simp, Nat.zero_le _, rfl, rfl, hide rfl, hide rfl, hide ⟨rfl, fun i hi => ?_, fun i j hi hj hij => ?_, fun i hi hi' => ?_⟩, HB1⟩
    · obtain rfl : i = 0 := by simpa using hi
      simp
    · simp at hi hj; omega
    · obtain rfl : i = 0 := by simpa using hi
      exact linkRow_new none (unhide HR1) (nilPast w s)
  case round =>
    obtain ⟨k, g, gs, hg, hk, rfl, rfl, HG, HK, HCH, HB⟩ := hrel
    have hbw := (unhide HB).size
    by_cases hlt : k < ps.length
    · obtain ⟨b, off, vs, vo, had, hc, hp⟩ : ∃ b off vs vo, a1 = some ⟨b, off, none⟩ ∧ CellsAt wr b (off + k * 12) (pastCells ps[k] vs vo) ∧ PastAt w vs vo ps[k] := by
        rcases unhide HC with h | ⟨b, off, h1, h2⟩
        · rw [h] at hlt; exact absurd hlt (Nat.not_lt_zero _)
        · obtain ⟨vs, vo, h3, h4⟩ := h2 k hlt
          exact ⟨b, off, vs, vo, h1, h3.on (unhide HB), h4⟩
      have hkI : (k : Int) < (ps.length : Int) := by omega
      have hk0 : (0 : Int) ≤ (k : Int) := by omega
      subst had
      have HTK := hide (take_more ps k hlt)
      obtain ⟨p, hpe⟩ : ∃ p, p = ps[k] := ⟨_, rfl⟩
      rw [← hpe] at hc hp HTK
      clear hpe
      obtain ⟨e1, k1, h1, _⟩ := hp.s
      obtain ⟨e2, k2, h2, _⟩ := hp.o
      rw [List.length_map] at h1 h2
      subst h1 h2
      have HLK := hide ((unhide HCH).node k hg (by have := (unhide HCH).len; simp at this hg ⊢; omega))
      rw [← unhide HG] at HLK
      have hgl := (unhide HLK).lt
      have q0 : wr.cell? ⟨b, off + k * 12, none⟩ = some (.int .i64 p.ev.time) := hc 0 (by simp)
      have q1 : wr.cell? ⟨b, off + k * 12 + 1, none⟩ = some (.int .i64 p.ev.to) := hc 1 (by simp)
      have q2 : wr.cell? ⟨b, off + k * 12 + 2, none⟩ = some (.int .i64 p.ev.src) := hc 2 (by simp)
      have q3 : wr.cell? ⟨b, off + k * 12 + 3, none⟩ = some (.int .i64 p.ev.count) := hc 3 (by simp)
      have q4 : wr.cell? ⟨b, off + k * 12 + 4, none⟩ = some (.int .i64 p.ev.n) := hc 4 (by simp)
      have q5 : wr.cell? ⟨b, off + k * 12 + 5, none⟩ = some (.int .i64 p.ev.kind) := hc 5 (by simp)
      have q6 : wr.cell? ⟨b, off + k * 12 + 6, none⟩ = some (.int .i64 p.ev.arg) := hc 6 (by simp)
      have q7 : wr.cell? ⟨b, off + k * 12 + 7, none⟩ = some (.int .i64 p.st.x) := hc 7 (by simp)
      have q8 : wr.cell? ⟨b, off + k * 12 + 8, none⟩ = some (.int .i64 p.st.y) := hc 8 (by simp)
      have q9 : wr.cell? ⟨b, off + k * 12 + 9, none⟩ = some (.int .i64 p.st.c) := hc 9 (by simp)
      have q10 : wr.cell? ⟨b, off + k * 12 + 10, none⟩ = some (.slice e1 p.sends.length k1) := hc 10 (by simp)
      have q11 : wr.cell? ⟨b, off + k * 12 + 11, none⟩ = some (.slice e2 p.outs.length k2) := hc 11 (by simp)
      have hnx : wr.cell? ⟨g, 12, none⟩ = some (.pointer none) := by
        obtain ⟨_, _, _, h1, _⟩ := (unhide HLK).cells
        have e : ((w.heap.size + 1) :: gs)[k + 1]? = none := List.getElem?_eq_none (by have := unhide HK; omega)
        rw [e] at h1
        exact h1
      have hfz : wr.frozen? ⟨g, 12, none⟩ = false := by
        obtain ⟨_, _, _, _, h1, _⟩ := (unhide HLK).cells
        exact h1
      have hne1 : g ≠ wr.heap.size := by omega
      have hne2 : g ≠ wr.heap.size + 1 := by omega
      have HP := hide hp
      clear hc hp
      go_wp2_with fail
      go_roundw
      case rel =>
        have hsz : (wr.setCell ⟨g, 12, none⟩ (.pointer (some ⟨wr.heap.size + 1, 0, none⟩))).heap.size = wr.heap.size := by simp
        have hbA : Below (wr.setCell ⟨g, 12, none⟩ (.pointer (some ⟨wr.heap.size + 1, 0, none⟩))).heap.size (wr.setCell ⟨g, 12, none⟩ (.pointer (some ⟨wr.heap.size + 1, 0, none⟩))) (((wr.setCell ⟨g, 12, none⟩ (.pointer (some ⟨wr.heap.size + 1, 0, none⟩))).alloc (.cells #[.int .i64 p.ev.time, .int .i64 p.ev.to, .int .i64 p.ev.src, .int .i64 p.ev.count, .int .i64 p.ev.n, .int .i64 p.ev.kind, .int .i64 p.ev.arg, .int .i64 p.st.x, .int .i64 p.st.y, .int .i64 p.st.c, .slice e1 p.sends.length k1, .slice e2 p.outs.length k2] 65)).alloc (.cells #[.int .i64 p.ev.time, .int .i64 p.ev.to, .int .i64 p.ev.src, .int .i64 p.ev.count, .int .i64 p.ev.n, .int .i64 p.ev.kind, .int .i64 p.ev.arg, .int .i64 p.st.x, .int .i64 p.st.y, .int .i64 p.st.c, .slice e1 p.sends.length k1, .slice e2 p.outs.length k2, .pointer none] 75)) := ((Below.refl _ _).alloc (Nat.le_refl _) _).alloc (by simp) _
        rw [hsz] at hbA
        have hB2 : Below w.heap.size w (((wr.setCell ⟨g, 12, none⟩ (.pointer (some ⟨wr.heap.size + 1, 0, none⟩))).alloc (.cells #[.int .i64 p.ev.time, .int .i64 p.ev.to, .int .i64 p.ev.src, .int .i64 p.ev.count, .int .i64 p.ev.n, .int .i64 p.ev.kind, .int .i64 p.ev.arg, .int .i64 p.st.x, .int .i64 p.st.y, .int .i64 p.st.c, .slice e1 p.sends.length k1, .slice e2 p.outs.length k2] 65)).alloc (.cells #[.int .i64 p.ev.time, .int .i64 p.ev.to, .int .i64 p.ev.src, .int .i64 p.ev.count, .int .i64 p.ev.n, .int .i64 p.ev.kind, .int .i64 p.ev.arg, .int .i64 p.st.x, .int .i64 p.st.y, .int .i64 p.st.c, .slice e1 p.sends.length k1, .slice e2 p.outs.length k2, .pointer none] 75)) := ((unhide HB).setCell (p := ⟨g, 12, none⟩) (by show w.heap.size ≤ g; rw [unhide HG]; exact (unhide HCH).lo k hg) _).trans (hbA.mono hbw)
        have hrA : (((wr.setCell ⟨g, 12, none⟩ (.pointer (some ⟨wr.heap.size + 1, 0, none⟩))).alloc (.cells #[.int .i64 p.ev.time, .int .i64 p.ev.to, .int .i64 p.ev.src, .int .i64 p.ev.count, .int .i64 p.ev.n, .int .i64 p.ev.kind, .int .i64 p.ev.arg, .int .i64 p.st.x, .int .i64 p.st.y, .int .i64 p.st.c, .slice e1 p.sends.length k1, .slice e2 p.outs.length k2] 65)).alloc (.cells #[.int .i64 p.ev.time, .int .i64 p.ev.to, .int .i64 p.ev.src, .int .i64 p.ev.count, .int .i64 p.ev.n, .int .i64 p.ev.kind, .int .i64 p.ev.arg, .int .i64 p.st.x, .int .i64 p.st.y, .int .i64 p.st.c, .slice e1 p.sends.length k1, .slice e2 p.outs.length k2, .pointer none] 75)).rowIs (wr.heap.size + 1) 75 13 (fun i => (pastCells p (.slice e1 p.sends.length k1) (.slice e2 p.outs.length k2) ++ [ptrTo none]).getD i undef) := by
          have e := row_new ((wr.setCell ⟨g, 12, none⟩ (.pointer (some ⟨wr.heap.size + 1, 0, none⟩))).alloc (.cells #[.int .i64 p.ev.time, .int .i64 p.ev.to, .int .i64 p.ev.src, .int .i64 p.ev.count, .int .i64 p.ev.n, .int .i64 p.ev.kind, .int .i64 p.ev.arg, .int .i64 p.st.x, .int .i64 p.st.y, .int .i64 p.st.c, .slice e1 p.sends.length k1, .slice e2 p.outs.length k2] 65)) (pastCells p (.slice e1 p.sends.length k1) (.slice e2 p.outs.length k2) ++ [ptrTo none]) 75
          have hs : ((wr.setCell ⟨g, 12, none⟩ (.pointer (some ⟨wr.heap.size + 1, 0, none⟩))).alloc (.cells #[.int .i64 p.ev.time, .int .i64 p.ev.to, .int .i64 p.ev.src, .int .i64 p.ev.count, .int .i64 p.ev.n, .int .i64 p.ev.kind, .int .i64 p.ev.arg, .int .i64 p.st.x, .int .i64 p.st.y, .int .i64 p.st.c, .slice e1 p.sends.length k1, .slice e2 p.outs.length k2] 65)).heap.size = wr.heap.size + 1 := by simp
          rw [hs] at e
          exact e
        have hlk2 : LinkAt w (((wr.setCell ⟨g, 12, none⟩ (.pointer (some ⟨wr.heap.size + 1, 0, none⟩))).alloc (.cells #[.int .i64 p.ev.time, .int .i64 p.ev.to, .int .i64 p.ev.src, .int .i64 p.ev.count, .int .i64 p.ev.n, .int .i64 p.ev.kind, .int .i64 p.ev.arg, .int .i64 p.st.x, .int .i64 p.st.y, .int .i64 p.st.c, .slice e1 p.sends.length k1, .slice e2 p.outs.length k2] 65)).alloc (.cells #[.int .i64 p.ev.time, .int .i64 p.ev.to, .int .i64 p.ev.src, .int .i64 p.ev.count, .int .i64 p.ev.n, .int .i64 p.ev.kind, .int .i64 p.ev.arg, .int .i64 p.st.x, .int .i64 p.st.y, .int .i64 p.st.c, .slice e1 p.sends.length k1, .slice e2 p.outs.length k2, .pointer none] 75)) g ((baseQ s :: ps.take k)[k]'(by simp; omega)) (some (wr.heap.size + 1)) :=
          ((unhide HLK).next (some (wr.heap.size + 1))).blk (hbA.block g hgl)
        have hlk3 : LinkAt w (((wr.setCell ⟨g, 12, none⟩ (.pointer (some ⟨wr.heap.size + 1, 0, none⟩))).alloc (.cells #[.int .i64 p.ev.time, .int .i64 p.ev.to, .int .i64 p.ev.src, .int .i64 p.ev.count, .int .i64 p.ev.n, .int .i64 p.ev.kind, .int .i64 p.ev.arg, .int .i64 p.st.x, .int .i64 p.st.y, .int .i64 p.st.c, .slice e1 p.sends.length k1, .slice e2 p.outs.length k2] 65)).alloc (.cells #[.int .i64 p.ev.time, .int .i64 p.ev.to, .int .i64 p.ev.src, .int .i64 p.ev.count, .int .i64 p.ev.n, .int .i64 p.ev.kind, .int .i64 p.ev.arg, .int .i64 p.st.x, .int .i64 p.st.y, .int .i64 p.st.c, .slice e1 p.sends.length k1, .slice e2 p.outs.length k2, .pointer none] 75)) (wr.heap.size + 1) p none := linkRow_new none hrA (unhide HP)
        have hch := (unhide HCH).snoc (unhide HK) hg (by simp; omega) (Nat.le_succ wr.heap.size) (w' := (((wr.setCell ⟨g, 12, none⟩ (.pointer (some ⟨wr.heap.size + 1, 0, none⟩))).alloc (.cells #[.int .i64 p.ev.time, .int .i64 p.ev.to, .int .i64 p.ev.src, .int .i64 p.ev.count, .int .i64 p.ev.n, .int .i64 p.ev.kind, .int .i64 p.ev.arg, .int .i64 p.st.x, .int .i64 p.st.y, .int .i64 p.st.c, .slice e1 p.sends.length k1, .slice e2 p.outs.length k2] 65)).alloc (.cells #[.int .i64 p.ev.time, .int .i64 p.ev.to, .int .i64 p.ev.src, .int .i64 p.ev.count, .int .i64 p.ev.n, .int .i64 p.ev.kind, .int .i64 p.ev.arg, .int .i64 p.st.x, .int .i64 p.st.y, .int .i64 p.st.c, .slice e1 p.sends.length k1, .slice e2 p.outs.length k2, .pointer none] 75))) (q := p)
          (fun c hc hcg => (hbA.block c hc).trans (Below.heap_setCell wr ⟨g, 12, none⟩ _ c (by rw [unhide HG]; exact hcg))) (by rw [← unhide HG]; exact hlk2) hlk3
        have htk := unhide HTK
        refine ⟨k + 1, wr.heap.size + 1, gs ++ [wr.heap.size + 1], ?_, by omega, by simp, rfl, hide ?_, hide ?_, hide ?_, hide ?_⟩
        · have := unhide HK; simp at this ⊢; omega
        · have := unhide HK
          simp at this
          subst this
          simp
        · have := unhide HK; simp at this ⊢; omega
        · rw [htk]; exact hch
        · exact hB2
      case measure => (simp [intOf]; try omega)
    · have hke : k = ps.length := by omega
      have hkI : ¬ (k : Int) < (ps.length : Int) := by omega
      go_wp2_with fail
      go_ret
      refine ⟨_, rfl, ⟨gs, ?_⟩, unhide HB⟩
      have := unhide HCH
      rw [hke, List.take_length] at this
      exact this

set_option maxRecDepth 100000 in
set_option maxHeartbeats 1000000 in
theorem lastLink_any (W : World) (N : Nat) (g : Nat) (gs : List Nat) (qs : List PastV) (w : World) (h : Chain W N w (g :: gs) qs) :
    Calls Try.prog 49 #[.pointer (some ⟨g, 0, none⟩)] w fun e w' => e = .returned (.pointer (some ⟨(g :: gs)[gs.length]'(by simp), 0, none⟩)) ∧ w' = w := by
  have H := hide h
  have hl := h.len
  simp only [List.length_cons] at hl
  clear h
  go_enter Try.func49, Try.ntmps49
  go_wp2_with fail
  go_loop [0] (fun l => ∃ (k g2 : Nat) (hk : k < (g :: gs).length), l = .pointer (some ⟨g2, 0, none⟩) ∧ Hid (g2 = (g :: gs)[k])) (fun l => match l with | .pointer (some a) => (g :: gs)[gs.length]'(by simp) - a.block | _ => 0)
  case atStart => exact ⟨0, g, by simp, rfl, hide rfl⟩
  case round =>
    obtain ⟨k, g2, hk, rfl, HG⟩ := hrel
    have HLK := hide ((unhide H).node k hk (by simp at hk; omega))
    rw [← unhide HG] at HLK
    by_cases hlast : k = gs.length
    · have hnx : w.cell? ⟨g2, 12, none⟩ = some (.pointer none) := by
        obtain ⟨_, _, _, h1, _⟩ := (unhide HLK).cells
        have e : (g :: gs)[k + 1]? = none := List.getElem?_eq_none (by simp; omega)
        rw [e] at h1
        exact h1
      go_wp2_with fail
      go_ret
      exact ⟨by rw [unhide HG]; subst hlast; rfl, rfl⟩
    · have hk1 : k + 1 < (g :: gs).length := by simp at hk ⊢; omega
      obtain ⟨g3, hg3⟩ : ∃ g3, g3 = (g :: gs)[k + 1] := ⟨_, rfl⟩
      have hnx : w.cell? ⟨g2, 12, none⟩ = some (.pointer (some ⟨g3, 0, none⟩)) := by
        obtain ⟨_, _, _, h1, _⟩ := (unhide HLK).cells
        rw [List.getElem?_eq_getElem hk1, ← hg3] at h1
        exact h1
      have HG3 := hide hg3
      clear hg3
      go_wp2_with fail
      go_round
      case rel => exact ⟨k + 1, g3, hk1, rfl, HG3⟩
      case measure =>
        have a1 := (unhide H).asc k (k + 1) hk hk1 (by omega)
        have a2 : (g :: gs)[k + 1] ≤ (g :: gs)[gs.length]'(by simp) := by
          by_cases e : k + 1 = gs.length
          · simp [e]
          · exact Nat.le_of_lt ((unhide H).asc (k + 1) gs.length hk1 (by simp) (by simp at hk1; omega))
        have a3 := unhide HG
        have a4 := unhide HG3
        simp only
        omega
end Go.Proofs.Ytjdaedcpjfcpjaa
