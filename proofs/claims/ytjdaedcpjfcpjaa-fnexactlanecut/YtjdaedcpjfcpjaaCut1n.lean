/- impl.cutLane and impl.LaneCut. -/
import Derived.Test.YtjdaedcpjfcpjaaNext1
import Derived.Test.YtjdaedcpjfcpjaaCopy3
import Derived.Test.YtjdaedcpjfcpjaaHeld
namespace Go.Proofs.Ytjdaedcpjfcpjaa
open Go.RowKit
set_option linter.unusedVariables false
set_option linter.unusedSimpArgs false

def laneCut (proc : Int) (s : StV) (ps : List PastV) (es : List EvV) (n : Nat) : (Int × StV × List PastV) × Bool :=
  if laneOk proc s ps = true ∧ cameOk proc es = true then ((proc, s, ps.take n), decide (n < ps.length)) else ((0, ⟨0, 0, 0⟩, []), false)

theorem Chain.cut {W w w' : World} {N n : Nat} {gs : List Nat} {qs : List PastV} (h : Chain W N w gs qs) (hn : n < gs.length) (hn' : n < qs.length) (hb : ∀ c, c < w.heap.size → c ≠ gs[n] → w'.heap[c]? = w.heap[c]?) (hl : LinkAt W w' gs[n] qs[n] none) : Chain W N w' (gs.take (n + 1)) (qs.take (n + 1)) := by
  have hlen := h.len
  refine ⟨by simp; omega, fun i hi => ?_, fun i j hi hj hij => ?_, fun i hi hi' => ?_⟩
  · rw [List.getElem_take]; exact h.lo i (by simp at hi; omega)
  · rw [List.getElem_take, List.getElem_take]; exact h.asc i j (by simp at hi; omega) (by simp at hj; omega) hij
  · have hi2 : i < gs.length := by simp at hi; omega
    have hi3 : i < qs.length := by omega
    have hin : i ≤ n := by simp at hi; omega
    rw [List.getElem_take, List.getElem_take]
    by_cases e : i = n
    · subst e
      rw [List.getElem?_eq_none (by simp; omega)]
      exact hl
    · rw [List.getElem?_take_of_lt (by omega)]
      have hne : gs[i] ≠ gs[n] := by have := h.asc i n hi2 hn (by omega); omega
      exact (h.node i hi2 hi3).blk (hb _ (h.node i hi2 hi3).lt hne)

set_option maxRecDepth 100000 in
set_option maxHeartbeats 2000000 in
theorem partCut_any (W : World) (N g : Nat) (gs : List Nat) (s : StV) (ps : List PastV) (v : Value) (es : List EvV) (c1 : Value) (Q : World → Prop) (w : World) (hch : Chain W N w (g :: gs) (baseQ s :: ps)) (h : RowsAt 7 w v (es.map evRow))
    (hdo : ∀ n v' w' (hn : n < (g :: gs).length), Same ps es n → RowsAt 7 w' v' ((es.drop n).map evRow) → Below w.heap.size w w' → Calls Try.prog 83 #[.pointer (some ⟨(g :: gs)[n], 0, none⟩), v', c1] w' fun e w'' => e = .returned (.tuple #[]) ∧ Q w'') :
    Calls Try.prog 56 #[.pointer (some ⟨g, 0, none⟩), v, .func (.func 83) #[] #[c1]] w fun e w'' => e = .returned (.tuple #[]) ∧ Q w'' := by
  have HCH := hide hch
  have hlen : gs.length = ps.length := by have := hch.len; simpa using this
  have HE := hide h
  have HDO := hide hdo
  have HLEN := hide hlen
  obtain ⟨_, _, hm2⟩ : ∃ ad cap, es.length ≤ maxLen := by
    obtain ⟨ad, cap, _, _, hm, _⟩ := rows_ev h
    exact ⟨ad, cap, hm⟩
  unfold maxLen at hm2
  clear hch h hdo hlen
  go_enter Try.func56, Try.ntmps56
  go_wp2_with fail
  go_loopw [6, 1] (fun l c wr => ∃ (k g2 : Nat) (hk : k < (g :: gs).length) (rest : List EvV) (ad : Option Addr) (cap : Nat), k ≤ es.length ∧ l = .pointer (some ⟨g2, 0, none⟩) ∧ c = .slice ad rest.length cap ∧ rest.length ≤ cap ∧ Hid (g2 = (g :: gs)[k]) ∧ Hid (rest = es.drop k) ∧ Hid (RowsAt 7 wr c (rest.map evRow)) ∧ Hid (∀ i (h : i < ps.length) (h' : i < es.length), i < k → ps[i].ev = es[i]) ∧ Hid (Below w.heap.size w wr)) (fun l _ _ => match l with | .pointer (some a) => (g :: gs)[gs.length]'(by simp) - a.block | _ => 0)
  case atStart =>
    obtain ⟨ad, cap, hv, hc, hm, _⟩ := rows_ev (unhide HE)
    exact ⟨0, g, by simp, es, ad, cap, Nat.zero_le _, rfl, hv, hc, hide rfl, hide rfl, HE, hide (fun i _ _ h => absurd h (Nat.not_lt_zero _)), hide (Below.refl _ _)⟩
  case round =>
    obtain ⟨k, g2, hk, rest, ad, cap, hk2, rfl, rfl, hrc, HG, HREST, HRA, HL, HB⟩ := hrel
    have hkn : k ≤ gs.length := by simp at hk; omega
    have HLK := hide (((unhide HCH).on (unhide HB)).node k hk (by have := unhide HLEN; simp; omega))
    rw [← unhide HG] at HLK
    have hrl : rest.length ≤ es.length := by rw [unhide HREST]; simp
    by_cases hlast : k = gs.length
    · have hnx : wr.cell? ⟨g2, 12, none⟩ = some (.pointer none) := by
        obtain ⟨_, _, _, h1, _⟩ := (unhide HLK).cells
        have e : (g :: gs)[k + 1]? = none := List.getElem?_eq_none (by simp; omega)
        rw [e] at h1
        exact h1
      have HS : Hid (Same ps es k) := hide ⟨by have := unhide HLEN; omega, hk2, unhide HL, fun h => by have := unhide HLEN; omega⟩
      clear hlast
      go_upto_region 1 with fail
      go_quiet (fail)
      go_wp2_with fail
      rw [unhide HG]
      refine ((unhide HDO) k _ _ hk (unhide HS) (by rw [← unhide HREST]; exact (unhide HRA).on (below_drewN (Below.refl _ _) _)) (below_then (unhide HB) (below_drewN (Below.refl _ _) _))).mono ?_
      rintro e w2 ⟨rfl, hq⟩
      go_wp2_with fail
      exact bodyPost_end (results_none rfl _ _ _) rfl ⟨rfl, hq⟩
    have hk1 : k + 1 < (g :: gs).length := by simp; omega
    have hkp : k < ps.length := by have := unhide HLEN; omega
    obtain ⟨g3, hg3⟩ : ∃ g3, g3 = (g :: gs)[k + 1] := ⟨_, rfl⟩
    have hnx : wr.cell? ⟨g2, 12, none⟩ = some (.pointer (some ⟨g3, 0, none⟩)) := by
      obtain ⟨_, _, _, h1, _⟩ := (unhide HLK).cells
      rw [List.getElem?_eq_getElem hk1, ← hg3] at h1
      exact h1
    have HLK3 := hide (((unhide HCH).on (unhide HB)).node (k + 1) hk1 (by simp; omega))
    rw [← hg3] at HLK3
    have HG3 := hide hg3
    clear hg3 hlast
    cases rest with
    | nil =>
      have HS : Hid (Same ps es k) := hide ⟨by omega, hk2, unhide HL, fun _ h => by
        have := congrArg List.length (unhide HREST)
        simp at this
        omega⟩
      have hd2 : decide ((0 : Int) < ((([] : List EvV).length : Nat) : Int)) = false := by simp
      go_upto_region 1 with fail
      go_quiet (fail)
      go_wp2_with fail
      rw [unhide HG]
      refine ((unhide HDO) k _ _ hk (unhide HS) (by rw [← unhide HREST]; exact (unhide HRA).on (below_drewN (Below.refl _ _) _)) (below_then (unhide HB) (below_drewN (Below.refl _ _) _))).mono ?_
      rintro e w2 ⟨rfl, hq⟩
      go_wp2_with fail
      exact bodyPost_end (results_none rfl _ _ _) rfl ⟨rfl, hq⟩
    | cons x xs =>
      have hke : k < es.length := by
        have := congrArg List.length (unhide HREST)
        simp at this
        omega
      have HXK : Hid (x = es[k] ∧ xs = es.drop (k + 1)) := hide (by
        have h1 := unhide HREST
        rw [List.drop_eq_getElem_cons hke] at h1
        exact ⟨(List.cons.inj h1).1, (List.cons.inj h1).2⟩)
      obtain ⟨b, off, had, hcc⟩ : ∃ b off, ad = some ⟨b, off, none⟩ ∧ CellsAt wr b off (evCells x) := by
        obtain ⟨ad', cap', hv, _, _, hc⟩ := rows_ev (unhide HRA)
        obtain ⟨b, off, h1, h2⟩ := hc (by simp)
        simp only [Value.slice.injEq] at hv
        obtain ⟨rfl, _, _⟩ := hv
        have h3 := h2 0 (by simp)
        simp only [Nat.zero_mul, Nat.add_zero, List.getElem_cons_zero] at h3
        exact ⟨b, off, h1, h3⟩
      subst had
      obtain ⟨p, hpe⟩ : ∃ p, p = ps[k] := ⟨_, rfl⟩
      have HPE := hide hpe
      obtain ⟨vs, vo, hcp, -⟩ := (unhide HLK3).cells
      simp only [List.getElem_cons_succ] at hcp
      rw [← hpe] at hcp
      clear hpe
      have p0 : wr.cell? ⟨g3, 0, none⟩ = some (.int .i64 p.ev.time) := hcp 0 (by simp)
      have p1 : wr.cell? ⟨g3, 1, none⟩ = some (.int .i64 p.ev.to) := hcp 1 (by simp)
      have p2 : wr.cell? ⟨g3, 2, none⟩ = some (.int .i64 p.ev.src) := hcp 2 (by simp)
      have p3 : wr.cell? ⟨g3, 3, none⟩ = some (.int .i64 p.ev.count) := hcp 3 (by simp)
      have p4 : wr.cell? ⟨g3, 4, none⟩ = some (.int .i64 p.ev.n) := hcp 4 (by simp)
      have p5 : wr.cell? ⟨g3, 5, none⟩ = some (.int .i64 p.ev.kind) := hcp 5 (by simp)
      have p6 : wr.cell? ⟨g3, 6, none⟩ = some (.int .i64 p.ev.arg) := hcp 6 (by simp)
      have x0 : wr.cell? ⟨b, off, none⟩ = some (.int .i64 x.time) := (hcc) 0 (by simp)
      have x1 : wr.cell? ⟨b, off + 1, none⟩ = some (.int .i64 x.to) := (hcc) 1 (by simp)
      have x2 : wr.cell? ⟨b, off + 2, none⟩ = some (.int .i64 x.src) := (hcc) 2 (by simp)
      have x3 : wr.cell? ⟨b, off + 3, none⟩ = some (.int .i64 x.count) := (hcc) 3 (by simp)
      have x4 : wr.cell? ⟨b, off + 4, none⟩ = some (.int .i64 x.n) := (hcc) 4 (by simp)
      have x5 : wr.cell? ⟨b, off + 5, none⟩ = some (.int .i64 x.kind) := (hcc) 5 (by simp)
      have x6 : wr.cell? ⟨b, off + 6, none⟩ = some (.int .i64 x.arg) := (hcc) 6 (by simp)
      clear hcp hcc
      have hl0 : (0 : Int) < (((x :: xs).length : Nat) : Int) := by (simp; try omega)
      have hl1 : decide ((0 : Int) < (((x :: xs).length : Nat) : Int)) = true := decide_eq_true hl0
      have hl2 : (1 : Int) ≤ (((x :: xs).length : Nat) : Int) := by (simp; try omega)
      obtain ⟨r, hr⟩ := E.eq_event p.ev x
      have hg1 := E.guard_ev
      have he1 : ∀ w, (binOp .eql 41 (.agg #[.int .i64 p.ev.time, .int .i64 p.ev.to, .int .i64 p.ev.src, .int .i64 p.ev.count, .int .i64 p.ev.n, .int .i64 p.ev.kind, .int .i64 p.ev.arg]) (.agg #[.int .i64 x.time, .int .i64 x.to, .int .i64 x.src, .int .i64 x.count, .int .i64 x.n, .int .i64 x.kind, .int .i64 x.arg])).run Try.prog w = .ok (.bool r) w := hr.op
      have HR := hide hr.iff
      clear hr
      go_upto_region 1 with fail
      go_quiet (fail)
      cases r
      · have HS : Hid (Same ps es k) := hide ⟨by omega, hk2, unhide HL, fun _ _ he => by
          have h1 : p.ev = x := by rw [unhide HPE, (unhide HXK).1]; exact he
          have := (unhide HR).2 h1
          cases this⟩
        go_wp2_with fail
        rw [unhide HG]
        refine ((unhide HDO) k _ _ hk (unhide HS) (by rw [← unhide HREST]; exact (unhide HRA).on (below_drewN (Below.refl _ _) _)) (below_then (unhide HB) (below_drewN (Below.refl _ _) _))).mono ?_
        rintro e w2 ⟨rfl, hq⟩
        go_wp2_with fail
        exact bodyPost_end (results_none rfl _ _ _) rfl ⟨rfl, hq⟩
      · go_wp2_with fail
        go_quiet (fail)
        go_wp2_with fail
        go_roundw
        case rel =>
          refine ⟨k + 1, g3, hk1, xs, if cap = 1 then some ⟨b, off, none⟩ else some ⟨b, off + 7, none⟩, cap - 1, by omega, rfl, ?_, by simp at hrc; omega, HG3, hide (unhide HXK).2, ?_, hide (fun i h h' hi => ?_), hide (below_then (unhide HB) (below_drewN (below_drewN (Below.refl _ _) _) _))⟩
          · rfl
          · refine hide (RowsAt.on (below_drewN (below_drewN (Below.refl _ _) _) _) ?_)
            by_cases hc1 : cap = 1
            · obtain rfl : xs = [] := List.length_eq_zero_iff.1 (by simp at hrc; omega)
              exact ⟨_, _, rfl, Nat.zero_le _, Nat.zero_le _, Or.inl rfl⟩
            · rw [if_neg hc1]
              exact rows_tail (unhide HRA)
          · by_cases e : i = k
            · subst e
              rw [← unhide HPE, ← (unhide HXK).1]
              exact (unhide HR).1 (by trivial)
            · exact (unhide HL) i h h' (by omega)
        case measure =>
          have a1 := (unhide HCH).asc k (k + 1) hk hk1 (by omega)
          have a2 : (g :: gs)[k + 1] ≤ (g :: gs)[gs.length]'(by simp) := by
            by_cases e : k + 1 = gs.length
            · simp [e]
            · exact Nat.le_of_lt ((unhide HCH).asc (k + 1) gs.length hk1 (by simp) (by simp only [List.length_cons] at hk1; omega))
          have a3 := unhide HG
          have a4 := unhide HG3
          simp only
          omega

set_option maxRecDepth 100000 in
theorem undo_any (W w : World) (b : Nat) (q : PastV) (nx : Option Nat) (v : Value) (r : Nat) (hl : LinkAt W w b q nx) (hr : w.rowIs r 4 1 (fun i => [Value.bool false].getD i undef)) (hne : r ≠ b) :
    Calls Try.prog 83 #[.pointer (some ⟨b, 0, none⟩), v, .pointer (some ⟨r, 0, none⟩)] w fun e w' => e = .returned (.tuple #[]) ∧ w' = (w.setCell ⟨r, 0, none⟩ (.bool nx.isSome)).setCell ⟨b, 12, none⟩ (.pointer none) := by
  obtain ⟨_, _, _, c12, f12, _⟩ := hl.cells
  have y0 : w.cell? ⟨r, 0, none⟩ = some (.bool false) := hr.cell (i := 0) (by omega)
  have z0 := hr.frozen 0
  have hne2 : b ≠ r := fun e => hne e.symm
  cases nx with
  | none =>
    have c12' : w.cell? ⟨b, 12, none⟩ = some (.pointer none) := c12
    clear c12
    go_enter Try.func83, Try.ntmps83
    go_wp2_with fail
    exact bodyPost_end (results_none rfl _ _ _) rfl ⟨rfl, rfl⟩
  | some b2 =>
    have c12' : w.cell? ⟨b, 12, none⟩ = some (.pointer (some ⟨b2, 0, none⟩)) := c12
    clear c12
    go_enter Try.func83, Try.ntmps83
    go_wp2_with fail
    exact bodyPost_end (results_none rfl _ _ _) rfl ⟨rfl, rfl⟩

set_option maxRecDepth 100000 in
set_option maxHeartbeats 2000000 in
theorem cutLane_any (proc : Int) (s : StV) (vd v : Value) (ps : List PastV) (es : List EvV) (n : Nat) (w : World) (hn : Same ps es n) (hd : PastsAt w vd ps) (h : RowsAt 7 w v (es.map evRow)) (hlen : ps.length ≤ 1048576) (hl : ∀ p ∈ ps, p.sends.length ≤ 1048576 ∧ p.outs.length ≤ 1048576) :
    Calls Try.prog 58 #[laneAgg proc s vd, v] w fun e w' => ∃ v', e = .returned (.tuple #[laneAgg proc s v', .bool (decide (n < ps.length))]) ∧ PastsOwn w.heap.size w'.heap.size w' v' (ps.take n) ∧ Below w.heap.size w w' := by
  have HN := hide hn
  have HD := hide hd
  have HE := hide h
  have HL := hide hl
  obtain ⟨a1, c1, e1, _, hm, _⟩ := hd
  subst e1
  obtain ⟨ad, cap, rfl, hlc2, hm2, _⟩ := rows_ev h
  unfold maxLen at hm hm2
  have hb0 : Below w.heap.size w ((w.alloc (.cells #[.int .i64 proc, .int .i64 s.x, .int .i64 s.y, .int .i64 s.c, .slice a1 ps.length c1] 32)).alloc (.cells #[.int .i64 0, .int .i64 0, .int .i64 0, .int .i64 0, .slice none 0 0] 32)) := ((Below.refl _ _).alloc (Nat.le_refl _) _).alloc (by simp) _
  have cA : CellsAt ((w.alloc (.cells #[.int .i64 proc, .int .i64 s.x, .int .i64 s.y, .int .i64 s.c, .slice a1 ps.length c1] 32)).alloc (.cells #[.int .i64 0, .int .i64 0, .int .i64 0, .int .i64 0, .slice none 0 0] 32)) w.heap.size 0 (laneCells proc s (.slice a1 ps.length c1)) := (cellsAt_new w (laneCells proc s (.slice a1 ps.length c1)) 32).on ((Below.refl _ _).alloc (Nat.le_refl _) _)
  have rB : ((w.alloc (.cells #[.int .i64 proc, .int .i64 s.x, .int .i64 s.y, .int .i64 s.c, .slice a1 ps.length c1] 32)).alloc (.cells #[.int .i64 0, .int .i64 0, .int .i64 0, .int .i64 0, .slice none 0 0] 32)).rowIs (w.heap.size + 1) 32 5 (fun i => [Value.int .i64 0, .int .i64 0, .int .i64 0, .int .i64 0, .slice none 0 0].getD i undef) := by
    have e := row_new (w.alloc (.cells #[.int .i64 proc, .int .i64 s.x, .int .i64 s.y, .int .i64 s.c, .slice a1 ps.length c1] 32)) [Value.int .i64 0, .int .i64 0, .int .i64 0, .int .i64 0, .slice none 0 0] 32
    have hs : (w.alloc (.cells #[.int .i64 proc, .int .i64 s.x, .int .i64 s.y, .int .i64 s.c, .slice a1 ps.length c1] 32)).heap.size = w.heap.size + 1 := by simp
    rw [hs] at e
    exact e
  have hs0 : ((w.alloc (.cells #[.int .i64 proc, .int .i64 s.x, .int .i64 s.y, .int .i64 s.c, .slice a1 ps.length c1] 32)).alloc (.cells #[.int .i64 0, .int .i64 0, .int .i64 0, .int .i64 0, .slice none 0 0] 32)).heap.size = w.heap.size + 2 := by simp
  have HA := hide cA
  have HB0 := hide hb0
  have HR := hide rB
  have HS0 := hide hs0
  clear hb0 cA rB h hn hl hs0
  go_enter Try.func58, Try.ntmps58
  go_upto_region 1 with fail
  generalize ((w.alloc (.cells #[.int .i64 proc, .int .i64 s.x, .int .i64 s.y, .int .i64 s.c, .slice a1 ps.length c1] 32)).alloc (.cells #[.int .i64 0, .int .i64 0, .int .i64 0, .int .i64 0, .slice none 0 0] 32)) = X at *
  have k0 : X.cell? ⟨w.heap.size, 0, none⟩ = some (.int .i64 proc) := (unhide HA) 0 (by simp)
  have k1 : X.cell? ⟨w.heap.size, 1, none⟩ = some (.int .i64 s.x) := (unhide HA) 1 (by simp)
  have k2 : X.cell? ⟨w.heap.size, 2, none⟩ = some (.int .i64 s.y) := (unhide HA) 2 (by simp)
  have k3 : X.cell? ⟨w.heap.size, 3, none⟩ = some (.int .i64 s.c) := (unhide HA) 3 (by simp)
  have k4 : X.cell? ⟨w.heap.size, 4, none⟩ = some (.slice a1 ps.length c1) := (unhide HA) 4 (by simp)
  go_wp2_with fail
  refine (linkLane_any proc s _ ps X ((unhide HD).on (unhide HB0))).mono ?_
  rintro e w3 ⟨g, gs, rfl, hch, hb3⟩
  have HB2 := HB0
  have HX2 : Hid (Below X.heap.size X X) := hide (Below.refl _ _)
  have HB3 := hide hb3
  have HCH := hide hch
  have hsz3 : w.heap.size + 2 ≤ X.heap.size := by have h2 := unhide HS0; omega
  have hsz23 := hb3.size
  clear k0 k1 k2 k3 k4 hch
  have hbY : Below w3.heap.size w3 (w3.alloc (.cells #[.bool false] 4)) := (Below.refl _ _).alloc (Nat.le_refl _) _
  have HRT := hide (row_new w3 [.bool false] 4)
  have HSY : Hid ((w3.alloc (.cells #[.bool false] 4)).heap.size = w3.heap.size + 1) := hide (by simp)
  have HBY := hide hbY
  clear hbY
  go_upto_region 3 with fail
  generalize (w3.alloc (.cells #[.bool false] 4)) = Y at *
  go_wp2_with fail
  have hWY : Below w.heap.size w Y := below_then (unhide HB2) (below_then (unhide HB3) (unhide HBY))
  have hglen : gs.length = ps.length := by have := (unhide HCH).len; simpa using this
  refine (partCut_any X X.heap.size g gs s ps _ es _ (fun w'' => ∃ wq, Below Y.heap.size Y wq ∧ ∃ (hk : n < (g :: gs).length), w'' = (wq.setCell ⟨w3.heap.size, 0, none⟩ (.bool (decide (n < ps.length)))).setCell ⟨(g :: gs)[n], 12, none⟩ (.pointer none)) Y ((unhide HCH).on (unhide HBY)) ((unhide HE).on hWY) (fun n' v' w' hn' hsame hrest hbw => ?_)).mono ?_
  · obtain rfl := hsame.unique (unhide HN)
    have hlk := (((unhide HCH).on (unhide HBY)).on hbw).node n' hn' (by simp at hn' ⊢; omega)
    have hlt3 : (g :: gs)[n'] < w3.heap.size := ((unhide HCH).node n' hn' (by simp at hn' ⊢; omega)).lt
    refine (undo_any X w' _ _ _ v' w3.heap.size hlk ((unhide HRT).of_block (hbw.block _ (unhide HRT).lt)) (by omega)).mono ?_
    rintro e w'' ⟨rfl, hw''⟩
    refine ⟨rfl, w', hbw, hn', ?_⟩
    rw [hw'']
    congr 3
    by_cases e : n' < ps.length
    · rw [List.getElem?_eq_getElem (by simp; omega)]
      simp [e]
    · rw [List.getElem?_eq_none (by simp; omega)]
      simp [e]
  rintro e w4 ⟨rfl, wq, hbq, hkn, hw4⟩
  obtain ⟨u, hu⟩ : ∃ u, u = decide (n < ps.length) := ⟨_, rfl⟩
  rw [← hu] at hw4
  have hlt3 : (g :: gs)[n] < w3.heap.size := ((unhide HCH).node n hkn (by simp at hkn ⊢; omega)).lt
  have hlo3 : X.heap.size ≤ (g :: gs)[n] := (unhide HCH).lo n hkn
  have hchq := ((unhide HCH).on (unhide HBY)).on hbq
  have hoth : ∀ c, c ≠ w3.heap.size → c ≠ (g :: gs)[n] → w4.heap[c]? = wq.heap[c]? := fun c h1 h2 => by
    rw [hw4, Below.heap_setCell _ ⟨(g :: gs)[n], 12, none⟩ _ c h2, Below.heap_setCell _ ⟨w3.heap.size, 0, none⟩ _ c h1]
  have hrow4 : w4.rowIs w3.heap.size 4 1 (fun i => [Value.bool u].getD i undef) := by
    have h1 := ((unhide HRT).of_block (hbq.block _ (unhide HRT).lt)).set 0 (.bool u)
    rw [hw4]
    refine (h1.of_block (Below.heap_setCell _ ⟨(g :: gs)[n], 12, none⟩ _ w3.heap.size (by show w3.heap.size ≠ (g :: gs)[n]; omega))).congr (fun i hi => ?_)
    obtain rfl : i = 0 := by simpa using hi
    rfl
  have hlnk : LinkAt X w4 (g :: gs)[n] ((baseQ s :: ps)[n]'(by simp at hkn ⊢; omega)) none := by
    rw [hw4]
    have h1 := (hchq.node n hkn (by simp at hkn ⊢; omega)).blk (w' := wq.setCell ⟨w3.heap.size, 0, none⟩ (.bool u)) (Below.heap_setCell _ ⟨w3.heap.size, 0, none⟩ _ _ (by show (g :: gs)[n] ≠ w3.heap.size; omega))
    exact h1.next none
  have hcut : Chain X X.heap.size w4 (g :: gs.take n) (baseQ s :: ps.take n) := by
    have h0 : Chain X X.heap.size w3 (g :: gs) (baseQ s :: ps) := unhide HCH
    have h1 := h0.cut (w' := w4) (n := n) hkn (by simp at hkn ⊢; omega) (fun c hc hcg => ?_) hlnk
    · simpa using h1
    · rw [hoth c (by omega) hcg, hbq.block c (by have := unhide HSY; omega), (unhide HBY).block c hc]
  have hb24 : Below X.heap.size X w4 := by
    rw [hw4]
    exact ((below_then (unhide HB3) (below_then (unhide HBY) hbq)).setCell (p := ⟨w3.heap.size, 0, none⟩) hsz23 _).setCell (p := ⟨(g :: gs)[n], 12, none⟩) hlo3 _
  have HROW4 := hide hrow4
  have HCUT := hide hcut
  have HB24 := hide hb24
  have HU := hide hu
  clear hw4 hbq hkn hlt3 hlo3 hchq hoth hrow4 hlnk hcut hb24 hu
  have hX4 : Below X.heap.size X w4 := by
    have h1 : Below X.heap.size X X := (unhide HX2)
    exact h1.trans ((unhide HB24).mono h1.size)
  have HX4 := hide hX4
  clear hX4
  go_upto_region 5 with fail
  refine wp_region_last (L := 6) (S := fun w' : World => w'.cell? ⟨w.heap.size, 0, none⟩ = some (.int .i64 proc) ∧ w'.cell? ⟨w3.heap.size, 0, none⟩ = some (.bool u)) (by kernel_rfl) ?_
  have hHeld : (fun w' : World => w'.cell? ⟨w.heap.size, 0, none⟩ = some (.int .i64 proc) ∧ w'.cell? ⟨w3.heap.size, 0, none⟩ = some (.bool u)) w4.drew := ⟨((unhide HA).on (unhide HX4).drew) 0 (by simp), (unhide HROW4).cell (i := 0) (by omega)⟩
  refine wpAnyL_take (i := 0) (v := ?_) (by kernel_rfl) rfl (by kernel_rfl) (by kernel_rfl) (by kernel_rfl) (fun _ _ _ h => h) hHeld (Or.inl ⟨by kernel_rfl, ?_⟩) ?_
  rotate_left
  · (intro w hSw; (try dsimp only at hSw); obtain ⟨s0, s1⟩ := hSw; go_simp; try with_reducible rfl)
  refine wpAnyL_take (i := 1) (v := ?_) (by kernel_rfl) rfl (by kernel_rfl) (by kernel_rfl) (by kernel_rfl) (fun _ _ _ h => h) hHeld (Or.inl ⟨by kernel_rfl, ?_⟩) ?_
  rotate_left
  · (intro w hSw; (try dsimp only at hSw); obtain ⟨s0, s1⟩ := hSw; go_simp; try with_reducible rfl)
  refine wpAnyL_take (i := 2) (v := ?_) (by kernel_rfl) rfl (by kernel_rfl) (by kernel_rfl) (by kernel_rfl) (fun _ _ _ h => h) hHeld (Or.inl ⟨by kernel_rfl, ?_⟩) ?_
  rotate_left
  · (intro w hSw; (try dsimp only at hSw); obtain ⟨s0, s1⟩ := hSw; go_simp; try with_reducible rfl)
  refine wpAnyL_take (i := 4) (v := ?_) (by kernel_rfl) rfl (by kernel_rfl) (by kernel_rfl) (by kernel_rfl) (fun _ _ _ h => h) hHeld (Or.inl ⟨by kernel_rfl, ?_⟩) ?_
  rotate_left
  · (intro w hSw; (try dsimp only at hSw); obtain ⟨s0, s1⟩ := hSw; go_simp; try with_reducible rfl)
  refine wpAnyL_one (i := 3) (by kernel_rfl) rfl (fun K hK => ?_)
  go_simp
  refine (unlinkLane_any X X.heap.size proc g (gs.take n) (baseQ s) (ps.take n) w4.drew ((unhide HCUT).on (Below.refl _ _).drew) ((unhide HB24).drew) (by simp; omega) (fun p hp => (unhide HL) p (List.mem_of_mem_take hp))).mono ?_
  rintro e w5 ⟨v5, rfl, ho5, hb5⟩
  have hb45 : Below w4.heap.size w4 w5 := ((Below.refl _ _).drew).trans hb5
  obtain ⟨va, vc, hv5⟩ := ho5.at.sliced
  rw [show (ps.take n).length = n by have := (unhide HN).hp; simp; omega] at hv5
  subst hv5
  simp only [baseQ]
  have HO5 := hide ho5
  have HX5 := hide (below_then (unhide HX4) hb45)
  have HR5 := hide ((unhide HROW4).of_block (hb45.block _ (unhide HROW4).lt))
  have h45s : w4.heap.size ≤ w5.heap.size := hb45.size
  clear ho5 hb5 hb45
  (try go_simp)
  refine held_on hK ?_ (fun hHeld => ?_)
  · exact ⟨((unhide HA).on (unhide HX5)) 0 (by simp), (unhide HR5).cell (i := 0) (by omega)⟩
  clear hK K
  have hrx := (unhide HR).of_block (((unhide HX5)).block (w.heap.size + 1) (unhide HR).lt)
  have y0 : w5.cell? ⟨w.heap.size + 1, 0, none⟩ = some (.int .i64 0) := hrx.cell (i := 0) (by omega)
  have y1 : w5.cell? ⟨w.heap.size + 1, 1, none⟩ = some (.int .i64 0) := hrx.cell (i := 1) (by omega)
  have y2 : w5.cell? ⟨w.heap.size + 1, 2, none⟩ = some (.int .i64 0) := hrx.cell (i := 2) (by omega)
  have y3 : w5.cell? ⟨w.heap.size + 1, 3, none⟩ = some (.int .i64 0) := hrx.cell (i := 3) (by omega)
  have y4 : w5.cell? ⟨w.heap.size + 1, 4, none⟩ = some (.slice none 0 0) := hrx.cell (i := 4) (by omega)
  have z0 := hrx.frozen 0
  have z1 := hrx.frozen 1
  have z2 := hrx.frozen 2
  have z3 := hrx.frozen 3
  have z4 := hrx.frozen 4
  clear hrx
  refine wpAnyL_one (i := 5) (by kernel_rfl) rfl (fun K hK => ?_)
  go_simp
  have hbs : ∀ c, c ≠ w.heap.size + 1 → (setVals w5 (w.heap.size + 1) 0 [.int .i64 proc, .int .i64 s.x, .int .i64 s.y, .int .i64 s.c, .slice va n vc]).heap[c]? = w5.heap[c]? := fun c hc => setVals_other _ _ _ _ hc
  refine held_on hK ?_ (fun hHeld => ?_)
  · exact ⟨(World.cell?_of_block (a := ⟨w.heap.size, 0, none⟩) (hbs w.heap.size (by omega))).trans (((unhide HA).on (unhide HX5)) 0 (by simp)), (World.cell?_of_block (a := ⟨w3.heap.size, 0, none⟩) (hbs w3.heap.size (by omega))).trans ((unhide HR5).cell (i := 0) (by omega))⟩
  clear hK K
  refine wpAnyL_end (by kernel_rfl) rfl (fun K hK => ?_)
  go_simp
  refine hK.out _ _ ?_
  clear hK K hHeld
  refine wpAnyL_done (by kernel_rfl) ?_ _
  go_wp2_with fail
  refine bodyPost_ret (v := .tuple #[laneAgg proc s (.slice va n vc), .bool u]) (by simp [results, Try.results58, go_sem, y0, y1, y2, y3, y4]) rfl ⟨.slice va n vc, ?_, ?_, ?_⟩
  · rw [unhide HU]
  · have h1 : PastsOwn w.heap.size w5.heap.size (setVals w5 (w.heap.size + 1) 0 [.int .i64 proc, .int .i64 s.x, .int .i64 s.y, .int .i64 s.c, .slice va n vc]) (.slice va n vc) (ps.take n) := ((unhide HO5).keep (fun b hb _ => hbs b (by have h1 := (unhide HX4).size; have h2 := unhide HS0; simp at hb; omega))).wide (by have h1 := (unhide HX4).size; have h2 := unhide HS0; simp; omega) (Nat.le_refl _)
    rw [← setVals_size [.int .i64 proc, .int .i64 s.x, .int .i64 s.y, .int .i64 s.c, .slice va n vc] 0 w5 (b := w.heap.size + 1)] at h1
    exact h1
  · exact setVals_below [.int .i64 proc, .int .i64 s.x, .int .i64 s.y, .int .i64 s.c, .slice va n vc] 0 w5 (below_then (unhide HB0) (unhide HX5)) (Nat.le_succ _)

set_option maxRecDepth 100000 in
set_option maxHeartbeats 2000000 in
theorem implLaneCut_any (proc : Int) (s : StV) (vd v : Value) (ps : List PastV) (es : List EvV) (n : Nat) (w : World) (hn : Same ps es n) (hd : PastsAt w vd ps) (h : RowsAt 7 w v (es.map evRow)) (hlen : ps.length ≤ 1048576) (hl : ∀ p ∈ ps, p.sends.length ≤ 1048576 ∧ p.outs.length ≤ 1048576) :
    Calls Try.prog 23 #[laneAgg proc s vd, v] w fun e w' => ∃ v', e = .returned (.tuple #[laneAgg (laneCut proc s ps es n).1.1 (laneCut proc s ps es n).1.2.1 v', .bool (laneCut proc s ps es n).2]) ∧ PastsOwn w.heap.size w'.heap.size w' v' (laneCut proc s ps es n).1.2.2 ∧ Below w.heap.size w w' := by
  have HN := hide hn
  have HD := hide hd
  have HE := hide h
  have HL := hide hl
  obtain ⟨a1, c1, e1, _, hm, _⟩ := hd
  subst e1
  obtain ⟨ad, cap, rfl, hlc2, hm2, _⟩ := rows_ev h
  unfold maxLen at hm hm2
  have hb0 : Below w.heap.size w ((w.alloc (.cells #[.int .i64 proc, .int .i64 s.x, .int .i64 s.y, .int .i64 s.c, .slice a1 ps.length c1] 32)).alloc (.cells #[.int .i64 0, .int .i64 0, .int .i64 0, .int .i64 0, .slice none 0 0] 32)) := ((Below.refl _ _).alloc (Nat.le_refl _) _).alloc (by simp) _
  have cA : CellsAt ((w.alloc (.cells #[.int .i64 proc, .int .i64 s.x, .int .i64 s.y, .int .i64 s.c, .slice a1 ps.length c1] 32)).alloc (.cells #[.int .i64 0, .int .i64 0, .int .i64 0, .int .i64 0, .slice none 0 0] 32)) w.heap.size 0 (laneCells proc s (.slice a1 ps.length c1)) := (cellsAt_new w (laneCells proc s (.slice a1 ps.length c1)) 32).on ((Below.refl _ _).alloc (Nat.le_refl _) _)
  have rB : ((w.alloc (.cells #[.int .i64 proc, .int .i64 s.x, .int .i64 s.y, .int .i64 s.c, .slice a1 ps.length c1] 32)).alloc (.cells #[.int .i64 0, .int .i64 0, .int .i64 0, .int .i64 0, .slice none 0 0] 32)).rowIs (w.heap.size + 1) 32 5 (fun i => [Value.int .i64 0, .int .i64 0, .int .i64 0, .int .i64 0, .slice none 0 0].getD i undef) := by
    have e := row_new (w.alloc (.cells #[.int .i64 proc, .int .i64 s.x, .int .i64 s.y, .int .i64 s.c, .slice a1 ps.length c1] 32)) [Value.int .i64 0, .int .i64 0, .int .i64 0, .int .i64 0, .slice none 0 0] 32
    have hs : (w.alloc (.cells #[.int .i64 proc, .int .i64 s.x, .int .i64 s.y, .int .i64 s.c, .slice a1 ps.length c1] 32)).heap.size = w.heap.size + 1 := by simp
    rw [hs] at e
    exact e
  have hs0 : ((w.alloc (.cells #[.int .i64 proc, .int .i64 s.x, .int .i64 s.y, .int .i64 s.c, .slice a1 ps.length c1] 32)).alloc (.cells #[.int .i64 0, .int .i64 0, .int .i64 0, .int .i64 0, .slice none 0 0] 32)).heap.size = w.heap.size + 2 := by simp
  have HA := hide cA
  have HB0 := hide hb0
  have HR := hide rB
  have HS0 := hide hs0
  clear hb0 cA rB h hn hl hs0
  go_enter Try.func23, Try.ntmps23
  go_upto_region 1 with fail
  generalize ((w.alloc (.cells #[.int .i64 proc, .int .i64 s.x, .int .i64 s.y, .int .i64 s.c, .slice a1 ps.length c1] 32)).alloc (.cells #[.int .i64 0, .int .i64 0, .int .i64 0, .int .i64 0, .slice none 0 0] 32)) = X at *
  have k0 : X.cell? ⟨w.heap.size, 0, none⟩ = some (.int .i64 proc) := (unhide HA) 0 (by simp)
  have k1 : X.cell? ⟨w.heap.size, 1, none⟩ = some (.int .i64 s.x) := (unhide HA) 1 (by simp)
  have k2 : X.cell? ⟨w.heap.size, 2, none⟩ = some (.int .i64 s.y) := (unhide HA) 2 (by simp)
  have k3 : X.cell? ⟨w.heap.size, 3, none⟩ = some (.int .i64 s.c) := (unhide HA) 3 (by simp)
  have k4 : X.cell? ⟨w.heap.size, 4, none⟩ = some (.slice a1 ps.length c1) := (unhide HA) 4 (by simp)
  go_wp2_with fail
  refine (implLaneOk_any proc s _ ps X ((unhide HD).on (unhide HB0))).mono ?_
  rintro e w1 ⟨rfl, hb1⟩
  have hB1 := below_then (unhide HB0) hb1
  replace k0 := cell_on hb1 k0
  replace k1 := cell_on hb1 k1
  replace k2 := cell_on hb1 k2
  replace k3 := cell_on hb1 k3
  replace k4 := cell_on hb1 k4
  cases hok : laneOk proc s ps
  · have HOK := hide hok
    clear hok
    have hrx := (unhide HR).of_block ((hb1).block (w.heap.size + 1) (unhide HR).lt)
    have y0 : w1.cell? ⟨w.heap.size + 1, 0, none⟩ = some (.int .i64 0) := hrx.cell (i := 0) (by omega)
    have y1 : w1.cell? ⟨w.heap.size + 1, 1, none⟩ = some (.int .i64 0) := hrx.cell (i := 1) (by omega)
    have y2 : w1.cell? ⟨w.heap.size + 1, 2, none⟩ = some (.int .i64 0) := hrx.cell (i := 2) (by omega)
    have y3 : w1.cell? ⟨w.heap.size + 1, 3, none⟩ = some (.int .i64 0) := hrx.cell (i := 3) (by omega)
    have y4 : w1.cell? ⟨w.heap.size + 1, 4, none⟩ = some (.slice none 0 0) := hrx.cell (i := 4) (by omega)
    have z0 := hrx.frozen 0
    have z1 := hrx.frozen 1
    have z2 := hrx.frozen 2
    have z3 := hrx.frozen 3
    have z4 := hrx.frozen 4
    clear hrx
    go_wp2_with fail
    refine bodyPost_ret (v := .tuple #[laneAgg 0 ⟨0, 0, 0⟩ (.slice none 0 0), .bool false]) (by simp [results, Try.results23, go_sem, y0, y1, y2, y3, y4]) rfl ⟨.slice none 0 0, ?_, ?_, ?_⟩
    · rw [laneCut, if_neg (by simp [unhide HOK])]
    · rw [laneCut, if_neg (by simp [unhide HOK])]
      exact ⟨[], Or.inl ⟨rfl, rfl, rfl⟩, by simp [blocksOf, Value.ownBlock]⟩
    · exact ((((hB1.setCell (by simp) _).setCell (by simp) _).setCell (by simp) _).setCell (by simp) _).setCell (by simp) _
  have HOK := hide hok
  clear hok
  go_wp2_with fail
  refine (cameFits_any proc _ es w1 ((unhide HE).on hB1)).mono ?_
  rintro e w2 ⟨rfl, hb2⟩
  have hB2 := below_then hB1 hb2
  have hb12 := below_then hb1 hb2
  replace k0 := cell_on hb2 k0
  replace k1 := cell_on hb2 k1
  replace k2 := cell_on hb2 k2
  replace k3 := cell_on hb2 k3
  replace k4 := cell_on hb2 k4
  cases hce : cameOk proc es
  · have HCO := hide hce
    clear hce
    have hrx := (unhide HR).of_block ((hb12).block (w.heap.size + 1) (unhide HR).lt)
    have y0 : w2.cell? ⟨w.heap.size + 1, 0, none⟩ = some (.int .i64 0) := hrx.cell (i := 0) (by omega)
    have y1 : w2.cell? ⟨w.heap.size + 1, 1, none⟩ = some (.int .i64 0) := hrx.cell (i := 1) (by omega)
    have y2 : w2.cell? ⟨w.heap.size + 1, 2, none⟩ = some (.int .i64 0) := hrx.cell (i := 2) (by omega)
    have y3 : w2.cell? ⟨w.heap.size + 1, 3, none⟩ = some (.int .i64 0) := hrx.cell (i := 3) (by omega)
    have y4 : w2.cell? ⟨w.heap.size + 1, 4, none⟩ = some (.slice none 0 0) := hrx.cell (i := 4) (by omega)
    have z0 := hrx.frozen 0
    have z1 := hrx.frozen 1
    have z2 := hrx.frozen 2
    have z3 := hrx.frozen 3
    have z4 := hrx.frozen 4
    clear hrx
    go_wp2_with fail
    refine bodyPost_ret (v := .tuple #[laneAgg 0 ⟨0, 0, 0⟩ (.slice none 0 0), .bool false]) (by simp [results, Try.results23, go_sem, y0, y1, y2, y3, y4]) rfl ⟨.slice none 0 0, ?_, ?_, ?_⟩
    · rw [laneCut, if_neg (by simp [unhide HCO])]
    · rw [laneCut, if_neg (by simp [unhide HCO])]
      exact ⟨[], Or.inl ⟨rfl, rfl, rfl⟩, by simp [blocksOf, Value.ownBlock]⟩
    · exact ((((hB2.setCell (by simp) _).setCell (by simp) _).setCell (by simp) _).setCell (by simp) _).setCell (by simp) _
  have HCO := hide hce
  clear hce
  go_wp2_with fail
  refine (cutLane_any proc s _ _ ps es n w2 (unhide HN) ((unhide HD).on hB2) ((unhide HE).on hB2) hlen (unhide HL)).mono ?_
  rintro e w5 ⟨v5, rfl, ho5, hb5⟩
  obtain ⟨va, vc, hv5⟩ := ho5.at.sliced
  rw [show (ps.take n).length = n by have := (unhide HN).hp; simp; omega] at hv5
  subst hv5
  obtain ⟨u, hu⟩ : ∃ u, u = decide (n < ps.length) := ⟨_, rfl⟩
  rw [← hu]
  have HU := hide hu
  have HO5 := hide ho5
  have HX2 := hide hb12
  have HX5 := hide (below_then hb12 hb5)
  clear hu ho5 hb5 k0 k1 k2 k3 k4 hb1 hB1 hb2 hb12
  have hrx := (unhide HR).of_block (((unhide HX5)).block (w.heap.size + 1) (unhide HR).lt)
  have y0 : w5.cell? ⟨w.heap.size + 1, 0, none⟩ = some (.int .i64 0) := hrx.cell (i := 0) (by omega)
  have y1 : w5.cell? ⟨w.heap.size + 1, 1, none⟩ = some (.int .i64 0) := hrx.cell (i := 1) (by omega)
  have y2 : w5.cell? ⟨w.heap.size + 1, 2, none⟩ = some (.int .i64 0) := hrx.cell (i := 2) (by omega)
  have y3 : w5.cell? ⟨w.heap.size + 1, 3, none⟩ = some (.int .i64 0) := hrx.cell (i := 3) (by omega)
  have y4 : w5.cell? ⟨w.heap.size + 1, 4, none⟩ = some (.slice none 0 0) := hrx.cell (i := 4) (by omega)
  have z0 := hrx.frozen 0
  have z1 := hrx.frozen 1
  have z2 := hrx.frozen 2
  have z3 := hrx.frozen 3
  have z4 := hrx.frozen 4
  clear hrx
  go_wp2_with fail
  have hbs : ∀ c, c ≠ w.heap.size + 1 → (setVals w5 (w.heap.size + 1) 0 [.int .i64 proc, .int .i64 s.x, .int .i64 s.y, .int .i64 s.c, .slice va n vc]).heap[c]? = w5.heap[c]? := fun c hc => setVals_other _ _ _ _ hc
  have hcutE : laneCut proc s ps es n = ((proc, s, ps.take n), u) := by rw [laneCut, if_pos ⟨unhide HOK, unhide HCO⟩, unhide HU]
  refine bodyPost_ret (v := .tuple #[laneAgg proc s (.slice va n vc), .bool u]) (by simp [results, Try.results23, go_sem, y0, y1, y2, y3, y4]) rfl ⟨.slice va n vc, ?_, ?_, ?_⟩
  · rw [hcutE]
  · rw [hcutE]
    have h1 : PastsOwn w.heap.size w5.heap.size (setVals w5 (w.heap.size + 1) 0 [.int .i64 proc, .int .i64 s.x, .int .i64 s.y, .int .i64 s.c, .slice va n vc]) (.slice va n vc) (ps.take n) := ((unhide HO5).keep (fun b hb _ => hbs b (by have h1 := (unhide HX2).size; have h2 := unhide HS0; omega))).wide (by have h1 := (unhide HX2).size; have h2 := unhide HS0; (try simp); omega) (Nat.le_refl _)
    rw [← setVals_size [.int .i64 proc, .int .i64 s.x, .int .i64 s.y, .int .i64 s.c, .slice va n vc] 0 w5 (b := w.heap.size + 1)] at h1
    exact h1
  · exact setVals_below [.int .i64 proc, .int .i64 s.x, .int .i64 s.y, .int .i64 s.c, .slice va n vc] 0 w5 (below_then (unhide HB0) (unhide HX5)) (Nat.le_succ _)
end Go.Proofs.Ytjdaedcpjfcpjaa
