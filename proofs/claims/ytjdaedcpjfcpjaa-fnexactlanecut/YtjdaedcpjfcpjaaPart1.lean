/- How many agree: spec.l21Same, impl.atParting. -/
import Derived.Test.YtjdaedcpjfcpjaaLink1
import Derived.Test.YtjdaedcpjfcpjaaCame1
import Derived.Test.YtjdaedcpjfcpjaaEqEv
import Derived.Deep.Cut
namespace Go.Proofs.Ytjdaedcpjfcpjaa
open Go.RowKit
set_option linter.unusedVariables false
set_option linter.unusedSimpArgs false

structure Same (ps : List PastV) (es : List EvV) (n : Nat) : Prop where
  hp : n ≤ ps.length
  he : n ≤ es.length
  agree : ∀ i (h : i < ps.length) (h' : i < es.length), i < n → ps[i].ev = es[i]
  stop : ∀ (h : n < ps.length) (h' : n < es.length), ps[n].ev ≠ es[n]

theorem Same.unique {ps : List PastV} {es : List EvV} {n m : Nat} (a : Same ps es n) (b : Same ps es m) : n = m := by
  rcases Nat.lt_trichotomy n m with h | h | h
  · have h1 := b.hp
    have h2 := b.he
    exact absurd (b.agree n (by omega) (by omega) h) (a.stop (by omega) (by omega))
  · exact h
  · have h1 := a.hp
    have h2 := a.he
    exact absurd (a.agree m (by omega) (by omega) h) (b.stop (by omega) (by omega))

theorem rows_tail {w : World} {b off cap : Nat} {x : EvV} {xs : List EvV} (h : RowsAt 7 w (.slice (some ⟨b, off, none⟩) (x :: xs).length cap) ((x :: xs).map evRow)) : RowsAt 7 w (.slice (some ⟨b, off + 7, none⟩) xs.length (cap - 1)) (xs.map evRow) := by
  obtain ⟨ad, cap', hv, hl, hm, h⟩ := h
  simp only [List.length_map, List.length_cons] at hv hl hm
  simp only [Value.slice.injEq] at hv
  obtain ⟨rfl, -, rfl⟩ := hv
  rcases h with h | ⟨b', off', had, hc⟩
  · simp at h
  simp only [Option.some.injEq, Addr.mk.injEq, and_true] at had
  obtain ⟨rfl, rfl⟩ := had
  refine ⟨_, _, by rw [List.length_map], by rw [List.length_map]; omega, by rw [List.length_map]; omega, Or.inr ⟨b, off + 7, rfl, fun i hi j hj => ?_⟩⟩
  have h1 := hc (i + 1) (by simpa using hi) j hj
  simp only [List.map_cons, List.getElem_cons_succ] at h1
  rw [show off + 7 + i * 7 + j = off + (i + 1) * 7 + j by omega]
  exact h1

set_option maxRecDepth 100000 in
set_option maxHeartbeats 1000000 in
theorem l21Same_any (proc : Int) (s : StV) (vd v : Value) (ps : List PastV) (es : List EvV) (w : World) (hd : PastsAt w vd ps) (h : RowsAt 7 w v (es.map evRow)) :
    Calls Try.prog 52 #[laneAgg proc s vd, v] w fun e w' => ∃ n : Nat, e = .returned (.int .i64 n) ∧ Same ps es n ∧ Below w.heap.size w w' := by
  obtain ⟨a1, c1, rfl, hlc, hm, hcp⟩ := hd
  obtain ⟨ad, cap, rfl, hlc2, hm2, hce⟩ := rows_ev h
  unfold maxLen at hm hm2
  have hb0 : Below w.heap.size w (w.alloc (.cells #[.int .i64 proc, .int .i64 s.x, .int .i64 s.y, .int .i64 s.c, .slice a1 ps.length c1] 32)) := (Below.refl _ _).alloc (Nat.le_refl _) _
  have cA := cellsAt_new w (laneCells proc s (.slice a1 ps.length c1)) 32
  have HP := hide hcp
  have HE := hide hce
  have HB0 := hide hb0
  have HA := hide cA
  clear hb0 cA hcp hce h
  go_enter Try.func52, Try.ntmps52
  go_wp2_with fail
  generalize (w.alloc (.cells #[.int .i64 proc, .int .i64 s.x, .int .i64 s.y, .int .i64 s.c, .slice a1 ps.length c1] 32)) = X at *
  go_loopw [5] (fun i wr => ∃ k : Nat, k ≤ ps.length ∧ k ≤ es.length ∧ i = .int .i64 k ∧ Hid (∀ i (h : i < ps.length) (h' : i < es.length), i < k → ps[i].ev = es[i]) ∧ Hid (Below X.heap.size X wr)) (fun i _ => ps.length - (intOf i).toNat)
  case atStart => exact ⟨0, Nat.zero_le _, Nat.zero_le _, rfl, hide (fun i _ _ h => absurd h (Nat.not_lt_zero _)), hide (Below.refl _ _)⟩
  case round =>
    obtain ⟨k, hk, hk2, rfl, HL, HB⟩ := hrel
    have n4 : wr.cell? ⟨w.heap.size, 4, none⟩ = some (.slice a1 ps.length c1) := ((unhide HA).on (unhide HB)) 4 (by simp)
    have hk0 : (0 : Int) ≤ (k : Int) := by omega
    by_cases hlt : k < ps.length
    rotate_left
    · have hkI : ¬ (k : Int) < (ps.length : Int) := by omega
      have hd1 : decide ((k : Int) < (ps.length : Int)) = false := decide_eq_false hkI
      go_upto_region 2 with fail
      go_quiet (fail)
      go_wp2_with fail
      go_ret
      exact ⟨k, rfl, ⟨hk, hk2, unhide HL, fun h _ => absurd h hlt⟩, below_then (unhide HB0) (below_then (unhide HB) (below_drewN (Below.refl _ _) _))⟩
    have hkI : (k : Int) < (ps.length : Int) := by omega
    have hd1 : decide ((k : Int) < (ps.length : Int)) = true := decide_eq_true hkI
    by_cases hlt2 : k < es.length
    rotate_left
    · have hkI2 : ¬ (k : Int) < (es.length : Int) := by omega
      have hd2 : decide ((k : Int) < (es.length : Int)) = false := decide_eq_false hkI2
      go_upto_region 2 with fail
      go_quiet (fail)
      go_wp2_with fail
      go_ret
      exact ⟨k, rfl, ⟨hk, hk2, unhide HL, fun _ h => absurd h hlt2⟩, below_then (unhide HB0) (below_then (unhide HB) (below_drewN (Below.refl _ _) _))⟩
    have hkI2 : (k : Int) < (es.length : Int) := by omega
    have hd2 : decide ((k : Int) < (es.length : Int)) = true := decide_eq_true hkI2
    obtain ⟨b, off, vs, vo, had, hc⟩ : ∃ b off vs vo, a1 = some ⟨b, off, none⟩ ∧ CellsAt wr b (off + k * 12) (pastCells ps[k] vs vo) := by
      rcases unhide HP with h | ⟨b, off, h1, h2⟩
      · rw [h] at hlt; exact absurd hlt (Nat.not_lt_zero _)
      · obtain ⟨vs, vo, h3, -⟩ := h2 k hlt
        exact ⟨b, off, vs, vo, h1, (h3.on (unhide HB0)).on (unhide HB)⟩
    obtain ⟨b2, off2, had2, hcc⟩ := (unhide HE) (by omega)
    have hc2 := ((hcc k hlt2).on (unhide HB0)).on (unhide HB)
    clear hcc
    subst had had2
    have HYES : Hid (ps[k].ev = es[k] → ∀ i (h : i < ps.length) (h' : i < es.length), i < k + 1 → ps[i].ev = es[i]) := hide (fun he i h h' hi => by
      by_cases e : i = k
      · subst e; exact he
      · exact (unhide HL) i h h' (by omega))
    have HNO : Hid (ps[k].ev ≠ es[k] → Same ps es k) := hide (fun he => ⟨hk, hk2, unhide HL, fun _ _ => he⟩)
    obtain ⟨p, hp⟩ : ∃ p, p = ps[k] := ⟨_, rfl⟩
    obtain ⟨x, hx⟩ : ∃ x, x = es[k] := ⟨_, rfl⟩
    rw [← hp] at hc HYES HNO
    rw [← hx] at hc2 HYES HNO
    clear hp hx
    have p0 : wr.cell? ⟨b, off + k * 12, none⟩ = some (.int .i64 p.ev.time) := hc 0 (by simp)
    have p1 : wr.cell? ⟨b, off + k * 12 + 1, none⟩ = some (.int .i64 p.ev.to) := hc 1 (by simp)
    have p2 : wr.cell? ⟨b, off + k * 12 + 2, none⟩ = some (.int .i64 p.ev.src) := hc 2 (by simp)
    have p3 : wr.cell? ⟨b, off + k * 12 + 3, none⟩ = some (.int .i64 p.ev.count) := hc 3 (by simp)
    have p4 : wr.cell? ⟨b, off + k * 12 + 4, none⟩ = some (.int .i64 p.ev.n) := hc 4 (by simp)
    have p5 : wr.cell? ⟨b, off + k * 12 + 5, none⟩ = some (.int .i64 p.ev.kind) := hc 5 (by simp)
    have p6 : wr.cell? ⟨b, off + k * 12 + 6, none⟩ = some (.int .i64 p.ev.arg) := hc 6 (by simp)
    have x0 : wr.cell? ⟨b2, off2 + k * 7, none⟩ = some (.int .i64 x.time) := (hc2) 0 (by simp)
    have x1 : wr.cell? ⟨b2, off2 + k * 7 + 1, none⟩ = some (.int .i64 x.to) := (hc2) 1 (by simp)
    have x2 : wr.cell? ⟨b2, off2 + k * 7 + 2, none⟩ = some (.int .i64 x.src) := (hc2) 2 (by simp)
    have x3 : wr.cell? ⟨b2, off2 + k * 7 + 3, none⟩ = some (.int .i64 x.count) := (hc2) 3 (by simp)
    have x4 : wr.cell? ⟨b2, off2 + k * 7 + 4, none⟩ = some (.int .i64 x.n) := (hc2) 4 (by simp)
    have x5 : wr.cell? ⟨b2, off2 + k * 7 + 5, none⟩ = some (.int .i64 x.kind) := (hc2) 5 (by simp)
    have x6 : wr.cell? ⟨b2, off2 + k * 7 + 6, none⟩ = some (.int .i64 x.arg) := (hc2) 6 (by simp)
    clear hc hc2
    obtain ⟨r, hr⟩ := E.eq_event p.ev x
    have hg1 := E.guard_ev
    have he1 : ∀ w, (binOp .eql 41 (.agg #[.int .i64 p.ev.time, .int .i64 p.ev.to, .int .i64 p.ev.src, .int .i64 p.ev.count, .int .i64 p.ev.n, .int .i64 p.ev.kind, .int .i64 p.ev.arg]) (.agg #[.int .i64 x.time, .int .i64 x.to, .int .i64 x.src, .int .i64 x.count, .int .i64 x.n, .int .i64 x.kind, .int .i64 x.arg])).run Try.prog w = .ok (.bool r) w := hr.op
    have HR := hide hr.iff
    clear hr
    go_upto_region 2 with fail
    go_quiet (fail)
    cases r
    · go_wp2_with fail
      go_ret
      exact ⟨k, rfl, (unhide HNO) (fun h => by have := (unhide HR).2 h; cases this), below_then (unhide HB0) (below_then (unhide HB) (below_drewN (Below.refl _ _) _))⟩
    · go_wp2_with fail
      go_roundw
      case rel => exact ⟨k + 1, by omega, by omega, by simp, hide ((unhide HYES) ((unhide HR).1 (by trivial))), hide (below_then (unhide HB) (below_drewN (Below.refl _ _) _))⟩
      case measure => (simp [intOf]; try omega)

set_option maxRecDepth 100000 in
set_option maxHeartbeats 2000000 in
theorem partNext_any (W : World) (N g : Nat) (gs : List Nat) (s : StV) (ps : List PastV) (v : Value) (es : List EvV) (c1 c2 : Value) (Q : World → Prop) (w : World) (hch : Chain W N w (g :: gs) (baseQ s :: ps)) (h : RowsAt 7 w v (es.map evRow))
    (hdo : ∀ n v' w' (hn : n < (g :: gs).length), Same ps es n → RowsAt 7 w' v' ((es.drop n).map evRow) → Below w.heap.size w w' → Calls Try.prog 55 #[.pointer (some ⟨(g :: gs)[n], 0, none⟩), v', c1, c2] w' fun e w'' => e = .returned (.tuple #[]) ∧ Q w'') :
    Calls Try.prog 56 #[.pointer (some ⟨g, 0, none⟩), v, .func (.func 55) #[] #[c1, c2]] w fun e w'' => e = .returned (.tuple #[]) ∧ Q w'' := by
  have HCH := hide hch
  have hlen : gs.length = ps.length := by have := hch.len; simpa using this
  have HE := hide h
  have HDO := hide hdo
  have HLEN := hide hlen
  obtain ⟨_, _, hm2⟩ : ∃ ad cap, es.length ≤ maxLen := by
    obtain ⟨ad, cap, _, _, hm, _⟩ := rows_ev h
    exact ⟨ad, cap, hm⟩
  unfold maxLen at hm2
  clear hch h hdo hlen
  go_enter Try.func56, Try.ntmps56
  go_wp2_with fail
  go_loopw [6, 1] (fun l c wr => ∃ (k g2 : Nat) (hk : k < (g :: gs).length) (rest : List EvV) (ad : Option Addr) (cap : Nat), k ≤ es.length ∧ l = .pointer (some ⟨g2, 0, none⟩) ∧ c = .slice ad rest.length cap ∧ rest.length ≤ cap ∧ Hid (g2 = (g :: gs)[k]) ∧ Hid (rest = es.drop k) ∧ Hid (RowsAt 7 wr c (rest.map evRow)) ∧ Hid (∀ i (h : i < ps.length) (h' : i < es.length), i < k → ps[i].ev = es[i]) ∧ Hid (Below w.heap.size w wr)) (fun l _ _ => match l with | .pointer (some a) => (g :: gs)[gs.length]'(by simp) - a.block | _ => 0)
  case atStart =>
    obtain ⟨ad, cap, hv, hc, hm, _⟩ := rows_ev (unhide HE)
    exact ⟨0, g, by simp, es, ad, cap, Nat.zero_le _, rfl, hv, hc, hide rfl, hide rfl, HE, hide (fun i _ _ h => absurd h (Nat.not_lt_zero _)), hide (Below.refl _ _)⟩
  case round =>
    obtain ⟨k, g2, hk, rest, ad, cap, hk2, rfl, rfl, hrc, HG, HREST, HRA, HL, HB⟩ := hrel
    have hkn : k ≤ gs.length := by simp at hk; omega
    have HLK := hide (((unhide HCH).on (unhide HB)).node k hk (by have := unhide HLEN; simp; omega))
    rw [← unhide HG] at HLK
    have hrl : rest.length ≤ es.length := by rw [unhide HREST]; simp
    by_cases hlast : k = gs.length
    · have hnx : wr.cell? ⟨g2, 12, none⟩ = some (.pointer none) := by
        obtain ⟨_, _, _, h1, _⟩ := (unhide HLK).cells
        have e : (g :: gs)[k + 1]? = none := List.getElem?_eq_none (by simp; omega)
        rw [e] at h1
        exact h1
      have HS : Hid (Same ps es k) := hide ⟨by have := unhide HLEN; omega, hk2, unhide HL, fun h => by have := unhide HLEN; omega⟩
      clear hlast
      go_upto_region 1 with fail
      go_quiet (fail)
      go_wp2_with fail
      rw [unhide HG]
      refine ((unhide HDO) k _ _ hk (unhide HS) (by rw [← unhide HREST]; exact (unhide HRA).on (below_drewN (Below.refl _ _) _)) (below_then (unhide HB) (below_drewN (Below.refl _ _) _))).mono ?_
      rintro e w2 ⟨rfl, hq⟩
      go_wp2_with fail
      exact bodyPost_end (results_none rfl _ _ _) rfl ⟨rfl, hq⟩
    have hk1 : k + 1 < (g :: gs).length := by simp; omega
    have hkp : k < ps.length := by have := unhide HLEN; omega
    obtain ⟨g3, hg3⟩ : ∃ g3, g3 = (g :: gs)[k + 1] := ⟨_, rfl⟩
    have hnx : wr.cell? ⟨g2, 12, none⟩ = some (.pointer (some ⟨g3, 0, none⟩)) := by
      obtain ⟨_, _, _, h1, _⟩ := (unhide HLK).cells
      rw [List.getElem?_eq_getElem hk1, ← hg3] at h1
      exact h1
    have HLK3 := hide (((unhide HCH).on (unhide HB)).node (k + 1) hk1 (by simp; omega))
    rw [← hg3] at HLK3
    have HG3 := hide hg3
    clear hg3 hlast
    cases rest with
    | nil =>
      have HS : Hid (Same ps es k) := hide ⟨by omega, hk2, unhide HL, fun _ h => by
        have := congrArg List.length (unhide HREST)
        simp at this
        omega⟩
      have hd2 : decide ((0 : Int) < ((([] : List EvV).length : Nat) : Int)) = false := by simp
      go_upto_region 1 with fail
      go_quiet (fail)
      go_wp2_with fail
      rw [unhide HG]
      refine ((unhide HDO) k _ _ hk (unhide HS) (by rw [← unhide HREST]; exact (unhide HRA).on (below_drewN (Below.refl _ _) _)) (below_then (unhide HB) (below_drewN (Below.refl _ _) _))).mono ?_
      rintro e w2 ⟨rfl, hq⟩
      go_wp2_with fail
      exact bodyPost_end (results_none rfl _ _ _) rfl ⟨rfl, hq⟩
    | cons x xs =>
      have hke : k < es.length := by
        have := congrArg List.length (unhide HREST)
        simp at this
        omega
      have HXK : Hid (x = es[k] ∧ xs = es.drop (k + 1)) := hide (by
        have h1 := unhide HREST
        rw [List.drop_eq_getElem_cons hke] at h1
        exact ⟨(List.cons.inj h1).1, (List.cons.inj h1).2⟩)
      obtain ⟨b, off, had, hcc⟩ : ∃ b off, ad = some ⟨b, off, none⟩ ∧ CellsAt wr b off (evCells x) := by
        obtain ⟨ad', cap', hv, _, _, hc⟩ := rows_ev (unhide HRA)
        obtain ⟨b, off, h1, h2⟩ := hc (by simp)
        simp only [Value.slice.injEq] at hv
        obtain ⟨rfl, _, _⟩ := hv
        have h3 := h2 0 (by simp)
        simp only [Nat.zero_mul, Nat.add_zero, List.getElem_cons_zero] at h3
        exact ⟨b, off, h1, h3⟩
      subst had
      obtain ⟨p, hpe⟩ : ∃ p, p = ps[k] := ⟨_, rfl⟩
      have HPE := hide hpe
      obtain ⟨vs, vo, hcp, -⟩ := (unhide HLK3).cells
      simp only [List.getElem_cons_succ] at hcp
      rw [← hpe] at hcp
      clear hpe
      have p0 : wr.cell? ⟨g3, 0, none⟩ = some (.int .i64 p.ev.time) := hcp 0 (by simp)
      have p1 : wr.cell? ⟨g3, 1, none⟩ = some (.int .i64 p.ev.to) := hcp 1 (by simp)
      have p2 : wr.cell? ⟨g3, 2, none⟩ = some (.int .i64 p.ev.src) := hcp 2 (by simp)
      have p3 : wr.cell? ⟨g3, 3, none⟩ = some (.int .i64 p.ev.count) := hcp 3 (by simp)
      have p4 : wr.cell? ⟨g3, 4, none⟩ = some (.int .i64 p.ev.n) := hcp 4 (by simp)
      have p5 : wr.cell? ⟨g3, 5, none⟩ = some (.int .i64 p.ev.kind) := hcp 5 (by simp)
      have p6 : wr.cell? ⟨g3, 6, none⟩ = some (.int .i64 p.ev.arg) := hcp 6 (by simp)
      have x0 : wr.cell? ⟨b, off, none⟩ = some (.int .i64 x.time) := (hcc) 0 (by simp)
      have x1 : wr.cell? ⟨b, off + 1, none⟩ = some (.int .i64 x.to) := (hcc) 1 (by simp)
      have x2 : wr.cell? ⟨b, off + 2, none⟩ = some (.int .i64 x.src) := (hcc) 2 (by simp)
      have x3 : wr.cell? ⟨b, off + 3, none⟩ = some (.int .i64 x.count) := (hcc) 3 (by simp)
      have x4 : wr.cell? ⟨b, off + 4, none⟩ = some (.int .i64 x.n) := (hcc) 4 (by simp)
      have x5 : wr.cell? ⟨b, off + 5, none⟩ = some (.int .i64 x.kind) := (hcc) 5 (by simp)
      have x6 : wr.cell? ⟨b, off + 6, none⟩ = some (.int .i64 x.arg) := (hcc) 6 (by simp)
      clear hcp hcc
      have hl0 : (0 : Int) < (((x :: xs).length : Nat) : Int) := by (simp; try omega)
      have hl1 : decide ((0 : Int) < (((x :: xs).length : Nat) : Int)) = true := decide_eq_true hl0
      have hl2 : (1 : Int) ≤ (((x :: xs).length : Nat) : Int) := by (simp; try omega)
      obtain ⟨r, hr⟩ := E.eq_event p.ev x
      have hg1 := E.guard_ev
      have he1 : ∀ w, (binOp .eql 41 (.agg #[.int .i64 p.ev.time, .int .i64 p.ev.to, .int .i64 p.ev.src, .int .i64 p.ev.count, .int .i64 p.ev.n, .int .i64 p.ev.kind, .int .i64 p.ev.arg]) (.agg #[.int .i64 x.time, .int .i64 x.to, .int .i64 x.src, .int .i64 x.count, .int .i64 x.n, .int .i64 x.kind, .int .i64 x.arg])).run Try.prog w = .ok (.bool r) w := hr.op
      have HR := hide hr.iff
      clear hr
      go_upto_region 1 with fail
      go_quiet (fail)
      cases r
      · have HS : Hid (Same ps es k) := hide ⟨by omega, hk2, unhide HL, fun _ _ he => by
          have h1 : p.ev = x := by rw [unhide HPE, (unhide HXK).1]; exact he
          have := (unhide HR).2 h1
          cases this⟩
        go_wp2_with fail
        rw [unhide HG]
        refine ((unhide HDO) k _ _ hk (unhide HS) (by rw [← unhide HREST]; exact (unhide HRA).on (below_drewN (Below.refl _ _) _)) (below_then (unhide HB) (below_drewN (Below.refl _ _) _))).mono ?_
        rintro e w2 ⟨rfl, hq⟩
        go_wp2_with fail
        exact bodyPost_end (results_none rfl _ _ _) rfl ⟨rfl, hq⟩
      · go_wp2_with fail
        go_quiet (fail)
        go_wp2_with fail
        go_roundw
        case rel =>
          refine ⟨k + 1, g3, hk1, xs, if cap = 1 then some ⟨b, off, none⟩ else some ⟨b, off + 7, none⟩, cap - 1, by omega, rfl, ?_, by simp at hrc; omega, HG3, hide (unhide HXK).2, ?_, hide (fun i h h' hi => ?_), hide (below_then (unhide HB) (below_drewN (below_drewN (Below.refl _ _) _) _))⟩
          · rfl
          · refine hide (RowsAt.on (below_drewN (below_drewN (Below.refl _ _) _) _) ?_)
            by_cases hc1 : cap = 1
            · obtain rfl : xs = [] := List.length_eq_zero_iff.1 (by simp at hrc; omega)
              exact ⟨_, _, rfl, Nat.zero_le _, Nat.zero_le _, Or.inl rfl⟩
            · rw [if_neg hc1]
              exact rows_tail (unhide HRA)
          · by_cases e : i = k
            · subst e
              rw [← unhide HPE, ← (unhide HXK).1]
              exact (unhide HR).1 (by trivial)
            · exact (unhide HL) i h h' (by omega)
        case measure =>
          have a1 := (unhide HCH).asc k (k + 1) hk hk1 (by omega)
          have a2 : (g :: gs)[k + 1] ≤ (g :: gs)[gs.length]'(by simp) := by
            by_cases e : k + 1 = gs.length
            · simp [e]
            · exact Nat.le_of_lt ((unhide HCH).asc (k + 1) gs.length hk1 (by simp) (by simp only [List.length_cons] at hk1; omega))
          have a3 := unhide HG
          have a4 := unhide HG3
          simp only
          omega

end Go.Proofs.Ytjdaedcpjfcpjaa
