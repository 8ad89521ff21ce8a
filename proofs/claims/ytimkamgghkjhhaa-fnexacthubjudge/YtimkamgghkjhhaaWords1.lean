/- Lists of words, as they lie in memory; the exact laws' eq, sz, to of them, and of hubs. -/
import Derived.Test.YtimkamgghkjhhaaWord1
namespace Go.Proofs.Ytimkamgghkjhhaa
open Go.RowKit
set_option linter.unusedVariables false
set_option linter.unusedSimpArgs false

def WordsAt (w : World) (v : Value) (ns : List WordV) : Prop :=
  ∃ (ad : Option Addr) (cap : Nat), v = .slice ad ns.length cap ∧ ns.length ≤ cap ∧ ns.length ≤ maxLen ∧
    (ns = [] ∨ ∃ b off, ad = some ⟨b, off, none⟩ ∧ ∀ i (h : i < ns.length), ∃ vi vv ve vo, CellsAt w b (off + i * 11) (wordCells ns[i] vi vv ve vo) ∧ WordAt w ns[i] vi vv ve vo)

theorem WordsAt.on {w w' : World} {v : Value} {ns : List WordV} (hb : Below w.heap.size w w') (h : WordsAt w v ns) : WordsAt w' v ns := by
  obtain ⟨ad, cap, hv, hl, hm, h⟩ := h
  refine ⟨ad, cap, hv, hl, hm, ?_⟩
  rcases h with h | ⟨b, off, had, hc⟩
  · exact Or.inl h
  · refine Or.inr ⟨b, off, had, fun i hi => ?_⟩
    obtain ⟨vi, vv, ve, vo, h1, h2⟩ := hc i hi
    exact ⟨vi, vv, ve, vo, h1.on hb, h2.on hb⟩

theorem WordsAt.sliced {w : World} {v : Value} {ns : List WordV} (h : WordsAt w v ns) : ∃ a c, v = .slice a ns.length c := by
  obtain ⟨a, c, e, _⟩ := h
  exact ⟨a, c, e⟩

set_option maxRecDepth 100000 in
set_option maxHeartbeats 1000000 in
theorem eqWordS_any (v1 v2 : Value) (ns : List WordV) (w : World) (h1 : WordsAt w v1 ns) (h2 : WordsAt w v2 ns) :
    Calls Try.prog 56 #[v1, v2] w fun e w' => e = .returned (.bool true) ∧ Below w.heap.size w w' := by
  obtain ⟨ad1, cap1, rfl, hl1, hm, hc1⟩ := h1
  obtain ⟨ad2, cap2, rfl, hl2, _, hc2⟩ := h2
  unfold maxLen at hm
  have hne0 : ((ns.length : Int) != (ns.length : Int)) = false := by simp
  have H1 := hide hc1
  have H2 := hide hc2
  clear hc1 hc2
  go_enter Try.func56, Try.ntmps56
  go_wp2_with fail
  go_loopw [5] (fun i wr => ∃ k : Nat, k ≤ ns.length ∧ i = .int .i64 k ∧ Below w.heap.size w wr) (fun i _ => ns.length - (intOf i).toNat)
  case atStart => exact ⟨0, Nat.zero_le _, rfl, Below.refl _ _⟩
  case round =>
    obtain ⟨k, hk, rfl, hb⟩ := hrel
    by_cases hlt : k < ns.length
    · obtain ⟨b1, off1, vi1, vv1, ve1, vo1, had1, hc1, hp1⟩ : ∃ b off vi vv ve vo, ad1 = some ⟨b, off, none⟩ ∧ CellsAt wr b (off + k * 11) (wordCells ns[k] vi vv ve vo) ∧ WordAt wr ns[k] vi vv ve vo := by
        rcases unhide H1 with h | ⟨b, off, h1, h2⟩
        · rw [h] at hlt; exact absurd hlt (Nat.not_lt_zero _)
        · obtain ⟨vi, vv, ve, vo, h3, h4⟩ := h2 k hlt
          exact ⟨b, off, vi, vv, ve, vo, h1, h3.on hb, h4.on hb⟩
      obtain ⟨b2, off2, vi2, vv2, ve2, vo2, had2, hc2, hp2⟩ : ∃ b off vi vv ve vo, ad2 = some ⟨b, off, none⟩ ∧ CellsAt wr b (off + k * 11) (wordCells ns[k] vi vv ve vo) ∧ WordAt wr ns[k] vi vv ve vo := by
        rcases unhide H2 with h | ⟨b, off, h1, h2⟩
        · rw [h] at hlt; exact absurd hlt (Nat.not_lt_zero _)
        · obtain ⟨vi, vv, ve, vo, h3, h4⟩ := h2 k hlt
          exact ⟨b, off, vi, vv, ve, vo, h1, h3.on hb, h4.on hb⟩
      have hkI : (k : Int) < (ns.length : Int) := by omega
      have hk0 : (0 : Int) ≤ (k : Int) := by omega
      subst had1 had2
      generalize ns[k] = n at *
      have q10 : ∀ y : On wr, y.y.cell? ⟨b1, off1 + k * 11, none⟩ = some (.int .i64 n.kind) := fun y => cell_on y.h (hc1 0 (by simp))
      have q11 : ∀ y : On wr, y.y.cell? ⟨b1, off1 + k * 11 + 1, none⟩ = some (.int .i64 n.frm) := fun y => cell_on y.h (hc1 1 (by simp))
      have q12 : ∀ y : On wr, y.y.cell? ⟨b1, off1 + k * 11 + 2, none⟩ = some (.int .i64 n.dst) := fun y => cell_on y.h (hc1 2 (by simp))
      have q13 : ∀ y : On wr, y.y.cell? ⟨b1, off1 + k * 11 + 3, none⟩ = some (.int .i64 n.inc) := fun y => cell_on y.h (hc1 3 (by simp))
      have q14 : ∀ y : On wr, y.y.cell? ⟨b1, off1 + k * 11 + 4, none⟩ = some (.int .i64 n.ver) := fun y => cell_on y.h (hc1 4 (by simp))
      have q15 : ∀ y : On wr, y.y.cell? ⟨b1, off1 + k * 11 + 5, none⟩ = some (.int .i64 n.rd) := fun y => cell_on y.h (hc1 5 (by simp))
      have q16 : ∀ y : On wr, y.y.cell? ⟨b1, off1 + k * 11 + 6, none⟩ = some (.int .i64 n.g) := fun y => cell_on y.h (hc1 6 (by simp))
      have q17 : ∀ y : On wr, y.y.cell? ⟨b1, off1 + k * 11 + 7, none⟩ = some (vi1) := fun y => cell_on y.h (hc1 7 (by simp))
      have q18 : ∀ y : On wr, y.y.cell? ⟨b1, off1 + k * 11 + 8, none⟩ = some (vv1) := fun y => cell_on y.h (hc1 8 (by simp))
      have q19 : ∀ y : On wr, y.y.cell? ⟨b1, off1 + k * 11 + 9, none⟩ = some (ve1) := fun y => cell_on y.h (hc1 9 (by simp))
      have q110 : ∀ y : On wr, y.y.cell? ⟨b1, off1 + k * 11 + 10, none⟩ = some (vo1) := fun y => cell_on y.h (hc1 10 (by simp))
      have q20 : ∀ y : On wr, y.y.cell? ⟨b2, off2 + k * 11, none⟩ = some (.int .i64 n.kind) := fun y => cell_on y.h (hc2 0 (by simp))
      have q21 : ∀ y : On wr, y.y.cell? ⟨b2, off2 + k * 11 + 1, none⟩ = some (.int .i64 n.frm) := fun y => cell_on y.h (hc2 1 (by simp))
      have q22 : ∀ y : On wr, y.y.cell? ⟨b2, off2 + k * 11 + 2, none⟩ = some (.int .i64 n.dst) := fun y => cell_on y.h (hc2 2 (by simp))
      have q23 : ∀ y : On wr, y.y.cell? ⟨b2, off2 + k * 11 + 3, none⟩ = some (.int .i64 n.inc) := fun y => cell_on y.h (hc2 3 (by simp))
      have q24 : ∀ y : On wr, y.y.cell? ⟨b2, off2 + k * 11 + 4, none⟩ = some (.int .i64 n.ver) := fun y => cell_on y.h (hc2 4 (by simp))
      have q25 : ∀ y : On wr, y.y.cell? ⟨b2, off2 + k * 11 + 5, none⟩ = some (.int .i64 n.rd) := fun y => cell_on y.h (hc2 5 (by simp))
      have q26 : ∀ y : On wr, y.y.cell? ⟨b2, off2 + k * 11 + 6, none⟩ = some (.int .i64 n.g) := fun y => cell_on y.h (hc2 6 (by simp))
      have q27 : ∀ y : On wr, y.y.cell? ⟨b2, off2 + k * 11 + 7, none⟩ = some (vi2) := fun y => cell_on y.h (hc2 7 (by simp))
      have q28 : ∀ y : On wr, y.y.cell? ⟨b2, off2 + k * 11 + 8, none⟩ = some (vv2) := fun y => cell_on y.h (hc2 8 (by simp))
      have q29 : ∀ y : On wr, y.y.cell? ⟨b2, off2 + k * 11 + 9, none⟩ = some (ve2) := fun y => cell_on y.h (hc2 9 (by simp))
      have q210 : ∀ y : On wr, y.y.cell? ⟨b2, off2 + k * 11 + 10, none⟩ = some (vo2) := fun y => cell_on y.h (hc2 10 (by simp))
      have HP1 := hide hp1
      have HP2 := hide hp2
      clear hc1 hc2 hp1 hp2
      go_wp2_with fail
      have hne : Nonempty (On wr) := ⟨⟨wr, Below.refl _ _⟩⟩
      refine wp_region_on (by kernel_rfl) (by kernel_rfl) ?_
      repeat (first | go_big_quiet_step ((go_at_call 94; exact calls_on (eqWord_any n vi1 vv1 ve1 vo1 vi2 vv2 ve2 vo2 _ ((unhide HP1).on (On.h _)) ((unhide HP2).on (On.h _))))) | quiet_step ((go_at_call 94; exact calls_on (eqWord_any n vi1 vv1 ve1 vo1 vi2 vv2 ve2 vo2 _ ((unhide HP1).on (On.h _)) ((unhide HP2).on (On.h _))))))
      refine wpQuiet_nil ?_
      intro _ hw'
      obtain ⟨nq, hw''⟩ := hw'
      subst hw''
      go_wp2_with fail
      go_roundw
      case rel => exact ⟨k + 1, by omega, by simp, below_then hb nq.h⟩
      case measure => (simp [intOf]; try omega)
    · go_wp2_with fail
      go_ret
      exact ⟨rfl, hb⟩

/-- How long the lists of a word may be. -/
def WordMost (m : Int) (n : WordV) : Prop := (n.incs.length : Int) ≤ m ∧ (n.vers.length : Int) ≤ m ∧ (n.evs.length : Int) ≤ m ∧ (n.outs.length : Int) ≤ m

set_option maxRecDepth 100000 in
set_option maxHeartbeats 1000000 in
theorem szWordS_any (v : Value) (ns : List WordV) (left : Int) (w : World) (h : WordsAt w v ns) (h0 : 0 ≤ left) (h1 : left ≤ 1048576) :
    Calls Try.prog 52 #[v, .int .i64 left] w fun e w' => ∃ r, e = .returned (.int .i64 r) ∧ (r = -1 ∨ 0 ≤ r ∧ r ≤ left ∧ (ns.length : Int) ≤ left ∧ ∀ n ∈ ns, WordMost left n) ∧ Below w.heap.size w w' := by
  obtain ⟨ad, cap, rfl, hlc, hm, hc⟩ := h
  unfold maxLen at hm
  have HC := hide hc
  clear hc
  by_cases hbig : left < (ns.length : Int)
  · have hb1 : left - (ns.length : Int) < 0 := by omega
    go_enter Try.func52, Try.ntmps52
    go_wp2_with fail
    go_ret
    exact ⟨-1, rfl, Or.inl rfl, Below.refl _ _⟩
  have hb1 : ¬ left - (ns.length : Int) < 0 := by omega
  go_enter Try.func52, Try.ntmps52
  go_wp2_with fail
  go_loopw [1, 5] (fun l i wr => ∃ (k : Nat) (r : Int), k ≤ ns.length ∧ i = .int .i64 k ∧ l = .int .i64 r ∧ 0 ≤ r ∧ r ≤ left ∧ Hid (∀ i (h : i < ns.length), i < k → WordMost left ns[i]) ∧ Hid (Below w.heap.size w wr)) (fun _ i _ => ns.length - (intOf i).toNat)
  case atStart => exact ⟨0, left - ns.length, Nat.zero_le _, rfl, rfl, by omega, by omega, hide (fun i _ h => absurd h (Nat.not_lt_zero _)), hide (Below.refl _ _)⟩
  case round =>
    obtain ⟨k, r, hk, rfl, rfl, hr0, hr1, HL, HB⟩ := hrel
    by_cases hlt : k < ns.length
    · obtain ⟨b, off, vi, vv, ve, vo, had, hc, hp⟩ : ∃ b off vi vv ve vo, ad = some ⟨b, off, none⟩ ∧ CellsAt wr b (off + k * 11) (wordCells ns[k] vi vv ve vo) ∧ WordAt wr ns[k] vi vv ve vo := by
        rcases unhide HC with h | ⟨b, off, h1, h2⟩
        · rw [h] at hlt; exact absurd hlt (Nat.not_lt_zero _)
        · obtain ⟨vi, vv, ve, vo, h3, h4⟩ := h2 k hlt
          exact ⟨b, off, vi, vv, ve, vo, h1, h3.on (unhide HB), h4.on (unhide HB)⟩
      have hkI : (k : Int) < (ns.length : Int) := by omega
      have hk0 : (0 : Int) ≤ (k : Int) := by omega
      subst had
      obtain ⟨n, hpe⟩ : ∃ n, n = ns[k] := ⟨_, rfl⟩
      rw [← hpe] at hc hp
      have HPE := hide hpe
      clear hpe
      have q0 : wr.cell? ⟨b, off + k * 11, none⟩ = some (.int .i64 n.kind) := hc 0 (by simp)
      have q1 : wr.cell? ⟨b, off + k * 11 + 1, none⟩ = some (.int .i64 n.frm) := hc 1 (by simp)
      have q2 : wr.cell? ⟨b, off + k * 11 + 2, none⟩ = some (.int .i64 n.dst) := hc 2 (by simp)
      have q3 : wr.cell? ⟨b, off + k * 11 + 3, none⟩ = some (.int .i64 n.inc) := hc 3 (by simp)
      have q4 : wr.cell? ⟨b, off + k * 11 + 4, none⟩ = some (.int .i64 n.ver) := hc 4 (by simp)
      have q5 : wr.cell? ⟨b, off + k * 11 + 5, none⟩ = some (.int .i64 n.rd) := hc 5 (by simp)
      have q6 : wr.cell? ⟨b, off + k * 11 + 6, none⟩ = some (.int .i64 n.g) := hc 6 (by simp)
      have q7 : wr.cell? ⟨b, off + k * 11 + 7, none⟩ = some (vi) := hc 7 (by simp)
      have q8 : wr.cell? ⟨b, off + k * 11 + 8, none⟩ = some (vv) := hc 8 (by simp)
      have q9 : wr.cell? ⟨b, off + k * 11 + 9, none⟩ = some (ve) := hc 9 (by simp)
      have q10 : wr.cell? ⟨b, off + k * 11 + 10, none⟩ = some (vo) := hc 10 (by simp)
      have HP := hide hp
      clear hc hp
      go_wp2_with fail
      refine (szWord_any n vi vv ve vo r wr (unhide HP) hr0 (by omega)).mono ?_
      rintro e w3 ⟨r3, rfl, hr3, hb3⟩
      have hB3 := below_then (unhide HB) hb3
      rcases hr3 with rfl | ⟨h30, h31, h32, h33, h34, h35⟩
      · go_wp2_with fail
        go_ret
        exact ⟨-1, rfl, Or.inl rfl, hB3⟩
      · go_wp2_with fail
        go_roundw
        case rel =>
          refine ⟨k + 1, r3, by omega, by simp, rfl, h30, by omega, hide (fun i hi hik => ?_), hide hB3⟩
          by_cases e : i = k
          · subst e; rw [← unhide HPE]; exact ⟨by omega, by omega, by omega, by omega⟩
          · exact (unhide HL) i hi (by omega)
        case measure => (simp [intOf]; try omega)
    · have hke : k = ns.length := by omega
      go_wp2_with fail
      go_ret
      refine ⟨r, rfl, Or.inr ⟨hr0, hr1, by omega, fun n hn => ?_⟩, unhide HB⟩
      obtain ⟨i, hi, rfl⟩ := List.getElem_of_mem hn
      exact (unhide HL) i hi (by omega)

/-- The first k of a list of words lie in the row. -/
def WordsIn (N : Nat) (w : World) (f : Nat → Value) (ns : List WordV) (k : Nat) : Prop :=
  ∀ i (h : i < ns.length), i < k → ∃ vi vv ve vo, (∀ j (hj : j < 11), f (i * 11 + j) = (wordCells ns[i] vi vv ve vo)[j]) ∧ WordFr N w ns[i] vi vv ve vo

/-- A list of words in a block of its own, from block N on; the lists of each behind that block. -/
def WordsFr (N : Nat) (w : World) (v : Value) (ns : List WordV) : Prop :=
  ∃ g f, N ≤ g ∧ v = .slice (some ⟨g, 0, none⟩) ns.length ns.length ∧ ns.length ≤ maxLen ∧ w.rowIs g 41 (ns.length * 11) f ∧ WordsIn (g + 1) w f ns ns.length

theorem WordsFr.at {N : Nat} {w : World} {v : Value} {ns : List WordV} (h : WordsFr N w v ns) : WordsAt w v ns := by
  obtain ⟨g, f, _, rfl, hm, hr, hp⟩ := h
  refine ⟨_, _, rfl, Nat.le_refl _, hm, Or.inr ⟨g, 0, rfl, fun i hi => ?_⟩⟩
  obtain ⟨vi, vv, ve, vo, h1, h2⟩ := hp i hi hi
  refine ⟨vi, vv, ve, vo, fun j hj => ?_, h2.at⟩
  have hj' : j < 11 := hj
  rw [Nat.zero_add, hr.cell (mul_place hi hj'), h1 j hj']

theorem WordsIn.on {N : Nat} {w w' : World} {f : Nat → Value} {ns : List WordV} {k : Nat} (hb : Below w.heap.size w w') (h : WordsIn N w f ns k) : WordsIn N w' f ns k := fun i hi hk => by
  obtain ⟨vi, vv, ve, vo, h1, h2⟩ := h i hi hk
  exact ⟨vi, vv, ve, vo, h1, h2.on hb⟩

theorem WordsFr.on {N : Nat} {w w' : World} {v : Value} {ns : List WordV} (hb : Below w.heap.size w w') (h : WordsFr N w v ns) : WordsFr N w' v ns := by
  obtain ⟨g, f, h0, h1, hm, hr, hp⟩ := h
  exact ⟨g, f, h0, h1, hm, hr.of_block (hb.block g hr.lt), hp.on hb⟩

theorem WordsFr.less {N M : Nat} {w : World} {v : Value} {ns : List WordV} (hNM : M ≤ N) (h : WordsFr N w v ns) : WordsFr M w v ns := by
  obtain ⟨g, f, h0, h1⟩ := h
  exact ⟨g, f, Nat.le_trans hNM h0, h1⟩
theorem WordsFr.setV {N r o : Nat} {w : World} {v : Value} {ns : List WordV} (h : WordsFr N w v ns) (hr : r < N) (xs : List Value) : WordsFr N (setVals w r o xs) v ns := by
  obtain ⟨g, f, h0, h1, hm, hrow, hp⟩ := h
  refine ⟨g, f, h0, h1, hm, hrow.of_block (setVals_other xs o w g (by omega)), fun i hi hk => ?_⟩
  obtain ⟨vi, vv, ve, vo, h2, h3⟩ := hp i hi hk
  exact ⟨vi, vv, ve, vo, h2, h3.setV (by omega) _⟩
theorem WordsFr.set {N r o : Nat} {w : World} {v u : Value} {ns : List WordV} (h : WordsFr N w v ns) (hr : r < N) : WordsFr N (w.setCell ⟨r, o, none⟩ u) v ns := h.setV (o := o) hr [u]

theorem slice_WordT : Try.prog.underlying 49 = some (.slice 41) := by kernel_rfl
theorem info_WordT : (Try.prog.info? 41).map (fun i => (i.zero, i.size, i.bytes)) = some (some (.agg #[.int .i64 0, .int .i64 0, .int .i64 0, .int .i64 0, .int .i64 0, .int .i64 0, .int .i64 0, .slice none 0 0, .slice none 0 0, .slice none 0 0, .slice none 0 0]), 11, 152) := by kernel_rfl

theorem wordsIn_more {g k : Nat} {w : World} {f : Nat → Value} {ns : List WordV} {ui uv ue uo : Value} (hk : k < ns.length) (h : WordsIn (g + 1) w f ns k) (hn : WordFr (g + 1) w ns[k] ui uv ue uo) :
    WordsIn (g + 1) (setVals w g (k * 11) (wordCells ns[k] ui uv ue uo)) (fun j => if k * 11 ≤ j ∧ j < k * 11 + 11 then (wordCells ns[k] ui uv ue uo).getD (j - k * 11) undef else f j) ns (k + 1) := by
  intro i hi hik
  rcases (show i = k ∨ i < k by omega) with rfl | hlt
  · refine ⟨ui, uv, ue, uo, fun j hj => ?_, hn.setV (by omega) _⟩
    show (if i * 11 ≤ i * 11 + j ∧ i * 11 + j < i * 11 + 11 then (wordCells ns[i] ui uv ue uo).getD (i * 11 + j - i * 11) undef else f (i * 11 + j)) = _
    rw [if_pos (by omega), Nat.add_sub_cancel_left]
    simp only [List.getD_eq_getElem?_getD, List.getElem?_eq_getElem (show j < (wordCells ns[i] ui uv ue uo).length from hj), Option.getD_some]
  · obtain ⟨vi, vv, ve, vo, h1, h2⟩ := h i hi hlt
    refine ⟨vi, vv, ve, vo, fun j hj => ?_, h2.setV (by omega) _⟩
    have := mul_place hlt hj
    show (if k * 11 ≤ i * 11 + j ∧ i * 11 + j < k * 11 + 11 then (wordCells ns[k] ui uv ue uo).getD (i * 11 + j - k * 11) undef else f (i * 11 + j)) = _
    rw [if_neg (by omega)]
    exact h1 j hj

set_option maxRecDepth 100000 in
set_option maxHeartbeats 2000000 in
theorem toWordS_any (v : Value) (ns : List WordV) (w : World) (h : WordsAt w v ns) (hlen : ns.length ≤ 1048576) (hl : ∀ n ∈ ns, WordMost 1048576 n) :
    Calls Try.prog 54 #[v] w fun e w' => ∃ v', e = .returned v' ∧ WordsFr w.heap.size w' v' ns ∧ Below w.heap.size w w' := by
  obtain ⟨ad, cap, rfl, hlc, hm, hcells⟩ := h
  have HMX := hide hm
  have HL := hide hl
  clear hm hl
  have hmk := run_make_n (P := Try.prog) 49 41 _ 11 152 slice_WordT info_WordT ns.length (by omega) (by omega)
  have HC := hide hcells
  clear hcells
  go_enter Try.func54, Try.ntmps54
  go_wp2_with fail
  have hb1 : Below w.heap.size w (w.alloc (.cells (madeCells #[.int .i64 0, .int .i64 0, .int .i64 0, .int .i64 0, .int .i64 0, .int .i64 0, .int .i64 0, .slice none 0 0, .slice none 0 0, .slice none 0 0, .slice none 0 0] (ns.length * 11)) 41)) := (Below.refl _ _).alloc (Nat.le_refl _) _
  have hr1 := row_made w #[.int .i64 0, .int .i64 0, .int .i64 0, .int .i64 0, .int .i64 0, .int .i64 0, .int .i64 0, .slice none 0 0, .slice none 0 0, .slice none 0 0, .slice none 0 0] (ns.length * 11) 41
  clear hmk
  generalize w.alloc (.cells (madeCells #[.int .i64 0, .int .i64 0, .int .i64 0, .int .i64 0, .int .i64 0, .int .i64 0, .int .i64 0, .slice none 0 0, .slice none 0 0, .slice none 0 0, .slice none 0 0] (ns.length * 11)) 41) = w1 at *
  go_loopw [4] (fun i wr => ∃ (k : Nat) (f : Nat → Value), k ≤ ns.length ∧ i = .int .i64 k ∧ wr.rowIs w.heap.size 41 (ns.length * 11) f ∧ WordsIn (w.heap.size + 1) wr f ns k ∧ Below w.heap.size w wr) (fun i _ => ns.length - (intOf i).toNat)
  case atStart => exact ⟨0, _, Nat.zero_le _, rfl, hr1, fun j _ h => absurd h (Nat.not_lt_zero _), hb1⟩
  case round =>
    obtain ⟨k, f, hk, rfl, hrow, hin, hb⟩ := hrel
    have HROW := hide hrow
    have HIN := hide hin
    have hgl : w.heap.size < wr.heap.size := hrow.lt
    clear hrow hin hr1
    by_cases hlt : k < ns.length
    · obtain ⟨b, off, vi, vv, ve, vo, had, hc, hp⟩ : ∃ b off vi vv ve vo, ad = some ⟨b, off, none⟩ ∧ CellsAt wr b (off + k * 11) (wordCells ns[k] vi vv ve vo) ∧ WordAt wr ns[k] vi vv ve vo := by
        rcases unhide HC with h | ⟨b, off, h1, h2⟩
        · rw [h] at hlt; exact absurd hlt (Nat.not_lt_zero _)
        · obtain ⟨vi, vv, ve, vo, h3, h4⟩ := h2 k hlt
          exact ⟨b, off, vi, vv, ve, vo, h1, h3.on hb, h4.on hb⟩
      have hkI : (k : Int) < (ns.length : Int) := by omega
      have hk0 : (0 : Int) ≤ (k : Int) := by omega
      subst had
      have hlp := (unhide HL) ns[k] (List.getElem_mem hlt)
      obtain ⟨n, hpe⟩ : ∃ n, n = ns[k] := ⟨_, rfl⟩
      rw [← hpe] at hc hp hlp
      have HPE := hide hpe
      clear hpe
      obtain ⟨hl1, hl2, hl3, hl4⟩ := hlp
      have q0 : wr.cell? ⟨b, off + k * 11, none⟩ = some (.int .i64 n.kind) := hc 0 (by simp)
      have q1 : wr.cell? ⟨b, off + k * 11 + 1, none⟩ = some (.int .i64 n.frm) := hc 1 (by simp)
      have q2 : wr.cell? ⟨b, off + k * 11 + 2, none⟩ = some (.int .i64 n.dst) := hc 2 (by simp)
      have q3 : wr.cell? ⟨b, off + k * 11 + 3, none⟩ = some (.int .i64 n.inc) := hc 3 (by simp)
      have q4 : wr.cell? ⟨b, off + k * 11 + 4, none⟩ = some (.int .i64 n.ver) := hc 4 (by simp)
      have q5 : wr.cell? ⟨b, off + k * 11 + 5, none⟩ = some (.int .i64 n.rd) := hc 5 (by simp)
      have q6 : wr.cell? ⟨b, off + k * 11 + 6, none⟩ = some (.int .i64 n.g) := hc 6 (by simp)
      have q7 : wr.cell? ⟨b, off + k * 11 + 7, none⟩ = some (vi) := hc 7 (by simp)
      have q8 : wr.cell? ⟨b, off + k * 11 + 8, none⟩ = some (vv) := hc 8 (by simp)
      have q9 : wr.cell? ⟨b, off + k * 11 + 9, none⟩ = some (ve) := hc 9 (by simp)
      have q10 : wr.cell? ⟨b, off + k * 11 + 10, none⟩ = some (vo) := hc 10 (by simp)
      have HP := hide hp
      clear hc hp
      go_wp2_with fail
      refine (toWord_any n vi vv ve vo wr (unhide HP) (by omega) (by omega) (by omega) (by omega)).mono ?_
      rintro e w3 ⟨t0, t1, t2, t3, rfl, hf3, hb3⟩
      obtain ⟨⟨u0, uc0, e0⟩, ⟨u1, uc1, e1⟩, ⟨u2, uc2, e2⟩, ⟨u3, uc3, e3⟩⟩ := hf3.at.sliced
      subst e0 e1 e2 e3
      clear hl1 hl2 hl3 hl4
      clear q0 q1 q2 q3 q4 q5 q6 q7 q8 q9 q10
      have hr3 := (unhide HROW).of_block (hb3.block _ hgl)
      have g0 : w3.cell? ⟨w.heap.size, k * 11 + 0, none⟩ = some (f (k * 11 + 0)) := hr3.cell (mul_place hlt (by omega))
      have z0 : w3.frozen? ⟨w.heap.size, k * 11 + 0, none⟩ = false := hr3.frozen _
      have g1 : w3.cell? ⟨w.heap.size, k * 11 + 1, none⟩ = some (f (k * 11 + 1)) := hr3.cell (mul_place hlt (by omega))
      have z1 : w3.frozen? ⟨w.heap.size, k * 11 + 1, none⟩ = false := hr3.frozen _
      have g2 : w3.cell? ⟨w.heap.size, k * 11 + 2, none⟩ = some (f (k * 11 + 2)) := hr3.cell (mul_place hlt (by omega))
      have z2 : w3.frozen? ⟨w.heap.size, k * 11 + 2, none⟩ = false := hr3.frozen _
      have g3 : w3.cell? ⟨w.heap.size, k * 11 + 3, none⟩ = some (f (k * 11 + 3)) := hr3.cell (mul_place hlt (by omega))
      have z3 : w3.frozen? ⟨w.heap.size, k * 11 + 3, none⟩ = false := hr3.frozen _
      have g4 : w3.cell? ⟨w.heap.size, k * 11 + 4, none⟩ = some (f (k * 11 + 4)) := hr3.cell (mul_place hlt (by omega))
      have z4 : w3.frozen? ⟨w.heap.size, k * 11 + 4, none⟩ = false := hr3.frozen _
      have g5 : w3.cell? ⟨w.heap.size, k * 11 + 5, none⟩ = some (f (k * 11 + 5)) := hr3.cell (mul_place hlt (by omega))
      have z5 : w3.frozen? ⟨w.heap.size, k * 11 + 5, none⟩ = false := hr3.frozen _
      have g6 : w3.cell? ⟨w.heap.size, k * 11 + 6, none⟩ = some (f (k * 11 + 6)) := hr3.cell (mul_place hlt (by omega))
      have z6 : w3.frozen? ⟨w.heap.size, k * 11 + 6, none⟩ = false := hr3.frozen _
      have g7 : w3.cell? ⟨w.heap.size, k * 11 + 7, none⟩ = some (f (k * 11 + 7)) := hr3.cell (mul_place hlt (by omega))
      have z7 : w3.frozen? ⟨w.heap.size, k * 11 + 7, none⟩ = false := hr3.frozen _
      have g8 : w3.cell? ⟨w.heap.size, k * 11 + 8, none⟩ = some (f (k * 11 + 8)) := hr3.cell (mul_place hlt (by omega))
      have z8 : w3.frozen? ⟨w.heap.size, k * 11 + 8, none⟩ = false := hr3.frozen _
      have g9 : w3.cell? ⟨w.heap.size, k * 11 + 9, none⟩ = some (f (k * 11 + 9)) := hr3.cell (mul_place hlt (by omega))
      have z9 : w3.frozen? ⟨w.heap.size, k * 11 + 9, none⟩ = false := hr3.frozen _
      have g10 : w3.cell? ⟨w.heap.size, k * 11 + 10, none⟩ = some (f (k * 11 + 10)) := hr3.cell (mul_place hlt (by omega))
      have z10 : w3.frozen? ⟨w.heap.size, k * 11 + 10, none⟩ = false := hr3.frozen _
      simp only [Nat.add_zero] at g0 z0
      have hset : (((((((((((w3.setCell ⟨w.heap.size, k * 11, none⟩ (.int .i64 n.kind)).setCell ⟨w.heap.size, k * 11 + 1, none⟩ (.int .i64 n.frm)).setCell ⟨w.heap.size, k * 11 + 2, none⟩ (.int .i64 n.dst)).setCell ⟨w.heap.size, k * 11 + 3, none⟩ (.int .i64 n.inc)).setCell ⟨w.heap.size, k * 11 + 4, none⟩ (.int .i64 n.ver)).setCell ⟨w.heap.size, k * 11 + 5, none⟩ (.int .i64 n.rd)).setCell ⟨w.heap.size, k * 11 + 6, none⟩ (.int .i64 n.g)).setCell ⟨w.heap.size, k * 11 + 7, none⟩ (.slice u0 n.incs.length uc0)).setCell ⟨w.heap.size, k * 11 + 8, none⟩ (.slice u1 n.vers.length uc1)).setCell ⟨w.heap.size, k * 11 + 9, none⟩ (.slice u2 n.evs.length uc2)).setCell ⟨w.heap.size, k * 11 + 10, none⟩ (.slice u3 n.outs.length uc3)) = setVals w3 w.heap.size (k * 11) (wordCells n (.slice u0 n.incs.length uc0) (.slice u1 n.vers.length uc1) (.slice u2 n.evs.length uc2) (.slice u3 n.outs.length uc3)) := rfl
      have HR4 := hide (setVals_row (wordCells n (.slice u0 n.incs.length uc0) (.slice u1 n.vers.length uc1) (.slice u2 n.evs.length uc2) (.slice u3 n.outs.length uc3)) (k * 11) w3 _ hr3)
      have HI4 : Hid (WordsIn (w.heap.size + 1) (setVals w3 w.heap.size (k * 11) (wordCells n (.slice u0 n.incs.length uc0) (.slice u1 n.vers.length uc1) (.slice u2 n.evs.length uc2) (.slice u3 n.outs.length uc3))) _ ns (k + 1)) := hide (by
        have e := wordsIn_more (ui := .slice u0 n.incs.length uc0) (uv := .slice u1 n.vers.length uc1) (ue := .slice u2 n.evs.length uc2) (uo := .slice u3 n.outs.length uc3) hlt ((unhide HIN).on hb3) (by rw [← unhide HPE]; exact hf3.less (by omega))
        rw [← unhide HPE] at e
        exact e)
      have HB4 := hide (setVals_below (wordCells n (.slice u0 n.incs.length uc0) (.slice u1 n.vers.length uc1) (.slice u2 n.evs.length uc2) (.slice u3 n.outs.length uc3)) (k * 11) w3 (below_then hb hb3) (Nat.le_refl _))
      rw [← hset] at HR4 HI4 HB4
      clear hset hr3 hf3 hb3
      go_wp2_with fail
      go_roundw
      case rel => exact ⟨k + 1, _, by omega, by simp, unhide HR4, unhide HI4, unhide HB4⟩
      case measure => (simp [intOf]; try omega)
    · have hke : k = ns.length := by omega
      subst hke
      go_wp2_with fail
      go_ret
      exact ⟨_, rfl, ⟨w.heap.size, f, Nat.le_refl _, rfl, unhide HMX, unhide HROW, unhide HIN⟩, hb⟩

theorem wordMost_le {a b : Int} {n : WordV} (h : a ≤ b) (k : WordMost a n) : WordMost b n := by
  obtain ⟨h1, h2, h3, h4⟩ := k
  exact ⟨by omega, by omega, by omega, by omega⟩

structure HubV where
  rd : Int
  ones : List WordV
  twos : List WordV
  outs : List WordV

abbrev hubCells (n : HubV) (v1 v2 v3 : Value) : List Value := [.int .i64 n.rd, v1, v2, v3]
abbrev hubAgg (n : HubV) (v1 v2 v3 : Value) : Value := .agg #[.int .i64 n.rd, v1, v2, v3]

structure HubAt (w : World) (n : HubV) (v1 v2 v3 : Value) : Prop where
  a : WordsAt w v1 n.ones
  b : WordsAt w v2 n.twos
  c : WordsAt w v3 n.outs

theorem HubAt.on {w w' : World} {n : HubV} {v1 v2 v3 : Value} (hb : Below w.heap.size w w') (h : HubAt w n v1 v2 v3) : HubAt w' n v1 v2 v3 := ⟨h.a.on hb, h.b.on hb, h.c.on hb⟩
theorem HubAt.sliced {w : World} {n : HubV} {v1 v2 v3 : Value} (h : HubAt w n v1 v2 v3) :
    (∃ a c, v1 = .slice a n.ones.length c) ∧ (∃ a c, v2 = .slice a n.twos.length c) ∧ ∃ a c, v3 = .slice a n.outs.length c := ⟨h.a.sliced, h.b.sliced, h.c.sliced⟩

structure HubFr (N : Nat) (w : World) (n : HubV) (v1 v2 v3 : Value) : Prop where
  a : WordsFr N w v1 n.ones
  b : WordsFr N w v2 n.twos
  c : WordsFr N w v3 n.outs
theorem HubFr.at {N : Nat} {w : World} {n : HubV} {v1 v2 v3 : Value} (h : HubFr N w n v1 v2 v3) : HubAt w n v1 v2 v3 := ⟨h.a.at, h.b.at, h.c.at⟩

set_option maxRecDepth 100000 in
set_option maxHeartbeats 2000000 in
theorem eqHub_any (n : HubV) (v1 v2 v3 u1 u2 u3 : Value) (w : World) (h1 : HubAt w n v1 v2 v3) (h2 : HubAt w n u1 u2 u3) :
    Calls Try.prog 20 #[hubAgg n v1 v2 v3, hubAgg n u1 u2 u3] w fun e w' => e = .returned (.bool true) ∧ Below w.heap.size w w' := by
  have H1 := hide h1
  have H2 := hide h2
  obtain ⟨⟨a0, ac0, e1⟩, ⟨a1, ac1, e2⟩, ⟨a2, ac2, e3⟩⟩ := h1.sliced
  subst e1 e2 e3
  obtain ⟨⟨b0, bc0, e1⟩, ⟨b1, bc1, e2⟩, ⟨b2, bc2, e3⟩⟩ := h2.sliced
  subst e1 e2 e3
  clear h1 h2
  have hqm : ∀ z : Int, (z != z) = false := by intro z; simp
  have hb0 : Below w.heap.size w ((w.alloc (.cells #[.int .i64 n.rd, .slice a0 n.ones.length ac0, .slice a1 n.twos.length ac1, .slice a2 n.outs.length ac2] 51)).alloc (.cells #[.int .i64 n.rd, .slice b0 n.ones.length bc0, .slice b1 n.twos.length bc1, .slice b2 n.outs.length bc2] 51)) := ((Below.refl _ _).alloc (Nat.le_refl _) _).alloc (by simp) _
  have cA : CellsAt ((w.alloc (.cells #[.int .i64 n.rd, .slice a0 n.ones.length ac0, .slice a1 n.twos.length ac1, .slice a2 n.outs.length ac2] 51)).alloc (.cells #[.int .i64 n.rd, .slice b0 n.ones.length bc0, .slice b1 n.twos.length bc1, .slice b2 n.outs.length bc2] 51)) w.heap.size 0 [.int .i64 n.rd, .slice a0 n.ones.length ac0, .slice a1 n.twos.length ac1, .slice a2 n.outs.length ac2] := (cellsAt_new w [.int .i64 n.rd, .slice a0 n.ones.length ac0, .slice a1 n.twos.length ac1, .slice a2 n.outs.length ac2] 51).on ((Below.refl _ _).alloc (Nat.le_refl _) _)
  have cB : CellsAt ((w.alloc (.cells #[.int .i64 n.rd, .slice a0 n.ones.length ac0, .slice a1 n.twos.length ac1, .slice a2 n.outs.length ac2] 51)).alloc (.cells #[.int .i64 n.rd, .slice b0 n.ones.length bc0, .slice b1 n.twos.length bc1, .slice b2 n.outs.length bc2] 51)) (w.heap.size + 1) 0 [.int .i64 n.rd, .slice b0 n.ones.length bc0, .slice b1 n.twos.length bc1, .slice b2 n.outs.length bc2] := by
    have e := cellsAt_new (w.alloc (.cells #[.int .i64 n.rd, .slice a0 n.ones.length ac0, .slice a1 n.twos.length ac1, .slice a2 n.outs.length ac2] 51)) [.int .i64 n.rd, .slice b0 n.ones.length bc0, .slice b1 n.twos.length bc1, .slice b2 n.outs.length bc2] 51
    have hs : (w.alloc (.cells #[.int .i64 n.rd, .slice a0 n.ones.length ac0, .slice a1 n.twos.length ac1, .slice a2 n.outs.length ac2] 51)).heap.size = w.heap.size + 1 := by simp
    rw [hs] at e
    exact e
  have HB0 := hide hb0
  have HA := hide cA
  have HC := hide cB
  clear hb0 cA cB
  go_enter Try.func20, Try.ntmps20
  go_upto_region 1 with fail
  generalize ((w.alloc (.cells #[.int .i64 n.rd, .slice a0 n.ones.length ac0, .slice a1 n.twos.length ac1, .slice a2 n.outs.length ac2] 51)).alloc (.cells #[.int .i64 n.rd, .slice b0 n.ones.length bc0, .slice b1 n.twos.length bc1, .slice b2 n.outs.length bc2] 51)) = X at *
  have k0 : X.cell? ⟨w.heap.size, 0, none⟩ = some (.int .i64 n.rd) := (unhide HA) 0 (by simp)
  have k1 : X.cell? ⟨w.heap.size, 1, none⟩ = some (.slice a0 n.ones.length ac0) := (unhide HA) 1 (by simp)
  have k2 : X.cell? ⟨w.heap.size, 2, none⟩ = some (.slice a1 n.twos.length ac1) := (unhide HA) 2 (by simp)
  have k3 : X.cell? ⟨w.heap.size, 3, none⟩ = some (.slice a2 n.outs.length ac2) := (unhide HA) 3 (by simp)
  have l0 : X.cell? ⟨w.heap.size + 1, 0, none⟩ = some (.int .i64 n.rd) := (unhide HC) 0 (by simp)
  have l1 : X.cell? ⟨w.heap.size + 1, 1, none⟩ = some (.slice b0 n.ones.length bc0) := (unhide HC) 1 (by simp)
  have l2 : X.cell? ⟨w.heap.size + 1, 2, none⟩ = some (.slice b1 n.twos.length bc1) := (unhide HC) 2 (by simp)
  have l3 : X.cell? ⟨w.heap.size + 1, 3, none⟩ = some (.slice b2 n.outs.length bc2) := (unhide HC) 3 (by simp)
  have hB := unhide HB0
  go_wp2_with fail
  refine (eqWordS_any _ _ n.ones _ ((unhide H1).a.on hB) ((unhide H2).a.on hB)).mono ?_
  rintro e w1 ⟨rfl, hb1⟩
  replace k2 := cell_on hb1 k2
  replace l2 := cell_on hb1 l2
  replace k3 := cell_on hb1 k3
  replace l3 := cell_on hb1 l3
  replace hB := below_then hB hb1
  clear hb1
  go_wp2_with fail
  refine (eqWordS_any _ _ n.twos _ ((unhide H1).b.on hB) ((unhide H2).b.on hB)).mono ?_
  rintro e w2 ⟨rfl, hb2⟩
  replace k3 := cell_on hb2 k3
  replace l3 := cell_on hb2 l3
  replace hB := below_then hB hb2
  clear hb2
  go_wp2_with fail
  refine (eqWordS_any _ _ n.outs _ ((unhide H1).c.on hB) ((unhide H2).c.on hB)).mono ?_
  rintro e w3 ⟨rfl, hb3⟩
  replace hB := below_then hB hb3
  clear hb3
  go_wp2_with fail
  go_ret
  exact ⟨rfl, hB⟩

set_option maxRecDepth 100000 in
set_option maxHeartbeats 1000000 in
theorem szHub_any (n : HubV) (v1 v2 v3 : Value) (left : Int) (w : World) (h : HubAt w n v1 v2 v3) (h0 : 0 ≤ left) (h1 : left ≤ 1048576) :
    Calls Try.prog 16 #[hubAgg n v1 v2 v3, .int .i64 left] w fun e w' => ∃ r, e = .returned (.int .i64 r) ∧ (r = -1 ∨ 0 ≤ r ∧ r ≤ left ∧ ((n.ones.length : Int) ≤ left ∧ ∀ x ∈ n.ones, WordMost left x) ∧ ((n.twos.length : Int) ≤ left ∧ ∀ x ∈ n.twos, WordMost left x) ∧ ((n.outs.length : Int) ≤ left ∧ ∀ x ∈ n.outs, WordMost left x)) ∧ Below w.heap.size w w' := by
  obtain ⟨⟨a0, ac0, e1⟩, ⟨a1, ac1, e2⟩, ⟨a2, ac2, e3⟩⟩ := h.sliced
  subst e1 e2 e3
  have hb : Below w.heap.size w (w.alloc (.cells #[.int .i64 n.rd, .slice a0 n.ones.length ac0, .slice a1 n.twos.length ac1, .slice a2 n.outs.length ac2] 46)) := (Below.refl _ _).alloc (Nat.le_refl _) _
  have cA := hide (cellsAt_new w [.int .i64 n.rd, .slice a0 n.ones.length ac0, .slice a1 n.twos.length ac1, .slice a2 n.outs.length ac2] 46)
  have H := hide (h.on hb)
  clear h
  go_enter Try.func16, Try.ntmps16
  go_upto_region 1 with fail
  change Hid (CellsAt (w.alloc (.cells #[.int .i64 n.rd, .slice a0 n.ones.length ac0, .slice a1 n.twos.length ac1, .slice a2 n.outs.length ac2] 46)) _ _ _) at cA
  generalize (w.alloc (.cells #[.int .i64 n.rd, .slice a0 n.ones.length ac0, .slice a1 n.twos.length ac1, .slice a2 n.outs.length ac2] 46)) = X at *
  have k0 : X.cell? ⟨w.heap.size, 0, none⟩ = some (.int .i64 n.rd) := (unhide cA) 0 (by simp)
  have k1 : X.cell? ⟨w.heap.size, 1, none⟩ = some (.slice a0 n.ones.length ac0) := (unhide cA) 1 (by simp)
  have k2 : X.cell? ⟨w.heap.size, 2, none⟩ = some (.slice a1 n.twos.length ac1) := (unhide cA) 2 (by simp)
  have k3 : X.cell? ⟨w.heap.size, 3, none⟩ = some (.slice a2 n.outs.length ac2) := (unhide cA) 3 (by simp)
  go_wp2_with fail
  have hB := hb
  have hB' : Below X.heap.size X X := Below.refl _ _
  refine (szWordS_any _ n.ones left _ ((unhide H).a.on hB') h0 h1).mono ?_
  rintro e z0 ⟨r0, rfl, hr, hbz⟩
  replace hB := below_then hB hbz
  replace hB' := below_then hB' hbz
  replace k2 := cell_on hbz k2
  replace k3 := cell_on hbz k3
  rcases hr with rfl | ⟨hr0, hq0, hl0, hm0⟩
  · go_wp2_with fail
    go_ret
    exact ⟨-1, rfl, Or.inl rfl, hB⟩
  have HM0 := hide hm0
  clear hm0 hbz
  have hn0 : r0 ≤ 1048576 := by omega
  go_wp2_with fail
  refine (szWordS_any _ n.twos r0 _ ((unhide H).b.on hB') hr0 hn0).mono ?_
  rintro e z1 ⟨r1, rfl, hr, hbz⟩
  replace hB := below_then hB hbz
  replace hB' := below_then hB' hbz
  replace k3 := cell_on hbz k3
  rcases hr with rfl | ⟨hr1, hq1, hl1, hm1⟩
  · go_wp2_with fail
    go_ret
    exact ⟨-1, rfl, Or.inl rfl, hB⟩
  have HM1 := hide hm1
  clear hm1 hbz
  have hn1 : r1 ≤ 1048576 := by omega
  go_wp2_with fail
  refine (szWordS_any _ n.outs r1 _ ((unhide H).c.on hB') hr1 hn1).mono ?_
  rintro e z2 ⟨r2, rfl, hr, hbz⟩
  replace hB := below_then hB hbz
  replace hB' := below_then hB' hbz
  rcases hr with rfl | ⟨hr2, hq2, hl2, hm2⟩
  · go_wp2_with fail
    go_ret
    exact ⟨-1, rfl, Or.inl rfl, hB⟩
  have HM2 := hide hm2
  clear hm2 hbz
  have hn2 : r2 ≤ 1048576 := by omega
  go_wp2_with fail
  go_ret
  exact ⟨r2, rfl, Or.inr ⟨hr2, by omega, ⟨by omega, fun x hx => wordMost_le (by omega) ((unhide HM0) x hx)⟩, ⟨by omega, fun x hx => wordMost_le (by omega) ((unhide HM1) x hx)⟩, ⟨by omega, fun x hx => wordMost_le (by omega) ((unhide HM2) x hx)⟩⟩, hB⟩

set_option maxRecDepth 100000 in
set_option maxHeartbeats 2000000 in
theorem toHub_any (n : HubV) (v1 v2 v3 : Value) (w : World) (h : HubAt w n v1 v2 v3) (hl0 : n.ones.length ≤ 1048576 ∧ ∀ x ∈ n.ones, WordMost 1048576 x) (hl1 : n.twos.length ≤ 1048576 ∧ ∀ x ∈ n.twos, WordMost 1048576 x) (hl2 : n.outs.length ≤ 1048576 ∧ ∀ x ∈ n.outs, WordMost 1048576 x) :
    Calls Try.prog 18 #[hubAgg n v1 v2 v3] w fun e w' => ∃ u1 u2 u3, e = .returned (hubAgg n u1 u2 u3) ∧ HubFr (w.heap.size + 1) w' n u1 u2 u3 ∧ Below w.heap.size w w' := by
  obtain ⟨⟨a0, ac0, e1⟩, ⟨a1, ac1, e2⟩, ⟨a2, ac2, e3⟩⟩ := h.sliced
  subst e1 e2 e3
  have hb0 : Below w.heap.size w (((w.alloc (.cells #[.int .i64 n.rd, .slice a0 n.ones.length ac0, .slice a1 n.twos.length ac1, .slice a2 n.outs.length ac2] 46)).alloc (.cells #[.int .i64 0, .slice none 0 0, .slice none 0 0, .slice none 0 0] 51)).alloc (.cells #[.int .i64 n.rd, .slice none 0 0, .slice none 0 0, .slice none 0 0] 51)) := (((Below.refl _ _).alloc (Nat.le_refl _) _).alloc (by simp) _).alloc (by simp; omega) _
  have rA : (((w.alloc (.cells #[.int .i64 n.rd, .slice a0 n.ones.length ac0, .slice a1 n.twos.length ac1, .slice a2 n.outs.length ac2] 46)).alloc (.cells #[.int .i64 0, .slice none 0 0, .slice none 0 0, .slice none 0 0] 51)).alloc (.cells #[.int .i64 n.rd, .slice none 0 0, .slice none 0 0, .slice none 0 0] 51)).rowIs w.heap.size 46 4 (fun i => [.int .i64 n.rd, .slice a0 n.ones.length ac0, .slice a1 n.twos.length ac1, .slice a2 n.outs.length ac2].getD i undef) :=
    (row_new w [.int .i64 n.rd, .slice a0 n.ones.length ac0, .slice a1 n.twos.length ac1, .slice a2 n.outs.length ac2] 46).of_block ((((Below.refl _ _).alloc (Nat.le_refl _) _).alloc (by simp) _).block w.heap.size (by simp))
  have hs1 : (w.alloc (.cells #[.int .i64 n.rd, .slice a0 n.ones.length ac0, .slice a1 n.twos.length ac1, .slice a2 n.outs.length ac2] 46)).heap.size = w.heap.size + 1 := by simp
  have hs2 : ((w.alloc (.cells #[.int .i64 n.rd, .slice a0 n.ones.length ac0, .slice a1 n.twos.length ac1, .slice a2 n.outs.length ac2] 46)).alloc (.cells #[.int .i64 0, .slice none 0 0, .slice none 0 0, .slice none 0 0] 51)).heap.size = w.heap.size + 2 := by simp
  have rR : (((w.alloc (.cells #[.int .i64 n.rd, .slice a0 n.ones.length ac0, .slice a1 n.twos.length ac1, .slice a2 n.outs.length ac2] 46)).alloc (.cells #[.int .i64 0, .slice none 0 0, .slice none 0 0, .slice none 0 0] 51)).alloc (.cells #[.int .i64 n.rd, .slice none 0 0, .slice none 0 0, .slice none 0 0] 51)).rowIs (w.heap.size + 1) 51 4 (fun i => [.int .i64 0, .slice none 0 0, .slice none 0 0, .slice none 0 0].getD i undef) := by
    have e := row_new (w.alloc (.cells #[.int .i64 n.rd, .slice a0 n.ones.length ac0, .slice a1 n.twos.length ac1, .slice a2 n.outs.length ac2] 46)) [.int .i64 0, .slice none 0 0, .slice none 0 0, .slice none 0 0] 51
    rw [hs1] at e
    exact e.of_block (((Below.refl _ _).alloc (Nat.le_refl _) _).block (w.heap.size + 1) (by simp))
  have rO : (((w.alloc (.cells #[.int .i64 n.rd, .slice a0 n.ones.length ac0, .slice a1 n.twos.length ac1, .slice a2 n.outs.length ac2] 46)).alloc (.cells #[.int .i64 0, .slice none 0 0, .slice none 0 0, .slice none 0 0] 51)).alloc (.cells #[.int .i64 n.rd, .slice none 0 0, .slice none 0 0, .slice none 0 0] 51)).rowIs (w.heap.size + 2) 51 4 (fun i => [.int .i64 n.rd, .slice none 0 0, .slice none 0 0, .slice none 0 0].getD i undef) := by
    have e := row_new ((w.alloc (.cells #[.int .i64 n.rd, .slice a0 n.ones.length ac0, .slice a1 n.twos.length ac1, .slice a2 n.outs.length ac2] 46)).alloc (.cells #[.int .i64 0, .slice none 0 0, .slice none 0 0, .slice none 0 0] 51)) [.int .i64 n.rd, .slice none 0 0, .slice none 0 0, .slice none 0 0] 51
    rw [hs2] at e
    exact e
  have hs3 : w.heap.size + 3 ≤ (((w.alloc (.cells #[.int .i64 n.rd, .slice a0 n.ones.length ac0, .slice a1 n.twos.length ac1, .slice a2 n.outs.length ac2] 46)).alloc (.cells #[.int .i64 0, .slice none 0 0, .slice none 0 0, .slice none 0 0] 51)).alloc (.cells #[.int .i64 n.rd, .slice none 0 0, .slice none 0 0, .slice none 0 0] 51)).heap.size := by simp
  have H := hide h
  have HB := hide hb0
  have RA := hide rA
  have RR := hide rR
  have RO := hide rO
  have HZ := hide hs3
  clear h hb0 rA rR rO hs1 hs2 hs3
  go_enter Try.func18, Try.ntmps18
  go_upto_region 3 with fail
  generalize (((w.alloc (.cells #[.int .i64 n.rd, .slice a0 n.ones.length ac0, .slice a1 n.twos.length ac1, .slice a2 n.outs.length ac2] 46)).alloc (.cells #[.int .i64 0, .slice none 0 0, .slice none 0 0, .slice none 0 0] 51)).alloc (.cells #[.int .i64 n.rd, .slice none 0 0, .slice none 0 0, .slice none 0 0] 51)) = W0 at *
  have m1 : W0.cell? ⟨w.heap.size, 1, none⟩ = some (.slice a0 n.ones.length ac0) := (unhide RA).cell (i := 1) (by omega)
  go_wp2_with fail
  clear m1
  refine (toWordS_any _ n.ones _ ((unhide H).a.on (unhide HB)) hl0.1 hl0.2).mono ?_
  rintro e w1 ⟨u0, rfl, hf, hb⟩
  obtain ⟨d0, k0, e0⟩ := hf.at.sliced
  subst e0
  have hz := unhide HZ
  have hsz := hb.size
  have F0 := hide ((hf.less (M := w.heap.size + 3) (by omega)).set (r := w.heap.size + 2) (o := 1) (u := .slice d0 n.ones.length k0) (by omega))
  have ro := (unhide RO).of_block (hb.block (w.heap.size + 2) (by omega))
  have g : w1.cell? ⟨w.heap.size + 2, 1, none⟩ = some (.slice none 0 0) := ro.cell (i := 1) (by omega)
  have z : w1.frozen? ⟨w.heap.size + 2, 1, none⟩ = false := ro.frozen 1
  replace RO : Hid ((w1.setCell ⟨w.heap.size + 2, 1, none⟩ (.slice d0 n.ones.length k0)).rowIs (w.heap.size + 2) 51 4 (fun i => [.int .i64 n.rd, .slice d0 n.ones.length k0, .slice none 0 0, .slice none 0 0].getD i undef)) := hide (rowL_set ro 1 (by simp) _)
  replace RA := hide (((unhide RA).of_block (hb.block w.heap.size (by omega))).of_block (Below.heap_setCell w1 ⟨w.heap.size + 2, 1, none⟩ (.slice d0 n.ones.length k0) w.heap.size (show w.heap.size ≠ w.heap.size + 2 by omega)))
  replace RR := hide (((unhide RR).of_block (hb.block (w.heap.size + 1) (by omega))).of_block (Below.heap_setCell w1 ⟨w.heap.size + 2, 1, none⟩ (.slice d0 n.ones.length k0) (w.heap.size + 1) (show w.heap.size + 1 ≠ w.heap.size + 2 by omega)))
  replace HB := hide ((below_then (unhide HB) hb).setCell (p := ⟨w.heap.size + 2, 1, none⟩) (show w.heap.size ≤ w.heap.size + 2 by omega) (.slice d0 n.ones.length k0))
  replace HZ : Hid (w.heap.size + 3 ≤ (w1.setCell ⟨w.heap.size + 2, 1, none⟩ (.slice d0 n.ones.length k0)).heap.size) := hide (by rw [show (w1.setCell ⟨w.heap.size + 2, 1, none⟩ (.slice d0 n.ones.length k0)).heap.size = w1.heap.size from by simp]; omega)
  clear hf hb hz hsz ro
  go_upto_region 4 with fail
  clear g z
  generalize w1.setCell ⟨w.heap.size + 2, 1, none⟩ (.slice d0 n.ones.length k0) = W1 at *
  have m2 : W1.cell? ⟨w.heap.size, 2, none⟩ = some (.slice a1 n.twos.length ac1) := (unhide RA).cell (i := 2) (by omega)
  go_wp2_with fail
  clear m2
  refine (toWordS_any _ n.twos _ ((unhide H).b.on (unhide HB)) hl1.1 hl1.2).mono ?_
  rintro e w2 ⟨u1, rfl, hf, hb⟩
  obtain ⟨d1, k1, e1⟩ := hf.at.sliced
  subst e1
  have hz := unhide HZ
  have hsz := hb.size
  have F1 := hide ((hf.less (M := w.heap.size + 3) (by omega)).set (r := w.heap.size + 2) (o := 2) (u := .slice d1 n.twos.length k1) (by omega))
  replace F0 := hide (((unhide F0).on hb).set (r := w.heap.size + 2) (o := 2) (u := .slice d1 n.twos.length k1) (by omega))
  have ro := (unhide RO).of_block (hb.block (w.heap.size + 2) (by omega))
  have g : w2.cell? ⟨w.heap.size + 2, 2, none⟩ = some (.slice none 0 0) := ro.cell (i := 2) (by omega)
  have z : w2.frozen? ⟨w.heap.size + 2, 2, none⟩ = false := ro.frozen 2
  replace RO : Hid ((w2.setCell ⟨w.heap.size + 2, 2, none⟩ (.slice d1 n.twos.length k1)).rowIs (w.heap.size + 2) 51 4 (fun i => [.int .i64 n.rd, .slice d0 n.ones.length k0, .slice d1 n.twos.length k1, .slice none 0 0].getD i undef)) := hide (rowL_set ro 2 (by simp) _)
  replace RA := hide (((unhide RA).of_block (hb.block w.heap.size (by omega))).of_block (Below.heap_setCell w2 ⟨w.heap.size + 2, 2, none⟩ (.slice d1 n.twos.length k1) w.heap.size (show w.heap.size ≠ w.heap.size + 2 by omega)))
  replace RR := hide (((unhide RR).of_block (hb.block (w.heap.size + 1) (by omega))).of_block (Below.heap_setCell w2 ⟨w.heap.size + 2, 2, none⟩ (.slice d1 n.twos.length k1) (w.heap.size + 1) (show w.heap.size + 1 ≠ w.heap.size + 2 by omega)))
  replace HB := hide ((below_then (unhide HB) hb).setCell (p := ⟨w.heap.size + 2, 2, none⟩) (show w.heap.size ≤ w.heap.size + 2 by omega) (.slice d1 n.twos.length k1))
  replace HZ : Hid (w.heap.size + 3 ≤ (w2.setCell ⟨w.heap.size + 2, 2, none⟩ (.slice d1 n.twos.length k1)).heap.size) := hide (by rw [show (w2.setCell ⟨w.heap.size + 2, 2, none⟩ (.slice d1 n.twos.length k1)).heap.size = w2.heap.size from by simp]; omega)
  clear hf hb hz hsz ro
  go_upto_region 5 with fail
  clear g z
  generalize w2.setCell ⟨w.heap.size + 2, 2, none⟩ (.slice d1 n.twos.length k1) = W2 at *
  have m3 : W2.cell? ⟨w.heap.size, 3, none⟩ = some (.slice a2 n.outs.length ac2) := (unhide RA).cell (i := 3) (by omega)
  go_wp2_with fail
  clear m3
  refine (toWordS_any _ n.outs _ ((unhide H).c.on (unhide HB)) hl2.1 hl2.2).mono ?_
  rintro e w3 ⟨u2, rfl, hf, hb⟩
  obtain ⟨d2, k2, e2⟩ := hf.at.sliced
  subst e2
  have hz := unhide HZ
  have hsz := hb.size
  have F2 := hide ((hf.less (M := w.heap.size + 3) (by omega)).set (r := w.heap.size + 2) (o := 3) (u := .slice d2 n.outs.length k2) (by omega))
  replace F0 := hide (((unhide F0).on hb).set (r := w.heap.size + 2) (o := 3) (u := .slice d2 n.outs.length k2) (by omega))
  replace F1 := hide (((unhide F1).on hb).set (r := w.heap.size + 2) (o := 3) (u := .slice d2 n.outs.length k2) (by omega))
  have ro := (unhide RO).of_block (hb.block (w.heap.size + 2) (by omega))
  have g : w3.cell? ⟨w.heap.size + 2, 3, none⟩ = some (.slice none 0 0) := ro.cell (i := 3) (by omega)
  have z : w3.frozen? ⟨w.heap.size + 2, 3, none⟩ = false := ro.frozen 3
  replace RO : Hid ((w3.setCell ⟨w.heap.size + 2, 3, none⟩ (.slice d2 n.outs.length k2)).rowIs (w.heap.size + 2) 51 4 (fun i => [.int .i64 n.rd, .slice d0 n.ones.length k0, .slice d1 n.twos.length k1, .slice d2 n.outs.length k2].getD i undef)) := hide (rowL_set ro 3 (by simp) _)
  replace RA := hide (((unhide RA).of_block (hb.block w.heap.size (by omega))).of_block (Below.heap_setCell w3 ⟨w.heap.size + 2, 3, none⟩ (.slice d2 n.outs.length k2) w.heap.size (show w.heap.size ≠ w.heap.size + 2 by omega)))
  replace RR := hide (((unhide RR).of_block (hb.block (w.heap.size + 1) (by omega))).of_block (Below.heap_setCell w3 ⟨w.heap.size + 2, 3, none⟩ (.slice d2 n.outs.length k2) (w.heap.size + 1) (show w.heap.size + 1 ≠ w.heap.size + 2 by omega)))
  replace HB := hide ((below_then (unhide HB) hb).setCell (p := ⟨w.heap.size + 2, 3, none⟩) (show w.heap.size ≤ w.heap.size + 2 by omega) (.slice d2 n.outs.length k2))
  replace HZ : Hid (w.heap.size + 3 ≤ (w3.setCell ⟨w.heap.size + 2, 3, none⟩ (.slice d2 n.outs.length k2)).heap.size) := hide (by rw [show (w3.setCell ⟨w.heap.size + 2, 3, none⟩ (.slice d2 n.outs.length k2)).heap.size = w3.heap.size from by simp]; omega)
  clear hf hb hz hsz ro
  go_upto_region 6 with fail
  clear g z
  generalize w3.setCell ⟨w.heap.size + 2, 3, none⟩ (.slice d2 n.outs.length k2) = W3 at *
  have p0 : W3.cell? ⟨w.heap.size + 2, 0, none⟩ = some (.int .i64 n.rd) := (unhide RO).cell (i := 0) (by omega)
  have p1 : W3.cell? ⟨w.heap.size + 2, 1, none⟩ = some (.slice d0 n.ones.length k0) := (unhide RO).cell (i := 1) (by omega)
  have p2 : W3.cell? ⟨w.heap.size + 2, 2, none⟩ = some (.slice d1 n.twos.length k1) := (unhide RO).cell (i := 2) (by omega)
  have p3 : W3.cell? ⟨w.heap.size + 2, 3, none⟩ = some (.slice d2 n.outs.length k2) := (unhide RO).cell (i := 3) (by omega)
  have r0 : W3.cell? ⟨w.heap.size + 1, 0, none⟩ = some (.int .i64 0) := (unhide RR).cell (i := 0) (by omega)
  have s0 : W3.frozen? ⟨w.heap.size + 1, 0, none⟩ = false := (unhide RR).frozen 0
  have r1 : W3.cell? ⟨w.heap.size + 1, 1, none⟩ = some (.slice none 0 0) := (unhide RR).cell (i := 1) (by omega)
  have s1 : W3.frozen? ⟨w.heap.size + 1, 1, none⟩ = false := (unhide RR).frozen 1
  have r2 : W3.cell? ⟨w.heap.size + 1, 2, none⟩ = some (.slice none 0 0) := (unhide RR).cell (i := 2) (by omega)
  have s2 : W3.frozen? ⟨w.heap.size + 1, 2, none⟩ = false := (unhide RR).frozen 2
  have r3 : W3.cell? ⟨w.heap.size + 1, 3, none⟩ = some (.slice none 0 0) := (unhide RR).cell (i := 3) (by omega)
  have s3 : W3.frozen? ⟨w.heap.size + 1, 3, none⟩ = false := (unhide RR).frozen 3
  have EB := hide (setVals_below [.int .i64 n.rd, .slice d0 n.ones.length k0, .slice d1 n.twos.length k1, .slice d2 n.outs.length k2] 0 W3 (unhide HB) (show w.heap.size ≤ w.heap.size + 1 by omega))
  have E0 := hide ((unhide F0).setV (r := w.heap.size + 1) (o := 0) (by omega) [.int .i64 n.rd, .slice d0 n.ones.length k0, .slice d1 n.twos.length k1, .slice d2 n.outs.length k2])
  have E1 := hide ((unhide F1).setV (r := w.heap.size + 1) (o := 0) (by omega) [.int .i64 n.rd, .slice d0 n.ones.length k0, .slice d1 n.twos.length k1, .slice d2 n.outs.length k2])
  have E2 := hide ((unhide F2).setV (r := w.heap.size + 1) (o := 0) (by omega) [.int .i64 n.rd, .slice d0 n.ones.length k0, .slice d1 n.twos.length k1, .slice d2 n.outs.length k2])
  clear F0 F1 F2 HB RA RR RO HZ H
  go_wp2_with fail
  refine bodyPost_ret (v := hubAgg n (.slice d0 n.ones.length k0) (.slice d1 n.twos.length k1) (.slice d2 n.outs.length k2)) (by simp [results, Try.results18, go_sem, r0, r1, r2, r3]) rfl ⟨_, _, _, rfl, ⟨(unhide E0).less (by omega), (unhide E1).less (by omega), (unhide E2).less (by omega)⟩, unhide EB⟩
end Go.Proofs.Ytimkamgghkjhhaa
