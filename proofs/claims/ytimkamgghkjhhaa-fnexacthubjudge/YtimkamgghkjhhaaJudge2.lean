/- Answers: needAll, openAnswers. -/
import Derived.Test.YtimkamgghkjhhaaJudge1
import Derived.Deep.MidRow
namespace Go.Proofs.Ytimkamgghkjhhaa
open Go.RowKit
set_option linter.unusedVariables false
set_option linter.unusedSimpArgs false

set_option maxRecDepth 100000 in
set_option maxHeartbeats 1000000 in
theorem needAll_any (A : Ans) (q o : Nat) (lk : Value) (hlk : ∃ s, lk = .string s) (w : World) (h : w.cell? ⟨q, o + 33, none⟩ = some (.int .u8 (bitsB A.t0 A.t1 A.t2))) :
    Calls Try.prog 96 #[.pointer (some ⟨q, o, none⟩), lk] w fun e w' => (A.all = true ∧ e = .returned Value.nilIface ∨ A.all = false ∧ ∃ p, e = .returned (.iface 161 p)) ∧ w' = w := by
  obtain ⟨s, rfl⟩ := hlk
  go_enter Try.func96, Try.ntmps96
  go_wp2_with fail
  go_loop [6] (fun i => ∃ k : Nat, k ≤ 3 ∧ i = .int .i64 k ∧ Hid (∀ id, id < k → A.tb id = true)) (fun i => 3 - (intOf i).toNat)
  case atStart => exact ⟨0, by omega, rfl, hide (fun id h => absurd h (Nat.not_lt_zero _))⟩
  case round =>
    obtain ⟨k, hk, rfl, HA⟩ := hrel
    by_cases hlt : k < 3
    · have hkI : (k : Int) < 3 := by omega
      have hk0 : (0 : Int) ≤ (k : Int) := by omega
      have HY : Hid (A.tb k = true → ∀ id, id < k + 1 → A.tb id = true) := hide (fun h id hid => by
        by_cases e : id = k
        · subst e; exact h
        · exact (unhide HA) id (by omega))
      have HNO := hide (tb_not A k hlt)
      cases ht : A.tb k
      · go_wp2_with (go_at_call 117; refine (has_any A q o k _ hlt h).mono ?_; rw [ht]; rintro e w' ⟨rfl, rfl⟩)
        go_ret
        exact ⟨Or.inr ⟨(unhide HNO) ht, _, rfl⟩, rfl⟩
      · go_wp2_with (go_at_call 117; refine (has_any A q o k _ hlt h).mono ?_; rw [ht]; rintro e w' ⟨rfl, rfl⟩)
        go_round
        case rel => exact ⟨k + 1, by omega, by go_num, hide ((unhide HY) ht)⟩
        case measure => (simp [intOf]; try omega)
    · have hk3 : k = 3 := by omega
      subst hk3
      go_wp2_with fail
      go_ret
      exact ⟨Or.inl ⟨tb_all A (unhide HA), rfl⟩, rfl⟩

theorem setCells_vals (b : Nat) : ∀ (vs : List Value) (o : Nat) (w : World), w.setCells b o vs = setVals w b o vs
  | [], _, _ => rfl
  | v :: r, o, w => setCells_vals b r (o + 1) _
theorem desc_ans : ∃ d, Try.prog.underlying 134 = some d ∧ d.isRow = true ∧ (Try.prog.info? 134).map (·.size) = some 34 := ⟨_, Try.underlying134, rfl, by kernel_rfl⟩
theorem row_range {w : World} {b t n o : Nat} {cs : List Value} {f : Nat → Value} (h : w.rowIs b t n f) (hl : o + cs.length ≤ n) (hf : ∀ j v, cs[j]? = some v → f (o + j) = v) : w.rangeAt b o cs := fun j v hv => by
  have hj : j < cs.length := (List.getElem?_eq_some_iff.1 hv).1
  rw [h.cell (i := o + j) (by omega), hf j v hv]
theorem ans_get (A : Ans) : ∀ j v, (ansCells A)[j]? = some v → ansF A (0 + j) = v := fun j v hv => by
  show (ansCells A).getD (0 + j) undef = v
  rw [Nat.zero_add, List.getD_eq_getElem?_getD, hv]; rfl
theorem load_ans {A : Ans} {w : World} {b : Nat} (h : w.rowIs b 134 34 (ansF A)) : (Instr.loadAt 134 (.pointer (some ⟨b, 0, none⟩))).run Try.prog w = .ok (ansAgg A) w := by
  obtain ⟨d, h1, h2, h3⟩ := desc_ans
  exact run_loadAt_mid w b 0 134 (ansCells A) d (row_range h (by simp) (ans_get A)) h1 h2 h3
theorem loadv_ans {A : Ans} {w : World} {b : Nat} (h : w.rowIs b 134 34 (ansF A)) : (loadVar 134 ⟨b, 0, none⟩).run Try.prog w = .ok (ansAgg A) w := by
  obtain ⟨d, h1, h2, h3⟩ := desc_ans
  exact run_loadVar_mid w b 0 134 (ansCells A) d (row_range h (by simp) (ans_get A)) h1 h2 h3
theorem store_ans (A : Ans) {w : World} {b : Nat} {f : Nat → Value} (h : w.rowIs b 134 34 f) : (Instr.storeAt 134 (.pointer (some ⟨b, 0, none⟩)) (ansAgg A)).run Try.prog w = .ok () (setVals w b 0 (ansCells A)) := by
  obtain ⟨d, h1, h2, h3⟩ := desc_ans
  have e := run_storeAt_mid (P := Try.prog) w b 0 134 (ansCells A).toArray (fun j hj => by
    have hj' : j < 34 := by simpa using hj
    rw [Nat.zero_add]
    exact ⟨by rw [h.cell hj']; rfl, h.frozen j⟩) h3 (by simp [Value.oneCell'])
  rw [setCells_vals] at e
  exact e
theorem ans_stored (A : Ans) {w : World} {b : Nat} {f : Nat → Value} (h : w.rowIs b 134 34 f) : (setVals w b 0 (ansCells A)).rowIs b 134 34 (ansF A) :=
  (setVals_row (ansCells A) 0 w f h).congr (fun i hi => by
    have hi' : i < 34 := hi
    show (if 0 ≤ i ∧ i < 0 + 34 then (ansCells A).getD (i - 0) undef else f i) = _
    rw [if_pos (by omega)]; rfl)
/-- What is kept of a node: nothing, or its word. -/
def SlotOf (w : World) (ns : List WordV) (k : Nat) (id : Int) (x : WordV) (s : Sl) (t : Bool) : Prop :=
  (t = false ∧ ∀ j (h : j < ns.length), j < k → ns[j].frm ≠ id) ∨ (t = true ∧ ∃ j, ∃ (h : j < ns.length), j < k ∧ ns[j].frm = id ∧ x = ns[j] ∧ WordS w x s)
/-- What is kept of the first k words. -/
def AnsOf (w : World) (A : Ans) (ns : List WordV) (k : Nat) : Prop :=
  SlotOf w ns k 0 A.x0 A.s0 A.t0 ∧ SlotOf w ns k 1 A.x1 A.s1 A.t1 ∧ SlotOf w ns k 2 A.x2 A.s2 A.t2
theorem SlotOf.on {w w' : World} {ns : List WordV} {k : Nat} {id : Int} {x : WordV} {s : Sl} {t : Bool} (hb : Below w.heap.size w w') (h : SlotOf w ns k id x s t) : SlotOf w' ns k id x s t := by
  rcases h with h | ⟨h1, j, hj, h2, h3, h4, h5⟩
  · exact Or.inl h
  · exact Or.inr ⟨h1, j, hj, h2, h3, h4, h5.on hb⟩
theorem SlotOf.keep {w : World} {ns : List WordV} {k : Nat} {id : Int} {x : WordV} {s : Sl} {t : Bool} (hk : k < ns.length) (hne : ns[k].frm ≠ id) (h : SlotOf w ns k id x s t) : SlotOf w ns (k + 1) id x s t := by
  rcases h with ⟨h1, h2⟩ | ⟨h1, j, hj, h2, h3, h4, h5⟩
  · refine Or.inl ⟨h1, fun j hj hjk => ?_⟩
    by_cases e : j = k
    · subst e; exact hne
    · exact h2 j hj (by omega)
  · exact Or.inr ⟨h1, j, hj, by omega, h3, h4, h5⟩
theorem SlotOf.new {w : World} {ns : List WordV} {k : Nat} {id : Int} {s : Sl} (hk : k < ns.length) (he : ns[k].frm = id) (h : WordS w ns[k] s) : SlotOf w ns (k + 1) id ns[k] s true := Or.inr ⟨rfl, k, hk, by omega, he, rfl, h⟩
theorem AnsOf.step {w : World} {A : Ans} {ns : List WordV} {k : Nat} {s : Sl} (hk : k < ns.length) (h0 : 0 ≤ ns[k].frm) (h1 : ns[k].frm ≤ 2) (hs : WordS w ns[k] s) (h : AnsOf w A ns k) : AnsOf w (A.put ns[k].frm.toNat ns[k] s) ns (k + 1) := by
  have hi : ns[k].frm = 0 ∨ ns[k].frm = 1 ∨ ns[k].frm = 2 := by omega
  obtain ⟨g0, g1, g2⟩ := h
  rcases hi with hi | hi | hi
  · rw [hi]
    exact ⟨SlotOf.new hk hi hs, g1.keep hk (by omega), g2.keep hk (by omega)⟩
  · rw [hi]
    exact ⟨g0.keep hk (by omega), SlotOf.new hk hi hs, g2.keep hk (by omega)⟩
  · rw [hi]
    exact ⟨g0.keep hk (by omega), g1.keep hk (by omega), SlotOf.new hk hi hs⟩

set_option maxRecDepth 100000 in
set_option maxHeartbeats 4000000 in
theorem openAnswers_any (v : Value) (ns : List WordV) (w : World) (h : WordsAt w v ns) (hf : ∀ n ∈ ns, 0 ≤ n.frm ∧ n.frm ≤ 2) :
    Calls Try.prog 95 #[v] w fun e w' => ∃ A, e = .returned (ansAgg A) ∧ AnsOf w A ns ns.length ∧ Below w.heap.size w w' := by
  obtain ⟨ad, cap, rfl, hlc, hm, hc⟩ := h
  unfold maxLen at hm
  have HC := hide hc
  have HFR := hide hf
  clear hc hf
  have hb0 : Below w.heap.size w ((w.alloc (.cells #[.int .i64 0, .int .i64 0, .int .i64 0, .int .i64 0, .int .i64 0, .int .i64 0, .int .i64 0, .slice none 0 0, .slice none 0 0, .slice none 0 0, .slice none 0 0, .int .i64 0, .int .i64 0, .int .i64 0, .int .i64 0, .int .i64 0, .int .i64 0, .int .i64 0, .slice none 0 0, .slice none 0 0, .slice none 0 0, .slice none 0 0, .int .i64 0, .int .i64 0, .int .i64 0, .int .i64 0, .int .i64 0, .int .i64 0, .int .i64 0, .slice none 0 0, .slice none 0 0, .slice none 0 0, .slice none 0 0, .int .u8 0] 134)).alloc (.cells #[.int .i64 0, .int .i64 0, .int .i64 0, .int .i64 0, .int .i64 0, .int .i64 0, .int .i64 0, .slice none 0 0, .slice none 0 0, .slice none 0 0, .slice none 0 0, .int .i64 0, .int .i64 0, .int .i64 0, .int .i64 0, .int .i64 0, .int .i64 0, .int .i64 0, .slice none 0 0, .slice none 0 0, .slice none 0 0, .slice none 0 0, .int .i64 0, .int .i64 0, .int .i64 0, .int .i64 0, .int .i64 0, .int .i64 0, .int .i64 0, .slice none 0 0, .slice none 0 0, .slice none 0 0, .slice none 0 0, .int .u8 0] 134)) := ((Below.refl _ _).alloc (Nat.le_refl _) _).alloc (by simp) _
  have r1 : ((w.alloc (.cells #[.int .i64 0, .int .i64 0, .int .i64 0, .int .i64 0, .int .i64 0, .int .i64 0, .int .i64 0, .slice none 0 0, .slice none 0 0, .slice none 0 0, .slice none 0 0, .int .i64 0, .int .i64 0, .int .i64 0, .int .i64 0, .int .i64 0, .int .i64 0, .int .i64 0, .slice none 0 0, .slice none 0 0, .slice none 0 0, .slice none 0 0, .int .i64 0, .int .i64 0, .int .i64 0, .int .i64 0, .int .i64 0, .int .i64 0, .int .i64 0, .slice none 0 0, .slice none 0 0, .slice none 0 0, .slice none 0 0, .int .u8 0] 134)).alloc (.cells #[.int .i64 0, .int .i64 0, .int .i64 0, .int .i64 0, .int .i64 0, .int .i64 0, .int .i64 0, .slice none 0 0, .slice none 0 0, .slice none 0 0, .slice none 0 0, .int .i64 0, .int .i64 0, .int .i64 0, .int .i64 0, .int .i64 0, .int .i64 0, .int .i64 0, .slice none 0 0, .slice none 0 0, .slice none 0 0, .slice none 0 0, .int .i64 0, .int .i64 0, .int .i64 0, .int .i64 0, .int .i64 0, .int .i64 0, .int .i64 0, .slice none 0 0, .slice none 0 0, .slice none 0 0, .slice none 0 0, .int .u8 0] 134)).rowIs w.heap.size 134 34 (ansF noAns) := (row_new w [.int .i64 0, .int .i64 0, .int .i64 0, .int .i64 0, .int .i64 0, .int .i64 0, .int .i64 0, .slice none 0 0, .slice none 0 0, .slice none 0 0, .slice none 0 0, .int .i64 0, .int .i64 0, .int .i64 0, .int .i64 0, .int .i64 0, .int .i64 0, .int .i64 0, .slice none 0 0, .slice none 0 0, .slice none 0 0, .slice none 0 0, .int .i64 0, .int .i64 0, .int .i64 0, .int .i64 0, .int .i64 0, .int .i64 0, .int .i64 0, .slice none 0 0, .slice none 0 0, .slice none 0 0, .slice none 0 0, .int .u8 0] 134).of_block (((Below.refl _ _).alloc (Nat.le_refl _) _).block w.heap.size (by simp))
  have r2 : ((w.alloc (.cells #[.int .i64 0, .int .i64 0, .int .i64 0, .int .i64 0, .int .i64 0, .int .i64 0, .int .i64 0, .slice none 0 0, .slice none 0 0, .slice none 0 0, .slice none 0 0, .int .i64 0, .int .i64 0, .int .i64 0, .int .i64 0, .int .i64 0, .int .i64 0, .int .i64 0, .slice none 0 0, .slice none 0 0, .slice none 0 0, .slice none 0 0, .int .i64 0, .int .i64 0, .int .i64 0, .int .i64 0, .int .i64 0, .int .i64 0, .int .i64 0, .slice none 0 0, .slice none 0 0, .slice none 0 0, .slice none 0 0, .int .u8 0] 134)).alloc (.cells #[.int .i64 0, .int .i64 0, .int .i64 0, .int .i64 0, .int .i64 0, .int .i64 0, .int .i64 0, .slice none 0 0, .slice none 0 0, .slice none 0 0, .slice none 0 0, .int .i64 0, .int .i64 0, .int .i64 0, .int .i64 0, .int .i64 0, .int .i64 0, .int .i64 0, .slice none 0 0, .slice none 0 0, .slice none 0 0, .slice none 0 0, .int .i64 0, .int .i64 0, .int .i64 0, .int .i64 0, .int .i64 0, .int .i64 0, .int .i64 0, .slice none 0 0, .slice none 0 0, .slice none 0 0, .slice none 0 0, .int .u8 0] 134)).rowIs (w.heap.size + 1) 134 34 (ansF noAns) := by
    have e := row_new (w.alloc (.cells #[.int .i64 0, .int .i64 0, .int .i64 0, .int .i64 0, .int .i64 0, .int .i64 0, .int .i64 0, .slice none 0 0, .slice none 0 0, .slice none 0 0, .slice none 0 0, .int .i64 0, .int .i64 0, .int .i64 0, .int .i64 0, .int .i64 0, .int .i64 0, .int .i64 0, .slice none 0 0, .slice none 0 0, .slice none 0 0, .slice none 0 0, .int .i64 0, .int .i64 0, .int .i64 0, .int .i64 0, .int .i64 0, .int .i64 0, .int .i64 0, .slice none 0 0, .slice none 0 0, .slice none 0 0, .slice none 0 0, .int .u8 0] 134)) [.int .i64 0, .int .i64 0, .int .i64 0, .int .i64 0, .int .i64 0, .int .i64 0, .int .i64 0, .slice none 0 0, .slice none 0 0, .slice none 0 0, .slice none 0 0, .int .i64 0, .int .i64 0, .int .i64 0, .int .i64 0, .int .i64 0, .int .i64 0, .int .i64 0, .slice none 0 0, .slice none 0 0, .slice none 0 0, .slice none 0 0, .int .i64 0, .int .i64 0, .int .i64 0, .int .i64 0, .int .i64 0, .int .i64 0, .int .i64 0, .slice none 0 0, .slice none 0 0, .slice none 0 0, .slice none 0 0, .int .u8 0] 134
    rw [show (w.alloc (.cells #[.int .i64 0, .int .i64 0, .int .i64 0, .int .i64 0, .int .i64 0, .int .i64 0, .int .i64 0, .slice none 0 0, .slice none 0 0, .slice none 0 0, .slice none 0 0, .int .i64 0, .int .i64 0, .int .i64 0, .int .i64 0, .int .i64 0, .int .i64 0, .int .i64 0, .slice none 0 0, .slice none 0 0, .slice none 0 0, .slice none 0 0, .int .i64 0, .int .i64 0, .int .i64 0, .int .i64 0, .int .i64 0, .int .i64 0, .int .i64 0, .slice none 0 0, .slice none 0 0, .slice none 0 0, .slice none 0 0, .int .u8 0] 134)).heap.size = w.heap.size + 1 by simp] at e
    exact e
  have R1 := hide r1
  have R2 := hide r2
  have HB0 := hide hb0
  clear r1 r2 hb0
  go_enter Try.func95, Try.ntmps95
  go_upto_region 2 with fail
  generalize ((w.alloc (.cells #[.int .i64 0, .int .i64 0, .int .i64 0, .int .i64 0, .int .i64 0, .int .i64 0, .int .i64 0, .slice none 0 0, .slice none 0 0, .slice none 0 0, .slice none 0 0, .int .i64 0, .int .i64 0, .int .i64 0, .int .i64 0, .int .i64 0, .int .i64 0, .int .i64 0, .slice none 0 0, .slice none 0 0, .slice none 0 0, .slice none 0 0, .int .i64 0, .int .i64 0, .int .i64 0, .int .i64 0, .int .i64 0, .int .i64 0, .int .i64 0, .slice none 0 0, .slice none 0 0, .slice none 0 0, .slice none 0 0, .int .u8 0] 134)).alloc (.cells #[.int .i64 0, .int .i64 0, .int .i64 0, .int .i64 0, .int .i64 0, .int .i64 0, .int .i64 0, .slice none 0 0, .slice none 0 0, .slice none 0 0, .slice none 0 0, .int .i64 0, .int .i64 0, .int .i64 0, .int .i64 0, .int .i64 0, .int .i64 0, .int .i64 0, .slice none 0 0, .slice none 0 0, .slice none 0 0, .slice none 0 0, .int .i64 0, .int .i64 0, .int .i64 0, .int .i64 0, .int .i64 0, .int .i64 0, .int .i64 0, .slice none 0 0, .slice none 0 0, .slice none 0 0, .slice none 0 0, .int .u8 0] 134)) = X at *
  have hqX : w.heap.size + 1 < X.heap.size := (unhide R2).lt
  go_wp2_with fail
  go_loopw [8] (fun i wr => ∃ (k : Nat) (A : Ans), k ≤ ns.length ∧ i = .int .i64 k ∧ Hid (wr.rowIs (w.heap.size + 1) 134 34 (ansF A)) ∧ Hid (AnsOf w A ns k) ∧ Hid (Only1 (w.heap.size + 1) X wr)) (fun i _ => ns.length - (intOf i).toNat)
  case atStart => exact ⟨0, noAns, Nat.zero_le _, rfl, R2, hide ⟨Or.inl ⟨rfl, fun j _ h => absurd h (Nat.not_lt_zero _)⟩, Or.inl ⟨rfl, fun j _ h => absurd h (Nat.not_lt_zero _)⟩, Or.inl ⟨rfl, fun j _ h => absurd h (Nat.not_lt_zero _)⟩⟩, hide ⟨Below.refl _ _, fun _ _ _ => rfl⟩⟩
  case round =>
    obtain ⟨k, A, hk, rfl, HR, HA, HO⟩ := hrel
    by_cases hlt : k < ns.length
    · have hbw : Below w.heap.size w wr := (unhide HB0).trans ((unhide HO).below.mono (by omega))
      obtain ⟨b, off, vi, vv, ve, vo, had, hc0, hp⟩ : ∃ b off vi vv ve vo, ad = some ⟨b, off, none⟩ ∧ CellsAt w b (off + k * 11) (wordCells ns[k] vi vv ve vo) ∧ WordAt w ns[k] vi vv ve vo := by
        rcases unhide HC with h | ⟨b, off, h1, h2⟩
        · rw [h] at hlt; exact absurd hlt (Nat.not_lt_zero _)
        · obtain ⟨vi, vv, ve, vo, h3, h4⟩ := h2 k hlt
          exact ⟨b, off, vi, vv, ve, vo, h1, h3, h4⟩
      have hc := hc0.on hbw
      clear hc0
      have hkI : (k : Int) < (ns.length : Int) := by omega
      have hk0 : (0 : Int) ≤ (k : Int) := by omega
      subst had
      obtain ⟨s, hs1, hs2, hs3⟩ := hp.sl
      rw [hs1] at hc
      have HFK := hide ((unhide HFR) ns[k] (List.getElem_mem hlt))
      have HST : Hid (AnsOf w (A.put ns[k].frm.toNat ns[k] s) ns (k + 1)) := hide (AnsOf.step hlt (unhide HFK).1 (unhide HFK).2 hs3 (unhide HA))
      obtain ⟨n, hn⟩ : ∃ n, n = ns[k] := ⟨_, rfl⟩
      rw [← hn] at hc HFK HST
      clear hs1 hs2 hp hn hs3 HA
      have q0 : wr.cell? ⟨b, off + k * 11, none⟩ = some (.int .i64 n.kind) := hc 0 (by simp)
      have q1 : wr.cell? ⟨b, off + k * 11 + 1, none⟩ = some (.int .i64 n.frm) := hc 1 (by simp)
      have q2 : wr.cell? ⟨b, off + k * 11 + 2, none⟩ = some (.int .i64 n.dst) := hc 2 (by simp)
      have q3 : wr.cell? ⟨b, off + k * 11 + 3, none⟩ = some (.int .i64 n.inc) := hc 3 (by simp)
      have q4 : wr.cell? ⟨b, off + k * 11 + 4, none⟩ = some (.int .i64 n.ver) := hc 4 (by simp)
      have q5 : wr.cell? ⟨b, off + k * 11 + 5, none⟩ = some (.int .i64 n.rd) := hc 5 (by simp)
      have q6 : wr.cell? ⟨b, off + k * 11 + 6, none⟩ = some (.int .i64 n.g) := hc 6 (by simp)
      have q7 : wr.cell? ⟨b, off + k * 11 + 7, none⟩ = some (.slice s.a0 n.incs.length s.c0) := hc 7 (by simp)
      have q8 : wr.cell? ⟨b, off + k * 11 + 8, none⟩ = some (.slice s.a1 n.vers.length s.c1) := hc 8 (by simp)
      have q9 : wr.cell? ⟨b, off + k * 11 + 9, none⟩ = some (.slice s.a2 n.evs.length s.c2) := hc 9 (by simp)
      have q10 : wr.cell? ⟨b, off + k * 11 + 10, none⟩ = some (.slice s.a3 n.outs.length s.c3) := hc 10 (by simp)
      clear hc
      have hbA : Below wr.heap.size wr (wr.alloc (.cells #[.int .i64 n.kind, .int .i64 n.frm, .int .i64 n.dst, .int .i64 n.inc, .int .i64 n.ver, .int .i64 n.rd, .int .i64 n.g, .slice s.a0 n.incs.length s.c0, .slice s.a1 n.vers.length s.c1, .slice s.a2 n.evs.length s.c2, .slice s.a3 n.outs.length s.c3] 41)) := (Below.refl _ _).alloc (Nat.le_refl _) _
      have hqr : w.heap.size + 1 < wr.heap.size := (unhide HR).lt
      go_upto_region 5 with fail
      clear q0 q1 q2 q3 q4 q5 q6 q7 q8 q9 q10
      have m0 := cellsAt_new wr (wcl n s) 41
      have HR2 := hide ((unhide HR).of_block (hbA.block _ hqr))
      have HO2 := hide ((unhide HO).trans (Only1.of hbA (by omega)))
      clear HR HO hbA hbw
      generalize (wr.alloc (.cells #[.int .i64 n.kind, .int .i64 n.frm, .int .i64 n.dst, .int .i64 n.inc, .int .i64 n.ver, .int .i64 n.rd, .int .i64 n.g, .slice s.a0 n.incs.length s.c0, .slice s.a1 n.vers.length s.c1, .slice s.a2 n.evs.length s.c2, .slice s.a3 n.outs.length s.c3] 41)) = Y at *
      generalize wr.heap.size = r at *
      have m20 : Y.cell? ⟨r, 0, none⟩ = some (.int .i64 n.kind) := m0 0 (by simp)
      have m21 : Y.cell? ⟨r, 1, none⟩ = some (.int .i64 n.frm) := m0 1 (by simp)
      have m22 : Y.cell? ⟨r, 2, none⟩ = some (.int .i64 n.dst) := m0 2 (by simp)
      have m23 : Y.cell? ⟨r, 3, none⟩ = some (.int .i64 n.inc) := m0 3 (by simp)
      have m24 : Y.cell? ⟨r, 4, none⟩ = some (.int .i64 n.ver) := m0 4 (by simp)
      have m25 : Y.cell? ⟨r, 5, none⟩ = some (.int .i64 n.rd) := m0 5 (by simp)
      have m26 : Y.cell? ⟨r, 6, none⟩ = some (.int .i64 n.g) := m0 6 (by simp)
      have m27 : Y.cell? ⟨r, 7, none⟩ = some (.slice s.a0 n.incs.length s.c0) := m0 7 (by simp)
      have m28 : Y.cell? ⟨r, 8, none⟩ = some (.slice s.a1 n.vers.length s.c1) := m0 8 (by simp)
      have m29 : Y.cell? ⟨r, 9, none⟩ = some (.slice s.a2 n.evs.length s.c2) := m0 9 (by simp)
      have m30 : Y.cell? ⟨r, 10, none⟩ = some (.slice s.a3 n.outs.length s.c3) := m0 10 (by simp)
      clear m0
      go_wp2_with fail
      refine (put_any A (w.heap.size + 1) n s Y (unhide HFK).1 (unhide HFK).2 (unhide HR2)).mono ?_
      rintro e w3 ⟨rfl, hr3, ho3⟩
      have HR3 := hide hr3
      have HO3 := hide ((unhide HO2).trans ho3)
      clear hr3 ho3 HR2 HO2 m20 m21 m22 m23 m24 m25 m26 m27 m28 m29 m30
      go_wp2_with fail
      go_roundw
      case rel => exact ⟨k + 1, _, by omega, by simp, HR3, HST, HO3⟩
      case measure => (simp [intOf]; try omega)
    · have hke : k = ns.length := by omega
      subst hke
      have hkI : ¬ (ns.length : Int) < (ns.length : Int) := by omega
      have hbw : Below w.heap.size w wr := (unhide HB0).trans ((unhide HO).below.mono (by omega))
      have r1 := (unhide R1).of_block ((unhide HO).other w.heap.size (by omega) (by omega))
      obtain ⟨d, h1, h2, h3⟩ := desc_ans
      have hrg : wr.rangeAt (w.heap.size + 1) 0 (ansCells A) := row_range (unhide HR) (by simp) (ans_get A)
      have hth : wr.there w.heap.size 0 34 := fun j hj => by rw [Nat.zero_add]; exact ⟨by rw [r1.cell hj]; rfl, r1.frozen j⟩
      have HRE : Hid ((setVals wr w.heap.size 0 (ansCells A)).rowIs w.heap.size 134 34 (ansF A)) := hide (ans_stored A r1)
      have HEB := hide (setVals_below (ansCells A) 0 wr hbw (Nat.le_refl w.heap.size))
      have HW2 : Hid (wr.setCells w.heap.size 0 (ansCells A) = setVals wr w.heap.size 0 (ansCells A)) := hide (setCells_vals _ _ _ _)
      have HD : Hid (Try.prog.underlying 134 = some d) := hide h1
      have HI : Hid ((Try.prog.info? 134).map (·.size) = some 34) := hide h3
      have HRG : Hid (wr.rangeAt (w.heap.size + 1) 0 (ansCells A)) := hide hrg
      have HTH : Hid (wr.there w.heap.size 0 34) := hide hth
      clear r1 hbw h1 h3 hrg hth
      go_upto_region 7 with fail
      refine wp_region_lit ?_
      refine wpList_load_mid (by rfl) 134 _ (by rfl) (w.heap.size + 1) 0 (by rfl) (ansCells A) d (unhide HRG) (unhide HD) h2 (unhide HI) ?_
      refine wpList_store_mid (by rfl) 134 _ _ (by rfl) w.heap.size 0 (ansCells A).toArray (by rfl) (by rfl) (unhide HTH) (unhide HI) (by simp [Value.oneCell']) ?_
      rw [show (ansCells A).toArray.toList = ansCells A from rfl, unhide HW2]
      generalize setVals wr w.heap.size 0 (ansCells A) = W2 at *
      go_wp2_with fail
      have hlv := loadv_ans (unhide HRE)
      have hpa : (asAddr (Value.pointer (some { block := w.heap.size, off := 0 }))).run Try.prog W2 = .ok ⟨w.heap.size, 0, none⟩ W2 := rfl
      refine bodyPost_ret (v := ansAgg A) ?_ rfl ⟨A, rfl, unhide HA, unhide HEB⟩
      simp [results, Try.results95, hpa, hlv]
end Go.Proofs.Ytimkamgghkjhhaa
