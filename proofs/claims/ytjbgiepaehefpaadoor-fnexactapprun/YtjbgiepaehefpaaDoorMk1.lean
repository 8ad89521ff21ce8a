/- Marks of rules and of programs: they write into those blocks alone. -/
import Derived.Test.YtjbgiepaehefpaaDoorMarkOp
import Derived.Test.YtjbgiepaehefpaaDoorLawOk
namespace Go.Proofs.YtjbgiepaehefpaaDoor
open Go.RowKit
set_option linter.unusedVariables false

/-- Of what lay there, only blocks from A on and ahead of M may have turned. -/
structure Btw (A M : Nat) (w w' : World) : Prop where
  size : w.heap.size ≤ w'.heap.size
  other : ∀ b, b < w.heap.size → b < A ∨ M ≤ b → w'.heap[b]? = w.heap[b]?
  below : Below A w w'

theorem Btw.refl (A M : Nat) (w : World) : Btw A M w w := ⟨Nat.le_refl _, fun _ _ _ => rfl, Below.refl _ _⟩

theorem Btw.trans {A M : Nat} {a b c : World} (h : Btw A M a b) (k : Btw A M b c) : Btw A M a c :=
  ⟨Nat.le_trans h.size k.size, fun i hi hA => (k.other i (Nat.lt_of_lt_of_le hi h.size) hA).trans (h.other i hi hA), h.below.trans k.below⟩

theorem Btw.set {A M b o : Nat} (w : World) (v : Value) (h1 : A ≤ b) (h2 : b < M) : Btw A M w (w.setCell ⟨b, o, none⟩ v) :=
  ⟨by simp, fun i hi hA => Below.heap_setCell w ⟨b, o, none⟩ v i (show i ≠ b by omega), (Below.refl _ _).setCell h1 _⟩

theorem Btw.only {A M g len cap : Nat} {w w' : World} (h : OnlyOf (.slice (some ⟨g, 0, none⟩) len cap) w w') (h1 : A ≤ g) (h2 : g < M) : Btw A M w w' :=
  ⟨by rw [h.size]; exact Nat.le_refl _, fun i hi hA => h.other i (by simp [Value.ownBlock]; omega), h.below A (fun g' hg => by simp [Value.ownBlock] at hg; omega)⟩

theorem rowIs_same {w : World} {b t t' n n' : Nat} {f f' : Nat → Value} (h : w.rowIs b t n f) (h' : w.rowIs b t' n' f') : t = t' ∧ n = n' := by
  obtain ⟨c, hb, hn, _⟩ := h
  obtain ⟨c', hb', hn', _⟩ := h'
  rw [hb] at hb'
  simp only [Option.some.injEq, Obj.cells.injEq] at hb'
  obtain ⟨h1, h2, _⟩ := hb'
  subst h1 h2
  exact ⟨rfl, hn.symm.trans hn'⟩

/-- Where the ops of rules lie: behind block b, ahead of M. -/
def OpsOf (b M : Nat) (w : World) (rs : List RuleV) (f : Nat → Value) : Prop :=
  ∀ j (h : j < rs.length), ∃ g t f', f (j * 2 + 1) = .slice (some ⟨g, 0, none⟩) rs[j].ops.length rs[j].ops.length ∧ b < g ∧ g < M ∧ rs[j].ops.length ≤ maxLen ∧ w.rowIs g t (rs[j].ops.length * 5) f'

def RulesRoom (N M : Nat) (w : World) (v : Value) (rs : List RuleV) : Prop :=
  ∃ b t f, v = .slice (some ⟨b, 0, none⟩) rs.length rs.length ∧ N ≤ b ∧ b < M ∧ rs.length ≤ maxLen ∧ w.rowIs b t (rs.length * 2) f ∧ OpsOf b M w rs f

theorem RulesFr.room {N : Nat} {w : World} {v : Value} {rs : List RuleV} (h : RulesFr N w v rs) : RulesRoom N w.heap.size w v rs := by
  obtain ⟨b, t, f, rfl, hN, hm, hr, hf⟩ := h
  refine ⟨b, t, f, rfl, hN, hr.lt, hm, hr, fun j hj => ?_⟩
  obtain ⟨_, g, t', f', e1, hg, hm', hr', _⟩ := hf j hj hj
  exact ⟨g, t', f', e1, hg, hr'.lt, hm', hr'⟩

theorem RulesRoom.on {N M : Nat} {w w' : World} {v : Value} {rs : List RuleV} (hb : Below w.heap.size w w') (h : RulesRoom N M w v rs) : RulesRoom N M w' v rs := by
  obtain ⟨b, t, f, rfl, hN, hM, hm, hr, hf⟩ := h
  refine ⟨b, t, f, rfl, hN, hM, hm, hr.of_block (hb.block _ hr.lt), fun j hj => ?_⟩
  obtain ⟨g, t', f', e1, hg, hg2, hm', hr'⟩ := hf j hj
  exact ⟨g, t', f', e1, hg, hg2, hm', hr'.of_block (hb.block _ hr'.lt)⟩

theorem opsOf_set {b M : Nat} {w : World} {rs : List RuleV} {f : Nat → Value} (h : OpsOf b M w rs f) (k : Nat) (v : Value) : OpsOf b M (w.setCell ⟨b, k * 2, none⟩ v) rs (fun j => if j = k * 2 then v else f j) := fun j hj => by
  obtain ⟨g, t, f', e1, hg, hg2, hm, hr⟩ := h j hj
  exact ⟨g, t, f', by simp only [show ¬ j * 2 + 1 = k * 2 by omega, if_false, e1], hg, hg2, hm, hr.setOther (show g ≠ b by omega) v⟩

theorem opsOf_only {b M g len N t : Nat} {w w' : World} {rs : List RuleV} {f f0 : Nat → Value} {xs : List (List Int)} (h : OpsOf b M w rs f) (hr0 : w.rowIs g t (len * 5) f0) (ho : OnlyOf (.slice (some ⟨g, 0, none⟩) len len) w w') (hx : RowsFr N t 5 w' (.slice (some ⟨g, 0, none⟩) len len) xs) : OpsOf b M w' rs f := fun j hj => by
  obtain ⟨g', t', f', e1, hg, hg2, hm, hr⟩ := h j hj
  by_cases e : g' = g
  · subst e
    obtain ⟨rfl, hn⟩ := rowIs_same hr0 hr
    rcases hx with ⟨h1, _⟩ | ⟨g2, cap, f2, h1, _, _, _, h5, _⟩
    · simp at h1
    · simp at h1
      obtain ⟨rfl, _, rfl⟩ := h1
      rw [hn] at h5
      exact ⟨_, t, f2, e1, hg, hg2, hm, h5⟩
  · exact ⟨g', t', f', e1, hg, hg2, hm, hr.of_block (ho.other g' (by simp [Value.ownBlock]; omega))⟩

set_option maxRecDepth 100000 in
set_option maxHeartbeats 2000000 in
theorem markRuleS_any (N M : Nat) (v : Value) (rs : List RuleV) (k0 : Int) (w : World) (h : RulesRoom N M w v rs) (hsz : rulesSz rs ≤ 1048576) (h0 : 0 ≤ k0) (h1 : k0 ≤ 1000000000000) :
    Calls Tryd.prog 66 #[v, .int .i64 k0] w fun e w' => ∃ r, e = .returned (.int .i64 r) ∧ k0 ≤ r ∧ r ≤ k0 + 6 * (rulesSz rs : Int) ∧ Btw N M w w' := by
  obtain ⟨b, t, f0, rfl, hN, hM, hm, hr, hf⟩ := h
  have hlen : rs.length ≤ 1048576 := by unfold rulesSz at hsz; omega
  have hfit : ∀ j (h : j < rs.length), rs[j].ops.length ≤ 1048576 := (rulesSz_fit rs hsz).2
  have HFIT := hide hfit
  have hle : ∀ k, (((rs.take k).map fun r : RuleV => r.ops.length).sum : Nat) ≤ (rs.map fun r : RuleV => r.ops.length).sum := by
    intro k
    have := List.take_append_drop k (rs.map fun r : RuleV => r.ops.length)
    rw [← this, List.sum_append, List.map_take]
    omega
  have HLE := hide hle
  have HSZ : Hid (rulesSz rs = rs.length + (rs.map fun r : RuleV => r.ops.length).sum ∧ rulesSz rs ≤ 1048576) := hide ⟨rfl, hsz⟩
  clear hfit hle hsz
  generalize rulesSz rs = tot at *
  have HR := hide hr
  have HF := hide hf
  clear hr hf hm
  go_enter Tryd.func66, Tryd.ntmps66
  go_wp2_with fail
  go_loopw [1, 5] (fun a i wr => ∃ (k : Nat) (m : Int) (f : Nat → Value), k ≤ rs.length ∧ i = .int .i64 k ∧ a = .int .i64 m ∧ 0 ≤ m ∧ m ≤ 2000000000000 ∧ Hid (k0 ≤ m ∧ m ≤ k0 + 6 * ((k + ((rs.take k).map fun r : RuleV => r.ops.length).sum : Nat) : Int)) ∧ Hid (wr.rowIs b t (rs.length * 2) f) ∧ Hid (OpsOf b M wr rs f) ∧ Hid (Btw N M w wr)) (fun _ i _ => rs.length - (intOf i).toNat)
  case atStart => exact ⟨0, k0, f0, Nat.zero_le _, rfl, rfl, h0, by omega, hide ⟨by omega, by simp⟩, hide (unhide HR), hide (unhide HF), hide (Btw.refl _ _ _)⟩
  case round =>
    obtain ⟨k, m, f, hk, rfl, rfl, hm0, hm1, HM, HROW, HOPS, HB⟩ := hrel
    by_cases hlt : k < rs.length
    · have hkI : (k : Int) < (rs.length : Int) := by omega
      have hrow := unhide HROW
      have g0 := hrow.cell (i := k * 2) (by omega)
      have z0 := hrow.frozen (k * 2)
      have hrow1 := hrow.set (k * 2) (.int .i64 m)
      have hops1 := opsOf_set (unhide HOPS) k (.int .i64 m)
      have hb1 : Btw N M w (wr.setCell ⟨b, k * 2, none⟩ (.int .i64 m)) := (unhide HB).trans (Btw.set wr _ hN hM)
      have HN := hide (sum_take_more (fun r : RuleV => r.ops.length) rs k hlt)
      obtain ⟨g, tg, fg, e1, hg1, hg2, hgm, hgr⟩ := hops1 k hlt
      have g1 := (hrow1.cell (i := k * 2 + 1) (by omega)).trans (congrArg some e1)
      have HROW1 := hide hrow1
      have HOPS1 := hide hops1
      have HB1 := hide hb1
      have HGR := hide hgr
      have hol := (unhide HFIT) k hlt
      clear hrow hrow1 hops1 hb1 hgr e1
      go_wp2_with fail
      refine (markOpS_any (b + 1) tg (.slice (some ⟨g, 0, none⟩) rs[k].ops.length rs[k].ops.length) rs[k].ops.length (m + 1) _ (Or.inr ⟨g, _, fg, rfl, hg1, Nat.le_refl _, hgm, unhide HGR⟩) (by omega) (by omega) (by omega)).mono ?_
      rintro e w2 ⟨rfl, hx, ho⟩
      have HX := hide hx
      have HO := hide ho
      clear hx ho g0 z0 g1
      have hs1 : m + 1 + 5 * (rs[k].ops.length : Int) ≤ 2000000000000 := by
        have e2 := unhide HM
        have e3 := unhide HN
        have e4 := (unhide HLE) (k + 1)
        have e5 := unhide HSZ
        omega
      go_wp2_with fail
      go_roundw
      case rel =>
        refine ⟨k + 1, m + 1 + 5 * (rs[k].ops.length : Int), _, by omega, by go_num, rfl, by omega, hs1, hide ?_, hide ((unhide HROW1).of_block ((unhide HO).other b (by simp [Value.ownBlock]; omega))), hide (opsOf_only (unhide HOPS1) (unhide HGR) (unhide HO) (unhide HX)), hide ((unhide HB1).trans (Btw.only (unhide HO) (by omega) hg2))⟩
        have e2 := unhide HM
        have e3 := unhide HN
        omega
      case measure => simp [intOf]; omega
    · have hke : k = rs.length := by omega
      subst hke
      go_wp2_with fail
      go_ret
      refine ⟨m, rfl, (unhide HM).1, ?_, unhide HB⟩
      have e2 := (unhide HM).2
      have e5 := unhide HSZ
      rw [List.take_length] at e2
      omega

theorem markApp_any (N M : Nat) (v : Value) (rs : List RuleV) (k0 : Int) (w : World) (h : RulesRoom N M w v rs) (hMw : M ≤ w.heap.size) (hsz : rulesSz rs ≤ 1048576) (h0 : 0 ≤ k0) (h1 : k0 ≤ 1000000000000) :
    Calls Tryd.prog 37 #[.agg #[v], .int .i64 k0] w fun e w' => ∃ r, e = .returned (.int .i64 r) ∧ k0 ≤ r ∧ r ≤ k0 + 6 * (rulesSz rs : Int) ∧ Btw N M w w' := by
  obtain ⟨b, hv, hNb⟩ : ∃ b, v = .slice (some ⟨b, 0, none⟩) rs.length rs.length ∧ N ≤ b ∧ b < M := by obtain ⟨b, _, _, h, h2, h3, _⟩ := h; exact ⟨b, h, h2, h3⟩
  subst hv
  have hbw : Below w.heap.size w (w.alloc (.cells #[.slice (some ⟨b, 0, none⟩) rs.length rs.length] 34)) := (Below.refl _ _).alloc (Nat.le_refl _) _
  have H := hide (h.on hbw)
  have HSZ := hide hsz
  clear h hsz
  have hbt : Btw N M w (w.alloc (.cells #[.slice (some ⟨b, 0, none⟩) rs.length rs.length] 34)) := ⟨hbw.size, fun i hi _ => hbw.block i hi, hbw.mono (by omega)⟩
  go_enter Tryd.func37, Tryd.ntmps37
  go_wp2_with fail
  refine (markRuleS_any N M _ rs k0 _ (unhide H) (unhide HSZ) h0 h1).mono ?_
  rintro e w3 ⟨r, rfl, hr1, hr2, hb3⟩
  have HR2 := hide hr2
  clear hr2
  go_wp2_with fail
  go_ret
  exact ⟨r, rfl, hr1, unhide HR2, hbt.trans hb3⟩
end Go.Proofs.YtjbgiepaehefpaaDoor
