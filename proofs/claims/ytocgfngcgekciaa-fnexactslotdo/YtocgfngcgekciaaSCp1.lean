/- Grids of one's own that are written into; impl.copyEach of lists of numbers. -/
import Derived.Test.YtocgfngcgekciaaSTo2
import Derived.LoopTactic
namespace Go.Proofs.Ytocgfngcgekciaa
open Go.RowKit
set_option linter.unusedVariables false
set_option linter.unusedSimpArgs false


/-- A list of lists whose own block may be written into, each list in a block of its own. -/
structure WGrid (N : Nat) (w : World) (g cap : Nat) (f : Nat → Value) (ls : List (List Int)) : Prop where
  row : w.rowIs g 28 cap f
  lo : N ≤ g
  len : ls.length ≤ cap
  max : cap ≤ maxLen
  rows : ∀ i (h : i < ls.length), RowsFr N 3 1 w (f i) (ls[i].map fun z => [z])
  off : ∀ i, i < ls.length → (f i).ownBlock ≠ some g
  sep : ∀ i j, i < j → j < ls.length → Apart (f i) (f j)

abbrev gridV (g cap : Nat) (ls : List (List Int)) : Value := .slice (some ⟨g, 0, none⟩) ls.length cap

theorem WGrid.own {N : Nat} {w : World} {g cap : Nat} {f : Nat → Value} {ls : List (List Int)} (h : WGrid N w g cap f ls) : GridOwn N w (gridV g cap ls) f ls := by
  have hl := h.len
  exact ⟨⟨_, cap, rfl, h.len, Nat.le_trans h.len h.max, Or.inr ⟨g, 0, rfl, h.lo, fun i hi => by rw [Nat.zero_add]; exact h.row.cell (by omega)⟩⟩, h.rows, fun i hi b h1 h2 => by
    have e : g = b := by simpa [Value.ownBlock] using h2
    exact h.off i hi (by rw [h1, e]), h.sep, fun b hb => by
    have e : g = b := by simpa [Value.ownBlock] using hb
    subst e
    exact ⟨h.lo, h.row.lt⟩⟩
theorem WGrid.at {N : Nat} {w : World} {g cap : Nat} {f : Nat → Value} {ls : List (List Int)} (h : WGrid N w g cap f ls) : GridAt w (gridV g cap ls) ls := h.own.at
theorem WGrid.keep {N : Nat} {w w' : World} {g cap : Nat} {f : Nat → Value} {ls : List (List Int)} (hk : ∀ b, N ≤ b → b < w.heap.size → w'.heap[b]? = w.heap[b]?) (h : WGrid N w g cap f ls) : WGrid N w' g cap f ls :=
  ⟨h.row.of_block (hk g h.lo h.row.lt), h.lo, h.len, h.max, fun i hi => (h.rows i hi).block (fun b hb hlt => hk b ((h.rows i hi).blk b hb).1 hlt), h.off, h.sep⟩
theorem WGrid.on {N : Nat} {w w' : World} {g cap : Nat} {f : Nat → Value} {ls : List (List Int)} (hb : Below w.heap.size w w') (h : WGrid N w g cap f ls) : WGrid N w' g cap f ls := h.keep (fun b _ hl => hb.block b hl)
theorem WGrid.less {N M : Nat} {w : World} {g cap : Nat} {f : Nat → Value} {ls : List (List Int)} (hM : M ≤ N) (h : WGrid N w g cap f ls) : WGrid M w g cap f ls :=
  ⟨h.row, Nat.le_trans hM h.lo, h.len, h.max, fun i hi => (h.rows i hi).less hM, h.off, h.sep⟩
/-- Its blocks, and those of its lists, stay: it stays. -/
theorem WGrid.keep2 {N : Nat} {w w' : World} {g cap : Nat} {f : Nat → Value} {ls : List (List Int)} (h : WGrid N w g cap f ls) (hg : w'.heap[g]? = w.heap[g]?) (hr : ∀ i, i < ls.length → ∀ b, (f i).ownBlock = some b → w'.heap[b]? = w.heap[b]?) : WGrid N w' g cap f ls :=
  ⟨h.row.of_block hg, h.lo, h.len, h.max, fun i hi => (h.rows i hi).block (fun b hb _ => hr i hi b hb), h.off, h.sep⟩
/-- A list is put in the place of another one: a new one, that lies behind all. -/
theorem WGrid.put {N k : Nat} {w w2 : World} {g cap : Nat} {f : Nat → Value} {ls : List (List Int)} {v : Value} {l : List Int} (h : WGrid N w g cap f ls) (hk : k < ls.length) (hb : Below w.heap.size w w2) (hN : N ≤ w.heap.size)
    (hr : RowsFr w.heap.size 3 1 w2 v (l.map fun z => [z])) : WGrid N (w2.setCell ⟨g, k, none⟩ v) g cap (setF f k v) (ls.set k l) := by
  have hgl := h.row.lt
  have hoth : ∀ b, b ≠ g → (w2.setCell ⟨g, k, none⟩ v).heap[b]? = w2.heap[b]? := fun b hb => Below.heap_setCell w2 ⟨g, k, none⟩ v b (by show b ≠ g; exact hb)
  refine ⟨rowIs_set1 (h.row.of_block (hb.block g hgl)), h.lo, by rw [List.length_set]; exact h.len, h.max, fun i hi => ?_, fun i hi => ?_, fun i j hij hj => ?_⟩
  · have hi' : i < ls.length := by simpa using hi
    by_cases e : i = k
    · subst e
      simp only [setF, if_pos, List.getElem_set_self]
      exact (hr.block (fun b hb2 _ => hoth b (by have := (hr.blk b hb2).1; omega))).less hN
    · have e2 : (ls.set k l)[i] = ls[i] := by simp [List.getElem_set, Ne.symm e]
      simp only [setF, if_neg e]
      rw [e2]
      exact (h.rows i hi').block (fun b hb2 hlt => (hoth b (fun e3 => h.off i hi' (by rw [hb2, e3]))).trans (hb.block b hlt))
  · have hi' : i < ls.length := by simpa using hi
    by_cases e : i = k
    · subst e
      simp only [setF, if_pos]
      intro h1
      have := (hr.blk g h1).1
      omega
    · simp only [setF, if_neg e]
      exact h.off i hi'
  · have hj' : j < ls.length := by simpa using hj
    by_cases e : j = k
    · subst e
      simp only [setF, if_neg (show ¬ i = j by omega), if_pos]
      intro b h1 h2
      have := ((h.rows i (by omega)).blk b h1).2
      have := (hr.blk b h2).1
      omega
    · by_cases e2 : i = k
      · subst e2
        simp only [setF, if_neg e, if_pos]
        intro b h1 h2
        have := ((h.rows j hj').blk b h2).2
        have := (hr.blk b h1).1
        omega
      · simp only [setF, if_neg e, if_neg e2]
        exact h.sep i j hij hj'

/-- A list of lists that grows. -/
structure GrowUp (N : Nat) (w : World) (v : Value) (us : List Value) (ls : List (List Int)) (k : Nat) : Prop where
  own : w.ownsRow N 28 1 v k us
  rows : ∀ i (h : i < us.length) (h2 : i < ls.length), RowsFr N 3 1 w us[i] (ls[i].map fun z => [z])
  off : ∀ i (h : i < us.length), Apart us[i] v
  sep : ∀ i j (hij : i < j) (h : j < us.length), Apart (us[i]'(by omega)) us[j]

theorem GrowUp.count {N : Nat} {w : World} {v : Value} {us : List Value} {ls : List (List Int)} {k : Nat} (h : GrowUp N w v us ls k) : us.length = k := by
  have := h.own.1; omega
theorem GrowUp.zero (N : Nat) (w : World) (ls : List (List Int)) : GrowUp N w (.slice none 0 0) [] ls 0 :=
  ⟨World.ownsRow_nil _ _ _ _, fun i h => absurd h (Nat.not_lt_zero _), fun i h => absurd h (Nat.not_lt_zero _), fun i j _ h => absurd h (Nat.not_lt_zero _)⟩
theorem GrowUp.on {N : Nat} {w w' : World} {v : Value} {us : List Value} {ls : List (List Int)} {k : Nat} (hb : Below w.heap.size w w') (h : GrowUp N w v us ls k) : GrowUp N w' v us ls k :=
  ⟨ownsOn hb h.own, fun i h1 h2 => (h.rows i h1 h2).on hb, h.off, h.sep⟩

/-- One more: in world A (the new one x lies behind all of w), appended. -/
theorem GrowUp.next {N gg k m cap : Nat} {w A w1 : World} {v x : Value} {us : List Value} {ls : List (List Int)} (h : GrowUp N w v us ls k) (hk : k < ls.length) (hbA : Below w.heap.size w A) (hN : N ≤ w.heap.size)
    (hx : RowsFr w.heap.size 3 1 A x (ls[k].map fun z => [z])) (hown : w1.ownsRow N 28 1 (.slice (some ⟨gg, 0, none⟩) m cap) (k + 1) (us ++ [x])) (hg : A.grownBy w1 v.ownBlock) (hat : v.ownBlock = some gg ∨ gg = A.heap.size) :
    GrowUp N w1 (.slice (some ⟨gg, 0, none⟩) m cap) (us ++ [x]) ls (k + 1) := by
  have hc := h.count
  have hs := hbA.size
  have hold : ∀ i (hi : i < us.length), (us ++ [x])[i]'(by simp; omega) = us[i] := fun i hi => List.getElem_append_left hi
  have hnew : (us ++ [x])[k]'(by simp; omega) = x := by
    rw [List.getElem_append_right (by omega)]
    simp [hc]
  have hblk : ∀ i (h1 : i < us.length) b, us[i].ownBlock = some b → b < w.heap.size := fun i h1 b hb => ((h.rows i h1 (by omega)).blk b hb).2
  have hvb : ∀ b, v.ownBlock = some b → b < w.heap.size := fun b hb => (h.own.lt b hb).2
  have hxb : ∀ b, x.ownBlock = some b → w.heap.size ≤ b ∧ b < A.heap.size := fun b hb => hx.blk b hb
  refine ⟨hown, fun i hi h2 => ?_, fun i hi => ?_, fun i j hij hj => ?_⟩
  · rw [List.length_append] at hi
    simp at hi
    by_cases e : i = k
    · subst e
      rw [hnew]
      exact (hx.block (fun b hb hlt => hg.block b hlt (fun e => by have := hvb b e.symm; have := (hxb b hb).1; omega))).less hN
    · have hi' : i < us.length := by omega
      rw [hold i hi']
      exact (h.rows i hi' h2).block (fun b hb hlt => (hg.block b (by omega) (fun e => h.off i hi' b hb e.symm)).trans (hbA.block b hlt))
  · rw [List.length_append] at hi
    simp at hi
    intro b h1 h2
    have eg : gg = b := by simpa [Value.ownBlock] using h2
    subst eg
    by_cases e : i = k
    · subst e
      rw [hnew] at h1
      rcases hat with h3 | h3
      · have := hvb gg h3; have := (hxb gg h1).1; omega
      · have := (hxb gg h1).2; omega
    · have hi' : i < us.length := by omega
      rw [hold i hi'] at h1
      rcases hat with h3 | h3
      · exact h.off i hi' gg h1 h3
      · have := hblk i hi' gg h1; omega
  · rw [List.length_append] at hj
    simp at hj
    have hi' : i < us.length := by omega
    by_cases e : j = k
    · subst e
      rw [hnew, hold i hi']
      intro b h1 h2
      have := hblk i hi' b h1
      have := (hxb b h2).1
      omega
    · have hj' : j < us.length := by omega
      rw [hold i hi', hold j hj']
      exact h.sep i j hij hj'

theorem GrowUp.grid {N : Nat} {w : World} {v : Value} {us : List Value} {ls : List (List Int)} (h : GrowUp N w v us ls ls.length) (h0 : 0 < ls.length) : ∃ g cap f, v = gridV g cap ls ∧ WGrid N w g cap f ls := by
  have hc := h.count
  obtain ⟨hlen, ⟨rfl, h1⟩ | ⟨g, cap, cur, rfl, hN, hb, hl, hm, hs, ht⟩⟩ := h.own
  · omega
  · have hget : ∀ i (hi : i < us.length), cur.getD i default = us[i] := fun i hi => by
      have h2 : us[i]? = some us[i] := List.getElem?_eq_getElem hi
      have h4 : us[i]? = some (cur.getD i default) := by
        rw [← ht, List.getElem?_take, if_pos (by omega), Array.getElem?_toList, Array.getElem?_eq_getElem (show i < cur.size by omega)]
        simp [Array.getD, show i < cur.size by omega]
      rw [h2] at h4
      exact (Option.some.inj h4).symm
    refine ⟨g, cap, fun i => cur.getD i default, rfl, ⟨⟨cur, hb, by omega, fun i hi => ?_⟩, hN, hl, hm, fun i hi => ?_, fun i hi => ?_, fun i j hij hj => ?_⟩⟩
    · have h9 : i < cur.size := by omega
      rw [Array.getElem?_eq_getElem h9]
      simp [Array.getD, h9]
    · show RowsFr N 3 1 w (cur.getD i default) _
      rw [hget i (by omega)]
      exact h.rows i (by omega) hi
    · show (cur.getD i default).ownBlock ≠ some g
      rw [hget i (by omega)]
      exact fun e => h.off i (by omega) g e rfl
    · show Apart (cur.getD i default) (cur.getD j default)
      rw [hget i (by omega), hget j (by omega)]
      exact h.sep i j hij (by omega)

theorem slice_one {w : World} {N k : Nat} {v : Value} {us : List Value} (h : w.ownsRow N 28 1 v k us) : ∃ a c, v = .slice a k c := by
  rcases h.2 with ⟨h1, h2⟩ | ⟨g, cp, cur, h1, _⟩
  · exact ⟨none, 0, by rw [h1, h2]⟩
  · exact ⟨_, _, h1⟩

set_option maxRecDepth 100000 in
set_option maxHeartbeats 2000000 in
theorem copyEach_any (v : Value) (ls : List (List Int)) (w : World) (h : GridAt w v ls) (h0 : 0 < ls.length) (hlen : ls.length ≤ 1048576) (hl : ∀ l ∈ ls, l.length ≤ 1048576) :
    Calls Try.prog 92 #[v, .func (.func 75) #[] #[]] w fun e w' => ∃ g cap f, e = .returned (gridV g cap ls) ∧ WGrid w.heap.size w' g cap f ls ∧ Below w.heap.size w w' := by
  obtain ⟨iS, hiS, hz0, hz1, hz2⟩ := infoT_parts info_S1
  obtain ⟨ad, cap, rfl⟩ := h.sliced
  have HC := hide h
  have HL := hide hl
  have HL0 := hide h0
  clear h hl h0
  go_enter Try.func92, Try.ntmps92
  go_wp2_with fail
  go_loopw [5, 10] (fun o i wr => ∃ (k : Nat) (va : Option Addr) (vc : Nat) (us : List Value), k ≤ ls.length ∧ i = .int .i64 k ∧ o = .slice va k vc ∧ Hid (GrowUp w.heap.size wr (.slice va k vc) us ls k) ∧ Hid (Below w.heap.size w wr)) (fun _ i _ => ls.length - (intOf i).toNat)
  case atStart => exact ⟨0, none, 0, [], Nat.zero_le _, rfl, rfl, hide (GrowUp.zero _ _ _), hide (Below.refl _ _)⟩
  case round =>
    obtain ⟨k, va, vc, us, hk, rfl, rfl, HG, HB⟩ := hrel
    by_cases hlt : k < ls.length
    · obtain ⟨b, off, vd, had, p1, hp⟩ := ((unhide HC).on (unhide HB)).row hlt
      have hkI : (k : Int) < (ls.length : Int) := by omega
      have hk0 : (0 : Int) ≤ (k : Int) := by omega
      subst had
      have HP := hide hp
      obtain ⟨ea, ec, rfl⟩ := hp.sliced
      have hlk := (unhide HL) ls[k] (List.getElem_mem hlt)
      clear hp
      obtain ⟨z, hz⟩ : ∃ z, z = ls[k] := ⟨_, rfl⟩
      rw [← hz] at p1 hlk HP
      have HZ := hide hz
      clear hz
      have hbase : w.heap.size ≤ wr.heap.size := (unhide HB).size
      go_wp2_with fail
      refine (copyListInt_any _ z wr (unhide HP) hlk).mono ?_
      rintro e w2 ⟨v2, rfl, hf2, hb2⟩
      obtain ⟨ga, gc, hgv⟩ := RowsFr_sliced hf2
      rw [List.length_map] at hgv
      subst hgv
      have hb3 : Below w2.heap.size w2 (w2.alloc (.cells #[.slice ga z.length gc] 28)) := (Below.refl _ _).alloc (Nat.le_refl _) _
      have hb23 := below_then hb2 hb3
      have hownA := ownsOn hb23 (unhide HG).own
      have HF2 := hide (hf2.on hb3)
      have HB23 := hide hb23
      clear hf2 hb2 hb3 hb23 p1
      go_wp2_with (at_builtin; refine wpList_append_lies _ (by rfl) _ _ _ (by rfl) w.heap.size 28 iS _ 1 24 slice_SS hiS hz0 hz1 hz2 (by rfl) (by omega) (.slice va k vc) k us (by rfl) hownA ⟨w2.heap.size, 0, none⟩ 1 1 [.slice ga z.length gc] (by rfl) (by rfl) (World.news_of_block (cs := #[.slice ga z.length gc]) (t := 28) (fr := (0, 0)) (heap_alloc_new w2 _)) (by simp [Value.oneCell']) (by omega) (by unfold maxLen; omega) (by omega) (Nat.le_trans hbase (unhide HB23).size) (w2.heap.size + 1) (by simp) ?_; intro gg cap2 w5 hown5 hgrow hat hlt5; have HG5 : Hid (GrowUp w.heap.size w5 (.slice (some ⟨gg, 0, none⟩) (k + 1) cap2) (us ++ [.slice ga z.length gc]) ls (k + 1)) := hide ((unhide HG).next hlt (unhide HB23) hbase (by have e := unhide HF2; rw [unhide HZ] at e ⊢; exact e) hown5 hgrow (by rw [World.size_alloc]; exact hat)); have HB5 := hide (Below.grown ((unhide HB).trans ((unhide HB23).mono hbase)) hgrow (Nat.le_trans hbase (unhide HB23).size) (fun j hj => ((unhide HG).own.lt j hj).1)); clear hown5 hgrow hat hlt5)
      go_roundw
      case rel => exact ⟨k + 1, _, cap2, _, by omega, by go_num, rfl, HG5, HB5⟩
      case measure => (simp [intOf]; try omega)
    · have hke : k = ls.length := by omega
      subst hke
      obtain ⟨g, cp, f, hgv, hw⟩ := (unhide HG).grid (unhide HL0)
      go_wp2_with fail
      go_ret
      exact ⟨g, cp, f, by show Ending.returned (.slice va ls.length vc) = _; rw [hgv], hw, unhide HB⟩
end Go.Proofs.Ytocgfngcgekciaa
