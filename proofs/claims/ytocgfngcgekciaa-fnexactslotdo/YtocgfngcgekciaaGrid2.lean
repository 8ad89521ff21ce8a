/- Lists of lists of numbers each in memory of its own; the exact laws' mark and held of them, of slots and disks. -/
import Derived.Test.YtocgfngcgekciaaGrid1
namespace Go.Proofs.Ytocgfngcgekciaa
open Go.RowKit
set_option linter.unusedVariables false
set_option linter.unusedSimpArgs false


def szN (l : List Int) : Int := (l.length : Int)
def markN (k : Int) (l : List Int) : List Int := (List.range l.length).map fun (i : Nat) => k + (i : Int)
theorem szN_pos (l : List Int) : 0 ≤ szN l := by unfold szN; omega
theorem markN_len (k : Int) (l : List Int) : (markN k l).length = l.length := by simp [markN]
theorem markN_rows (k : Int) (l : List Int) : (markN k l).map (fun z => [z]) = markRows 1 k l.length := by
  simp [markN, markRows, Function.comp_def]

structure GridOwn (N : Nat) (w : World) (v : Value) (vs : Nat → Value) (ls : List (List Int)) : Prop where
  lies : ∃ (ad : Option Addr) (cap : Nat), v = .slice ad ls.length cap ∧ ls.length ≤ cap ∧ ls.length ≤ maxLen ∧
    (ls = [] ∨ ∃ b off, ad = some ⟨b, off, none⟩ ∧ N ≤ b ∧ ∀ i, i < ls.length → w.cell? ⟨b, off + i, none⟩ = some (vs i))
  rows : ∀ i (h : i < ls.length), RowsFr N 3 1 w (vs i) (ls[i].map fun z => [z])
  off : ∀ i, i < ls.length → Apart (vs i) v
  sep : ∀ i j, i < j → j < ls.length → Apart (vs i) (vs j)
  blk : ∀ g, v.ownBlock = some g → N ≤ g ∧ g < w.heap.size

theorem lt_of_same {w w' : World} {g : Nat} (h : w'.heap[g]? = w.heap[g]?) (hl : g < w.heap.size) : g < w'.heap.size := by
  rcases Nat.lt_or_ge g w'.heap.size with h1 | h1
  · exact h1
  · rw [Array.getElem?_eq_none h1, Array.getElem?_eq_getElem hl] at h; cases h

theorem GridOwn.at {N : Nat} {w : World} {v : Value} {vs : Nat → Value} {ls : List (List Int)} (h : GridOwn N w v vs ls) : GridAt w v ls := by
  obtain ⟨ad, cap, hv, hl, hm, h1⟩ := h.lies
  refine ⟨ad, cap, hv, hl, hm, ?_⟩
  rcases h1 with h1 | ⟨b, off, had, _, hc⟩
  · exact Or.inl h1
  · exact Or.inr ⟨b, off, had, fun i hi => ⟨vs i, hc i hi, (h.rows i hi).at⟩⟩

theorem heap_lt_of_cell {w : World} {b o : Nat} {u : Value} (h : w.cell? ⟨b, o, none⟩ = some u) : b < w.heap.size := World.block_lt_of_cell? _ _ h

theorem cell_block {w w' : World} {b o : Nat} (h : w'.heap[b]? = w.heap[b]?) : w'.cell? ⟨b, o, none⟩ = w.cell? ⟨b, o, none⟩ := by
  simp only [World.cell?]; rw [h]

theorem GridOwn.keep {N : Nat} {w w' : World} {v : Value} {vs : Nat → Value} {ls : List (List Int)} (hk : ∀ b, N ≤ b → b < w.heap.size → w'.heap[b]? = w.heap[b]?) (h : GridOwn N w v vs ls) : GridOwn N w' v vs ls := by
  obtain ⟨ad, cap, hv, hl, hm, h1⟩ := h.lies
  refine ⟨⟨ad, cap, hv, hl, hm, ?_⟩, fun i hi => (h.rows i hi).block (fun g hg hlt => hk g ((h.rows i hi).blk g hg).1 hlt), h.off, h.sep, fun g hg => ⟨(h.blk g hg).1, lt_of_same (hk g (h.blk g hg).1 (h.blk g hg).2) (h.blk g hg).2⟩⟩
  rcases h1 with h1 | ⟨b, off, had, hN, hc⟩
  · exact Or.inl h1
  · exact Or.inr ⟨b, off, had, hN, fun i hi => by
      rw [cell_block (hk b hN (heap_lt_of_cell (hc i hi)))]; exact hc i hi⟩

theorem GridOwn.on {N : Nat} {w w' : World} {v : Value} {vs : Nat → Value} {ls : List (List Int)} (hb : Below w.heap.size w w') (h : GridOwn N w v vs ls) : GridOwn N w' v vs ls := h.keep (fun b _ hl => hb.block b hl)

theorem GridOwn.less {N M : Nat} {w : World} {v : Value} {vs : Nat → Value} {ls : List (List Int)} (hM : M ≤ N) (h : GridOwn N w v vs ls) : GridOwn M w v vs ls := by
  obtain ⟨ad, cap, hv, hl, hm, h1⟩ := h.lies
  refine ⟨⟨ad, cap, hv, hl, hm, ?_⟩, fun i hi => (h.rows i hi).less hM, h.off, h.sep, fun g hg => ⟨Nat.le_trans hM (h.blk g hg).1, (h.blk g hg).2⟩⟩
  rcases h1 with h1 | ⟨b, off, had, hN, hc⟩
  · exact Or.inl h1
  · exact Or.inr ⟨b, off, had, Nat.le_trans hM hN, hc⟩

/-- What is written lies in the blocks of P alone. -/
structure OnlyIn (P : Nat → Prop) (w w' : World) : Prop where
  size : w'.heap.size = w.heap.size
  other : ∀ b, ¬ P b → w'.heap[b]? = w.heap[b]?
  below : ∀ B, (∀ g, P g → B ≤ g) → Below B w w'
theorem OnlyIn.refl (P : Nat → Prop) (w : World) : OnlyIn P w w := ⟨rfl, fun _ _ => rfl, fun B _ => Below.refl B w⟩
theorem OnlyIn.trans {P : Nat → Prop} {a b c : World} (h : OnlyIn P a b) (k : OnlyIn P b c) : OnlyIn P a c :=
  ⟨k.size.trans h.size, fun x hx => (k.other x hx).trans (h.other x hx), fun B hB => (h.below B hB).trans (k.below B hB)⟩
theorem OnlyIn.of_only {P : Nat → Prop} {v : Value} {w w' : World} (h : OnlyOf v w w') (hv : ∀ g, v.ownBlock = some g → P g) : OnlyIn P w w' :=
  ⟨h.size, fun b hb => h.other b (fun e => hb (hv b e)), fun B hB => h.below B (fun g hg => hB g (hv g hg))⟩
theorem OnlyIn.more {P Q : Nat → Prop} {w w' : World} (hPQ : ∀ g, P g → Q g) (h : OnlyIn P w w') : OnlyIn Q w w' :=
  ⟨h.size, fun b hb => h.other b (fun e => hb (hPQ b e)), fun B hB => h.below B (fun g hg => hB g (hPQ g hg))⟩

/-- The blocks of the first n rows. -/
def rowBlk (n : Nat) (vs : Nat → Value) (b : Nat) : Prop := ∃ i, i < n ∧ (vs i).ownBlock = some b

theorem GridOwn.set {N : Nat} {w w' : World} {v : Value} {vs : Nat → Value} {ls : List (List Int)} {k : Nat} {l : List Int} (h : GridOwn N w v vs ls) (hk : k < ls.length) (ho : OnlyOf (vs k) w w')
    (hr : RowsFr N 3 1 w' (vs k) (l.map fun z => [z])) : GridOwn N w' v vs (ls.set k l) := by
  obtain ⟨ad, cap, hv, hl, hm, h1⟩ := h.lies
  refine ⟨⟨ad, cap, by rw [List.length_set]; exact hv, by rw [List.length_set]; exact hl, by rw [List.length_set]; exact hm, ?_⟩, fun i hi => ?_, fun i hi => h.off i (by simpa using hi), fun i j hij hj => h.sep i j hij (by simpa using hj), fun g hg => ⟨(h.blk g hg).1, by rw [ho.size]; exact (h.blk g hg).2⟩⟩
  · rcases h1 with h1 | ⟨b, off, had, hN, hc⟩
    · rw [h1] at hk; exact absurd hk (Nat.not_lt_zero _)
    · refine Or.inr ⟨b, off, had, hN, fun i hi => ?_⟩
      have hi' : i < ls.length := by simpa using hi
      rw [cell_block (ho.other b (fun e => h.off k hk b e (by rw [hv, had]; rfl)))]
      exact hc i hi'
  · have hi' : i < ls.length := by simpa using hi
    by_cases e : i = k
    · subst e; simpa using hr
    · have e2 : (ls.set k l)[i] = ls[i] := by simp [List.getElem_set, Ne.symm e]
      rw [e2]
      refine (h.rows i hi').block (fun g hg _ => ho.other g (fun eg => ?_))
      rcases Nat.lt_or_gt_of_ne e with h2 | h2
      · exact h.sep i k h2 hk g hg eg
      · exact h.sep k i h2 hi' g eg hg

set_option maxRecDepth 100000 in
set_option maxHeartbeats 2000000 in
theorem markIntSS_any (N : Nat) (v : Value) (vs : Nat → Value) (ls : List (List Int)) (k0 : Int) (w : World) (h : GridOwn N w v vs ls) (hlen : ∀ l ∈ ls, l.length ≤ 1000000000) (h0 : 0 ≤ k0) (h1 : k0 + gSz szN ls ≤ 100000000000000) :
    Calls Try.prog 85 #[v, .int .i64 k0] w fun e w' => e = .returned (.int .i64 (k0 + gSz szN ls)) ∧ GridOwn N w' v vs (gMark markN szN k0 ls) ∧ OnlyIn (rowBlk ls.length vs) w w' := by
  have HL := hide hlen
  have HTOT : Hid (∀ i, k0 + gSz szN (ls.take i) ≤ 100000000000000 ∧ 0 ≤ k0 + gSz szN (ls.take i)) := hide (fun i => by
    have h2 := gSz_take szN szN_pos ls i
    have h3 := gSz_pos szN szN_pos (ls.take i)
    omega)
  have hm := h.at.len
  obtain ⟨a0, c0, hv⟩ := h.at.sliced
  subst hv
  unfold maxLen at hm
  have H := hide h
  clear h hlen
  go_enter Try.func85, Try.ntmps85
  go_wp2_with fail
  go_loopw [1, 5] (fun a i wr => ∃ (k : Nat) (m : Int), k ≤ ls.length ∧ i = .int .i64 k ∧ a = .int .i64 m ∧ Hid (m = k0 + gSz szN (ls.take k)) ∧ 0 ≤ m ∧ m ≤ 100000000000000 ∧ Hid (GridOwn N wr (.slice a0 ls.length c0) vs (gMix markN szN k0 ls k)) ∧ Hid (OnlyIn (rowBlk ls.length vs) w wr)) (fun _ i _ => ls.length - (intOf i).toNat)
  case atStart => exact ⟨0, k0, Nat.zero_le _, rfl, rfl, hide (by simp [gSz]), h0, by have := ((unhide HTOT) 0).1; simp [gSz] at this; omega, hide (by rw [gMix_zero]; exact unhide H), hide (OnlyIn.refl _ _)⟩
  case round =>
    obtain ⟨k, m, hk, rfl, rfl, HM, hm0, hm1, HP, HW⟩ := hrel
    by_cases hlt : k < ls.length
    · have hml := gMix_len markN szN k0 ls k hk
      have hkm : k < (gMix markN szN k0 ls k).length := by rw [hml]; exact hlt
      have hrow := (unhide HP).rows k hkm
      rw [gMix_at markN szN k0 ls k hlt hkm] at hrow
      obtain ⟨b, off, had, hcell⟩ : ∃ b off, a0 = some ⟨b, off, none⟩ ∧ wr.cell? ⟨b, off + k, none⟩ = some (vs k) := by
        obtain ⟨ad, cap, hv, _, _, h1⟩ := (unhide HP).lies
        simp only [Value.slice.injEq] at hv
        obtain ⟨rfl, _, _⟩ := hv
        rcases h1 with h1 | ⟨b, off, had, _, hc⟩
        · rw [h1] at hkm; exact absurd hkm (Nat.not_lt_zero _)
        · exact ⟨b, off, had, hc k hkm⟩
      subst had
      have hlp := (unhide HL) ls[k] (List.getElem_mem hlt)
      have htot := (unhide HTOT) (k + 1)
      rw [take_more ls k hlt, gSz_snoc, ← Int.add_assoc, ← unhide HM] at htot
      obtain ⟨l, hle⟩ : ∃ l, l = ls[k] := ⟨_, rfl⟩
      rw [← hle] at hrow hlp htot
      have HLE := hide hle
      obtain ⟨ea, ca, hea⟩ := RowsFr_sliced hrow
      rw [List.length_map] at hea
      have hroom := hrow.room
      rw [List.length_map] at hroom
      have HROOM := hide hroom
      have HEA := hide hea
      rw [hea] at hcell
      have hkI : (k : Int) < (ls.length : Int) := by omega
      have hk0 : (0 : Int) ≤ (k : Int) := by omega
      have hto1 : m + (l.length : Int) ≤ 100000000000000 := by have := htot.1; unfold szN at this; omega
      clear hrow hle hea hroom hml hkm htot
      go_wp2_with fail
      refine (markIntS_any N 3 _ l.length m wr (by have e := unhide HROOM; rw [unhide HEA] at e; exact e) (by omega) (by omega) (by omega)).mono ?_
      rintro e w2 ⟨rfl, hp2, ho2⟩
      have HP2 := hide hp2
      have HO2 := hide ho2
      clear hp2 ho2 hcell
      go_wp2_with fail
      go_roundw
      case rel =>
        have hkm : k < (gMix markN szN k0 ls k).length := by rw [gMix_len markN szN k0 ls k hk]; exact hlt
        have hp2 := unhide HP2
        have ho2 := unhide HO2
        rw [← unhide HEA] at hp2 ho2
        rw [← markN_rows] at hp2
        have hs := (unhide HP).set hkm ho2 hp2
        have e1 : (gMix markN szN k0 ls k).set k (markN m l) = gMix markN szN k0 ls (k + 1) := by
          rw [unhide HM, unhide HLE]
          exact gMix_set markN szN k0 ls k hlt
        rw [e1] at hs
        exact ⟨k + 1, _, by omega, by go_num, rfl, hide (by rw [take_more ls k hlt, gSz_snoc, unhide HM, unhide HLE]; unfold szN; omega), by omega, hto1, hide hs, hide ((unhide HW).trans (OnlyIn.of_only ho2 (fun g hg => ⟨k, hlt, hg⟩)))⟩
      case measure => (simp [intOf]; try omega)
    · have hke : k = ls.length := by omega
      have hkI : ¬ (k : Int) < (ls.length : Int) := by omega
      go_wp2_with fail
      go_ret
      refine ⟨ret_int (by rw [unhide HM, hke, List.take_length]), ?_, unhide HW⟩
      have h1 := unhide HP
      rw [hke, gMix_all] at h1
      exact h1

set_option maxRecDepth 100000 in
set_option maxHeartbeats 2000000 in
theorem heldIntSS_any (v : Value) (ls : List (List Int)) (k0 : Int) (w : World) (h : GridAt w v (gMark markN szN k0 ls)) (hlen : ∀ l ∈ ls, l.length ≤ 1000000000) (h0 : 0 ≤ k0) (h1 : k0 + gSz szN ls ≤ 100000000000000) :
    Calls Try.prog 86 #[v, .int .i64 k0] w fun e w' => e = .returned (.int .i64 (k0 + gSz szN ls)) ∧ w' = w := by
  have HL := hide hlen
  have HTOT : Hid (∀ i, k0 + gSz szN (ls.take i) ≤ 100000000000000 ∧ 0 ≤ k0 + gSz szN (ls.take i)) := hide (fun i => by
    have h2 := gSz_take szN szN_pos ls i
    have h3 := gSz_pos szN szN_pos (ls.take i)
    omega)
  have hm := h.len
  obtain ⟨a0, c0, hv⟩ := h.sliced
  rw [gMark_len] at hv hm
  subst hv
  unfold maxLen at hm
  have H := hide h
  clear h hlen
  go_enter Try.func86, Try.ntmps86
  go_wp2_with fail
  go_loop [1, 5] (fun a i => ∃ (k : Nat) (m : Int), k ≤ ls.length ∧ i = .int .i64 k ∧ a = .int .i64 m ∧ Hid (m = k0 + gSz szN (ls.take k)) ∧ 0 ≤ m ∧ m ≤ 100000000000000) (fun _ i => ls.length - (intOf i).toNat)
  case atStart => exact ⟨0, k0, Nat.zero_le _, rfl, rfl, hide (by simp [gSz]), h0, by have := ((unhide HTOT) 0).1; simp [gSz] at this; omega⟩
  case round =>
    obtain ⟨k, m, hk, rfl, rfl, HM, hm0, hm1⟩ := hrel
    by_cases hlt : k < ls.length
    · have hkm : k < (gMark markN szN k0 ls).length := by rw [gMark_len]; exact hlt
      obtain ⟨b, off, vd, had, hc, hp⟩ := (unhide H).row hkm
      rw [gMark_at markN szN ls k0 k hlt hkm, ← unhide HM] at hp
      subst had
      have hlp := (unhide HL) ls[k] (List.getElem_mem hlt)
      have htot := (unhide HTOT) (k + 1)
      rw [take_more ls k hlt, gSz_snoc, ← Int.add_assoc, ← unhide HM] at htot
      obtain ⟨l, hle⟩ : ∃ l, l = ls[k] := ⟨_, rfl⟩
      rw [← hle] at hp hlp htot
      have HLE := hide hle
      obtain ⟨ea, ca, hea⟩ := hp.sliced
      subst hea
      have hp' : RowsAt 1 w (.slice ea (markN m l).length ca) (markRows 1 m l.length) := by rw [← markN_rows]; exact hp
      rw [markN_len] at hp' hc
      have HPS := hide hp'
      have hkI : (k : Int) < (ls.length : Int) := by omega
      have hk0 : (0 : Int) ≤ (k : Int) := by omega
      have hto1 : m + (l.length : Int) ≤ 100000000000000 := by have := htot.1; unfold szN at this; omega
      clear hp hp' hkm hle htot
      go_wp2_with fail
      refine (heldIntS_any _ l.length m w (unhide HPS) (by omega) (by omega) (by omega)).mono ?_
      rintro e w2 ⟨rfl, hw2⟩
      obtain rfl := hw2.symm
      have hzn : ¬ m + (l.length : Int) < 0 := by omega
      clear hc
      go_wp2_with fail
      go_round
      case rel => exact ⟨k + 1, _, by omega, by go_num, rfl, hide (by rw [take_more ls k hlt, gSz_snoc, unhide HM, unhide HLE]; unfold szN; omega), by omega, hto1⟩
      case measure => (simp [intOf]; try omega)
    · have hke : k = ls.length := by omega
      have hkI : ¬ (k : Int) < (ls.length : Int) := by omega
      go_wp2_with fail
      go_ret
      exact ⟨ret_int (by rw [unhide HM, hke, List.take_length]), rfl⟩
end Go.Proofs.Ytocgfngcgekciaa
