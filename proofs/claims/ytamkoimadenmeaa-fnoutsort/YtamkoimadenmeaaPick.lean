/- The reader of codes: spec.l6Open and its pick. -/
import Derived.Test.YtamkoimadenmeaaRows
import Derived.Test.YtamkoimadenmeaaBase
import Derived.WalkLawsBesides
import Derived.Laws.Bits64
namespace Go.Proofs.Ytamkoimadenmeaa
open Go.RowKit
set_option linter.unusedVariables false

theorem bits_xor_i64_nat (a b : Nat) (ha : a < 9223372036854775808) (hb : b < 9223372036854775808) :
    bits .xor .i64 (a : Int) (b : Int) = ((a ^^^ b : Nat) : Int) := by
  have hx : a ^^^ b < 2 ^ 63 := Nat.xor_lt_two_pow (by omega) (by omega)
  have h1 : (BitVec.ofInt 64 (a : Int)).toNat = a := by
    rw [BitVec.ofInt_natCast, BitVec.toNat_ofNat]; exact Nat.mod_eq_of_lt (by omega)
  have h2 : (BitVec.ofInt 64 (b : Int)).toNat = b := by
    rw [BitVec.ofInt_natCast, BitVec.toNat_ofNat]; exact Nat.mod_eq_of_lt (by omega)
  show IntKind.i64.wrap ((BitVec.ofInt 64 (a : Int) ^^^ BitVec.ofInt 64 (b : Int)).toNat : Int) = _
  rw [BitVec.toNat_xor, h1, h2]
  simp only [IntKind.wrap, IntKind.bits, IntKind.signed]
  simp
  omega
theorem xor_nonneg (X : Int) (h0 : 0 ≤ X) (h1 : X ≤ 100000000) : 0 ≤ bits .xor .i64 X (X / 64) := by
  obtain ⟨n, rfl⟩ := Int.eq_ofNat_of_zero_le h0
  have e : ((n : Int) / 64) = ((n / 64 : Nat) : Int) := by omega
  rw [e, bits_xor_i64_nat n (n / 64) (by omega) (by omega)]
  omega

/-- Bytes as they lie in memory. -/
def BytesAt (w : World) (v : Value) (zs : List Int) : Prop :=
  ∃ (ad : Option Addr) (cap : Nat), v = .slice ad zs.length cap ∧ zs.length ≤ cap ∧ cap ≤ maxLen ∧ (∀ z ∈ zs, 0 ≤ z ∧ z ≤ 255) ∧ (ad = none → cap = 0) ∧
    (zs = [] ∨ ∃ b off, ad = some ⟨b, off, none⟩ ∧ ∀ i (h : i < zs.length), w.cell? ⟨b, off + i, none⟩ = some (.int .u8 zs[i]))

theorem BytesAt.on {w w' : World} {v : Value} {zs : List Int} (hb : Below w.heap.size w w') (h : BytesAt w v zs) : BytesAt w' v zs := by
  obtain ⟨ad, cap, hv, hl, hm, hz, hn, h⟩ := h
  refine ⟨ad, cap, hv, hl, hm, hz, hn, ?_⟩
  rcases h with h | ⟨b, off, had, hc⟩
  · exact Or.inl h
  · exact Or.inr ⟨b, off, had, fun i hi => cell_on hb (hc i hi)⟩

/-- A reader at block q, at the place p. -/
structure RdAt (w : World) (q : Nat) (v : Value) (p : Int) : Prop where
  c0 : w.cell? ⟨q, 0, none⟩ = some v
  c1 : w.cell? ⟨q, 1, none⟩ = some (.int .i64 p)
  fz : ∀ i, w.frozen? ⟨q, i, none⟩ = false

/-- Of what lay there only block q may have turned. -/
structure OnlyB (q : Nat) (w w' : World) : Prop where
  size : w.heap.size ≤ w'.heap.size
  other : ∀ b, b ≠ q → b < w.heap.size → w'.heap[b]? = w.heap[b]?
  below : Below q w w'

theorem OnlyB.set (q o : Nat) (w : World) (v : Value) : OnlyB q w (w.setCell ⟨q, o, none⟩ v) :=
  ⟨by simp, fun b hb _ => Below.heap_setCell w ⟨q, o, none⟩ v b hb, by exact (Below.refl q w).setCell (show q ≤ q from Nat.le_refl _) _⟩

theorem OnlyB.then {q : Nat} {a b c : World} (h : OnlyB q a b) (hq : q ≤ b.heap.size) (k : Below b.heap.size b c) : OnlyB q a c :=
  ⟨Nat.le_trans h.size k.size, fun i hi hl => (k.block i (Nat.lt_of_lt_of_le hl h.size)).trans (h.other i hi hl), h.below.trans (k.mono hq)⟩

theorem OnlyB.trans {q : Nat} {a b c : World} (h : OnlyB q a b) (k : OnlyB q b c) : OnlyB q a c :=
  ⟨Nat.le_trans h.size k.size, fun i hi hl => (k.other i hi (Nat.lt_of_lt_of_le hl h.size)).trans (h.other i hi hl), h.below.trans k.below⟩

theorem RdAt.set {w : World} {q : Nat} {v : Value} {p : Int} (h : RdAt w q v p) (p' : Int) : RdAt (w.setCell ⟨q, 1, none⟩ (.int .i64 p')) q v p' := by
  obtain ⟨c0, c1, fz⟩ := h
  exact ⟨by simp [go_sem, c0], by simp [go_sem, c1], fun i => by simp [go_sem, fz]⟩

theorem RdAt.on {w w' : World} {q : Nat} {v : Value} {p : Int} (hb : Below w.heap.size w w') (h : RdAt w q v p) : RdAt w' q v p :=
  ⟨cell_on hb h.c0, cell_on hb h.c1, fun i => by rw [hb.frozen (p := ⟨q, i, none⟩) (show q < w.heap.size from World.block_lt_of_cell? w ⟨q, 0, none⟩ h.c0)]; exact h.fz i⟩

/-- What pick tells. -/
def Picks (q : Nat) (v : Value) (p n : Int) (w : World) (e : Ending) (w' : World) : Prop :=
  (∃ x, e = .returned (.int .i64 x) ∧ 0 ≤ x ∧ (x < n ∨ x = 0)) ∧ RdAt w' q v (p + 1) ∧ OnlyB q w w'

theorem open_nil (w : World) : Calls Try.prog 12 #[.slice none 0 0] w fun e w' => e = .returned (.pointer (some ⟨w.heap.size, 0, none⟩)) ∧ RdAt w' w.heap.size (.slice none 0 0) 0 ∧ Below w.heap.size w w' := by
  go_enter Try.func12, Try.ntmps12
  go_wp2
  go_ret
  exact ⟨rfl, ⟨by simp [go_sem], by simp [go_sem], fun i => by simp [go_sem]⟩, (Below.refl _ _).alloc (Nat.le_refl _) _⟩

theorem pick_none (q : Nat) (ad : Option Addr) (cap : Nat) (p n : Int) (w : World) (h : RdAt w q (.slice ad 0 cap) p) (hp : 0 ≤ p) (hp2 : p ≤ 100000) :
    Calls Try.prog 14 #[.pointer (some ⟨q, 0, none⟩), .int .i64 n] w fun e w' => Picks q (.slice ad 0 cap) p n w e w' := by
  have HS := hide (h.set (p + 1))
  obtain ⟨c0, c1, fz⟩ := h
  by_cases hn : n < 1
  · go_enter Try.func14, Try.ntmps14
    go_wp2
    go_ret
    exact ⟨⟨0, rfl, by omega, by omega⟩, unhide HS, OnlyB.set _ _ _ _⟩
  · go_enter Try.func14, Try.ntmps14
    go_wp2
    go_ret
    exact ⟨⟨0, rfl, by omega, by omega⟩, unhide HS, OnlyB.set _ _ _ _⟩

theorem pick_in (q b off len cap k : Nat) (n z : Int) (w : World) (h : RdAt w q (.slice (some ⟨b, off, none⟩) len cap) k) (hp2 : k < len) (hl : len ≤ 2000) (hlc : len ≤ cap) (hn : 1 ≤ n) (hn2 : n ≤ 3000) (hb : b ≠ q)
    (hc : w.cell? ⟨b, off + k, none⟩ = some (.int .u8 z)) (hz0 : 0 ≤ z) (hz1 : z ≤ 255) :
    Calls Try.prog 14 #[.pointer (some ⟨q, 0, none⟩), .int .i64 n] w fun e w' => Picks q (.slice (some ⟨b, off, none⟩) len cap) k n w e w' := by
  have HS := hide (h.set ((k : Int) + 1))
  obtain ⟨c0, c1, fz⟩ := h
  have hb' : ¬ b = q := hb
  have hb2 : ¬ q = b := fun h => hb' h.symm
  have hn0 : ¬ n < 1 := by omega
  have hne : ((len : Int) == 0) = false := by simp; omega
  have hnz : ¬ n = 0 := by omega
  have hk0 : (0 : Int) ≤ (k : Int) := by omega
  have hkl : (k : Int) < (len : Int) := by omega
  go_enter Try.func14, Try.ntmps14
  go_wp2
  go_ret
  exact ⟨⟨_, rfl, Int.emod_nonneg _ hnz, Or.inl (Int.emod_lt_of_pos _ (by omega))⟩, unhide HS, OnlyB.set _ _ _ _⟩

set_option maxRecDepth 100000 in
set_option maxHeartbeats 1000000 in
theorem pick_past (q b off len cap k i1 i2 : Nat) (n z1 z2 d : Int) (w : World) (h : RdAt w q (.slice (some ⟨b, off, none⟩) len cap) k) (hp2 : len ≤ k) (hk2 : k ≤ 100000) (h0 : 0 < len) (hl : len ≤ 2000) (hlc : len ≤ cap) (hn : 1 ≤ n) (hn2 : n ≤ 3000) (hb : b ≠ q)
    (e1 : (k : Int) % (len : Int) = (i1 : Int)) (e2 : ((k : Int) * 7 + 3) % (len : Int) = (i2 : Int)) (ed : (k : Int) / (len : Int) = d) (hd0 : 0 ≤ d) (hd1 : d ≤ 100000) (l1 : i1 < len) (l2 : i2 < len)
    (hc1 : w.cell? ⟨b, off + i1, none⟩ = some (.int .u8 z1)) (hc2 : w.cell? ⟨b, off + i2, none⟩ = some (.int .u8 z2)) (hz0 : 0 ≤ z1) (hz1 : z1 ≤ 255) (hy0 : 0 ≤ z2) (hy1 : z2 ≤ 255) :
    Calls Try.prog 14 #[.pointer (some ⟨q, 0, none⟩), .int .i64 n] w fun e w' => Picks q (.slice (some ⟨b, off, none⟩) len cap) k n w e w' := by
  have HS := hide (h.set ((k : Int) + 1))
  have HO := hide (OnlyB.set q 1 w (.int .i64 ((k : Int) + 1)))
  have HQ : Hid (q < w.heap.size) := hide (World.block_lt_of_cell? w ⟨q, 0, none⟩ h.c0)
  obtain ⟨c0, c1, fz⟩ := h
  have hb' : ¬ b = q := hb
  have hb2 : ¬ q = b := fun h => hb' h.symm
  have hn0 : ¬ n < 1 := by omega
  have hne : ((len : Int) == 0) = false := by simp; omega
  have hnz : ¬ n = 0 := by omega
  have hk0 : (0 : Int) ≤ (k : Int) := by omega
  have hkl : ¬ (k : Int) < (len : Int) := by omega
  have hlen0 : (0 : Int) < (len : Int) := by omega
  have hl1 : (i1 : Int) < (len : Int) := by omega
  have hl2 : (i2 : Int) < (len : Int) := by omega
  go_enter Try.func14, Try.ntmps14
  go_wp2_with fail
  have k0 : ∀ y : On (w.setCell ⟨q, 1, none⟩ (.int .i64 ((k : Int) + 1))), y.y.cell? ⟨q, 0, none⟩ = some (.slice (some ⟨b, off, none⟩) len cap) := fun y => cell_on y.h (by simp [go_sem, c0])
  have k1 : ∀ y : On (w.setCell ⟨q, 1, none⟩ (.int .i64 ((k : Int) + 1))), y.y.cell? ⟨b, off + i1, none⟩ = some (.int .u8 z1) := fun y => cell_on y.h (by simp [go_sem, hc1])
  have k2 : ∀ y : On (w.setCell ⟨q, 1, none⟩ (.int .i64 ((k : Int) + 1))), y.y.cell? ⟨b, off + i2, none⟩ = some (.int .u8 z2) := fun y => cell_on y.h (by simp [go_sem, hc2])
  clear c0 c1 fz hc1 hc2
  generalize w.setCell ⟨q, 1, none⟩ (.int .i64 ((k : Int) + 1)) = W at *
  have hneW : Nonempty (On W) := ⟨⟨W, Below.refl _ _⟩⟩
  refine wp_region_on (by kernel_rfl) (by kernel_rfl) ?_
  repeat (first | go_big_quiet_step (fail) | quiet_step (fail))
  refine wpQuiet_nil ?_
  intro _ hw'
  obtain ⟨nq, hw''⟩ := hw'
  subst hw''
  have hX0 : 0 ≤ z1 * 131 + z2 * 1117 + (k : Int) * 29 + d * 53 := by omega
  have hX1 : z1 * 131 + z2 * 1117 + (k : Int) * 29 + d * 53 ≤ 100000000 := by omega
  generalize z1 * 131 + z2 * 1117 + (k : Int) * 29 + d * 53 = X at *
  have hxr := xor_nonneg X hX0 hX1
  go_wp2_with fail
  go_ret
  exact ⟨⟨_, rfl, Int.emod_nonneg _ hnz, Or.inl (Int.emod_lt_of_pos _ (by omega))⟩, (unhide HS).on nq.h, (unhide HO).then (by have := (unhide HO).size; have := unhide HQ; omega) nq.h⟩

/-- A reader of a code that lay there ahead of it. -/
structure Reader (w0 w : World) (q : Nat) (v : Value) (zs : List Int) (p : Int) : Prop where
  bytes : BytesAt w0 v zs
  few : zs.length ≤ 2000
  q0 : w0.heap.size ≤ q
  below : Below w0.heap.size w0 w
  rd : RdAt w q v p
  p0 : 0 ≤ p

theorem OnlyB.reader {w0 w w' : World} {q : Nat} {v : Value} {zs : List Int} {p p' : Int} (ho : OnlyB q w w') (h : Reader w0 w q v zs p) (hr : RdAt w' q v p') (hp : 0 ≤ p') : Reader w0 w' q v zs p' :=
  ⟨h.bytes, h.few, h.q0, h.below.trans (ho.below.mono h.q0), hr, hp⟩

theorem pick_any (w0 w : World) (q : Nat) (v : Value) (zs : List Int) (p n : Int) (h : Reader w0 w q v zs p) (hp2 : p ≤ 100000) (hn : 1 ≤ n) (hn2 : n ≤ 3000) :
    Calls Try.prog 14 #[.pointer (some ⟨q, 0, none⟩), .int .i64 n] w fun e w' => ∃ x, e = .returned (.int .i64 x) ∧ 0 ≤ x ∧ x < n ∧ Reader w0 w' q v zs (p + 1) ∧ OnlyB q w w' := by
  have key : Calls Try.prog 14 #[.pointer (some ⟨q, 0, none⟩), .int .i64 n] w fun e w' => Picks q v p n w e w' := by
    obtain ⟨⟨ad, cap, rfl, hlc, hm, hz, _, hcells⟩, hfew, hq0, hb, hrd, hp0⟩ := h
    rcases hcells with rfl | ⟨b, off, rfl, hcells⟩
    · exact pick_none q ad cap p n w hrd hp0 hp2
    · rcases Nat.eq_zero_or_pos zs.length with h0 | h0
      · rw [h0] at hrd ⊢
        exact pick_none q _ cap p n w hrd hp0 hp2
      · have hc : ∀ i (h : i < zs.length), w.cell? ⟨b, off + i, none⟩ = some (.int .u8 zs[i]) := fun i hi => cell_on hb (hcells i hi)
        have hbq : b ≠ q := by
          have := World.block_lt_of_cell? _ _ (hcells 0 h0)
          have : b < w0.heap.size := this
          omega
        obtain ⟨k, rfl⟩ := Int.eq_ofNat_of_zero_le hp0
        by_cases hlt : k < zs.length
        · exact pick_in q b off zs.length cap k n zs[k] w hrd hlt hfew hlc hn hn2 hbq (hc k hlt) (hz _ (List.getElem_mem hlt)).1 (hz _ (List.getElem_mem hlt)).2
        · have l1 : k % zs.length < zs.length := Nat.mod_lt _ h0
          have l2 : (k * 7 + 3) % zs.length < zs.length := Nat.mod_lt _ h0
          have hdk : k / zs.length ≤ k := Nat.div_le_self _ _
          have hk5 : k ≤ 100000 := by omega
          exact pick_past q b off zs.length cap k (k % zs.length) ((k * 7 + 3) % zs.length) n _ _ ((k / zs.length : Nat) : Int) w hrd (by omega) (by omega) h0 hfew hlc hn hn2 hbq (by simp) (by simp) (by simp) (Int.natCast_nonneg _) (Int.ofNat_le.2 (Nat.le_trans hdk hk5)) l1 l2 (hc _ l1) (hc _ l2) (hz _ (List.getElem_mem l1)).1 (hz _ (List.getElem_mem l1)).2 (hz _ (List.getElem_mem l2)).1 (hz _ (List.getElem_mem l2)).2
  refine key.mono ?_
  rintro e w' ⟨⟨x, rfl, hx0, hx1⟩, hrd, ho⟩
  exact ⟨x, rfl, hx0, by omega, ho.reader h hrd (by have := h.p0; omega), ho⟩

theorem open_some (a : Addr) (len cap : Nat) (hlc : len ≤ cap) (hm : cap ≤ maxLen) (w : World) :
    Calls Try.prog 12 #[.slice (some a) len cap] w fun e w' => e = .returned (.pointer (some ⟨w.heap.size, 0, none⟩)) ∧ RdAt w' w.heap.size (.slice (some a) (min len 2000) cap) 0 ∧ Below w.heap.size w w' := by
  unfold maxLen at hm
  by_cases h : 2000 < len
  · have hI : (2000 : Int) < (len : Int) := by omega
    have hI2 : (2000 : Int) ≤ (cap : Int) := by omega
    rw [Nat.min_eq_right (by omega)]
    go_enter Try.func12, Try.ntmps12
    go_wp2
    go_ret
    exact ⟨rfl, ⟨by simp [go_sem], by simp [go_sem], fun i => by simp [go_sem]⟩, (Below.refl _ _).alloc (Nat.le_refl _) _⟩
  · have hI : ¬ (2000 : Int) < (len : Int) := by omega
    rw [Nat.min_eq_left (by omega)]
    go_enter Try.func12, Try.ntmps12
    go_wp2
    go_ret
    exact ⟨rfl, ⟨by simp [go_sem], by simp [go_sem], fun i => by simp [go_sem]⟩, (Below.refl _ _).alloc (Nat.le_refl _) _⟩

theorem l6Open_any (v : Value) (zs : List Int) (w : World) (h : BytesAt w v zs) :
    Calls Try.prog 12 #[v] w fun e w' => ∃ v' zs', e = .returned (.pointer (some ⟨w.heap.size, 0, none⟩)) ∧ Reader w w' w.heap.size v' zs' 0 ∧ Below w.heap.size w w' := by
  obtain ⟨ad, cap, rfl, hlc, hm, hz, hn, hcells⟩ := h
  cases ad with
  | none =>
    obtain rfl : zs = [] := by
      rcases hcells with h | ⟨b, off, h, _⟩
      · exact h
      · cases h
    obtain rfl : cap = 0 := hn rfl
    refine (open_nil w).mono ?_
    rintro e w' ⟨rfl, hr, hb⟩
    exact ⟨.slice none 0 0, [], rfl, ⟨⟨none, 0, rfl, Nat.le_refl _, Nat.zero_le _, by simp, fun _ => rfl, Or.inl rfl⟩, by simp, Nat.le_refl _, hb, hr, Int.le_refl _⟩, hb⟩
  | some a =>
    refine (open_some a zs.length cap hlc hm w).mono ?_
    rintro e w' ⟨rfl, hr, hb⟩
    refine ⟨.slice (some a) (min zs.length 2000) cap, zs.take 2000, rfl, ⟨⟨some a, cap, by rw [List.length_take, Nat.min_comm], by rw [List.length_take]; omega, hm, fun z hzm => hz z (List.mem_of_mem_take hzm), (fun h => by cases h), ?_⟩, by rw [List.length_take]; omega, Nat.le_refl _, hb, hr, Int.le_refl _⟩, hb⟩
    rcases hcells with rfl | ⟨b, off, h, hc⟩
    · exact Or.inl rfl
    · refine Or.inr ⟨b, off, h, fun i hi => ?_⟩
      rw [List.length_take] at hi
      rw [hc i (by omega)]
      simp
end Go.Proofs.Ytamkoimadenmeaa
