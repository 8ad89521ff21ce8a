/- The reader of impl: number. -/
import Derived.Test.YtiljjhipiinafaaWire11
namespace Go.Proofs.Ytiljjhipiinafaa
open Go.RowKit
set_option linter.unusedVariables false
set_option linter.unusedSimpArgs false

theorem pieces_any (w0 w : World) (q : Nat) (vb : Value) (bs : List Int) (p : Nat) (h : RdI w0 w q vb bs p none) :
    Calls Try.prog 100 #[.pointer (some ⟨q, 0, none⟩)] w fun e w' => PiecesOf w0 w q vb bs p e w' := by
  obtain ⟨ad, cap, rfl, hlc, hm, hcells⟩ := h.bytes
  by_cases hp : p < bs.length
  · rcases hcells with h1 | ⟨b, off, rfl, _⟩
    · rw [h1] at hp; exact absurd hp (Nat.not_lt_zero _)
    · exact pieces_in w0 w q b off _ cap bs p h hp
  · have hpe : p = bs.length := by have := h.pl; omega
    cases ad with
    | none => exact pieces_over3 w0 w q _ cap bs p h hpe
    | some a =>
      rcases (show bs.length < cap ∨ cap = bs.length by omega) with hc | hc
      · exact pieces_over1 w0 w q a _ cap bs p h hpe hc
      · exact pieces_over2 w0 w q a _ cap bs p h hpe hc

theorem andNot_all : (List.range 256).all (fun b => decide (bits .andNot .u8 (b : Int) 128 = (b : Int) % 128)) = true := by kernel_rfl
theorem andNot_u8 (x : Int) (h0 : 0 ≤ x) (h : x ≤ 255) : bits .andNot .u8 x 128 = x % 128 := by
  obtain ⟨n, rfl⟩ := Int.eq_ofNat_of_zero_le h0
  have h1 := List.all_eq_true.1 andNot_all n (List.mem_range.2 (by omega))
  simpa using h1

theorem bits_or_u32_nat (a b : Nat) (ha : a < 4294967296) (hb : b < 4294967296) : bits .or .u32 (a : Int) (b : Int) = ((a ||| b : Nat) : Int) := by
  have hx : a ||| b < 2 ^ 32 := Nat.or_lt_two_pow (by omega) (by omega)
  have h1 : (BitVec.ofInt 32 (a : Int)).toNat = a := by
    rw [BitVec.ofInt_natCast, BitVec.toNat_ofNat]; exact Nat.mod_eq_of_lt (by omega)
  have h2 : (BitVec.ofInt 32 (b : Int)).toNat = b := by
    rw [BitVec.ofInt_natCast, BitVec.toNat_ofNat]; exact Nat.mod_eq_of_lt (by omega)
  show IntKind.u32.wrap ((BitVec.ofInt 32 (a : Int) ||| BitVec.ofInt 32 (b : Int)).toNat : Int) = _
  rw [BitVec.toNat_or, h1, h2]
  simp only [IntKind.wrap, IntKind.bits, IntKind.signed]
  simp
  omega
theorem or_u32 (A y : Int) (i : Nat) (m : Nat) (hm : 2 ^ i = m) (h0 : 0 ≤ A) (h1 : A < m) (hy0 : 0 ≤ y) (hy : y < 128) (hi : m ≤ 2097152) : bits .or .u32 A (y * m) = A + y * m := by
  obtain ⟨a, rfl⟩ := Int.eq_ofNat_of_zero_le h0
  obtain ⟨b, rfl⟩ := Int.eq_ofNat_of_zero_le hy0
  have e : ((b : Int) * (m : Int)) = ((b * m : Nat) : Int) := by simp
  have hb : b * m ≤ 127 * 2097152 := Nat.mul_le_mul (by omega) hi
  rw [e, bits_or_u32_nat a (b * m) (by omega) (by omega)]
  have h3 := Nat.shiftLeft_add_eq_or_of_lt (show a < 2 ^ i by rw [hm]; omega) b
  rw [Nat.shiftLeft_eq, hm] at h3
  rw [Nat.or_comm, ← h3]
  omega
/-- What so many pieces say. -/
def Says4 (bs : List Int) (p j : Nat) (A : Int) : Prop := (j = 0 → A = 0) ∧ (j = 1 → A = bs.getD p 0 % 128) ∧ (j = 2 → A = bs.getD p 0 % 128 + bs.getD (p + 1) 0 % 128 * 128) ∧ (j = 3 → 16384 * (bs.getD (p + 2) 0 % 128) ≤ A) ∧ (j = 4 → 2097152 * (bs.getD (p + 3) 0 % 128) ≤ A)
theorem range_at {bs : List Int} (hr : ∀ z ∈ bs, 0 ≤ z ∧ z ≤ 255) (i : Nat) (hi : i < bs.length) : 0 ≤ bs.getD i 0 ∧ bs.getD i 0 ≤ 255 := by
  have := hr bs[i] (List.getElem_mem hi)
  simpa [hi] using this
theorem drop_one (bs : List Int) (p : Nat) (h : p < bs.length) : bs.drop p = bs.getD p 0 :: bs.drop (p + 1) := by
  rw [List.drop_eq_getElem_cons h]; simp [h]
theorem num_sound {bs : List Int} {p L : Nat} {A : Int} (hr : ∀ z ∈ bs, 0 ≤ z ∧ z ≤ 255) (hL1 : 1 ≤ L) (hL4 : L ≤ 4) (hpL : p + L ≤ bs.length) (hmore : ∀ i, i < L - 1 → 128 ≤ bs.getD (p + i) 0) (hlast : bs.getD (p + (L - 1)) 0 < 128) (hned : L = 1 ∨ bs.getD (p + (L - 1)) 0 ≠ 0)
    (hv : Says4 bs p L A) (h9 : A - 1 ≤ 9999) : bs.drop p = numI (A - 1) ++ bs.drop (p + L) := by
  obtain ⟨v0, v1, v2, v3, v4⟩ := hv
  have e : numI (A - 1) = numB A.toNat := by unfold numI; rw [Int.sub_add_cancel]
  rw [e]
  rcases (show L = 1 ∨ L = 2 ∨ L = 3 ∨ L = 4 by omega) with rfl | rfl | rfl | rfl
  · have r0 := range_at hr p (by omega)
    simp only [Nat.sub_self, Nat.add_zero] at hlast
    have hA := v1 rfl
    have hAe : A = bs.getD p 0 := by omega
    rw [drop_one bs p (by omega)]
    unfold numB
    rw [if_pos (by omega)]
    have : ((A.toNat : Nat) : Int) = A := by omega
    rw [this, hAe]; rfl
  · have r0 := range_at hr p (by omega)
    have r1 := range_at hr (p + 1) (by omega)
    have m0 := hmore 0 (by omega)
    simp only [Nat.add_zero] at m0
    simp only [show 2 - 1 = 1 from rfl] at hlast hned
    have hn : bs.getD (p + 1) 0 ≠ 0 := by rcases hned with h | h; omega; exact h
    have hA := v2 rfl
    rw [drop_one bs p (by omega), drop_one bs (p + 1) (by omega)]
    unfold numB
    rw [if_neg (by omega)]
    have e1 : ((A.toNat : Nat) : Int) = A := by omega
    rw [e1]
    have e2 : (128 : Int) + A % 128 = bs.getD p 0 := by omega
    have e3 : A / 128 = bs.getD (p + 1) 0 := by omega
    rw [e2, e3]; rfl
  · have r2 := range_at hr (p + 2) (by omega)
    simp only [show 3 - 1 = 2 from rfl] at hlast hned
    have hn : bs.getD (p + 2) 0 ≠ 0 := by rcases hned with h | h; omega; exact h
    have := v3 rfl
    omega
  · have r3 := range_at hr (p + 3) (by omega)
    simp only [show 4 - 1 = 3 from rfl] at hlast hned
    have hn : bs.getD (p + 3) 0 ≠ 0 := by rcases hned with h | h; omega; exact h
    have := v4 rfl
    omega
theorem num_complete {bs : List Int} {p L : Nat} {A z : Int} (hL1 : 1 ≤ L) (hmore : ∀ i, i < L - 1 → 128 ≤ bs.getD (p + i) 0) (hlast : bs.getD (p + (L - 1)) 0 < 128)
    (hv : Says4 bs p L A) (hr : ∀ z ∈ bs, 0 ≤ z ∧ z ≤ 255) (hz : NumAt bs p z) : A - 1 = z ∧ L = (numI z).length := by
  obtain ⟨v0, v1, v2, v3, v4⟩ := hv
  rcases hz.bytes with ⟨h1, h2, h3, h4⟩ | ⟨h1, h2, h3, h4, h5, h6⟩
  · rcases (show L = 1 ∨ 2 ≤ L by omega) with rfl | hL
    · have r0 := range_at hr p h1
      have := v1 rfl
      exact ⟨by omega, h4.symm⟩
    · have m0 := hmore 0 (by omega)
      simp only [Nat.add_zero] at m0
      omega
  · rcases (show L = 1 ∨ L = 2 ∨ 3 ≤ L by omega) with rfl | rfl | hL
    · simp only [Nat.sub_self, Nat.add_zero] at hlast
      omega
    · have := v2 rfl
      exact ⟨by omega, h6.symm⟩
    · have m1 := hmore 1 (by omega)
      omega
/-- What reading a number comes to where there was no fault. -/
def NumOf (w0 w : World) (q : Nat) (vb : Value) (bs : List Int) (p : Nat) (e : Ending) (w' : World) : Prop :=
  ∃ n : Int, e = .returned (.int .i64 n) ∧ OnlyB q w w' ∧
    ((∃ L : Nat, 1 ≤ L ∧ p + L ≤ bs.length ∧ -1 ≤ n ∧ (n ≤ 9999 → bs.drop p = numI n ++ bs.drop (p + L)) ∧ RdI w0 w' q vb bs (p + L) none ∧ (∀ z, NumAt bs p z → n = z ∧ L = (numI z).length)) ∨
     (n = -1 ∧ ∃ a k : Int, RdI w0 w' q vb bs p (some (a, k)) ∧ (k = 1 ↔ p = bs.length) ∧ ∀ z, ¬ NumAt bs p z))

set_option maxRecDepth 100000 in
set_option maxHeartbeats 8000000 in
theorem numberI_some (w0 w : World) (q : Nat) (vb : Value) (bs : List Int) (p : Nat) (a k : Int) (h : RdI w0 w q vb bs p (some (a, k))) :
    Calls Try.prog 53 #[.pointer (some ⟨q, 0, none⟩)] w fun e w' => e = .returned (.int .i64 0) ∧ w' = w := by
  have k2 : w.cell? ⟨q, 2, none⟩ = some (faultV a k) := h.c2
  go_enter Try.func53, Try.ntmps53
  go_wp2
  go_ret
  exact ⟨rfl, rfl⟩

set_option maxRecDepth 100000 in
set_option maxHeartbeats 8000000 in
theorem numberI_none (w0 w : World) (q : Nat) (vb : Value) (bs : List Int) (p : Nat) (h : RdI w0 w q vb bs p none) :
    Calls Try.prog 53 #[.pointer (some ⟨q, 0, none⟩)] w fun e w' => NumOf w0 w q vb bs p e w' := by
  have k2 : w.cell? ⟨q, 2, none⟩ = some .nilIface := h.c2
  have hfew := h.few
  have HRG := hide h.rng
  have H := hide h
  clear h
  go_enter Try.func53, Try.ntmps53
  go_wp2_with fail
  refine (pieces_any w0 _ q vb bs p (unhide H)).mono ?_
  rintro e w1 ⟨vr, rfl, hO1, hgood | ⟨rfl, a, k, hR1, hk1, hno⟩⟩
  · obtain ⟨L, hL1, hL4, hpL, hmore, hlast, hned, hR1, hA1⟩ := hgood
    have hlt : ((bs.drop p).take L).length = L := by rw [List.length_take, List.length_drop]; omega
    obtain ⟨ad, cap, rfl, hlc, hm, hcells⟩ := hA1
    rw [hlt] at hlc hm
    have HC : Hid (∃ b off, ad = some ⟨b, off, none⟩ ∧ ∀ i (h : i < L), w1.cell? ⟨b, off + i, none⟩ = some (.int .u8 (bs.getD (p + i) 0))) := hide (by
      rcases hcells with h1 | ⟨b, off, h1, h2⟩
      · rw [h1] at hlt; simp at hlt; omega
      · refine ⟨b, off, h1, fun i hi => ?_⟩
        have := h2 i (by rw [hlt]; exact hi)
        rw [this]
        simp [List.getD, show p + i < bs.length by omega])
    rw [hlt]
    have HR1 := hide hR1
    have HO1 := hide hO1
    have HM := hide hmore
    have HLA := hide hlast
    have HNE := hide hned
    clear hlt hcells hm hR1 hO1 hmore hlast hned H
    go_wp2_with fail
    go_loop [3, 14] (fun sm si => ∃ (j : Nat) (A : Int), j ≤ L ∧ si = .int .i64 j ∧ sm = .int .u32 A ∧ Hid (0 ≤ A ∧ A < (if j = 0 then 1 else if j = 1 then 128 else if j = 2 then 16384 else if j = 3 then 2097152 else 268435456)) ∧ Hid (Says4 bs p j A)) (fun _ i => L - (intOf i).toNat)
    case atStart => exact ⟨0, 0, by omega, rfl, rfl, hide (by decide), hide ⟨fun _ => rfl, fun h => by omega, fun h => by omega, fun h => by omega, fun h => by omega⟩⟩
    case round =>
      obtain ⟨j, A, hj, rfl, rfl, HA, HV⟩ := hrel
      by_cases hjl : j < L
      · obtain ⟨b, off, rfl, hc⟩ := unhide HC
        have p1 := hc j hjl
        clear hc
        have hjI : (j : Int) < (L : Int) := by omega
        have hx := show 0 ≤ bs.getD (p + j) 0 ∧ bs.getD (p + j) 0 ≤ 255 by
          have hh : p + j < bs.length := by omega
          have := (unhide HRG) bs[p + j] (List.getElem_mem hh)
          simpa [hh] using this
        obtain ⟨hx0, hx1⟩ := hx
        have HX : ∃ x, x = bs.getD (p + j) 0 := ⟨_, rfl⟩
        obtain ⟨x, hxx⟩ := HX
        rw [← hxx] at p1 hx0 hx1
        have HXX := hide hxx
        clear hxx
        have han := andNot_u8 x hx0 hx1
        rcases (show j = 0 ∨ j = 1 ∨ j = 2 ∨ j = 3 by omega) with rfl | rfl | rfl | rfl
        · have hA := unhide HA
          simp only [if_true, Nat.add_zero] at hA p1
          obtain ⟨hA0, hA1⟩ := hA
          have hA1 : A < 1 := by first | exact hA1 | simpa using hA1
          have hor : bits .or .u32 A (x % 128) = A + x % 128 * 1 := by
            have := or_u32 A (x % 128) 0 1 (by decide) hA0 (by omega) (by omega) (by omega) (by omega)
            simpa using this
          go_wp2_with fail
          go_round
          case rel =>
            refine ⟨1, A + x % 128 * 1, by omega, by first | rfl | simp, by first | rfl | (rw [hor]; done) | (rw [Int.mul_one]; done), hide ⟨by omega, by simp; omega⟩, hide ⟨by intro h; omega, ?_, ?_, ?_, ?_⟩⟩
            all_goals (intro h)
            all_goals (first | omega | skip)
            all_goals (have hv := unhide HV; unfold Says4 at hv; have hxx := unhide HXX; (try simp only [Nat.add_zero] at hxx); omega)
          case measure => simp [intOf]; omega
        · have hA := unhide HA
          simp only [if_true, Nat.add_zero] at hA p1
          obtain ⟨hA0, hA1⟩ := hA
          have hA1 : A < 128 := by first | exact hA1 | simpa using hA1
          have hor : bits .or .u32 A (x % 128 * 128) = A + x % 128 * 128 := by
            have := or_u32 A (x % 128) 7 128 (by decide) hA0 (by omega) (by omega) (by omega) (by omega)
            simpa using this
          go_wp2_with fail
          go_round
          case rel =>
            refine ⟨2, A + x % 128 * 128, by omega, by first | rfl | simp, by first | rfl | (rw [hor]; done) | (rw [Int.mul_one]; done), hide ⟨by omega, by simp; omega⟩, hide ⟨by intro h; omega, ?_, ?_, ?_, ?_⟩⟩
            all_goals (intro h)
            all_goals (first | omega | skip)
            all_goals (have hv := unhide HV; unfold Says4 at hv; have hxx := unhide HXX; (try simp only [Nat.add_zero] at hxx); omega)
          case measure => simp [intOf]; omega
        · have hA := unhide HA
          simp only [if_true, Nat.add_zero] at hA p1
          obtain ⟨hA0, hA1⟩ := hA
          have hA1 : A < 16384 := by first | exact hA1 | simpa using hA1
          have hor : bits .or .u32 A (x % 128 * 16384) = A + x % 128 * 16384 := by
            have := or_u32 A (x % 128) 14 16384 (by decide) hA0 (by omega) (by omega) (by omega) (by omega)
            simpa using this
          go_wp2_with fail
          go_round
          case rel =>
            refine ⟨3, A + x % 128 * 16384, by omega, by first | rfl | simp, by first | rfl | (rw [hor]; done) | (rw [Int.mul_one]; done), hide ⟨by omega, by simp; omega⟩, hide ⟨by intro h; omega, ?_, ?_, ?_, ?_⟩⟩
            all_goals (intro h)
            all_goals (first | omega | skip)
            all_goals (have hv := unhide HV; unfold Says4 at hv; have hxx := unhide HXX; (try simp only [Nat.add_zero] at hxx); omega)
          case measure => simp [intOf]; omega
        · have hA := unhide HA
          simp only [if_true, Nat.add_zero] at hA p1
          obtain ⟨hA0, hA1⟩ := hA
          have hA1 : A < 2097152 := by first | exact hA1 | simpa using hA1
          have hor : bits .or .u32 A (x % 128 * 2097152) = A + x % 128 * 2097152 := by
            have := or_u32 A (x % 128) 21 2097152 (by decide) hA0 (by omega) (by omega) (by omega) (by omega)
            simpa using this
          go_wp2_with fail
          go_round
          case rel =>
            refine ⟨4, A + x % 128 * 2097152, by omega, by first | rfl | simp, by first | rfl | (rw [hor]; done) | (rw [Int.mul_one]; done), hide ⟨by omega, by simp; omega⟩, hide ⟨by intro h; omega, ?_, ?_, ?_, ?_⟩⟩
            all_goals (intro h)
            all_goals (first | omega | skip)
            all_goals (have hv := unhide HV; unfold Says4 at hv; have hxx := unhide HXX; (try simp only [Nat.add_zero] at hxx); omega)
          case measure => simp [intOf]; omega
      · obtain rfl : j = L := by omega
        have hA := unhide HA
        have hA8 : 0 ≤ A ∧ A ≤ 268435456 := by
          refine ⟨hA.1, ?_⟩
          have := hA.2
          repeat' split at this
          all_goals omega
        obtain ⟨hA0, hA1⟩ := hA8
        clear hA
        go_wp2_with fail
        go_ret
        refine ⟨_, rfl, unhide HO1, Or.inl ⟨j, hL1, hpL, by omega, fun h9 => ?_, unhide HR1, fun z hz => ?_⟩⟩
        · exact num_sound (unhide HRG) hL1 hL4 hpL (unhide HM) (unhide HLA) (unhide HNE) (unhide HV) (by omega)
        · exact num_complete hL1 (unhide HM) (unhide HLA) (unhide HV) (unhide HRG) hz
  · have HR1 := hide hR1
    have HO1 := hide hO1
    clear hR1 hO1 H
    go_wp2_with fail
    go_loop [3, 14] (fun sm si => sm = .int .u32 0 ∧ si = .int .i64 0) (fun _ _ => 0)
    case atStart => exact ⟨rfl, rfl⟩
    case round =>
      obtain ⟨rfl, rfl⟩ := hrel
      go_wp2_with fail
      go_ret
      exact ⟨_, rfl, unhide HO1, Or.inr ⟨rfl, a, k, unhide HR1, hk1, hno⟩⟩
end Go.Proofs.Ytiljjhipiinafaa
