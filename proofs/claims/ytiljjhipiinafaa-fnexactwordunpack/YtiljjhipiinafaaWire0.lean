/- Rows of bytes, as they lie in memory; the exact laws' eq, to, mark, held of them. -/
import Derived.Test.YtiljjhipiinafaaPick
import Derived.Test.YtiljjhipiinafaaViews1
namespace Go.Proofs.Ytiljjhipiinafaa
open Go.RowKit
set_option linter.unusedVariables false
set_option linter.unusedSimpArgs false

/-- Bytes, wherever they lie. -/
def ByAt (w : World) (v : Value) (bs : List Int) : Prop :=
  ∃ (ad : Option Addr) (cap : Nat), v = .slice ad bs.length cap ∧ bs.length ≤ cap ∧ bs.length ≤ maxLen ∧
    (bs = [] ∨ ∃ b off, ad = some ⟨b, off, none⟩ ∧ ∀ i (h : i < bs.length), w.cell? ⟨b, off + i, none⟩ = some (.int .u8 bs[i]))

theorem ByAt.on {w w' : World} {v : Value} {bs : List Int} (hb : Below w.heap.size w w') (h : ByAt w v bs) : ByAt w' v bs := by
  obtain ⟨ad, cap, hv, hl, hm, h⟩ := h
  refine ⟨ad, cap, hv, hl, hm, ?_⟩
  rcases h with h | ⟨b, off, had, hc⟩
  · exact Or.inl h
  · exact Or.inr ⟨b, off, had, fun i hi => cell_on hb (hc i hi)⟩

theorem BytesAt.by {w : World} {v : Value} {bs : List Int} (h : BytesAt w v bs) : ByAt w v bs := by
  obtain ⟨ad, cap, hv, hl, hm, _, _, h⟩ := h
  exact ⟨ad, cap, hv, hl, Nat.le_trans hl hm, h⟩

def BysIn (f : Nat → Value) (bs : List Int) (k : Nat) : Prop := ∀ i, i < k → f i = .int .u8 (bs.getD i 0)

/-- Bytes in a block of their own, from block N on. -/
def ByFr (N t : Nat) (w : World) (v : Value) (bs : List Int) : Prop :=
  (v = .slice none 0 0 ∧ bs = []) ∨
  ∃ g cap f, v = .slice (some ⟨g, 0, none⟩) bs.length cap ∧ N ≤ g ∧ bs.length ≤ cap ∧ cap ≤ maxLen ∧ w.rowIs g t cap f ∧ BysIn f bs bs.length

theorem ByFr.at {N t : Nat} {w : World} {v : Value} {bs : List Int} (h : ByFr N t w v bs) : ByAt w v bs := by
  rcases h with ⟨rfl, rfl⟩ | ⟨g, cap, f, rfl, _, hl, hm, hr, hf⟩
  · exact ⟨none, 0, rfl, Nat.le_refl _, Nat.zero_le _, Or.inl rfl⟩
  · refine ⟨_, _, rfl, hl, Nat.le_trans hl hm, Or.inr ⟨g, 0, rfl, fun i hi => ?_⟩⟩
    rw [Nat.zero_add, hr.cell (show i < cap by omega), hf i hi]
    simp [List.getD, hi]

theorem ByFr.block {N t : Nat} {w w' : World} {v : Value} {bs : List Int} (hk : ∀ g, v.ownBlock = some g → g < w.heap.size → w'.heap[g]? = w.heap[g]?) (h : ByFr N t w v bs) : ByFr N t w' v bs := by
  rcases h with h | ⟨g, cap, f, rfl, hN, hl, hm, hr, hf⟩
  · exact Or.inl h
  · exact Or.inr ⟨g, cap, f, rfl, hN, hl, hm, hr.of_block (hk g rfl hr.lt), hf⟩

theorem ByFr.on {N t : Nat} {w w' : World} {v : Value} {bs : List Int} (hb : Below w.heap.size w w') (h : ByFr N t w v bs) : ByFr N t w' v bs :=
  h.block (fun g _ hg => hb.block g hg)

theorem ByFr.blk {N t : Nat} {w : World} {v : Value} {bs : List Int} (h : ByFr N t w v bs) : ∀ g, v.ownBlock = some g → N ≤ g ∧ g < w.heap.size := by
  intro g hg
  rcases h with ⟨rfl, _⟩ | ⟨g', cap, f, rfl, hN, hl, hm, hr, hf⟩
  · simp [Value.ownBlock] at hg
  · obtain rfl : g' = g := by simpa [Value.ownBlock] using hg
    exact ⟨hN, hr.lt⟩

theorem ByFr.other {N t : Nat} {w w' : World} {v v2 : Value} {bs : List Int} (h : ByFr N t w v2 bs) (ho : OnlyOf v w w') (hne : v2.ownBlock = none ∨ v2.ownBlock ≠ v.ownBlock) : ByFr N t w' v2 bs :=
  h.block (fun g hg _ => ho.other g (fun e => by
    rcases hne with h | h
    · rw [h] at hg; cases hg
    · exact h (hg.trans e.symm)))

theorem ByAt.other {w w' : World} {v v2 : Value} {bs : List Int} (h : ByAt w v2 bs) (ho : OnlyOf v w w') (hne : ∀ b off n c, v2 = .slice (some ⟨b, off, none⟩) n c → v.ownBlock ≠ some b) : ByAt w' v2 bs := by
  obtain ⟨ad, cap, hv, hl, hm, h⟩ := h
  refine ⟨ad, cap, hv, hl, hm, ?_⟩
  rcases h with h | ⟨b, off, had, hc⟩
  · exact Or.inl h
  · refine Or.inr ⟨b, off, had, fun i hi => ?_⟩
    have := ho.other b (hne b off _ _ (by rw [hv, had]))
    rw [← hc i hi]
    unfold World.cell?
    simp only [this]

/-- What owns a row of bytes. -/
abbrev OwnsBy (w : World) (B : Nat) (v : Value) (bs : List Int) : Prop := w.ownsRow B 5 1 v bs.length (bs.map (Value.int .u8))

theorem ByFr.of_owns {B : Nat} {w : World} {v : Value} {bs : List Int} (h : OwnsBy w B v bs) : ByFr B 5 w v bs := by
  obtain ⟨hlen, ⟨rfl, h0⟩ | ⟨g, cap, cur, rfl, hN, hb, hl, hm, hs, ht⟩⟩ := h
  · exact Or.inl ⟨rfl, List.length_eq_zero_iff.1 h0⟩
  · refine Or.inr ⟨g, cap, fun i => cur.getD i default, rfl, hN, hl, hm, ⟨cur, hb, by rw [hs, Nat.mul_one], fun i hi => ?_⟩, fun i hi => ?_⟩
    · have : i < cur.size := by rw [hs, Nat.mul_one]; exact hi
      simp [Array.getD, this]
    · have hi2 : i < cur.size := by rw [hs]; omega
      have h1 : (bs.map (Value.int .u8))[i]? = some (.int .u8 (bs.getD i 0)) := by simp [hi]
      rw [← ht, List.getElem?_take, if_pos (by omega), Array.getElem?_toList, Array.getElem?_eq_getElem hi2] at h1
      simp only [Option.some.injEq] at h1
      show cur.getD i default = _
      rw [← h1]
      simp [Array.getD, hi2]

theorem slice_By : Try.prog.underlying 22 = some (.slice 5) := by kernel_rfl
theorem info_By : (Try.prog.info? 5).map (fun i => (i.zero, i.size, i.bytes)) = some (some (.int .u8 0), 1, 1) := by kernel_rfl

set_option maxRecDepth 100000 in
set_option maxHeartbeats 1000000 in
theorem eqByteS_any (v1 v2 : Value) (zs : List Int) (w : World) (h1 : ByAt w v1 zs) (h2 : ByAt w v2 zs) :
    Calls Try.prog 15 #[v1, v2] w fun e w' => e = .returned (.bool true) ∧ Below w.heap.size w w' := by
  obtain ⟨ad1, cap1, rfl, hl1, hm, hc1⟩ := h1
  obtain ⟨ad2, cap2, rfl, hl2, _, hc2⟩ := h2
  unfold maxLen at hm
  have hqm : ∀ z : Int, (z != z) = false := by intro z; simp
  have H1 := hide hc1
  have H2 := hide hc2
  clear hc1 hc2
  go_enter Try.func15, Try.ntmps15
  go_wp2_with fail
  go_loopw [5] (fun i wr => ∃ k : Nat, k ≤ zs.length ∧ i = .int .i64 k ∧ Below w.heap.size w wr) (fun i _ => zs.length - (intOf i).toNat)
  case atStart => exact ⟨0, Nat.zero_le _, rfl, Below.refl _ _⟩
  case round =>
    obtain ⟨k, hk, rfl, hb⟩ := hrel
    by_cases hlt : k < zs.length
    · obtain ⟨b1, off1, had1, p1⟩ : ∃ b off, ad1 = some ⟨b, off, none⟩ ∧ wr.cell? ⟨b, off + k, none⟩ = some (.int .u8 zs[k]) := by
        rcases unhide H1 with h | ⟨b, off, h1, h2⟩
        · rw [h] at hlt; exact absurd hlt (Nat.not_lt_zero _)
        · exact ⟨b, off, h1, cell_on hb (h2 k hlt)⟩
      obtain ⟨b2, off2, had2, p2⟩ : ∃ b off, ad2 = some ⟨b, off, none⟩ ∧ wr.cell? ⟨b, off + k, none⟩ = some (.int .u8 zs[k]) := by
        rcases unhide H2 with h | ⟨b, off, h1, h2⟩
        · rw [h] at hlt; exact absurd hlt (Nat.not_lt_zero _)
        · exact ⟨b, off, h1, cell_on hb (h2 k hlt)⟩
      have hkI : (k : Int) < (zs.length : Int) := by omega
      have hk0 : (0 : Int) ≤ (k : Int) := by omega
      subst had1 had2
      generalize zs[k] = z at *
      have q1 : ∀ y : On wr, y.y.cell? ⟨b1, off1 + k, none⟩ = some (.int .u8 z) := fun y => cell_on y.h p1
      have q2 : ∀ y : On wr, y.y.cell? ⟨b2, off2 + k, none⟩ = some (.int .u8 z) := fun y => cell_on y.h p2
      clear p1 p2
      go_wp2_with fail
      have hne : Nonempty (On wr) := ⟨⟨wr, Below.refl _ _⟩⟩
      refine wp_region_on (by kernel_rfl) (by kernel_rfl) ?_
      repeat (first | go_big_quiet_step (fail) | quiet_step (fail))
      refine wpQuiet_nil ?_
      intro _ hw'
      obtain ⟨nq, hw''⟩ := hw'
      subst hw''
      go_wp2_with fail
      go_roundw
      case rel => exact ⟨k + 1, by omega, by simp, below_then hb nq.h⟩
      case measure => (simp [intOf]; try omega)
    · go_wp2_with fail
      go_ret
      exact ⟨rfl, hb⟩

theorem bysIn_more {f : Nat → Value} {bs : List Int} {k : Nat} {z : Int} (hz : z = bs.getD k 0) (h : BysIn f bs k) : BysIn (fun i => if i = k then .int .u8 z else f i) bs (k + 1) := by
  intro i hi
  show (if i = k then Value.int .u8 z else f i) = _
  by_cases e : i = k
  · rw [if_pos e, e, hz]
  · rw [if_neg e]; exact h i (by omega)

set_option maxRecDepth 100000 in
set_option maxHeartbeats 1000000 in
theorem toByteS_any (v : Value) (zs : List Int) (w : World) (h : ByAt w v zs) (hlen : zs.length ≤ 1048576) :
    Calls Try.prog 21 #[v] w fun e w' => ∃ v', e = .returned v' ∧ ByFr w.heap.size 5 w' v' zs ∧ Below w.heap.size w w' := by
  obtain ⟨ad, cap, rfl, hlc, hm, hcells⟩ := h
  have HMX := hide hm
  clear hm
  have hmk : ∀ w : World, (Instr.makeSlice 22 (.int .i64 (zs.length : Int)) (.int .i64 (zs.length : Int))).run Try.prog w = .ok (.slice (some ⟨w.heap.size, 0, none⟩) zs.length zs.length) (w.alloc (.cells (madeCells #[.int .u8 0] zs.length) 5)) := fun w => by
    have h := run_make_n (P := Try.prog) 22 5 _ 1 1 slice_By info_By zs.length (by omega) (by omega) w
    rw [Nat.mul_one] at h
    exact h
  have HC := hide hcells
  clear hcells
  go_enter Try.func21, Try.ntmps21
  go_wp2_with fail
  have hb1 : Below w.heap.size w (w.alloc (.cells (madeCells #[.int .u8 0] zs.length) 5)) := (Below.refl _ _).alloc (Nat.le_refl _) _
  obtain ⟨f1, hr1⟩ : ∃ f, (w.alloc (.cells (madeCells #[.int .u8 0] zs.length) 5)).rowIs w.heap.size 5 zs.length f :=
    ⟨_, row_made w #[.int .u8 0] zs.length 5⟩
  clear hmk
  generalize w.alloc (.cells (madeCells #[.int .u8 0] zs.length) 5) = w1 at *
  go_loopw [4] (fun i wr => ∃ (k : Nat) (f : Nat → Value), k ≤ zs.length ∧ i = .int .i64 k ∧ Hid (wr.rowIs w.heap.size 5 zs.length f) ∧ Hid (BysIn f zs k) ∧ Below w.heap.size w wr) (fun i _ => zs.length - (intOf i).toNat)
  case atStart => exact ⟨0, _, Nat.zero_le _, rfl, hide hr1, hide (fun j h => absurd h (Nat.not_lt_zero _)), hb1⟩
  case round =>
    obtain ⟨k, f, hk, rfl, HROW, HIN, hb⟩ := hrel
    clear hr1
    by_cases hlt : k < zs.length
    · obtain ⟨b, off, had, p1⟩ : ∃ b off, ad = some ⟨b, off, none⟩ ∧ wr.cell? ⟨b, off + k, none⟩ = some (.int .u8 zs[k]) := by
        rcases unhide HC with h | ⟨b, off, h1, h2⟩
        · rw [h] at hlt; exact absurd hlt (Nat.not_lt_zero _)
        · exact ⟨b, off, h1, cell_on hb (h2 k hlt)⟩
      have hkI : (k : Int) < (zs.length : Int) := by omega
      have hk0 : (0 : Int) ≤ (k : Int) := by omega
      subst had
      have hrow := unhide HROW
      have g0 : wr.cell? ⟨w.heap.size, k, none⟩ = some (f k) := hrow.cell (i := k) hlt
      have z0 : wr.frozen? ⟨w.heap.size, k, none⟩ = false := hrow.frozen k
      clear hrow
      obtain ⟨z, hz⟩ : ∃ z, z = zs[k] := ⟨_, rfl⟩
      rw [← hz] at p1
      have HZ := hide hz
      clear hz
      go_wp2_with fail
      go_roundw
      case rel =>
        exact ⟨k + 1, _, by omega, by go_num, hide ((unhide HROW).set k (.int .u8 z)), hide (bysIn_more (by rw [unhide HZ]; simp [hlt]) (unhide HIN)), hb.setCell (Nat.le_refl _) _⟩
      case measure => (simp [intOf]; try omega)
    · have hke : k = zs.length := by omega
      subst hke
      go_wp2_with fail
      go_ret
      exact ⟨.slice (some ⟨w.heap.size, 0, none⟩) zs.length zs.length, rfl, Or.inr ⟨w.heap.size, zs.length, f, rfl, Nat.le_refl _, Nat.le_refl _, unhide HMX, unhide HROW, unhide HIN⟩, hb⟩

/-- Marks: bytes of numbers one behind the other. -/
def markBy (k : Int) (len : Nat) : List Int := (List.range len).map fun (i : Nat) => (k + (i : Int)) % 256
theorem markBy_length (k : Int) (len : Nat) : (markBy k len).length = len := by simp [markBy]
theorem markBy_at (k : Int) (len i : Nat) (hi : i < len) : (markBy k len).getD i 0 = (k + (i : Int)) % 256 := by simp [markBy, hi]
theorem wrap_u8 (m : Int) : IntKind.u8.wrap m = m % 256 := by simp [IntKind.wrap, IntKind.bits, IntKind.signed]

theorem OnlyOf.cell {g len cap : Nat} {w w' : World} (h : OnlyOf (.slice (some ⟨g, 0, none⟩) len cap) w w') (o : Nat) (x : Value) : OnlyOf (.slice (some ⟨g, 0, none⟩) len cap) w (w'.setCell ⟨g, o, none⟩ x) := by
  refine ⟨by simp [h.size], fun b hb => ?_, fun B hB => (h.below B hB).setCell (hB g rfl) _⟩
  have hne : b ≠ g := fun e => hb (by simp [Value.ownBlock, e])
  rw [Below.heap_setCell w' ⟨g, o, none⟩ x b hne, h.other b hb]

set_option maxRecDepth 100000 in
set_option maxHeartbeats 2000000 in
theorem markByteS_any (N t : Nat) (v : Value) (bs : List Int) (k0 : Int) (w : World) (h : ByFr N t w v bs) (hlen : bs.length ≤ 1000000000) (h0 : 0 ≤ k0) (h1 : k0 ≤ 1000000000000000) :
    Calls Try.prog 18 #[v, .int .i64 k0] w fun e w' => e = .returned (.int .i64 (k0 + (bs.length : Int))) ∧ ByFr N t w' v (markBy k0 bs.length) ∧ OnlyOf v w w' := by
  rcases h with ⟨rfl, rfl⟩ | ⟨g, cap, f0, rfl, hN, hl, hm, hr, _⟩
  · go_enter Try.func18, Try.ntmps18
    go_wp2_with fail
    go_loop [1, 5] (fun a i => a = .int .i64 k0 ∧ i = .int .i64 0) (fun _ _ => 0)
    case atStart => exact ⟨rfl, rfl⟩
    case round =>
      obtain ⟨rfl, rfl⟩ := hrel
      go_wp2
      go_ret
      exact ⟨ret_int (by simp), Or.inl ⟨rfl, rfl⟩, OnlyOf.refl _ _⟩
  · generalize hle : bs.length = len at *
    clear hle
    have HMX := hide hm
    unfold maxLen at hm
    have HR := hide hr
    have HN := hide hN
    clear hr hN
    have hcap : len ≤ cap := hl
    have hw8 := wrap_u8
    have HW8 := hide hw8
    clear hw8
    go_enter Try.func18, Try.ntmps18
    go_wp2_with fail
    go_loopw [1, 5] (fun a i wr => ∃ (k : Nat) (m : Int) (f : Nat → Value), k ≤ len ∧ i = .int .i64 k ∧ a = .int .i64 m ∧ Hid (m = k0 + (k : Int)) ∧ 0 ≤ m ∧ m ≤ 1000000000000000 + 1000000000 ∧ Hid (wr.rowIs g t cap f) ∧ Hid (BysIn f (markBy k0 len) k) ∧ Hid (OnlyOf (.slice (some ⟨g, 0, none⟩) len cap) w wr)) (fun _ i _ => len - (intOf i).toNat)
    case atStart => exact ⟨0, k0, f0, Nat.zero_le _, rfl, rfl, hide (by simp), h0, by omega, hide (unhide HR), hide (fun j h => absurd h (Nat.not_lt_zero _)), hide (OnlyOf.refl _ _)⟩
    case round =>
      obtain ⟨k, m, f, hk, rfl, rfl, HM, hm0, hm1, HROW, HIN, HO⟩ := hrel
      by_cases hlt : k < len
      · have hrow := unhide HROW
        have hkI : (k : Int) < (len : Int) := by omega
        have g0 : wr.cell? ⟨g, k, none⟩ = some (f k) := hrow.cell (i := k) (by omega)
        have z0 : wr.frozen? ⟨g, k, none⟩ = false := hrow.frozen k
        clear hrow
        have hm2 : m + 1 ≤ 1000000000000000 + 1000000000 := by have := unhide HM; omega
        go_wp2_with fail
        go_roundw
        case rel =>
          exact ⟨k + 1, m + 1, _, by omega, by go_num, by go_num, hide (by have := unhide HM; omega), by omega, by omega, hide ((unhide HROW).set k (.int .u8 (IntKind.u8.wrap m))), hide (bysIn_more (by rw [markBy_at k0 len k hlt, unhide HW8, unhide HM]) (unhide HIN)), hide ((unhide HO).cell k _)⟩
        case measure => simp [intOf]; omega
      · have hke : k = len := by omega
        subst hke
        go_wp2_with fail
        go_ret
        exact ⟨ret_int (by have := unhide HM; omega), Or.inr ⟨g, cap, f, by rw [markBy_length], unhide HN, by rw [markBy_length]; exact hl, unhide HMX, unhide HROW, by rw [markBy_length]; exact unhide HIN⟩, unhide HO⟩

set_option maxRecDepth 100000 in
set_option maxHeartbeats 2000000 in
theorem heldByteS_any (v : Value) (len : Nat) (k0 : Int) (w : World) (h : ByAt w v (markBy k0 len)) (hlen : len ≤ 1000000000) (h0 : 0 ≤ k0) (h1 : k0 ≤ 1000000000000000) :
    Calls Try.prog 19 #[v, .int .i64 k0] w fun e w' => e = .returned (.int .i64 (k0 + (len : Int))) ∧ w' = w := by
  obtain ⟨ad, cap, rfl, hl, hm, hc⟩ := h
  rw [markBy_length] at hl hm ⊢
  have HC := hide hc
  clear hc
  unfold maxLen at hm
  have hne : ∀ x : Int, (x != x) = false := by intro x; simp
  have HW8 := hide wrap_u8
  go_enter Try.func19, Try.ntmps19
  go_wp2_with fail
  go_loop [1, 5] (fun a i => ∃ (k : Nat) (m : Int), k ≤ len ∧ i = .int .i64 k ∧ a = .int .i64 m ∧ Hid (m = k0 + (k : Int)) ∧ 0 ≤ m ∧ m ≤ 1000000000000000 + 1000000000) (fun _ i => len - (intOf i).toNat)
  case atStart => exact ⟨0, k0, Nat.zero_le _, rfl, rfl, hide (by simp), h0, by omega⟩
  case round =>
    obtain ⟨k, m, hk, rfl, rfl, HM, hm0, hm1⟩ := hrel
    by_cases hlt : k < len
    · obtain ⟨b, off, had, c0⟩ : ∃ b off, ad = some ⟨b, off, none⟩ ∧ w.cell? ⟨b, off + k, none⟩ = some (.int .u8 (IntKind.u8.wrap m)) := by
        rcases unhide HC with h | ⟨b, off, h1, h2⟩
        · have := congrArg List.length h
          rw [markBy_length] at this
          simp at this; omega
        · refine ⟨b, off, h1, ?_⟩
          have e := h2 k (by rw [markBy_length]; exact hlt)
          have e2 := markBy_at k0 len k hlt
          rw [List.getD_eq_getElem?_getD, List.getElem?_eq_getElem (by rw [markBy_length]; exact hlt), Option.getD_some] at e2
          rw [e, e2, unhide HW8, unhide HM]
      subst had
      have hkI : (k : Int) < (len : Int) := by omega
      have hm2 : m + 1 ≤ 1000000000000000 + 1000000000 := by have := unhide HM; omega
      go_wp2
      go_round
      case rel => exact ⟨k + 1, m + 1, by omega, by go_num, by go_num, hide (by have := unhide HM; omega), by omega, by omega⟩
      case measure => simp [intOf]; omega
    · have hke : k = len := by omega
      subst hke
      go_wp2
      go_ret
      exact ⟨ret_int (by have := unhide HM; omega), rfl⟩
end Go.Proofs.Ytiljjhipiinafaa
