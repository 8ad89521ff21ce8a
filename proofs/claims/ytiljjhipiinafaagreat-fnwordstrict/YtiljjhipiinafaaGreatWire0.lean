/- Rows of bytes, as they lie in memory; the exact laws' eq, to, mark, held of them. -/
import Derived.Test.YtiljjhipiinafaaGreatPick
import Derived.Test.YtiljjhipiinafaaGreatViews1
namespace Go.Proofs.YtiljjhipiinafaaGreat
open Go.RowKit
set_option linter.unusedVariables false
set_option linter.unusedSimpArgs false

/-- Bytes, wherever they lie. -/
def ByAt (w : World) (v : Value) (bs : List Int) : Prop :=
  ∃ (ad : Option Addr) (cap : Nat), v = .slice ad bs.length cap ∧ bs.length ≤ cap ∧ bs.length ≤ maxLen ∧
    (bs = [] ∨ ∃ b off, ad = some ⟨b, off, none⟩ ∧ ∀ i (h : i < bs.length), w.cell? ⟨b, off + i, none⟩ = some (.int .u8 bs[i]))

theorem ByAt.on {w w' : World} {v : Value} {bs : List Int} (hb : Below w.heap.size w w') (h : ByAt w v bs) : ByAt w' v bs := by
  obtain ⟨ad, cap, hv, hl, hm, h⟩ := h
  refine ⟨ad, cap, hv, hl, hm, ?_⟩
  rcases h with h | ⟨b, off, had, hc⟩
  · exact Or.inl h
  · exact Or.inr ⟨b, off, had, fun i hi => cell_on hb (hc i hi)⟩

theorem BytesAt.by {w : World} {v : Value} {bs : List Int} (h : BytesAt w v bs) : ByAt w v bs := by
  obtain ⟨ad, cap, hv, hl, hm, _, _, h⟩ := h
  exact ⟨ad, cap, hv, hl, Nat.le_trans hl hm, h⟩

def BysIn (f : Nat → Value) (bs : List Int) (k : Nat) : Prop := ∀ i, i < k → f i = .int .u8 (bs.getD i 0)

/-- Bytes in a block of their own, from block N on. -/
def ByFr (N t : Nat) (w : World) (v : Value) (bs : List Int) : Prop :=
  (v = .slice none 0 0 ∧ bs = []) ∨
  ∃ g cap f, v = .slice (some ⟨g, 0, none⟩) bs.length cap ∧ N ≤ g ∧ bs.length ≤ cap ∧ cap ≤ maxLen ∧ w.rowIs g t cap f ∧ BysIn f bs bs.length

theorem ByFr.at {N t : Nat} {w : World} {v : Value} {bs : List Int} (h : ByFr N t w v bs) : ByAt w v bs := by
  rcases h with ⟨rfl, rfl⟩ | ⟨g, cap, f, rfl, _, hl, hm, hr, hf⟩
  · exact ⟨none, 0, rfl, Nat.le_refl _, Nat.zero_le _, Or.inl rfl⟩
  · refine ⟨_, _, rfl, hl, Nat.le_trans hl hm, Or.inr ⟨g, 0, rfl, fun i hi => ?_⟩⟩
    rw [Nat.zero_add, hr.cell (show i < cap by omega), hf i hi]
    simp [List.getD, hi]

theorem ByFr.block {N t : Nat} {w w' : World} {v : Value} {bs : List Int} (hk : ∀ g, v.ownBlock = some g → g < w.heap.size → w'.heap[g]? = w.heap[g]?) (h : ByFr N t w v bs) : ByFr N t w' v bs := by
  rcases h with h | ⟨g, cap, f, rfl, hN, hl, hm, hr, hf⟩
  · exact Or.inl h
  · exact Or.inr ⟨g, cap, f, rfl, hN, hl, hm, hr.of_block (hk g rfl hr.lt), hf⟩

theorem ByFr.on {N t : Nat} {w w' : World} {v : Value} {bs : List Int} (hb : Below w.heap.size w w') (h : ByFr N t w v bs) : ByFr N t w' v bs :=
  h.block (fun g _ hg => hb.block g hg)

theorem ByFr.blk {N t : Nat} {w : World} {v : Value} {bs : List Int} (h : ByFr N t w v bs) : ∀ g, v.ownBlock = some g → N ≤ g ∧ g < w.heap.size := by
  intro g hg
  rcases h with ⟨rfl, _⟩ | ⟨g', cap, f, rfl, hN, hl, hm, hr, hf⟩
  · simp [Value.ownBlock] at hg
  · obtain rfl : g' = g := by simpa [Value.ownBlock] using hg
    exact ⟨hN, hr.lt⟩

theorem ByFr.other {N t : Nat} {w w' : World} {v v2 : Value} {bs : List Int} (h : ByFr N t w v2 bs) (ho : OnlyOf v w w') (hne : v2.ownBlock = none ∨ v2.ownBlock ≠ v.ownBlock) : ByFr N t w' v2 bs :=
  h.block (fun g hg _ => ho.other g (fun e => by
    rcases hne with h | h
    · rw [h] at hg; cases hg
    · exact h (hg.trans e.symm)))

theorem ByAt.other {w w' : World} {v v2 : Value} {bs : List Int} (h : ByAt w v2 bs) (ho : OnlyOf v w w') (hne : ∀ b off n c, v2 = .slice (some ⟨b, off, none⟩) n c → v.ownBlock ≠ some b) : ByAt w' v2 bs := by
  obtain ⟨ad, cap, hv, hl, hm, h⟩ := h
  refine ⟨ad, cap, hv, hl, hm, ?_⟩
  rcases h with h | ⟨b, off, had, hc⟩
  · exact Or.inl h
  · refine Or.inr ⟨b, off, had, fun i hi => ?_⟩
    have := ho.other b (hne b off _ _ (by rw [hv, had]))
    rw [← hc i hi]
    unfold World.cell?
    simp only [this]

/-- What owns a row of bytes. -/
abbrev OwnsBy (w : World) (B : Nat) (v : Value) (bs : List Int) : Prop := w.ownsRow B 5 1 v bs.length (bs.map (Value.int .u8))

theorem ByFr.of_owns {B : Nat} {w : World} {v : Value} {bs : List Int} (h : OwnsBy w B v bs) : ByFr B 5 w v bs := by
  obtain ⟨hlen, ⟨rfl, h0⟩ | ⟨g, cap, cur, rfl, hN, hb, hl, hm, hs, ht⟩⟩ := h
  · exact Or.inl ⟨rfl, List.length_eq_zero_iff.1 h0⟩
  · refine Or.inr ⟨g, cap, fun i => cur.getD i default, rfl, hN, hl, hm, ⟨cur, hb, by rw [hs, Nat.mul_one], fun i hi => ?_⟩, fun i hi => ?_⟩
    · have : i < cur.size := by rw [hs, Nat.mul_one]; exact hi
      simp [Array.getD, this]
    · have hi2 : i < cur.size := by rw [hs]; omega
      have h1 : (bs.map (Value.int .u8))[i]? = some (.int .u8 (bs.getD i 0)) := by simp [hi]
      rw [← ht, List.getElem?_take, if_pos (by omega), Array.getElem?_toList, Array.getElem?_eq_getElem hi2] at h1
      simp only [Option.some.injEq] at h1
      show cur.getD i default = _
      rw [← h1]
      simp [Array.getD, hi2]

theorem slice_IntW : Tryz.prog.underlying 24 = some (.slice 3) := by kernel_rfl
theorem slice_OutW : Tryz.prog.underlying 26 = some (.slice 60) := by kernel_rfl
theorem info_OutW : (Tryz.prog.info? 60).map (fun i => (i.zero, i.size, i.bytes)) = some (some (.agg #[.int .i64 0, .int .i64 0, .int .i64 0, .int .i64 0, .int .i64 0]), 5, 40) := by kernel_rfl
theorem slice_By : Tryz.prog.underlying 22 = some (.slice 5) := by kernel_rfl
theorem info_By : (Tryz.prog.info? 5).map (fun i => (i.zero, i.size, i.bytes)) = some (some (.int .u8 0), 1, 1) := by kernel_rfl

theorem bysIn_more {f : Nat → Value} {bs : List Int} {k : Nat} {z : Int} (hz : z = bs.getD k 0) (h : BysIn f bs k) : BysIn (fun i => if i = k then .int .u8 z else f i) bs (k + 1) := by
  intro i hi
  show (if i = k then Value.int .u8 z else f i) = _
  by_cases e : i = k
  · rw [if_pos e, e, hz]
  · rw [if_neg e]; exact h i (by omega)

/-- Marks: bytes of numbers one behind the other. -/
def markBy (k : Int) (len : Nat) : List Int := (List.range len).map fun (i : Nat) => (k + (i : Int)) % 256
theorem markBy_length (k : Int) (len : Nat) : (markBy k len).length = len := by simp [markBy]
theorem markBy_at (k : Int) (len i : Nat) (hi : i < len) : (markBy k len).getD i 0 = (k + (i : Int)) % 256 := by simp [markBy, hi]
theorem wrap_u8 (m : Int) : IntKind.u8.wrap m = m % 256 := by simp [IntKind.wrap, IntKind.bits, IntKind.signed]

theorem OnlyOf.cell {g len cap : Nat} {w w' : World} (h : OnlyOf (.slice (some ⟨g, 0, none⟩) len cap) w w') (o : Nat) (x : Value) : OnlyOf (.slice (some ⟨g, 0, none⟩) len cap) w (w'.setCell ⟨g, o, none⟩ x) := by
  refine ⟨by simp [h.size], fun b hb => ?_, fun B hB => (h.below B hB).setCell (hB g rfl) _⟩
  have hne : b ≠ g := fun e => hb (by simp [Value.ownBlock, e])
  rw [Below.heap_setCell w' ⟨g, o, none⟩ x b hne, h.other b hb]

end Go.Proofs.YtiljjhipiinafaaGreat
