/- SlotRead on both sides. -/
import Derived.Test.YtocgfngcgekciaaSSaid
import Derived.Test.YtocgfngcgekciaaSOk2
namespace Go.Proofs.Ytocgfngcgekciaa
open Go.RowKit
set_option linter.unusedVariables false
set_option linter.unusedSimpArgs false


def readB (d : DiskV) : Bool := diskOk d && saysB (later d)
def readL (d : DiskV) : List Int := if readB d then saysL (later d) else []

theorem gSz_sectors : ∀ (ls : List (List Int)), ls.all sectorOk = true → gSz szN ls ≤ 8 * (ls.length : Int)
  | [], _ => by simp [gSz]
  | x :: xs, h => by
    simp only [List.all_cons, Bool.and_eq_true] at h
    have h1 := gSz_sectors xs h.2
    have h2 : x.length ≤ 8 := by
      have := h.1
      unfold sectorOk at this
      simp only [Bool.and_eq_true, decide_eq_true_eq] at this
      exact this.1
    simp only [gSz, szN, List.length_cons]; omega
theorem slotOk_facts {s : SlotV} (h : slotOk s = true) : 0 ≤ s.num ∧ s.num ≤ 9999 ∧ 0 ≤ s.cnt ∧ s.cnt ≤ 1280 ∧ s.rows.length = 160 ∧ s.rows.all sectorOk = true ∧ gSz szN s.rows ≤ 1280 := by
  unfold slotOk headOk inR at h
  simp only [Bool.and_eq_true, decide_eq_true_eq] at h
  obtain ⟨⟨⟨⟨h1, h2⟩, h3, h4⟩, h5⟩, h6⟩ := h
  refine ⟨h1, h2, h3, h4, h5, h6, ?_⟩
  have := gSz_sectors s.rows h6
  rw [h5] at this
  exact this
theorem later_ok {d : DiskV} (h : diskOk d = true) : slotOk (later d) = true := by
  unfold diskOk at h
  simp only [Bool.and_eq_true] at h
  unfold later
  cases isB d
  · exact h.1.1
  · exact h.1.2

theorem RowsFr.cutN {N t n len c : Nat} {w : World} {a : Option Addr} {xs : List Int} (h : RowsFr N t 1 w (.slice a len c) (xs.map fun z => [z])) (hn : n ≤ xs.length) : RowsFr N t 1 w (.slice a n c) ((xs.take n).map fun z => [z]) := by
  rcases h with ⟨h1, h2⟩ | ⟨g, cap, f, h1, hN, hl, hm, hr, hf⟩
  · simp only [Value.slice.injEq] at h1
    obtain ⟨rfl, rfl, rfl⟩ := h1
    have h3 : xs = [] := by simpa using h2
    subst h3
    obtain rfl : n = 0 := by simpa using hn
    exact Or.inl ⟨rfl, rfl⟩
  · simp only [Value.slice.injEq] at h1
    obtain ⟨rfl, _, rfl⟩ := h1
    rw [List.length_map] at hl
    refine Or.inr ⟨g, c, f, by rw [List.length_map, List.length_take, Nat.min_eq_left hn], hN, by rw [List.length_map, List.length_take]; omega, hm, hr, fun i hi hik j hj => ?_⟩
    have hi2 : i < n := by rw [List.length_map, List.length_take] at hi; omega
    have hi3 : i < (xs.map fun z => [z]).length := by rw [List.length_map]; omega
    rw [hf i hi3 hi3 j hj]
    simp

theorem tup_bool {v : Value} {a b : Bool} (h : a = b) : Ending.returned (.tuple #[v, .bool a]) = .returned (.tuple #[v, .bool b]) := by rw [h]
theorem numsAt_nil (w : World) (a : Option Addr) (c : Nat) : NumsAt w (.slice a 0 c) [] := ⟨a, c, rfl, Nat.zero_le _, Nat.zero_le _, Or.inl rfl⟩

def AnswerS (w : World) (d : DiskV) (e : Ending) (w' : World) : Prop := ∃ v', e = .returned (.tuple #[v', .bool (readB d)]) ∧ NumsAt w' v' (readL d) ∧ Below w.heap.size w w'
def AnswerI (w : World) (d : DiskV) (e : Ending) (w' : World) : Prop := ∃ v', e = .returned (.tuple #[v', .bool (readB d)]) ∧ RowsFr w.heap.size 3 1 w' v' ((readL d).map fun z => [z]) ∧ Below w.heap.size w w'

set_option maxRecDepth 100000 in
set_option maxHeartbeats 2000000 in
theorem specSlotRead_any (d : DiskV) (va vb : Value) (w : World) (h : DiskAt w d va vb) :
    Calls Try.prog 30 #[diskAgg d va vb] w (AnswerS w d) := by
  obtain ⟨a1, c1, rfl⟩ := h.a.sliced
  obtain ⟨a2, c2, rfl⟩ := h.b.sliced
  have hb0 : Below w.heap.size w (w.alloc (.cells (diskCells d (.slice a1 d.a.rows.length c1) (.slice a2 d.b.rows.length c2)).toArray 27)) := (Below.refl _ _).alloc (Nat.le_refl _) _
  have K := hide (cellsAt_new w (diskCells d (.slice a1 d.a.rows.length c1) (.slice a2 d.b.rows.length c2)) 27)
  have H := hide (h.on hb0)
  have HB := hide hb0
  clear h hb0
  go_enter Try.func30, Try.ntmps30
  go_upto_region 1 with fail
  change Code.wp _ _ _ _ (w.alloc (.cells (diskCells d (.slice a1 d.a.rows.length c1) (.slice a2 d.b.rows.length c2)).toArray 27))
  generalize (w.alloc (.cells (diskCells d (.slice a1 d.a.rows.length c1) (.slice a2 d.b.rows.length c2)).toArray 27)) = W at *
  have m0 : W.cell? ⟨w.heap.size, 0, none⟩ = some (.int .i64 d.a.num) := (unhide K) 0 (by simp)
  have m1 : W.cell? ⟨w.heap.size, 1, none⟩ = some (.int .i64 d.a.cnt) := (unhide K) 1 (by simp)
  have m2 : W.cell? ⟨w.heap.size, 2, none⟩ = some (.slice a1 d.a.rows.length c1) := (unhide K) 2 (by simp)
  have m3 : W.cell? ⟨w.heap.size, 3, none⟩ = some (.int .i64 d.b.num) := (unhide K) 3 (by simp)
  have m4 : W.cell? ⟨w.heap.size, 4, none⟩ = some (.int .i64 d.b.cnt) := (unhide K) 4 (by simp)
  have m5 : W.cell? ⟨w.heap.size, 5, none⟩ = some (.slice a2 d.b.rows.length c2) := (unhide K) 5 (by simp)
  go_wp2_with fail
  clear m0 m1 m2 m3 m4 m5
  refine (specSlotOk_any d _ _ W (unhide H)).mono ?_
  rintro e w1 ⟨rfl, hb1⟩
  have HB1 := hide (below_then (unhide HB) hb1)
  cases hok : diskOk d
  · have HRB : Hid (readB d = false) := hide (by simp [readB, hok])
    have HRL : Hid (readL d = []) := hide (by simp [readL, readB, hok])
    go_wp2_with fail
    go_ret2
    exact ⟨.slice (some ⟨w1.heap.size, 0, none⟩) 0 0, tup_bool (unhide HRB).symm, by rw [unhide HRL]; exact numsAt_nil _ _ _, (unhide HB1).alloc (unhide HB1).size _⟩
  have HOK := hide hok
  have K1 := hide ((unhide K).on hb1)
  have H1 := hide ((unhide H).on hb1)
  clear hb1 hok
  have m0 : w1.cell? ⟨w.heap.size, 0, none⟩ = some (.int .i64 d.a.num) := (unhide K1) 0 (by simp)
  have m1 : w1.cell? ⟨w.heap.size, 1, none⟩ = some (.int .i64 d.a.cnt) := (unhide K1) 1 (by simp)
  have m2 : w1.cell? ⟨w.heap.size, 2, none⟩ = some (.slice a1 d.a.rows.length c1) := (unhide K1) 2 (by simp)
  have m3 : w1.cell? ⟨w.heap.size, 3, none⟩ = some (.int .i64 d.b.num) := (unhide K1) 3 (by simp)
  have m4 : w1.cell? ⟨w.heap.size, 4, none⟩ = some (.int .i64 d.b.cnt) := (unhide K1) 4 (by simp)
  have m5 : w1.cell? ⟨w.heap.size, 5, none⟩ = some (.slice a2 d.b.rows.length c2) := (unhide K1) 5 (by simp)
  go_wp2_with fail
  clear m0 m1 m2 m3 m4 m5
  refine (l31Later_any d _ _ w1 (unhide H1)).mono ?_
  rintro e w2 ⟨rfl, hb2⟩
  have hg := (unhide H1).later.on hb2
  obtain ⟨al, cl, hal⟩ := hg.sliced
  rw [hal] at hg ⊢
  have HG := hide hg
  have HB2 := hide (below_then (unhide HB1) hb2)
  have hf := slotOk_facts (later_ok (unhide HOK))
  have HF := hide hf
  have HSB : Hid (readB d = saysB (later d)) := hide (by simp [readB, unhide HOK])
  have HSL : Hid (saysB (later d) = true → readL d = saysL (later d)) := hide (fun h => by simp [readL, readB, unhide HOK, h])
  have HSN : Hid (saysB (later d) = false → readL d = []) := hide (fun h => by simp [readL, readB, unhide HOK, h])
  clear hg hal hb2 hf
  generalize later d = s at *
  go_wp2_with fail
  refine (l31Said_any s _ w2 (unhide HG) (unhide HF).2.2.1 (by have := (unhide HF).2.2.2.2.2.2; omega)).mono ?_
  rintro e w3 ⟨v', rfl, hn, hb3⟩
  obtain ⟨b3, d3, rfl⟩ := hn.sliced
  have HN := hide hn
  have HB3 := hide (below_then (unhide HB2) hb3)
  clear hn hb3
  cases hsb : saysB s
  · go_wp2_with fail
    go_ret2
    exact ⟨.slice (some ⟨w3.heap.size, 0, none⟩) 0 0, tup_bool ((unhide HSB).trans hsb).symm, by rw [(unhide HSN) hsb]; exact numsAt_nil _ _ _, (unhide HB3).alloc (unhide HB3).size _⟩
  · go_wp2_with fail
    go_ret2
    exact ⟨.slice b3 (saysL s).length d3, tup_bool ((unhide HSB).trans hsb).symm, by rw [(unhide HSL) hsb]; exact unhide HN, unhide HB3⟩

set_option maxRecDepth 100000 in
set_option maxHeartbeats 2000000 in
theorem implSlotRead_any (d : DiskV) (va vb : Value) (w : World) (h : DiskAt w d va vb) :
    Calls Try.prog 18 #[diskAgg d va vb] w (AnswerI w d) := by
  obtain ⟨a1, c1, rfl⟩ := h.a.sliced
  obtain ⟨a2, c2, rfl⟩ := h.b.sliced
  have hb0 : Below w.heap.size w (w.alloc (.cells (diskCells d (.slice a1 d.a.rows.length c1) (.slice a2 d.b.rows.length c2)).toArray 27)) := (Below.refl _ _).alloc (Nat.le_refl _) _
  have K := hide (cellsAt_new w (diskCells d (.slice a1 d.a.rows.length c1) (.slice a2 d.b.rows.length c2)) 27)
  have H := hide (h.on hb0)
  have HB := hide hb0
  clear h hb0
  go_enter Try.func18, Try.ntmps18
  go_upto_region 1 with fail
  change Code.wp _ _ _ _ (w.alloc (.cells (diskCells d (.slice a1 d.a.rows.length c1) (.slice a2 d.b.rows.length c2)).toArray 27))
  generalize (w.alloc (.cells (diskCells d (.slice a1 d.a.rows.length c1) (.slice a2 d.b.rows.length c2)).toArray 27)) = W at *
  have m0 : W.cell? ⟨w.heap.size, 0, none⟩ = some (.int .i64 d.a.num) := (unhide K) 0 (by simp)
  have m1 : W.cell? ⟨w.heap.size, 1, none⟩ = some (.int .i64 d.a.cnt) := (unhide K) 1 (by simp)
  have m2 : W.cell? ⟨w.heap.size, 2, none⟩ = some (.slice a1 d.a.rows.length c1) := (unhide K) 2 (by simp)
  have m3 : W.cell? ⟨w.heap.size, 3, none⟩ = some (.int .i64 d.b.num) := (unhide K) 3 (by simp)
  have m4 : W.cell? ⟨w.heap.size, 4, none⟩ = some (.int .i64 d.b.cnt) := (unhide K) 4 (by simp)
  have m5 : W.cell? ⟨w.heap.size, 5, none⟩ = some (.slice a2 d.b.rows.length c2) := (unhide K) 5 (by simp)
  go_wp2_with fail
  clear m0 m1 m2 m3 m4 m5
  refine (laterOf_any d _ _ W (unhide H)).mono ?_
  rintro e w1 ⟨rfl, hb1⟩
  have hg := (unhide H).later.on hb1
  obtain ⟨al, cl, hal⟩ := hg.sliced
  rw [hal] at hg ⊢
  have hx : Below w1.heap.size w1 (w1.alloc (.cells (slotCells (later d) (.slice al (later d).rows.length cl)).toArray 25)) := (Below.refl _ _).alloc (Nat.le_refl _) _
  have HG := hide (hg.on hx)
  have hb12 := below_then hb1 hx
  have HB1 := hide (below_then (unhide HB) hb12)
  have K1 := hide ((unhide K).on hb12)
  have H1 := hide ((unhide H).on hb12)
  have L1 := hide (cellsAt_new w1 (slotCells (later d) (.slice al (later d).rows.length cl)) 25)
  have HSB : Hid (readB d = (diskOk d && saysB (later d))) := hide rfl
  have HSL : Hid (readB d = true → readL d = saysL (later d)) := hide (fun h => by simp [readL, h])
  have HSN : Hid (readB d = false → readL d = []) := hide (fun h => by simp [readL, h])
  have HF : Hid (diskOk d = true → 0 ≤ (later d).num ∧ (later d).num ≤ 9999 ∧ 0 ≤ (later d).cnt ∧ (later d).cnt ≤ 1280 ∧ (later d).rows.length = 160 ∧ (later d).rows.all sectorOk = true ∧ gSz szN (later d).rows ≤ 1280) := hide (fun h => slotOk_facts (later_ok h))
  clear hg hal hb1 hx hb12 K H
  generalize later d = s at *
  go_upto_region 2 with fail
  change Code.wp _ _ _ _ (w1.alloc (.cells (slotCells s (.slice al s.rows.length cl)).toArray 25))
  generalize w1.alloc (.cells (slotCells s (.slice al s.rows.length cl)).toArray 25) = W2 at *
  generalize w1.heap.size = q2 at *
  have m0 : W2.cell? ⟨w.heap.size, 0, none⟩ = some (.int .i64 d.a.num) := (unhide K1) 0 (by simp)
  have m1 : W2.cell? ⟨w.heap.size, 1, none⟩ = some (.int .i64 d.a.cnt) := (unhide K1) 1 (by simp)
  have m2 : W2.cell? ⟨w.heap.size, 2, none⟩ = some (.slice a1 d.a.rows.length c1) := (unhide K1) 2 (by simp)
  have m3 : W2.cell? ⟨w.heap.size, 3, none⟩ = some (.int .i64 d.b.num) := (unhide K1) 3 (by simp)
  have m4 : W2.cell? ⟨w.heap.size, 4, none⟩ = some (.int .i64 d.b.cnt) := (unhide K1) 4 (by simp)
  have m5 : W2.cell? ⟨w.heap.size, 5, none⟩ = some (.slice a2 d.b.rows.length c2) := (unhide K1) 5 (by simp)
  go_wp2_with fail
  clear m0 m1 m2 m3 m4 m5
  refine (implSlotOk_any d _ _ W2 (unhide H1)).mono ?_
  rintro e w3 ⟨rfl, hb3⟩
  have HB3 := hide (below_then (unhide HB1) hb3)
  have L3 := hide ((unhide L1).on hb3)
  have HG3 := hide ((unhide HG).on hb3)
  clear hb3 L1 HG K1 H1 HB1
  cases hok : diskOk d
  · have HRB : Hid (readB d = false) := hide (by rw [unhide HSB, hok]; rfl)
    go_wp2_with fail
    go_ret2
    exact ⟨.slice none 0 0, tup_bool (unhide HRB).symm, by rw [(unhide HSN) (unhide HRB)]; exact Or.inl ⟨rfl, rfl⟩, unhide HB3⟩
  have hf := (unhide HF) hok
  have HSB2 : Hid (readB d = saysB s) := hide (by rw [unhide HSB, hok]; rfl)
  have HOK := hide hok
  have HFF := hide hf
  obtain ⟨hn0, -, hc0, hc1, -, -, hsz⟩ := hf
  obtain ⟨n, hcn⟩ : ∃ n : Nat, s.cnt = (n : Int) := ⟨s.cnt.toNat, by omega⟩
  have HCN := hide hcn
  have HSZ := hide hsz
  clear hok hc0 hc1 hsz hcn
  have m0 : w3.cell? ⟨q2, 0, none⟩ = some (.int .i64 s.num) := (unhide L3) 0 (by simp)
  by_cases hz : s.num = 0
  · have hz0 : (s.num == 0) = true := by simp [hz]
    have HRB : Hid (readB d = false) := hide (by rw [unhide HSB2]; simp [saysB, hz])
    clear hz
    go_wp2_with fail
    go_ret2
    exact ⟨.slice none 0 0, tup_bool (unhide HRB).symm, by rw [(unhide HSN) (unhide HRB)]; exact Or.inl ⟨rfl, rfl⟩, unhide HB3⟩
  have hz0 : (s.num == 0) = false := by simp [hz]
  have HPOS : Hid (0 < s.num) := hide (by omega)
  clear hz hn0
  have m2 : w3.cell? ⟨q2, 2, none⟩ = some (.slice al s.rows.length cl) := (unhide L3) 2 (by simp)
  go_wp2_with fail
  refine (concat_any _ s.rows w3 (unhide HG3) (by have := unhide HSZ; omega)).mono ?_
  rintro e w4 ⟨v4, rfl, hr4, hb4⟩
  clear m0 m2
  obtain ⟨a4, c4, rfl⟩ := RowsFr_sliced hr4
  have hcap : s.rows.flatten.length ≤ c4 := by
    obtain ⟨_, _, hv, hlc, _⟩ := hr4.at
    simp only [Value.slice.injEq] at hv
    rw [List.length_map] at hlc
    omega
  rw [List.length_map] at hr4 ⊢
  have HB4 := hide (below_then (unhide HB3) hb4)
  have L4 := hide ((unhide L3).on hb4)
  have HR4 := hide (hr4.less (show w.heap.size ≤ w3.heap.size from (unhide HB3).size))
  have m1 : w4.cell? ⟨q2, 1, none⟩ = some (.int .i64 (n : Int)) := by rw [← unhide HCN]; exact (unhide L4) 1 (by simp)
  have HSAY : Hid (saysB s = decide (n ≤ s.rows.flatten.length)) := hide (by
    unfold saysB
    rw [unhide HCN]
    simp [unhide HPOS])
  have HSYL : Hid (saysL s = s.rows.flatten.take n) := hide (by unfold saysL; rw [unhide HCN]; simp)
  clear hr4 hb4 L3 HB3 HG3
  generalize s.rows.flatten = F at *
  by_cases hnl : n ≤ F.length
  · have hlI : ¬ (F.length : Int) < (n : Int) := by omega
    have hnc : n ≤ c4 := by omega
    have HRB : Hid (readB d = true) := hide (by rw [unhide HSB2, unhide HSAY]; simp [hnl])
    go_wp2_with fail
    go_ret2
    refine ⟨.slice a4 n c4, tup_bool (unhide HRB).symm, ?_, unhide HB4⟩
    rw [(unhide HSL) (unhide HRB), unhide HSYL]
    exact (unhide HR4).cutN hnl
  · have hlI : (F.length : Int) < (n : Int) := by omega
    have HRB : Hid (readB d = false) := hide (by rw [unhide HSB2, unhide HSAY]; simp [hnl])
    go_wp2_with fail
    go_ret2
    exact ⟨.slice none 0 0, tup_bool (unhide HRB).symm, by rw [(unhide HSN) (unhide HRB)]; exact Or.inl ⟨rfl, rfl⟩, unhide HB4⟩
end Go.Proofs.Ytocgfngcgekciaa
