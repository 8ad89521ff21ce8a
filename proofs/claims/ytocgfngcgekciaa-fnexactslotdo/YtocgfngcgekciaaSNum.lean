/- Lists of numbers, in a seat that has nothing else (taken out of Past1, Past3, Box, Views1, Ints1, Nums2, Copy1, CopyI, HeapC, Own1 by gen_snum.py). -/
import Derived.Test.YtocgfngcgekciaaFlat
import Derived.Test.YtocgfngcgekciaaFlatMake
import Derived.Test.YtocgfngcgekciaaGMark
import Derived.BigQuiet
import Derived.Deep.Cut
import Derived.OneCell
import Derived.Laws.OwnMore
import Derived.Deep.AppendLies
import Derived.Tactics
import Derived.Deep.RegionHeld3
namespace Go.Proofs.Ytocgfngcgekciaa
open Go.RowKit
set_option linter.unusedVariables false
set_option linter.unusedSimpArgs false

/-- Its cells, from a place on. -/
def CellsAt (w : World) (b o : Nat) (cs : List Value) : Prop := ∀ j (h : j < cs.length), w.cell? ⟨b, o + j, none⟩ = some cs[j]

theorem CellsAt.on {w w' : World} {b o : Nat} {cs : List Value} (hb : Below w.heap.size w w') (h : CellsAt w b o cs) : CellsAt w' b o cs := fun j hj => cell_on hb (h j hj)

theorem cellsAt_new (w : World) (cs : List Value) (t : TypeId) : CellsAt (w.alloc (.cells cs.toArray t)) w.heap.size 0 cs := fun j hj => by
  have h := World.rowIs_alloc w cs.toArray t (fun i => cs.getD i undef) (fun i hi => by
    have hi' : i < cs.length := by simpa using hi
    simp [hi'])
  have h2 := h.cell (i := j) (by simp [hj])
  rw [Nat.zero_add, h2]
  simp [hj]

theorem row_new (w : World) (cs : List Value) (t : TypeId) : (w.alloc (.cells cs.toArray t)).rowIs w.heap.size t cs.length (fun i => cs.getD i undef) := by
  have h := World.rowIs_alloc w cs.toArray t (fun i => cs.getD i undef) (fun i hi => by
    have hi' : i < cs.length := by simpa using hi
    simp [hi'])
  rwa [List.size_toArray] at h

def setVals (w : World) (b : Nat) : Nat → List Value → World
  | _, [] => w
  | o, x :: xs => setVals (w.setCell ⟨b, o, none⟩ x) b (o + 1) xs

theorem setVals_row {b t m : Nat} : ∀ (xs : List Value) (o : Nat) (w : World) (f : Nat → Value), w.rowIs b t m f → (setVals w b o xs).rowIs b t m (fun j => if o ≤ j ∧ j < o + xs.length then xs.getD (j - o) undef else f j)
  | [], o, w, f, h => h.congr (fun i _ => by
      show f i = if o ≤ i ∧ i < o + 0 then _ else f i
      rw [if_neg (by omega)])
  | x :: xs, o, w, f, h => (setVals_row xs (o + 1) _ _ (h.set o x)).congr (fun i _ => by
      show (if o + 1 ≤ i ∧ i < o + 1 + xs.length then xs.getD (i - (o + 1)) undef else if i = o then x else f i) = if o ≤ i ∧ i < o + (xs.length + 1) then (x :: xs).getD (i - o) undef else f i
      by_cases h1 : i = o
      · subst h1
        rw [if_neg (by omega), if_pos rfl, if_pos (by omega)]
        simp
      · rw [if_neg h1]
        by_cases h2 : o + 1 ≤ i ∧ i < o + 1 + xs.length
        · rw [if_pos h2, if_pos (by omega), show i - o = (i - (o + 1)) + 1 by omega]
          simp
        · rw [if_neg h2, if_neg (by omega)])

theorem setVals_below {b B : Nat} {a : World} : ∀ (xs : List Value) (o : Nat) (w : World), Below B a w → B ≤ b → Below B a (setVals w b o xs)
  | [], _, _, h, _ => h
  | x :: xs, o, w, h, hB => setVals_below xs (o + 1) _ (h.setCell hB _) hB

theorem setVals_other {b : Nat} : ∀ (xs : List Value) (o : Nat) (w : World) (k : Nat), k ≠ b → (setVals w b o xs).heap[k]? = w.heap[k]?
  | [], _, _, _, _ => rfl
  | x :: xs, o, w, k, h => (setVals_other xs (o + 1) _ k h).trans (Below.heap_setCell w ⟨b, o, none⟩ _ k h)

/-- A row of cells, its first ones as listed. -/
theorem rowIs_cells {w : World} {b t n : Nat} {f : Nat → Value} (h : w.rowIs b t n f) (cs : List Value) (hn : cs.length ≤ n) (hf : ∀ j (hj : j < cs.length), f j = cs[j]) : CellsAt w b 0 cs := fun j hj => by
  rw [Nat.zero_add, h.cell (by omega), hf j hj]

theorem RowsFr.setV {N t n r o : Nat} {w : World} {v : Value} {rs : List (List Int)} (h : RowsFr N t n w v rs) (hr : r < N) (xs : List Value) : RowsFr N t n (setVals w r o xs) v rs :=
  h.block (fun g hg _ => setVals_other xs o w g (by have := (h.blk g hg).1; omega))

theorem RowsFr_sliced {N t n : Nat} {w : World} {v : Value} {rs : List (List Int)} (h : RowsFr N t n w v rs) : ∃ a c, v = .slice a rs.length c := by
  rcases h with ⟨h1, rfl⟩ | ⟨g, cap, _, h1, _⟩
  · exact ⟨none, 0, h1⟩
  · exact ⟨_, _, h1⟩

def Apart (a b : Value) : Prop := ∀ g, a.ownBlock = some g → b.ownBlock = some g → False

theorem setVals_size {b : Nat} : ∀ (xs : List Value) (o : Nat) (w : World), (setVals w b o xs).heap.size = w.heap.size
  | [], _, _ => rfl
  | x :: xs, o, w => by
    rw [setVals, setVals_size xs (o + 1)]
    simp

theorem infoT_parts {P : Program} {t : TypeId} {z : Value} {size bytes : Nat} (h : (P.info? t).map (fun i => (i.zero, i.size, i.bytes)) = some (some z, size, bytes)) : ∃ i, P.info? t = some i ∧ i.zero = some z ∧ i.size = size ∧ i.bytes = bytes := by
  obtain ⟨i, hi, hzz⟩ := Option.map_eq_some_iff.1 h
  simp only [Prod.mk.injEq] at hzz
  exact ⟨i, hi, hzz.1, hzz.2.1, hzz.2.2⟩

theorem RowsFr.own {N t n : Nat} {w : World} {v : Value} {rs : List (List Int)} (h : RowsFr N t n w v rs) (hne : rs ≠ []) : ∃ g cap, v = .slice (some ⟨g, 0, none⟩) rs.length cap ∧ rs.length ≤ cap ∧ cap ≤ maxLen ∧ (∀ i (hi : i < rs.length) j, j < n → w.cell? ⟨g, i * n + j, none⟩ = some (.int .i64 (rs[i].getD j 0))) ∧ ∀ i, w.frozen? ⟨g, i, none⟩ = false := by
  rcases h with ⟨_, rfl⟩ | ⟨g, cap, f, h1, h2, h3, h4, h5, h6⟩
  · exact absurd rfl hne
  · refine ⟨g, cap, h1, h3, h4, fun i hi j hj => ?_, fun i => h5.frozen i⟩
    have := mul_place hi hj
    have h7 : rs.length * n ≤ cap * n := Nat.mul_le_mul_right n h3
    rw [h5.cell (by omega), h6 i hi hi j hj]

theorem RowsFr.drew {N t n : Nat} {w : World} {v : Value} {rs : List (List Int)} (h : RowsFr N t n w v rs) : RowsFr N t n w.drew v rs :=
  h.block (fun k _ _ => rfl)

theorem rowsIn_set {n : Nat} {f : Nat → Value} {rs : List (List Int)} {k : Nat} (hk : k < rs.length) (xs : List Int) (hl : xs.length = n) (h : RowsIn n f rs rs.length) :
    RowsIn n (fun j => if k * n ≤ j ∧ j < k * n + xs.length then .int .i64 (xs.getD (j - k * n) 0) else f j) (rs.set k xs) (rs.set k xs).length := by
  intro i hi _ j hj
  have hi' : i < rs.length := by simpa using hi
  show (if k * n ≤ i * n + j ∧ i * n + j < k * n + xs.length then Value.int .i64 (xs.getD (i * n + j - k * n) 0) else f (i * n + j)) = _
  rcases Nat.lt_trichotomy i k with h1 | rfl | h1
  · have := mul_place h1 hj
    rw [if_neg (by omega), List.getElem_set_ne (by omega)]
    exact h i hi' hi' j hj
  · rw [if_pos (by omega), Nat.add_sub_cancel_left, List.getElem_set_self]
  · have : k * n + n ≤ i * n := by have := Nat.mul_le_mul_right n (show k + 1 ≤ i from h1); rw [Nat.succ_mul] at this; exact this
    rw [if_neg (by omega), List.getElem_set_ne (by omega)]
    exact h i hi' hi' j hj

/-- A whole element of a list is written. -/
theorem RowsFr.setAt {N t n g len cap : Nat} {w : World} {rs : List (List Int)} {k : Nat} (hk : k < rs.length) (xs : List Int) (hl : xs.length = n) (h : RowsFr N t n w (.slice (some ⟨g, 0, none⟩) len cap) rs) :
    RowsFr N t n (setRow w g (k * n) xs) (.slice (some ⟨g, 0, none⟩) len cap) (rs.set k xs) := by
  rcases h with ⟨h1, rfl⟩ | ⟨g', cap', f, h1, h2, h3, h4, h5, h6⟩
  · simp at hk
  · simp only [Value.slice.injEq, Option.some.injEq, Addr.mk.injEq] at h1
    obtain ⟨⟨rfl, _⟩, rfl, rfl⟩ := h1
    exact Or.inr ⟨g, cap, _, by simp, h2, by simpa using h3, h4, setRow_row xs (k * n) w f h5, rowsIn_set hk xs hl h6⟩

theorem ownsOn {w w' : World} {base : Nat} {e : TypeId} {size : Nat} {v : Value} {n : Nat} {xs : List Value} (hb : Below w.heap.size w w') (h : w.ownsRow base e size v n xs) : w'.ownsRow base e size v n xs := by
  obtain ⟨hl, h | ⟨g, cap, cur, h1, h2, h3, h4⟩⟩ := h
  · exact ⟨hl, Or.inl h⟩
  · refine ⟨hl, Or.inr ⟨g, cap, cur, h1, h2, ?_, h4⟩⟩
    rw [hb.block g (Array.getElem?_eq_some_iff.1 h3).1]
    exact h3

/-- A list of numbers. -/
abbrev NumsAt (w : World) (v : Value) (zs : List Int) : Prop := RowsAt 1 w v (zs.map fun z => [z])

set_option maxRecDepth 100000 in
set_option maxHeartbeats 1000000 in
theorem eqIntS_any (v1 v2 : Value) (zs : List Int) (w : World) (h1 : NumsAt w v1 zs) (h2 : NumsAt w v2 zs) :
    Calls Try.prog 31 #[v1, v2] w fun e w' => e = .returned (.bool true) ∧ Below w.heap.size w w' := by
  obtain ⟨ad1, cap1, e1, hl1, hm, hc1⟩ := h1
  obtain ⟨ad2, cap2, e2, hl2, _, hc2⟩ := h2
  rw [List.length_map] at e1 e2 hl1 hl2 hm
  subst e1 e2
  unfold maxLen at hm
  have hqm : ∀ z : Int, (z != z) = false := by intro z; simp
  have H1 := hide hc1
  have H2 := hide hc2
  clear hc1 hc2
  go_enter Try.func31, Try.ntmps31
  go_wp2_with fail
  go_loopw [5] (fun i wr => ∃ k : Nat, k ≤ zs.length ∧ i = .int .i64 k ∧ Below w.heap.size w wr) (fun i _ => zs.length - (intOf i).toNat)
  case atStart => exact ⟨0, Nat.zero_le _, rfl, Below.refl _ _⟩
  case round =>
    obtain ⟨k, hk, rfl, hb⟩ := hrel
    by_cases hlt : k < zs.length
    · obtain ⟨b1, off1, had1, p1⟩ : ∃ b off, ad1 = some ⟨b, off, none⟩ ∧ wr.cell? ⟨b, off + k, none⟩ = some (.int .i64 zs[k]) := by
        rcases unhide H1 with h | ⟨b, off, h1, h2⟩
        · have : zs = [] := by simpa using h
          rw [this] at hlt; exact absurd hlt (Nat.not_lt_zero _)
        · have h3 := cell_on hb (h2 k (by simpa using hlt) 0 (by omega))
          simp at h3
          exact ⟨b, off, h1, h3⟩
      obtain ⟨b2, off2, had2, p2⟩ : ∃ b off, ad2 = some ⟨b, off, none⟩ ∧ wr.cell? ⟨b, off + k, none⟩ = some (.int .i64 zs[k]) := by
        rcases unhide H2 with h | ⟨b, off, h1, h2⟩
        · have : zs = [] := by simpa using h
          rw [this] at hlt; exact absurd hlt (Nat.not_lt_zero _)
        · have h3 := cell_on hb (h2 k (by simpa using hlt) 0 (by omega))
          simp at h3
          exact ⟨b, off, h1, h3⟩
      have hkI : (k : Int) < (zs.length : Int) := by omega
      have hk0 : (0 : Int) ≤ (k : Int) := by omega
      subst had1 had2
      generalize zs[k] = z at *
      have q1 : ∀ y : On wr, y.y.cell? ⟨b1, off1 + k, none⟩ = some (.int .i64 z) := fun y => cell_on y.h p1
      have q2 : ∀ y : On wr, y.y.cell? ⟨b2, off2 + k, none⟩ = some (.int .i64 z) := fun y => cell_on y.h p2
      clear p1 p2
      go_wp2_with fail
      have hne : Nonempty (On wr) := ⟨⟨wr, Below.refl _ _⟩⟩
      refine wp_region_on (by kernel_rfl) (by kernel_rfl) ?_
      repeat (first | go_big_quiet_step (fail) | quiet_step (fail))
      refine wpQuiet_nil ?_
      intro _ hw'
      obtain ⟨nq, hw''⟩ := hw'
      subst hw''
      go_wp2_with fail
      go_roundw
      case rel => exact ⟨k + 1, by omega, by simp, below_then hb nq.h⟩
      case measure => (simp [intOf]; try omega)
    · go_wp2_with fail
      go_ret
      exact ⟨rfl, hb⟩

theorem NumsAt.sliced {w : World} {v : Value} {zs : List Int} (h : NumsAt w v zs) : ∃ a c, v = .slice a zs.length c := by
  obtain ⟨a, c, e, _⟩ := h
  rw [List.length_map] at e
  exact ⟨a, c, e⟩

theorem szIntS_any (v : Value) (zs : List Int) (left : Int) (w : World) (h : NumsAt w v zs) (h0 : 0 ≤ left) (h1 : left ≤ 1048576) :
    Calls Try.prog 89 #[v, .int .i64 left] w fun e w' => ∃ r, e = .returned (.int .i64 r) ∧ (r = -1 ∧ left < zs.length ∨ 0 ≤ r ∧ r = left - zs.length) ∧ w' = w := by
  obtain ⟨ad, cap, e, hlc, hm, _⟩ := h
  rw [List.length_map] at e hlc hm
  subst e
  unfold maxLen at hm
  rcases Int.lt_or_le left (zs.length : Int) with h | h
  · go_enter Try.func89, Try.ntmps89
    go_wp2
    go_ret
    exact ⟨-1, rfl, Or.inl ⟨rfl, h⟩, rfl⟩
  · go_enter Try.func89, Try.ntmps89
    go_wp2
    go_ret
    exact ⟨_, rfl, Or.inr ⟨by omega, rfl⟩, rfl⟩

theorem slice_Int : Try.prog.underlying 28 = some (.slice 3) := by kernel_rfl

theorem info_Int : (Try.prog.info? 3).map (fun i => (i.zero, i.size, i.bytes)) = some (some (.int .i64 0), 1, 8) := by kernel_rfl

set_option maxRecDepth 100000 in
set_option maxHeartbeats 1000000 in
theorem toIntS_any (v : Value) (zs : List Int) (w : World) (h : NumsAt w v zs) (hlen : zs.length ≤ 1048576) :
    Calls Try.prog 34 #[v] w fun e w' => ∃ v', e = .returned v' ∧ RowsFr w.heap.size 3 1 w' v' (zs.map fun z => [z]) ∧ Below w.heap.size w w' := by
  obtain ⟨ad, cap, e, hlc, hm, hcells⟩ := h
  rw [List.length_map] at e hlc
  subst e
  have HMX := hide hm
  clear hm
  have hmk : ∀ w : World, (Instr.makeSlice 28 (.int .i64 (zs.length : Int)) (.int .i64 (zs.length : Int))).run Try.prog w = .ok (.slice (some ⟨w.heap.size, 0, none⟩) zs.length zs.length) (w.alloc (.cells (madeCells #[.int .i64 0] zs.length) 3)) := fun w => by
    have h := run_make_n (P := Try.prog) 28 3 _ 1 8 slice_Int info_Int zs.length (by omega) (by omega) w
    rw [Nat.mul_one] at h
    exact h
  have HC := hide hcells
  clear hcells
  go_enter Try.func34, Try.ntmps34
  go_wp2_with fail
  have hb1 : Below w.heap.size w (w.alloc (.cells (madeCells #[.int .i64 0] zs.length) 3)) := (Below.refl _ _).alloc (Nat.le_refl _) _
  obtain ⟨f1, hr1⟩ : ∃ f, (w.alloc (.cells (madeCells #[.int .i64 0] zs.length) 3)).rowIs w.heap.size 3 (zs.length * 1) f :=
    ⟨_, by rw [Nat.mul_one]; exact row_made w #[.int .i64 0] zs.length 3⟩
  clear hmk
  generalize w.alloc (.cells (madeCells #[.int .i64 0] zs.length) 3) = w1 at *
  go_loopw [4] (fun i wr => ∃ (k : Nat) (f : Nat → Value), k ≤ zs.length ∧ i = .int .i64 k ∧ Hid (wr.rowIs w.heap.size 3 (zs.length * 1) f) ∧ Hid (RowsIn 1 f (zs.map fun z => [z]) k) ∧ Below w.heap.size w wr) (fun i _ => zs.length - (intOf i).toNat)
  case atStart => exact ⟨0, _, Nat.zero_le _, rfl, hide hr1, hide (fun j _ h => absurd h (Nat.not_lt_zero _)), hb1⟩
  case round =>
    obtain ⟨k, f, hk, rfl, HROW, HIN, hb⟩ := hrel
    clear hr1
    by_cases hlt : k < zs.length
    · obtain ⟨b, off, had, p1⟩ : ∃ b off, ad = some ⟨b, off, none⟩ ∧ wr.cell? ⟨b, off + k, none⟩ = some (.int .i64 zs[k]) := by
        rcases unhide HC with h | ⟨b, off, h1, h2⟩
        · have : zs = [] := by simpa using h
          rw [this] at hlt; exact absurd hlt (Nat.not_lt_zero _)
        · have h3 := cell_on hb (h2 k (by simpa using hlt) 0 (by omega))
          simp at h3
          exact ⟨b, off, h1, h3⟩
      have hkI : (k : Int) < (zs.length : Int) := by omega
      have hk0 : (0 : Int) ≤ (k : Int) := by omega
      subst had
      have hrow := unhide HROW
      have g0 : wr.cell? ⟨w.heap.size, k, none⟩ = some (f k) := hrow.cell (i := k) (by omega)
      have z0 : wr.frozen? ⟨w.heap.size, k, none⟩ = false := hrow.frozen k
      clear hrow
      obtain ⟨z, hz⟩ : ∃ z, z = zs[k] := ⟨_, rfl⟩
      rw [← hz] at p1
      have HZ := hide hz
      clear hz
      go_wp2_with fail
      go_roundw
      case rel =>
        obtain ⟨f', q1, q2⟩ := row_step (n := 1) (rs := zs.map fun z => [z]) (by rw [List.length_map]; exact hlt) [z] rfl (fun j hj => by
          obtain rfl : j = 0 := by omega
          have := unhide HZ
          simp [this]) (unhide HROW) (unhide HIN)
        rw [show k * 1 = k from Nat.mul_one k] at q1
        exact ⟨k + 1, f', by omega, by go_num, hide q1, hide q2, setRow_below [z] k _ hb (Nat.le_refl _)⟩
      case measure => (simp [intOf]; try omega)
    · have hke : k = zs.length := by omega
      subst hke
      go_wp2_with fail
      go_ret
      exact ⟨.slice (some ⟨w.heap.size, 0, none⟩) zs.length zs.length, rfl, Or.inr ⟨w.heap.size, zs.length, f, congrArg (fun k => Value.slice (some ⟨w.heap.size, 0, none⟩) k zs.length) (List.length_map _).symm, Nat.le_refl _, Nat.le_of_eq (List.length_map _), Eq.mp (congrArg (fun k => k ≤ maxLen) (List.length_map _)) (unhide HMX), unhide HROW, Eq.mpr (congrArg (fun k => RowsIn 1 f (zs.map fun z => [z]) k) (List.length_map _)) (unhide HIN)⟩, hb⟩

set_option maxRecDepth 100000 in
set_option maxHeartbeats 2000000 in
theorem markIntS_any (N t : Nat) (v : Value) (len : Nat) (k0 : Int) (w : World) (h : RoomFr N t 1 w v len) (hlen : len ≤ 1000000000) (h0 : 0 ≤ k0) (h1 : k0 ≤ 1000000000000000) :
    Calls Try.prog 32 #[v, .int .i64 k0] w fun e w' => e = .returned (.int .i64 (k0 + (len : Int))) ∧ RowsFr N t 1 w' v (markRows 1 k0 len) ∧ OnlyOf v w w' := by
  rcases h with ⟨rfl, rfl⟩ | ⟨g, cap, f0, rfl, hN, hl, hm, hr⟩
  · go_enter Try.func32, Try.ntmps32
    go_wp2_with fail
    go_loop [1, 5] (fun a i => a = .int .i64 k0 ∧ i = .int .i64 0) (fun _ _ => 0)
    case atStart => exact ⟨rfl, rfl⟩
    case round =>
      obtain ⟨rfl, rfl⟩ := hrel
      go_wp2
      go_ret
      exact ⟨ret_int (by simp), Or.inl ⟨rfl, rfl⟩, OnlyOf.refl _ _⟩
  · have HMX := hide hm
    unfold maxLen at hm
    have HR := hide hr
    have HN := hide hN
    clear hr hN
    have hcap : len ≤ cap := hl
    go_enter Try.func32, Try.ntmps32
    go_wp2_with fail
    go_loopw [1, 5] (fun a i wr => ∃ (k : Nat) (m : Int) (f : Nat → Value), k ≤ len ∧ i = .int .i64 k ∧ a = .int .i64 m ∧ Hid (m = k0 + (k : Int)) ∧ 0 ≤ m ∧ m ≤ 1000000000000000 + 1000000000 ∧ Hid (wr.rowIs g t (cap * 1) f) ∧ Hid (RowsIn 1 f (markRows 1 k0 len) k) ∧ Hid (OnlyOf (.slice (some ⟨g, 0, none⟩) len cap) w wr)) (fun _ i _ => len - (intOf i).toNat)
    case atStart => exact ⟨0, k0, f0, Nat.zero_le _, rfl, rfl, hide (by simp), h0, by omega, hide (unhide HR), hide (fun j _ h => absurd h (Nat.not_lt_zero _)), hide (OnlyOf.refl _ _)⟩
    case round =>
      obtain ⟨k, m, f, hk, rfl, rfl, HM, hm0, hm1, HROW, HIN, HO⟩ := hrel
      by_cases hlt : k < len
      · have hrow := unhide HROW
        have hkI : (k : Int) < (len : Int) := by omega
        have g0 : wr.cell? ⟨g, k, none⟩ = some (f k) := hrow.cell (i := k) (by omega)
        have z0 : wr.frozen? ⟨g, k, none⟩ = false := hrow.frozen k
        clear hrow
        have hm2 : m + 1 ≤ 1000000000000000 + 1000000000 := by have := unhide HM; omega
        go_wp2_with fail
        go_roundw
        case rel =>
          obtain ⟨f', q1, q2⟩ := row_step (n := 1) (rs := markRows 1 k0 len) (by rw [markRows_length]; exact hlt) [m] rfl (fun j hj => by
            rw [markRows_at 1 k0 len k (by rw [markRows_length]; exact hlt) j hj]
            have := unhide HM
            obtain rfl : j = 0 := by omega
            simp; omega) (unhide HROW) (unhide HIN)
          rw [show k * 1 = k from Nat.mul_one k] at q1
          exact ⟨k + 1, m + 1, f', by omega, by go_num, by go_num, hide (by have := unhide HM; omega), by omega, by omega, hide q1, hide q2, hide ((unhide HO).row k [m])⟩
        case measure => simp [intOf]; omega
      · have hke : k = len := by omega
        subst hke
        go_wp2_with fail
        go_ret
        exact ⟨ret_int (by have := unhide HM; omega), Or.inr ⟨g, cap, f, by rw [markRows_length], unhide HN, by rw [markRows_length]; exact hl, unhide HMX, unhide HROW, by rw [markRows_length]; exact unhide HIN⟩, unhide HO⟩

set_option maxRecDepth 100000 in
set_option maxHeartbeats 2000000 in
theorem heldIntS_any (v : Value) (len : Nat) (k0 : Int) (w : World) (h : RowsAt 1 w v (markRows 1 k0 len)) (hlen : len ≤ 1000000000) (h0 : 0 ≤ k0) (h1 : k0 ≤ 1000000000000000) :
    Calls Try.prog 33 #[v, .int .i64 k0] w fun e w' => e = .returned (.int .i64 (k0 + (len : Int))) ∧ w' = w := by
  obtain ⟨ad, cap, rfl, hl, hm, hc⟩ := h
  rw [markRows_length] at hl hm ⊢
  have HC := hide hc
  clear hc
  unfold maxLen at hm
  have hne : ∀ x : Int, (x != x) = false := by intro x; simp
  go_enter Try.func33, Try.ntmps33
  go_wp2_with fail
  go_loop [1, 5] (fun a i => ∃ (k : Nat) (m : Int), k ≤ len ∧ i = .int .i64 k ∧ a = .int .i64 m ∧ Hid (m = k0 + (k : Int)) ∧ 0 ≤ m ∧ m ≤ 1000000000000000 + 1000000000) (fun _ i => len - (intOf i).toNat)
  case atStart => exact ⟨0, k0, Nat.zero_le _, rfl, rfl, hide (by simp), h0, by omega⟩
  case round =>
    obtain ⟨k, m, hk, rfl, rfl, HM, hm0, hm1⟩ := hrel
    by_cases hlt : k < len
    · obtain ⟨b, off, had, c0⟩ : ∃ b off, ad = some ⟨b, off, none⟩ ∧ w.cell? ⟨b, off + k, none⟩ = some (.int .i64 m) := by
        rcases unhide HC with h | ⟨b, off, h1, h2⟩
        · have := congrArg List.length h
          rw [markRows_length] at this
          simp at this; omega
        · refine ⟨b, off, h1, ?_⟩
          have e := h2 k (by rw [markRows_length]; exact hlt) 0 (by omega)
          rw [markRows_at 1 k0 len k (by rw [markRows_length]; exact hlt) 0 (by omega)] at e
          rw [show off + k * 1 + 0 = off + k by omega] at e
          rw [e]
          have := unhide HM
          congr 2
          omega
      subst had
      have hkI : (k : Int) < (len : Int) := by omega
      have hm2 : m + 1 ≤ 1000000000000000 + 1000000000 := by have := unhide HM; omega
      go_wp2
      go_round
      case rel => exact ⟨k + 1, m + 1, by omega, by go_num, by go_num, hide (by have := unhide HM; omega), by omega, by omega⟩
      case measure => simp [intOf]; omega
    · have hke : k = len := by omega
      subst hke
      go_wp2
      go_ret
      exact ⟨ret_int (by have := unhide HM; omega), rfl⟩

end Go.Proofs.Ytocgfngcgekciaa
