/- Lanes that have done nothing, as they are appended; impl.copyEach of them. -/
import Derived.Test.YtimkamgghkjhhaaLanes2
import Derived.Test.YtimkamgghkjhhaaCopyL
import Derived.Test.YtimkamgghkjhhaaHeapC
import Derived.Deep.AppendLies
namespace Go.Proofs.Ytimkamgghkjhhaa
open Go.RowKit
set_option linter.unusedVariables false
set_option linter.unusedSimpArgs false

abbrev laneNil (x : Int × StV) : List Value := laneCells x.1 x.2 (.slice none 0 0)
def laneFlat (xs : List (Int × StV)) : List Value := xs.flatMap laneNil
def nilLanes (xs : List (Int × StV)) : List LaneV := xs.map fun x => ⟨x.1, x.2, []⟩
theorem nilLanes_len (xs : List (Int × StV)) : (nilLanes xs).length = xs.length := by simp [nilLanes]
theorem laneFlat_snoc (xs : List (Int × StV)) (x : Int × StV) : laneFlat (xs ++ [x]) = laneFlat xs ++ laneNil x := by simp [laneFlat, List.flatMap_append]
theorem laneFlat_at : ∀ (xs : List (Int × StV)) i (h : i < xs.length) j (hj : j < 5), (laneFlat xs)[i * 5 + j]? = some ((laneNil xs[i])[j]'hj)
  | [], i, h, _, _ => absurd h (Nat.not_lt_zero _)
  | x :: xs, 0, _, j, hj => by
    rw [laneFlat, List.flatMap_cons, Nat.zero_mul, Nat.zero_add, List.getElem?_append_left (show j < (laneNil x).length from hj), List.getElem?_eq_getElem (show j < (laneNil x).length from hj)]
    rfl
  | x :: xs, i + 1, h, j, hj => by
    have ih := laneFlat_at xs i (by simpa using h) j hj
    rw [laneFlat, List.flatMap_cons, List.getElem?_append_right (show 5 ≤ (i + 1) * 5 + j by omega)]
    show (laneFlat xs)[(i + 1) * 5 + j - 5]? = _
    rw [show (i + 1) * 5 + j - 5 = i * 5 + j by omega, ih]
    rfl

theorem lanesOwn_of_owns {N M : Nat} {w : World} {v : Value} {xs : List (Int × StV)} (h : w.ownsRow N 37 5 v xs.length (laneFlat xs)) (hM : w.heap.size ≤ M) : LanesOwn N M w v (nilLanes xs) := by
  obtain ⟨hlen, ⟨rfl, h0⟩ | ⟨g, cap, cur, rfl, hN, hb, hl, hm, hs, ht⟩⟩ := h
  · exact Or.inl ⟨rfl, by rw [List.length_eq_zero_iff.1 h0]; rfl⟩
  · have hg : g < w.heap.size := by
      rcases Nat.lt_or_ge g w.heap.size with h | h
      · exact h
      · rw [Array.getElem?_eq_none h] at hb; cases hb
    have hnl := nilLanes_len xs
    have he : ∀ i (hi : i < (nilLanes xs).length), (nilLanes xs)[i] = ⟨(xs[i]'(by omega)).1, (xs[i]'(by omega)).2, []⟩ := fun i hi => by simp [nilLanes]
    refine Or.inr ⟨g, cap, fun i => cur.getD i default, fun _ => M, fun _ => M, fun _ => .slice none 0 0, by rw [hnl], hN, by omega, by rw [hnl]; exact hl, hm, ⟨cur, hb, hs, fun i hi => ?_⟩, ⟨fun i hi j hj => ?_, fun i hi => ?_, fun i hi => (show N ≤ M by omega), fun i hi => Nat.le_refl M, fun i hi => Or.inl (show g < M by omega), fun i j _ _ => Nat.le_refl M⟩⟩
    · simp [Array.getD, hs, hi]
    · have hi2 : i < xs.length := by omega
      have h1 := laneFlat_at xs i hi2 j hj
      have h2 : i * 5 + j < xs.length * 5 := mul_place hi2 hj
      have h3 : xs.length * 5 ≤ cap * 5 := Nat.mul_le_mul_right 5 hl
      rw [← ht, List.getElem?_take, if_pos h2, Array.getElem?_toList] at h1
      rw [Array.getElem?_eq_getElem (by omega)] at h1
      simp only [Option.some.injEq] at h1
      have h4 : cur.getD (i * 5 + j) default = cur[i * 5 + j]'(by omega) := by simp [Array.getD, show i * 5 + j < cur.size by omega]
      simp only [he i hi]
      exact h4.trans h1
    · rw [he i hi]
      exact ⟨[], Or.inl ⟨rfl, rfl, rfl⟩, by simp [blocksOf, Value.ownBlock]⟩

theorem slice_cpLane : Try.prog.underlying 25 = some (.slice 37) := by kernel_rfl
theorem info_cpLane : (Try.prog.info? 37).map (fun i => (i.zero, i.size, i.bytes)) = some (some (.agg #[.int .i64 0, .int .i64 0, .int .i64 0, .int .i64 0, .slice none 0 0]), 5, 56) := by kernel_rfl

set_option maxRecDepth 100000 in
set_option maxHeartbeats 2000000 in
theorem copyEachLane_nil (v : Value) (xs : List (Int × StV)) (w : World) (h : LanesAt w v (nilLanes xs)) (hx : xs.length ≤ 1000) :
    Calls Try.prog 59 #[v, .func (.func 61) #[] #[]] w fun e w' => ∃ v', e = .returned v' ∧ LanesOwn w.heap.size w'.heap.size w' v' (nilLanes xs) ∧ Below w.heap.size w w' := by
  obtain ⟨i5, hi5, hz0, hz1, hz2⟩ := infoT_parts info_cpLane
  have H := hide h
  obtain ⟨ad, cap, hv, hlc, hm, hc⟩ := h
  rw [nilLanes_len] at hv
  subst hv
  have HC := hide hc
  clear hc hlc hm
  go_enter Try.func59, Try.ntmps59
  go_wp2_with fail
  go_loopw [5, 10] (fun v i wr => ∃ (k : Nat) (va : Option Addr) (vc : Nat), k ≤ xs.length ∧ v = .slice va k vc ∧ i = .int .i64 k ∧ Hid (wr.ownsRow w.heap.size 37 5 (.slice va k vc) k (laneFlat (xs.take k))) ∧ Hid (Below w.heap.size w wr)) (fun _ i _ => xs.length - (intOf i).toNat)
  case atStart => exact ⟨0, none, 0, Nat.zero_le _, rfl, rfl, hide (World.ownsRow_nil _ _ _ _), hide (Below.refl _ _)⟩
  case round =>
    obtain ⟨k, va, vc, hk, rfl, rfl, HO, HB⟩ := hrel
    have hsz := (unhide HB).size
    by_cases hlt : k < xs.length
    · obtain ⟨b, off, ea, ec, had, hcc⟩ : ∃ b off ea ec, ad = some ⟨b, off, none⟩ ∧ CellsAt wr b (off + k * 5) (laneCells xs[k].1 xs[k].2 (.slice ea 0 ec)) := by
        rcases unhide HC with h | ⟨b, off, h1, h2⟩
        · have h0 : xs.length = 0 := by rw [← nilLanes_len, h]; rfl
          omega
        · obtain ⟨vd, h3, h4⟩ := h2 k (by rw [nilLanes_len]; exact hlt)
          have e : (nilLanes xs)[k]'(by rw [nilLanes_len]; exact hlt) = ⟨xs[k].1, xs[k].2, []⟩ := by simp [nilLanes]
          rw [e] at h3 h4
          obtain ⟨ea, ec, hvd, _⟩ := h4
          rw [hvd] at h3
          exact ⟨b, off, ea, ec, h1, h3.on (unhide HB)⟩
      subst had
      obtain ⟨x, hxe⟩ : ∃ x, x = xs[k] := ⟨_, rfl⟩
      rw [← hxe] at hcc
      have HXE := hide hxe
      clear hxe
      have hkI : (k : Int) < (xs.length : Int) := by omega
      have hk0 : (0 : Int) ≤ (k : Int) := by omega
      have c0 : wr.cell? ⟨b, off + k * 5, none⟩ = some (.int .i64 x.1) := hcc 0 (by simp)
      have c1 : wr.cell? ⟨b, off + k * 5 + 1, none⟩ = some (.int .i64 x.2.x) := hcc 1 (by simp)
      have c2 : wr.cell? ⟨b, off + k * 5 + 2, none⟩ = some (.int .i64 x.2.y) := hcc 2 (by simp)
      have c3 : wr.cell? ⟨b, off + k * 5 + 3, none⟩ = some (.int .i64 x.2.c) := hcc 3 (by simp)
      have c4 : wr.cell? ⟨b, off + k * 5 + 4, none⟩ = some (.slice ea 0 ec) := hcc 4 (by simp)
      clear hcc
      go_wp2_with fail
      refine (copyLane_nil x.1 x.2 ea ec _).mono ?_
      rintro e w1 ⟨rfl, hb1⟩
      have hbX : Below wr.heap.size wr w1 := below_then ((Below.refl _ _).alloc (Nat.le_refl _) _) hb1
      have hbA : Below wr.heap.size wr (w1.alloc (.cells #[.int .i64 x.1, .int .i64 x.2.x, .int .i64 x.2.y, .int .i64 x.2.c, .slice none 0 0] 37)) := below_then hbX ((Below.refl _ _).alloc (Nat.le_refl _) _)
      have hownA : (w1.alloc (.cells #[.int .i64 x.1, .int .i64 x.2.x, .int .i64 x.2.y, .int .i64 x.2.c, .slice none 0 0] 37)).ownsRow w.heap.size 37 5 (.slice va k vc) k (laneFlat (xs.take k)) := ownsOn hbA (unhide HO)
      have hs1 : wr.heap.size ≤ w1.heap.size := hbX.size
      have HBA := hide hbA
      clear c0 c1 c2 c3 c4 hb1 hbX hbA
      go_wp2_with (at_builtin; refine wpList_append_lies _ (by rfl) _ _ _ (by rfl) w.heap.size 37 i5 _ 5 56 slice_cpLane hi5 hz0 hz1 hz2 (by rfl) (by omega) (.slice va k vc) k (laneFlat (xs.take k)) (by rfl) hownA ⟨w1.heap.size, 0, none⟩ 1 1 (laneNil x) (by rfl) (by rfl) (World.news_of_block (cs := #[.int .i64 x.1, .int .i64 x.2.x, .int .i64 x.2.y, .int .i64 x.2.c, .slice none 0 0]) (t := 37) (fr := (0, 0)) (heap_alloc_new w1 _)) (by simp [Value.oneCell']) (by omega) (by unfold maxLen; omega) (by omega) (by simp; omega) (w1.heap.size + 1) (by simp) ?_; intro gg cap2 w3 hown3 hgrow hat hlt3)
      have hb3 : Below w.heap.size w w3 := Below.grown (below_then (unhide HB) (unhide HBA)) hgrow (by simp; omega) (fun b hb => ((unhide HO).lt b hb).1)
      have HB3 := hide hb3
      have HO3 : Hid (w3.ownsRow w.heap.size 37 5 (.slice (some ⟨gg, 0, none⟩) (k + 1) cap2) (k + 1) (laneFlat (xs.take (k + 1)))) := hide (by rw [take_more xs k hlt, laneFlat_snoc, ← unhide HXE]; exact hown3)
      clear hb3 hown3 hgrow hat hlt3 hownA
      go_wp2_with fail
      go_roundw
      case rel => exact ⟨k + 1, some ⟨gg, 0, none⟩, cap2, by omega, rfl, by go_num, HO3, HB3⟩
      case measure => (simp [intOf]; try omega)
    · have hke : k = xs.length := by omega
      subst hke
      go_wp2_with fail
      go_ret
      have e := unhide HO
      rw [List.take_length] at e
      exact ⟨_, rfl, lanesOwn_of_owns e (Nat.le_refl _), unhide HB⟩
end Go.Proofs.Ytimkamgghkjhhaa
