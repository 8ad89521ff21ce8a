/- spec.l31Said: what a slot says. -/
import Derived.Test.YtocgfngcgekciaaSConcat
import Derived.Test.YtocgfngcgekciaaHeld
import Derived.Test.YtocgfngcgekciaaSRead1
import Derived.BigQuiet
import Derived.Deep.AppendLies
namespace Go.Proofs.Ytocgfngcgekciaa
open Go.RowKit
set_option linter.unusedVariables false
set_option linter.unusedSimpArgs false


theorem take_mid {A r : List Int} {k c : Nat} (h : r.length ≤ k ∨ c ≤ ((A ++ r.take k).take c).length) : (A ++ r.take k).take c = (A ++ r).take c := by
  rcases h with h | h
  · rw [List.take_of_length_le h]
  · have hl : c ≤ (A ++ r.take k).length := by rw [List.length_take] at h; omega
    have e : A ++ r = (A ++ r.take k) ++ r.drop k := by rw [List.append_assoc, List.take_append_drop]
    rw [e, List.take_append_of_le_length hl]
theorem take_step {A r : List Int} {k c : Nat} (hk : k < r.length) (h : ((A ++ r.take k).take c).length < c) : (A ++ r.take (k + 1)).take c = (A ++ r.take k).take c ++ [r[k]] := by
  have hl : (A ++ r.take k).length < c := by rw [List.length_take] at h; omega
  have e : A ++ r.take (k + 1) = (A ++ r.take k) ++ [r[k]] := by rw [take_more r k hk, List.append_assoc]
  have e2 : ((A ++ r.take k) ++ [r[k]]).length = (A ++ r.take k).length + 1 := by rw [List.length_append]; rfl
  rw [List.take_of_length_le (Nat.le_of_lt hl), e, List.take_of_length_le (by rw [e2]; omega)]
theorem take_pre {ls : List (List Int)} {i c : Nat} (h : ls.length ≤ i ∨ c ≤ (((ls.take i).flatten).take c).length) : ((ls.take i).flatten).take c = ls.flatten.take c := by
  rcases h with h | h
  · rw [List.take_of_length_le h]
  · have hl : c ≤ (ls.take i).flatten.length := by rw [List.length_take] at h; omega
    have e : ls.flatten = (ls.take i).flatten ++ (ls.drop i).flatten := by rw [← List.flatten_append, List.take_append_drop]
    rw [e, List.take_append_of_le_length hl]

/-- A list of numbers that the call itself makes. -/
abbrev OwnNums (w : World) (B : Nat) (v : Value) (xs : List Int) : Prop := w.ownsRow B 3 1 v xs.length (xs.map (Value.int .i64))
theorem flatC (xs : List Int) : flatCells (xs.map fun z => [z]) = xs.map (Value.int .i64) := by
  unfold flatCells
  induction xs with
  | nil => rfl
  | cons x xs ih => simp only [List.map_cons, List.flatMap_cons, ih]; rfl
theorem OwnNums.fr {w : World} {B : Nat} {v : Value} {xs : List Int} (h : OwnNums w B v xs) : RowsFr B 3 1 w v (xs.map fun z => [z]) := by
  refine RowsFr.of_owns (rowlenInt xs) ?_
  rw [flatC, List.length_map]
  exact h
theorem OwnNums.sliced {w : World} {B : Nat} {v : Value} {xs : List Int} (h : OwnNums w B v xs) : ∃ a c, v = .slice a xs.length c := by
  rcases h.2 with ⟨h1, h2⟩ | ⟨g, cp, cur, h1, _⟩
  · exact ⟨none, 0, by rw [h1, h2]⟩
  · exact ⟨_, _, h1⟩

def saysB (s : SlotV) : Bool := decide (0 < s.num) && decide (s.cnt ≤ (s.rows.flatten.length : Int))
def saysL (s : SlotV) : List Int := s.rows.flatten.take s.cnt.toNat

set_option maxRecDepth 100000 in
set_option maxHeartbeats 4000000 in
theorem l31Said_any (s : SlotV) (v : Value) (w : World) (h : GridAt w v s.rows) (hc : 0 ≤ s.cnt) (hlen : gSz szN s.rows ≤ 1048576) :
    Calls Try.prog 64 #[slotAgg s v] w fun e w' => ∃ v', e = .returned (.tuple #[v', .bool (saysB s)]) ∧ NumsAt w' v' (saysL s) ∧ Below w.heap.size w w' := by
  obtain ⟨i7, hi7, hz70, hz71, hz72⟩ := infoT_parts info_cpInt
  have hm := h.len
  obtain ⟨a1, c1, rfl⟩ := h.sliced
  unfold maxLen at hm
  obtain ⟨c, hcn⟩ : ∃ c : Nat, s.cnt = (c : Int) := ⟨s.cnt.toNat, by omega⟩
  have HCN := hide hcn
  have HCT : Hid (s.cnt.toNat = c) := hide (by omega)
  clear hcn
  have HFL : Hid (∀ i, (s.rows.take i).flatten.length ≤ 1048576) := hide (fun i => by
    have h2 := gSz_take szN szN_pos s.rows i
    rw [flat_gSz] at h2
    omega)
  obtain ⟨W, hW⟩ : ∃ W, W = (w.alloc (.cells #[.int .i64 s.num, .int .i64 s.cnt, .slice a1 s.rows.length c1] 25)).alloc (.cells #[] 3) := ⟨_, rfl⟩
  have hs1 : (w.alloc (.cells #[.int .i64 s.num, .int .i64 s.cnt, .slice a1 s.rows.length c1] 25)).heap.size = w.heap.size + 1 := World.size_alloc _ _
  have HB : Hid (Below w.heap.size w W) := hide (by rw [hW]; exact ((Below.refl _ _).alloc (Nat.le_refl _) _).alloc (by rw [hs1]; omega) _)
  have HS : Hid (W.heap.size = w.heap.size + 2) := hide (by rw [hW, World.size_alloc, hs1])
  have hk := (cellsAt_new w (slotCells s (.slice a1 s.rows.length c1)) 25).on ((Below.refl _ _).alloc (Nat.le_refl _) (.cells #[] 3))
  rw [show ((w.alloc (.cells (slotCells s (.slice a1 s.rows.length c1)).toArray 25)).alloc (.cells #[] 3)) = W from hW.symm] at hk
  have K := hide hk
  have hown := World.ownsRow_made (base := w.heap.size + 1) (e := 3) (size := 1) (w.alloc (.cells #[.int .i64 s.num, .int .i64 s.cnt, .slice a1 s.rows.length c1] 25)) #[] 0 (by rw [hs1]; omega) (by simp) (by simp)
  rw [← hW, hs1] at hown
  have HO := hide hown
  have H := hide h
  have HW := hide hW
  have HSZ := hide hlen
  clear hk hown h hs1 hW hlen
  go_enter Try.func64, Try.ntmps64
  go_upto_region 2 with fail
  rw [← unhide HW]
  clear HW
  go_wp2_with fail
  go_loopw [4, 5] (fun o i wr => ∃ (k : Nat) (va : Option Addr) (vc vn : Nat), k ≤ s.rows.length ∧ i = .int .i64 k ∧ o = .slice va vn vc ∧ Hid (vn = (((s.rows.take k).flatten).take c).length) ∧ Hid (OwnNums wr (w.heap.size + 1) (.slice va vn vc) (((s.rows.take k).flatten).take c)) ∧ Hid (Below (w.heap.size + 1) W wr)) (fun _ i _ => s.rows.length - (intOf i).toNat)
  case atStart => exact ⟨0, _, 0, 0, Nat.zero_le _, rfl, rfl, hide (by simp), hide (by simpa [OwnNums] using unhide HO), hide (Below.refl _ _)⟩
  case round =>
    obtain ⟨k, va, vc, vn, hk, rfl, rfl, HVN, HO1, HB1⟩ := hrel
    have hsw : w.heap.size + 2 ≤ wr.heap.size := by have h1 := (unhide HB1).size; have h2 := unhide HS; omega
    have K1 : Hid (CellsAt wr w.heap.size 0 (slotCells s (.slice a1 s.rows.length c1))) := hide (fun j hj => ((unhide HB1).cell (p := ⟨w.heap.size, 0 + j, none⟩) (show w.heap.size < w.heap.size + 1 by omega)).trans ((unhide K) j hj))
    have m0 : wr.cell? ⟨w.heap.size, 0, none⟩ = some (.int .i64 s.num) := (unhide K1) 0 (by simp)
    have m1 : wr.cell? ⟨w.heap.size, 1, none⟩ = some (.int .i64 s.cnt) := (unhide K1) 1 (by simp)
    have m2 : wr.cell? ⟨w.heap.size, 2, none⟩ = some (.slice a1 s.rows.length c1) := (unhide K1) 2 (by simp)
    by_cases hgo : k < s.rows.length ∧ vn < c
    · obtain ⟨hlt, hvc⟩ := hgo
      have hkI : (k : Int) < (s.rows.length : Int) := by omega
      have hk0 : (0 : Int) ≤ (k : Int) := by omega
      have hvI : (vn : Int) < s.cnt := by have := unhide HCN; omega
      go_wp2_with fail
      clear m0 m1 m2
      have HFS := hide (flat_snoc s.rows k hlt)
      have HFK := hide ((unhide HFL) (k + 1))
      obtain ⟨A, hA⟩ : ∃ A, A = (s.rows.take k).flatten := ⟨_, rfl⟩
      obtain ⟨r, hr⟩ : ∃ r, r = s.rows[k] := ⟨_, rfl⟩
      rw [← hA] at HVN HO1 HFS
      rw [← hr] at HFS
      have HR := hide hr
      have HLR : Hid (A.length + r.length ≤ 1048576) := hide (by
        have h1 := unhide HFK
        rw [unhide HFS, List.length_append] at h1
        exact h1)
      have hrl : r.length ≤ 1048576 := by have := unhide HLR; omega
      clear hA hr HFK hvI
      go_loopw [4, 6] (fun o i wx => ∃ (j : Nat) (va : Option Addr) (vc vn : Nat), j ≤ r.length ∧ i = .int .i64 j ∧ o = .slice va vn vc ∧ Hid (vn = ((A ++ r.take j).take c).length) ∧ Hid (OwnNums wx (w.heap.size + 1) (.slice va vn vc) ((A ++ r.take j).take c)) ∧ Hid (Below (w.heap.size + 1) W wx)) (fun _ i _ => r.length - (intOf i).toNat)
      case atStart => exact ⟨0, va, vc, vn, Nat.zero_le _, rfl, rfl, hide (by simpa using unhide HVN), hide (by simpa using unhide HO1), HB1⟩
      case round =>
        obtain ⟨j, xa, xc, xn, hj, rfl, rfl, HXN, HO2, HB2⟩ := hrel
        have hbw := (unhide HB).trans ((unhide HB2).mono (show w.heap.size ≤ w.heap.size + 1 by omega))
        have hsx : w.heap.size + 2 ≤ wr.heap.size := by have h1 := (unhide HB2).size; have h2 := unhide HS; omega
        have K2 : Hid (CellsAt wr w.heap.size 0 (slotCells s (.slice a1 s.rows.length c1))) := hide (fun j hj => ((unhide HB2).cell (p := ⟨w.heap.size, 0 + j, none⟩) (show w.heap.size < w.heap.size + 1 by omega)).trans ((unhide K) j hj))
        have n1 : wr.cell? ⟨w.heap.size, 1, none⟩ = some (.int .i64 s.cnt) := (unhide K2) 1 (by simp)
        have n2 : wr.cell? ⟨w.heap.size, 2, none⟩ = some (.slice a1 s.rows.length c1) := (unhide K2) 2 (by simp)
        obtain ⟨b, off, vd, had, p1, hp⟩ := ((unhide H).on hbw).row hlt
        rw [← unhide HR] at hp
        have HAD := hide had
        obtain ⟨ea, ec, rfl⟩ := hp.sliced
        have HP := hide hp
        clear hp hbw
        by_cases hgo2 : j < r.length ∧ xn < c
        · obtain ⟨hjl, hxc⟩ := hgo2
          have hjI : (j : Int) < (r.length : Int) := by omega
          have hj0 : (0 : Int) ≤ (j : Int) := by omega
          have hxI : (xn : Int) < s.cnt := by have := unhide HCN; omega
          obtain ⟨b2, off2, hea, q1⟩ : ∃ b off, ea = some ⟨b, off, none⟩ ∧ wr.cell? ⟨b, off + j, none⟩ = some (.int .i64 r[j]) := by
            obtain ⟨ad, cp, hv, _, _, hcc⟩ := unhide HP
            simp only [Value.slice.injEq] at hv
            rcases hcc with h | ⟨b, off, h1, h2⟩
            · have : r = [] := by simpa using h
              rw [this] at hjl; exact absurd hjl (Nat.not_lt_zero _)
            · have h3 := h2 j (by simpa using hjl) 0 (by omega)
              simp at h3
              exact ⟨b, off, hv.1.trans h1, h3⟩
          subst had hea
          have HXC : Hid (((A ++ r.take j).take c).length < c) := hide (by rw [← unhide HXN]; exact hxc)
          have HST := hide (take_step (A := A) hjl (unhide HXC))
          have hxle : xn + 1 ≤ 1048576 := by
            have h1 := unhide HXN
            have h2 := unhide HLR
            rw [List.length_take, List.length_append, List.length_take] at h1
            omega
          generalize r[j] = z at *
          have hbA : Below wr.heap.size wr (wr.alloc (.cells #[.int .i64 z] 3)) := (Below.refl _ _).alloc (Nat.le_refl _) _
          have hownA := ownsOn hbA (unhide HO2)
          rw [← unhide HXN] at hownA
          have hbase : w.heap.size + 1 ≤ wr.heap.size := by omega
          go_wp2_with (at_builtin; refine wpList_append_lies _ (by rfl) _ _ _ (by rfl) (w.heap.size + 1) 3 i7 _ 1 8 slice_cpInt hi7 hz70 hz71 hz72 (by rfl) (by omega) (.slice xa xn xc) xn _ (by rfl) hownA ⟨wr.heap.size, 0, none⟩ 1 1 [.int .i64 z] (by rfl) (by rfl) (World.news_of_block (cs := #[.int .i64 z]) (t := 3) (fr := (0, 0)) (heap_alloc_new wr _)) (by simp [Value.oneCell']) (by omega) (by unfold maxLen; omega) (by omega) (by simp; omega) (wr.heap.size + 1) (by simp) ?_; intro gg cap w1 hown1 hgrow hat hlt1; have HOW := hide hown1; have HBW := hide (Below.grown ((unhide HB2).trans (hbA.mono hbase)) hgrow (by simp; omega) (fun k hk => ((unhide HO2).lt k hk).1)); clear hown1 hgrow hat hlt1)
          go_roundw
          case rel =>
            refine ⟨j + 1, _, _, xn + 1, by omega, by go_num, rfl, hide ?_, hide ?_, HBW⟩
            · rw [unhide HST, List.length_append, unhide HXN]; rfl
            · have e := unhide HOW
              rw [unhide HST]
              unfold OwnNums
              rw [List.length_append, List.map_append, ← unhide HXN]
              exact e
          case measure => (simp [intOf]; try omega)
        · have HDONE : Hid ((A ++ r.take j).take c = ((s.rows.take (k + 1)).flatten).take c) := hide (by
            rw [unhide HFS]
            refine take_mid ?_
            rw [← unhide HXN]
            omega)
          subst had
          by_cases hjl : j < r.length
          · have hjI : (j : Int) < (r.length : Int) := by omega
            have hxI : ¬ (xn : Int) < s.cnt := by have := unhide HCN; omega
            go_wp2_with fail
            go_roundw
            case rel => exact ⟨k + 1, xa, xc, xn, by omega, by go_num, rfl, hide (by rw [← unhide HDONE]; exact unhide HXN), hide (by rw [← unhide HDONE]; exact unhide HO2), HB2⟩
            case measure => (simp [intOf]; try omega)
          · have hjI : ¬ (j : Int) < (r.length : Int) := by omega
            go_wp2_with fail
            go_roundw
            case rel => exact ⟨k + 1, xa, xc, xn, by omega, by go_num, rfl, hide (by rw [← unhide HDONE]; exact unhide HXN), hide (by rw [← unhide HDONE]; exact unhide HO2), HB2⟩
            case measure => (simp [intOf]; try omega)
    · have HX : Hid (((s.rows.take k).flatten).take c = s.rows.flatten.take c) := hide (take_pre (by rw [← unhide HVN]; omega))
      have hbw : Below w.heap.size w wr := (unhide HB).trans ((unhide HB1).mono (show w.heap.size ≤ w.heap.size + 1 by omega))
      have HBW := hide hbw
      have HN : Hid (NumsAt wr (.slice va vn vc) (saysL s)) := hide (by
        have e := (unhide HO1).fr.at
        rw [unhide HX] at e
        unfold saysL
        rw [unhide HCT]
        exact e)
      have HLEN : Hid (vn = (s.rows.flatten.take c).length) := hide (by rw [← unhide HX]; exact unhide HVN)
      have HEQ : Hid (((vn : Int) == s.cnt) = decide (s.cnt ≤ (s.rows.flatten.length : Int))) := hide (by
        have h1 := unhide HLEN
        rw [List.length_take] at h1
        have h2 := unhide HCN
        rw [Bool.eq_iff_iff, beq_iff_eq, decide_eq_true_iff]
        omega)
      clear hbw
      have hne : Nonempty (On wr) := ⟨⟨wr, Below.refl _ _⟩⟩
      have fin : ∀ (e1 : (decide (0 < s.num)) = (decide (0 < s.num))), True := fun _ => trivial
      clear fin
      have q0 : ∀ y : On wr, y.y.cell? ⟨w.heap.size, 0, none⟩ = some (.int .i64 s.num) := fun y => cell_on y.h m0
      have q1 : ∀ y : On wr, y.y.cell? ⟨w.heap.size, 1, none⟩ = some (.int .i64 s.cnt) := fun y => cell_on y.h m1
      have heq : ((vn : Int) == s.cnt) = decide (s.cnt ≤ (s.rows.flatten.length : Int)) := unhide HEQ
      have HSB : Hid (saysB s = (decide (0 < s.num) && decide (s.cnt ≤ (s.rows.flatten.length : Int)))) := hide rfl
      generalize decide (s.cnt ≤ (s.rows.flatten.length : Int)) = bq at *
      by_cases hn0 : 0 < s.num
      · have HD : Hid (decide (0 < s.num) = true) := hide (by simp [hn0])
        by_cases hlt : k < s.rows.length
        · have hkI : (k : Int) < (s.rows.length : Int) := by omega
          have hvI : ¬ (vn : Int) < s.cnt := by have := unhide HCN; omega
          go_wp2_with fail
          refine wp_region_on (by kernel_rfl) (by kernel_rfl) ?_
          repeat (first | go_big_quiet_step (fail) | quiet_step (fail))
          refine wpQuiet_nil ?_
          intro _ hw'
          obtain ⟨nq, hw''⟩ := hw'
          subst hw''
          go_wp2_with fail
          go_ret2
          exact ⟨_, by rw [unhide HSB, unhide HD]; rfl, (unhide HN).on nq.h, below_then (unhide HBW) nq.h⟩
        · have hkI : ¬ (k : Int) < (s.rows.length : Int) := by omega
          go_wp2_with fail
          refine wp_region_on (by kernel_rfl) (by kernel_rfl) ?_
          repeat (first | go_big_quiet_step (fail) | quiet_step (fail))
          refine wpQuiet_nil ?_
          intro _ hw'
          obtain ⟨nq, hw''⟩ := hw'
          subst hw''
          go_wp2_with fail
          go_ret2
          exact ⟨_, by rw [unhide HSB, unhide HD]; rfl, (unhide HN).on nq.h, below_then (unhide HBW) nq.h⟩
      · have HD : Hid (decide (0 < s.num) = false) := hide (by simp [hn0])
        have hd0 : decide (0 < s.num) = false := unhide HD
        by_cases hlt : k < s.rows.length
        · have hkI : (k : Int) < (s.rows.length : Int) := by omega
          have hvI : ¬ (vn : Int) < s.cnt := by have := unhide HCN; omega
          go_wp2_with fail
          refine wp_region_on (by kernel_rfl) (by kernel_rfl) ?_
          repeat (first | go_big_quiet_step (fail) | quiet_step (fail))
          refine wpQuiet_nil ?_
          intro _ hw'
          obtain ⟨nq, hw''⟩ := hw'
          subst hw''
          go_wp2_with fail
          go_ret2
          exact ⟨_, by rw [unhide HSB, unhide HD]; rfl, (unhide HN).on nq.h, below_then (unhide HBW) nq.h⟩
        · have hkI : ¬ (k : Int) < (s.rows.length : Int) := by omega
          go_wp2_with fail
          refine wp_region_on (by kernel_rfl) (by kernel_rfl) ?_
          repeat (first | go_big_quiet_step (fail) | quiet_step (fail))
          refine wpQuiet_nil ?_
          intro _ hw'
          obtain ⟨nq, hw''⟩ := hw'
          subst hw''
          go_wp2_with fail
          go_ret2
          exact ⟨_, by rw [unhide HSB, unhide HD]; rfl, (unhide HN).on nq.h, below_then (unhide HBW) nq.h⟩
end Go.Proofs.Ytocgfngcgekciaa
