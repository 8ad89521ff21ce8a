/- Contracts: parts of an op, and how many ops of a kind a rule has. -/
import Derived.Test.YtjbgiepaehefpaaDoorOk1
namespace Go.Proofs.YtjbgiepaehefpaaDoor
open Go.RowKit
set_option linter.unusedVariables false

theorem partInForm_any (c n : Int) (w : World) (hc : c = 114 ∨ c = 110 ∨ c = 112 ∨ c = 107 ∨ c = 111 ∨ c = 108) :
    Calls Tryd.prog 134 #[.int .u8 c, .int .i64 n] w fun e w' => e = .returned (.bool (partOk c n)) ∧ w' = w := by
  rcases hc with rfl | rfl | rfl | rfl | rfl | rfl
  all_goals
    go_enter Tryd.func134, Tryd.ntmps134
    go_wp2_with (first | (go_at_call 103; refine (within_any _ _ _ _).mono ?_; rintro e w' ⟨rfl, rfl⟩) | (go_at_call 150; refine (isRegister_any _ _).mono ?_; rintro e w' ⟨rfl, rfl⟩) | (go_at_call 102; refine (isNum_any _ _).mono ?_; rintro e w' ⟨rfl, rfl⟩) | (go_at_call 104; refine (isProc_any _ _).mono ?_; rintro e w' ⟨rfl, rfl⟩) | (go_at_call 105; refine (isKind_any _ _).mono ?_; rintro e w' ⟨rfl, rfl⟩))
    go_ret
    exact ⟨ret_bool (by simp [partOk]), rfl⟩

theorem opParts_any (o : OpV) (w : World) :
    Calls Tryd.prog 95 #[.agg #[.int .i64 o.d, .int .i64 o.a, .int .i64 o.b, .int .i64 o.c, .int .i64 o.e]] w fun e w' => e = .returned (.agg #[.int .i64 o.a, .int .i64 o.b, .int .i64 o.c, .int .i64 o.e]) ∧ Below w.heap.size w w' := by
  obtain ⟨d, a, b, c, e⟩ := o
  go_enter Tryd.func95, Tryd.ntmps95
  go_wp2
  exact bodyPost_ret (v := .agg #[.int .i64 a, .int .i64 b, .int .i64 c, .int .i64 e]) (by simp [results, Tryd.results95, go_sem]) rfl ⟨rfl, ((Below.refl _ _).alloc (Nat.le_refl _) _).alloc (by simp) _⟩

theorem countOps_any (v : Value) (ops : List OpV) (d : Int) (w : World) (h : OpsAt w v ops) :
    Calls Tryd.prog 117 #[v, .int .i64 d] w fun e w' => e = .returned (.int .i64 (countL ops d : Nat)) ∧ Below w.heap.size w w' := by
  obtain ⟨ad, cap, rfl, hlc, hm, h⟩ := h
  unfold maxLen at hm
  rcases h with rfl | ⟨b, off, rfl, hcells⟩
  · simp only [List.length_nil]
    go_enter Tryd.func117, Tryd.ntmps117
    go_wp2
    go_loopw [5, 10] (fun n i wr => n = .int .i64 0 ∧ i = .int .i64 0 ∧ Below w.heap.size w wr) (fun _ i _ => 0)
    case atStart => exact ⟨rfl, rfl, Below.refl _ _⟩
    case round =>
      obtain ⟨rfl, rfl, hb⟩ := hrel
      go_wp2
      go_ret
      exact ⟨rfl, hb⟩
  · have HC : Hid (∀ i (h : i < ops.length), OpCells w b (off + i * 5) ops[i]) := hcells
    clear hcells
    go_enter Tryd.func117, Tryd.ntmps117
    go_wp2
    go_loopw [5, 10] (fun n i wr => ∃ k : Nat, k ≤ ops.length ∧ i = .int .i64 k ∧ n = .int .i64 (countL (ops.take k) d : Nat) ∧ Below w.heap.size w wr) (fun _ i _ => ops.length - (intOf i).toNat)
    case atStart => exact ⟨0, Nat.zero_le _, rfl, rfl, Below.refl _ _⟩
    case round =>
      obtain ⟨k, hk, rfl, rfl, hb⟩ := hrel
      by_cases hlt : k < ops.length
      · have hc := (HC.out k hlt).on hb
        have hs := countL_snoc (ops.take k) ops[k] d
        rw [← take_more ops k hlt] at hs
        have hle := countL_le (ops.take k) d
        have hlk : (ops.take k).length ≤ k := List.length_take_le _ _
        generalize ops[k] = o at hc hs
        obtain ⟨x0, x1, x2, x3, x4⟩ := o
        obtain ⟨c0, c1, c2, c3, c4⟩ := hc
        simp only at c0 c1 c2 c3 c4 hs
        have HS := hide hs
        clear hs
        by_cases hd : x0 = d
        · have hd' : (x0 == d) = true := by simp [hd]
          have HD := hide hd
          clear hd
          go_wp2
          go_roundw
          case rel => exact ⟨k + 1, by omega, by go_num, by rw [unhide HS, if_pos (unhide HD)]; go_num, hb.alloc hb.size _⟩
          case measure => simp [intOf]; omega
        · have hd' : (x0 == d) = false := by simp [hd]
          have HD := hide hd
          clear hd
          go_wp2
          go_roundw
          case rel => exact ⟨k + 1, by omega, by go_num, by rw [unhide HS, if_neg (unhide HD)]; simp, hb.alloc hb.size _⟩
          case measure => simp [intOf]; omega
      · have hke : k = ops.length := by omega
        subst hke
        go_wp2
        go_ret
        exact ⟨ret_int (by rw [List.take_length]), hb⟩

end Go.Proofs.YtjbgiepaehefpaaDoor
