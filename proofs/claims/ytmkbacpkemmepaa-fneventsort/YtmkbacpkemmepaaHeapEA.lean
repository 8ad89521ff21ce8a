/- impl's heap of events that has each once: putAll. -/
import Derived.Test.YtmkbacpkemmepaaHeapE9
import Derived.Test.YtmkbacpkemmepaaMapE
import Derived.Test.YtmkbacpkemmepaaHeld
import Derived.BigQuiet
namespace Go.Proofs.Ytmkbacpkemmepaa.E
open Go.RowKit
set_option linter.unusedVariables false
set_option linter.unusedSimpArgs false

/-- What is written lies in these blocks, or is new. -/
structure Touch (T : Nat → Prop) (w w' : World) : Prop where
  size : w.heap.size ≤ w'.heap.size
  other : ∀ b, b < w.heap.size → ¬ T b → w'.heap[b]? = w.heap[b]?
  below : ∀ B, B ≤ w.heap.size → (∀ b, T b → B ≤ b) → Below B w w'

theorem Touch.refl (T : Nat → Prop) (w : World) : Touch T w w := ⟨Nat.le_refl _, fun _ _ _ => rfl, fun B _ _ => Below.refl B w⟩
theorem Touch.ofBelow {T : Nat → Prop} {w w' : World} (h : Below w.heap.size w w') : Touch T w w' := ⟨h.size, fun b hb _ => h.block b hb, fun B hB _ => h.mono hB⟩
theorem Touch.ofBoth {q : Nat} {v : Value} {w w' : World} (h : Both q v w w') : Touch (fun x => x = q ∨ v.ownBlock = some x) w w' :=
  ⟨h.size, fun b hb hn => h.other b hb (fun e => hn (Or.inl e)) (fun e => hn (Or.inr e)), fun B hB hT => h.below B (hT q (Or.inl rfl)) hB (fun g hg => hT g (Or.inr hg))⟩
theorem Touch.ofGrown {b : Nat} {w w' : World} (h : w.grownBy w' (some b)) : Touch (fun x => x = b) w w' :=
  ⟨(Below.grown (B := 0) (Below.refl 0 w) h (Nat.zero_le _) (fun _ _ => Nat.zero_le _)).size, fun x hx hn => h.block x hx (fun e => hn (Option.some.inj e)), fun B hB hT => Below.grown (Below.refl B w) h hB (fun k hk => by
    obtain rfl : b = k := Option.some.inj hk
    exact hT b rfl)⟩
theorem Touch.then {T T' : Nat → Prop} {a b c : World} (h : Touch T a b) (k : Touch T' b c) (hT : ∀ x, T' x → T x ∨ a.heap.size ≤ x) : Touch T a c :=
  ⟨Nat.le_trans h.size k.size, fun x hx hn => (k.other x (Nat.lt_of_lt_of_le hx h.size) (fun e => by
      rcases hT x e with h1 | h1
      · exact hn h1
      · omega)).trans (h.other x hx hn), fun B hB hg => (h.below B hB hg).trans (k.below B (Nat.le_trans hB h.size) (fun x e => by
      rcases hT x e with h1 | h1
      · exact hg x h1
      · omega))⟩
theorem Touch.mono {T T' : Nat → Prop} {a b : World} (h : Touch T a b) (hT : ∀ x, T x → T' x) : Touch T' a b :=
  ⟨h.size, fun x hx hn => h.other x hx (fun e => hn (hT x e)), fun B hB hg => h.below B hB (fun x e => hg x (hT x e))⟩
theorem Touch.cell {T : Nat → Prop} {w w' : World} {b o : Nat} {u : Value} (h : Touch T w w') (hn : ¬ T b) (hc : w.cell? ⟨b, o, none⟩ = some u) : w'.cell? ⟨b, o, none⟩ = some u :=
  (World.cell?_of_block (a := ⟨b, o, none⟩) (h.other b (World.block_lt_of_cell? w ⟨b, o, none⟩ hc) hn)).trans hc

/-- The heap of events at block q, its list at v, its map at block b. -/
structure EvHeap (N q b : Nat) (v : Value) (w : World) (xs : List EvV) : Prop where
  m : HeapM N 24 q v w xs
  fz : ∀ i, w.frozen? ⟨q, i, none⟩ = false
  c2 : w.cell? ⟨q, 2, none⟩ = some (.map (some b))
  mp : ∃ ks, MapOf w b ks ∧ xs.Perm ks
  hp : Heap evLess xs
  nd : xs.Nodup
  bq : b ≠ q
  bv : v.ownBlock ≠ some b
  nb : N ≤ b
  nq : N ≤ q
  ns : N ≤ w.heap.size

/-- The blocks that it lies in. -/
def Its (q b : Nat) (v : Value) (x : Nat) : Prop := x = q ∨ x = b ∨ v.ownBlock = some x

theorem EvHeap.block {N q b : Nat} {v : Value} {w w' : World} {xs : List EvV} (h : EvHeap N q b v w xs) (hs : w.heap.size ≤ w'.heap.size) (hk : ∀ x, Its q b v x → w'.heap[x]? = w.heap[x]?) : EvHeap N q b v w' xs := by
  obtain ⟨ks, h1, h2⟩ := h.mp
  exact ⟨h.m.block (hk q (Or.inl rfl)) (fun g hg => hk g (Or.inr (Or.inr hg))), frozen_block (hk q (Or.inl rfl)) h.fz, (World.cell?_of_block (a := ⟨q, 2, none⟩) (hk q (Or.inl rfl))).trans h.c2, ⟨ks, h1.block (hk b (Or.inr (Or.inl rfl))), h2⟩, h.hp, h.nd, h.bq, h.bv, h.nb, h.nq, Nat.le_trans h.ns hs⟩

theorem EvHeap.its {N q b : Nat} {v : Value} {w : World} {xs : List EvV} (h : EvHeap N q b v w xs) : ∀ x, Its q b v x → N ≤ x ∧ x < w.heap.size := fun x hx => by
  rcases hx with rfl | rfl | hx
  · exact ⟨h.nq, World.block_lt_of_cell? w ⟨x, 0, none⟩ h.m.c0⟩
  · obtain ⟨ks, h1, _⟩ := h.mp
    exact ⟨h.nb, h1.lt⟩
  · exact h.m.rows.blk x hx

theorem EvHeap.on {N q b : Nat} {v : Value} {w w' : World} {xs : List EvV} (hb : Below w.heap.size w w') (h : EvHeap N q b v w xs) : EvHeap N q b v w' xs :=
  h.block hb.size (fun x hx => hb.block x (h.its x hx).2)

theorem look_yes {w : World} {b : Nat} {ks : List EvV} {e : EvV} (h : MapOf w b ks) (he : e ∈ ks) : (Instr.lookup 70 (.map (some b)) (evAgg e) false).run Try.prog w = .ok (.int .i64 1) w := by
  rcases look_row h e with ⟨h1, _⟩ | ⟨_, h2⟩
  · exact absurd he h1
  · exact h2
theorem look_no {w : World} {b : Nat} {ks : List EvV} {e : EvV} (h : MapOf w b ks) (he : ¬ e ∈ ks) : (Instr.lookup 70 (.map (some b)) (evAgg e) false).run Try.prog w = .ok (.int .i64 0) w := by
  rcases look_row h e with ⟨_, h2⟩ | ⟨h1, _⟩
  · exact h2
  · exact absurd h1 he

theorem rowOfEvent_on (e : EvV) (w : World) : Calls Try.prog 34 #[evAgg e] w fun r w' => r = .returned (evAgg e) ∧ Below w.heap.size w w' :=
  (rowOfEvent_any e.time e.to e.src e.count e.n e.kind e.arg w).mono fun r w' ⟨h1, h2⟩ => ⟨h1, by subst h2; exact ((Below.refl _ _).alloc (Nat.le_refl _) _).alloc (by simp) _⟩

/-- An event's cells at a block. -/
def At7 (w : World) (r : Nat) (e : EvV) : Prop := w.cell? ⟨r, 0, none⟩ = some (.int .i64 e.time) ∧ w.cell? ⟨r, 1, none⟩ = some (.int .i64 e.to) ∧ w.cell? ⟨r, 2, none⟩ = some (.int .i64 e.src) ∧ w.cell? ⟨r, 3, none⟩ = some (.int .i64 e.count) ∧ w.cell? ⟨r, 4, none⟩ = some (.int .i64 e.n) ∧ w.cell? ⟨r, 5, none⟩ = some (.int .i64 e.kind) ∧ w.cell? ⟨r, 6, none⟩ = some (.int .i64 e.arg)

theorem At7.on {w w' : World} {r : Nat} {e : EvV} (hb : Below w.heap.size w w') (h : At7 w r e) : At7 w' r e :=
  ⟨cell_on hb h.1, cell_on hb h.2.1, cell_on hb h.2.2.1, cell_on hb h.2.2.2.1, cell_on hb h.2.2.2.2.1, cell_on hb h.2.2.2.2.2.1, cell_on hb h.2.2.2.2.2.2⟩
theorem At7.block {w w' : World} {r : Nat} {e : EvV} (hb : w'.heap[r]? = w.heap[r]?) (h : At7 w r e) : At7 w' r e :=
  ⟨(World.cell?_of_block (a := ⟨r, 0, none⟩) hb).trans h.1, (World.cell?_of_block (a := ⟨r, 1, none⟩) hb).trans h.2.1, (World.cell?_of_block (a := ⟨r, 2, none⟩) hb).trans h.2.2.1, (World.cell?_of_block (a := ⟨r, 3, none⟩) hb).trans h.2.2.2.1, (World.cell?_of_block (a := ⟨r, 4, none⟩) hb).trans h.2.2.2.2.1, (World.cell?_of_block (a := ⟨r, 5, none⟩) hb).trans h.2.2.2.2.2.1, (World.cell?_of_block (a := ⟨r, 6, none⟩) hb).trans h.2.2.2.2.2.2⟩
theorem at7_new (w : World) (e : EvV) (t : TypeId) : At7 (w.alloc (.cells #[.int .i64 e.time, .int .i64 e.to, .int .i64 e.src, .int .i64 e.count, .int .i64 e.n, .int .i64 e.kind, .int .i64 e.arg] t)) w.heap.size e :=
  ⟨by simp [go_sem], by simp [go_sem], by simp [go_sem], by simp [go_sem], by simp [go_sem], by simp [go_sem], by simp [go_sem]⟩

set_option maxRecDepth 100000 in
set_option maxHeartbeats 1000000 in
theorem putAll_any (S : Strict evLess) (N q b : Nat) (v vl : Value) (xs es : List EvV) (w : World) (h : EvHeap N q b v w xs) (hl : RowsAt 7 w vl (es.map evRow)) (hla : es ≠ [] → ∀ ad n c, vl = .slice (some ad) n c → ¬ Its q b v ad.block) (hx : xs.length + es.length ≤ 1000000000) :
    Calls Try.prog 61 #[.pointer (some ⟨q, 0, none⟩), vl] w fun e w' => e = .returned (.tuple #[]) ∧ ∃ v' xs', EvHeap N q b v' w' xs' ∧ (∀ a, a ∈ xs' ↔ a ∈ xs ∨ a ∈ es) ∧ xs'.length ≤ xs.length + es.length ∧ Touch (Its q b v) w w' ∧ (∀ g, v'.ownBlock = some g → v.ownBlock = some g ∨ w.heap.size ≤ g) := by
  obtain ⟨ad, cap, rfl, hlc, hm, hc⟩ := hl
  rw [List.length_map] at *
  unfold maxLen at hm
  have HC := hide hc
  have HH := hide h
  have HN := hide hla
  clear hc h hla
  go_enter Try.func61, Try.ntmps61
  go_wp2_with fail
  go_loopw [9] (fun i wr => ∃ (k : Nat) (ys : List EvV) (u : Value), k ≤ es.length ∧ i = .int .i64 k ∧ ys.length ≤ xs.length + k ∧ Hid (EvHeap N q b u wr ys) ∧ Hid (∀ a, a ∈ ys ↔ a ∈ xs ∨ a ∈ es.take k) ∧ Hid (Touch (Its q b v) w wr) ∧ Hid (∀ g, u.ownBlock = some g → v.ownBlock = some g ∨ w.heap.size ≤ g)) (fun i _ => es.length - (intOf i).toNat)
  case atStart => exact ⟨0, xs, v, Nat.zero_le _, rfl, Nat.le_refl _, HH, hide (by simp), hide (Touch.refl _ _), hide (fun g hg => Or.inl hg)⟩
  case round =>
    obtain ⟨k, ys, u, hk, rfl, hyl, HE, HS, HT, HU⟩ := hrel
    by_cases hlt : k < es.length
    · have hkI : (k : Int) < (es.length : Int) := by omega
      have hk0 : (0 : Int) ≤ (k : Int) := by omega
      obtain ⟨c, off, had, hcell⟩ : ∃ c off, ad = some ⟨c, off, none⟩ ∧ ∀ j, j < 7 → wr.cell? ⟨c, off + k * 7 + j, none⟩ = some (.int .i64 ((evRow es[k]).getD j 0)) := by
        rcases unhide HC with h | ⟨c, off, h1, h2⟩
        · rw [List.map_eq_nil_iff] at h; subst h; simp at hlt
        · refine ⟨c, off, h1, fun j hj => ?_⟩
          have e := h2 k (by rw [List.length_map]; exact hlt) j hj
          rw [List.getElem_map] at e
          exact (unhide HT).cell ((unhide HN) (fun e => by subst e; simp at hlt) ⟨c, off, none⟩ _ _ (by rw [h1])) e
      subst had
      have HXK : Hid (es.take (k + 1) = es.take k ++ [es[k]]) := hide (take_more es k hlt)
      generalize es[k] = x at *
      have p0 := hcell 0 (by omega)
      have p1 := hcell 1 (by omega)
      have p2 := hcell 2 (by omega)
      have p3 := hcell 3 (by omega)
      have p4 := hcell 4 (by omega)
      have p5 := hcell 5 (by omega)
      have p6 := hcell 6 (by omega)
      simp [evRow] at p0 p1 p2 p3 p4 p5 p6
      clear hcell
      go_wp2_with fail
      have hb1 : Below wr.heap.size wr (wr.alloc (.cells #[.int .i64 x.time, .int .i64 x.to, .int .i64 x.src, .int .i64 x.count, .int .i64 x.n, .int .i64 x.kind, .int .i64 x.arg] 24)) := (Below.refl _ _).alloc (Nat.le_refl _) _
      have hA1 := at7_new wr x 24
      refine (rowOfEvent_on x _).mono ?_
      rintro e w2 ⟨rfl, hb2⟩
      have hb3 : Below w2.heap.size w2 (w2.alloc (.cells #[.int .i64 x.time, .int .i64 x.to, .int .i64 x.src, .int .i64 x.count, .int .i64 x.n, .int .i64 x.kind, .int .i64 x.arg] 63)) := (Below.refl _ _).alloc (Nat.le_refl _) _
      have HA5 := hide ((hA1.on hb2).on hb3)
      have HA6 := hide (at7_new w2 x 63)
      have HB3 := hide (below_then (below_then hb1 hb2) hb3)
      have h56 : wr.heap.size < w2.heap.size := by have := hb2.size; simp at this; omega
      clear hb1 hA1 hb2 hb3 p0 p1 p2 p3 p4 p5 p6
      go_upto_region 4 with fail
      generalize w2.alloc (.cells #[.int .i64 x.time, .int .i64 x.to, .int .i64 x.src, .int .i64 x.count, .int .i64 x.n, .int .i64 x.kind, .int .i64 x.arg] 63) = W3 at *
      have hE3 := (unhide HE).on (unhide HB3)
      obtain ⟨ks, hmk, hpk⟩ := hE3.mp
      have c2 := hE3.c2
      have HM3 := hide hE3
      have HMK := hide hmk
      have HPK := hide hpk
      have hbl : b < W3.heap.size := hmk.lt
      clear hE3 hmk hpk
      have y2 : ∀ y : On W3, y.y.cell? ⟨q, 2, none⟩ = some (.map (some b)) := fun y => cell_on y.h c2
      have y60 : ∀ y : On W3, y.y.cell? ⟨w2.heap.size, 0, none⟩ = some (.int .i64 x.time) := fun y => cell_on y.h (unhide HA6).1
      have y61 : ∀ y : On W3, y.y.cell? ⟨w2.heap.size, 1, none⟩ = some (.int .i64 x.to) := fun y => cell_on y.h (unhide HA6).2.1
      have y62 : ∀ y : On W3, y.y.cell? ⟨w2.heap.size, 2, none⟩ = some (.int .i64 x.src) := fun y => cell_on y.h (unhide HA6).2.2.1
      have y63 : ∀ y : On W3, y.y.cell? ⟨w2.heap.size, 3, none⟩ = some (.int .i64 x.count) := fun y => cell_on y.h (unhide HA6).2.2.2.1
      have y64 : ∀ y : On W3, y.y.cell? ⟨w2.heap.size, 4, none⟩ = some (.int .i64 x.n) := fun y => cell_on y.h (unhide HA6).2.2.2.2.1
      have y65 : ∀ y : On W3, y.y.cell? ⟨w2.heap.size, 5, none⟩ = some (.int .i64 x.kind) := fun y => cell_on y.h (unhide HA6).2.2.2.2.2.1
      have y66 : ∀ y : On W3, y.y.cell? ⟨w2.heap.size, 6, none⟩ = some (.int .i64 x.arg) := fun y => cell_on y.h (unhide HA6).2.2.2.2.2.2
      have hne3 : Nonempty (On W3) := ⟨⟨W3, Below.refl _ _⟩⟩
      by_cases hin : x ∈ ks
      · have hiny : x ∈ ys := (unhide HPK).mem_iff.2 hin
        have yl : ∀ y : On W3, (Instr.lookup 70 (.map (some b)) (.agg #[.int .i64 x.time, .int .i64 x.to, .int .i64 x.src, .int .i64 x.count, .int .i64 x.n, .int .i64 x.kind, .int .i64 x.arg]) false).run Try.prog y.y = .ok (.int .i64 1) y.y := fun y => look_yes ((unhide HMK).block (y.h.block b hbl)) hin
        refine wp_region_on (by kernel_rfl) (by kernel_rfl) ?_
        repeat (first | go_big_quiet_step (fail) | quiet_step (fail))
        refine wpQuiet_nil ?_
        intro _ hw'
        obtain ⟨nq, hw''⟩ := hw'
        subst hw''
        clear y2 y60 y61 y62 y63 y64 y65 y66 yl
        go_wp2_with fail
        go_roundw
        case rel =>
          refine ⟨k + 1, ys, u, by omega, by simp, by omega, hide ((unhide HM3).on nq.h), hide (fun a => ?_), hide ((unhide HT).then (Touch.ofBelow (T := fun _ => False) (below_then (unhide HB3) nq.h)) (fun x hx => hx.elim)), HU⟩
          rw [unhide HXK, (unhide HS) a, List.mem_append, List.mem_singleton]
          constructor
          · rintro (h | h)
            · exact Or.inl h
            · exact Or.inr (Or.inl h)
          · rintro (h | h | rfl)
            · exact Or.inl h
            · exact Or.inr h
            · exact (unhide HS) a |>.1 hiny
        case measure => simp [intOf]; omega
      · have hiny : ¬ x ∈ ys := fun h => hin ((unhide HPK).mem_iff.1 h)
        have yl : ∀ y : On W3, (Instr.lookup 70 (.map (some b)) (.agg #[.int .i64 x.time, .int .i64 x.to, .int .i64 x.src, .int .i64 x.count, .int .i64 x.n, .int .i64 x.kind, .int .i64 x.arg]) false).run Try.prog y.y = .ok (.int .i64 0) y.y := fun y => look_no ((unhide HMK).block (y.h.block b hbl)) hin
        refine wp_region_on (by kernel_rfl) (by kernel_rfl) ?_
        repeat (first | go_big_quiet_step (fail) | quiet_step (fail))
        refine wpQuiet_nil ?_
        intro _ hw'
        obtain ⟨nq, hw''⟩ := hw'
        subst hw''
        clear y2 y60 y61 y62 y63 y64 y65 y66 yl
        have hB4 := below_then (unhide HB3) nq.h
        have hE4 := (unhide HM3).on nq.h
        have hM4 := (unhide HMK).block (nq.h.block b hbl)
        have hA54 := (unhide HA5).on nq.h
        have hA64 := (unhide HA6).on nq.h
        generalize nq.y = W4 at *
        have HB4 := hide hB4
        have HE4 := hide hE4
        have HM4 := hide hM4
        have HA54 := hide hA54
        have HA64 := hide hA64
        clear hB4 hE4 hM4 hA54 hA64 HM3 HMK HA5 HA6 HB3
        go_upto_region 5 with fail
        obtain ⟨W5, hrun, hmo5, hgr5⟩ := put_row (w := W4.drew) (b := b) (ks := ks) (unhide HM4) x hin
        refine wp_region_last (L := 5) (S := fun w' : World => w'.cell? ⟨q, 2, none⟩ = some (.map (some b)) ∧ w'.cell? ⟨w2.heap.size, 0, none⟩ = some (.int .i64 x.time) ∧ w'.cell? ⟨w2.heap.size, 1, none⟩ = some (.int .i64 x.to) ∧ w'.cell? ⟨w2.heap.size, 2, none⟩ = some (.int .i64 x.src) ∧ w'.cell? ⟨w2.heap.size, 3, none⟩ = some (.int .i64 x.count) ∧ w'.cell? ⟨w2.heap.size, 4, none⟩ = some (.int .i64 x.n) ∧ w'.cell? ⟨w2.heap.size, 5, none⟩ = some (.int .i64 x.kind) ∧ w'.cell? ⟨w2.heap.size, 6, none⟩ = some (.int .i64 x.arg)) (by kernel_rfl) ?_
        have hHeld : (fun w' : World => w'.cell? ⟨q, 2, none⟩ = some (.map (some b)) ∧ w'.cell? ⟨w2.heap.size, 0, none⟩ = some (.int .i64 x.time) ∧ w'.cell? ⟨w2.heap.size, 1, none⟩ = some (.int .i64 x.to) ∧ w'.cell? ⟨w2.heap.size, 2, none⟩ = some (.int .i64 x.src) ∧ w'.cell? ⟨w2.heap.size, 3, none⟩ = some (.int .i64 x.count) ∧ w'.cell? ⟨w2.heap.size, 4, none⟩ = some (.int .i64 x.n) ∧ w'.cell? ⟨w2.heap.size, 5, none⟩ = some (.int .i64 x.kind) ∧ w'.cell? ⟨w2.heap.size, 6, none⟩ = some (.int .i64 x.arg)) (World.drew W4) := ⟨(unhide HE4).c2, unhide HA64⟩
        refine wpAnyL_take (i := 0) (v := ?_) (by kernel_rfl) rfl (by kernel_rfl) (by kernel_rfl) (by kernel_rfl) (fun _ _ _ h => h) hHeld (Or.inl ⟨by kernel_rfl, ?_⟩) ?_
        rotate_left
        · (intro w hSw; (try dsimp only at hSw); obtain ⟨s0, s1, s2, s3, s4, s5, s6, s7⟩ := hSw; go_simp; try with_reducible rfl)
        refine wpAnyL_take (i := 1) (v := ?_) (by kernel_rfl) rfl (by kernel_rfl) (by kernel_rfl) (by kernel_rfl) (fun _ _ _ h => h) hHeld (Or.inl ⟨by kernel_rfl, ?_⟩) ?_
        rotate_left
        · (intro w hSw; (try dsimp only at hSw); obtain ⟨s0, s1, s2, s3, s4, s5, s6, s7⟩ := hSw; go_simp; try with_reducible rfl)
        refine wpAnyL_take (i := 2) (v := ?_) (by kernel_rfl) rfl (by kernel_rfl) (by kernel_rfl) (by kernel_rfl) (fun _ _ _ h => h) hHeld (Or.inl ⟨by kernel_rfl, ?_⟩) ?_
        rotate_left
        · (intro w hSw; (try dsimp only at hSw); obtain ⟨s0, s1, s2, s3, s4, s5, s6, s7⟩ := hSw; go_simp; try with_reducible rfl)
        refine wpAnyL_take (i := 3) (v := ?_) (by kernel_rfl) rfl (by kernel_rfl) (by kernel_rfl) (by kernel_rfl) (fun _ _ _ h => h) hHeld (Or.inl ⟨by kernel_rfl, ?_⟩) ?_
        rotate_left
        · (intro w hSw; (try dsimp only at hSw); obtain ⟨s0, s1, s2, s3, s4, s5, s6, s7⟩ := hSw; go_simp; try with_reducible rfl)
        refine wpAnyL_take (i := 4) (v := ?_) (by kernel_rfl) rfl (by kernel_rfl) (by kernel_rfl) (by kernel_rfl) (fun _ _ _ h => h) hHeld (Or.inl ⟨by kernel_rfl, ?_⟩) ?_
        rotate_left
        · (intro w hSw; (try dsimp only at hSw); obtain ⟨s0, s1, s2, s3, s4, s5, s6, s7⟩ := hSw; go_simp; try with_reducible rfl)
        refine wpAnyL_end (by kernel_rfl) rfl (fun K hK => ?_)
        go_simp
        refine hK.out _ _ ?_
        clear hK K hHeld hrun
        refine wpAnyL_done (by kernel_rfl) ?_ _
        have hq4 := (unhide HE4).its q (Or.inl rfl)
        have hbq := (unhide HE4).bq
        have hk5 : ∀ z, z < W4.heap.size → z ≠ b → W5.heap[z]? = W4.heap[z]? := fun z hz hzb => hgr5.block z hz (fun e => hzb (Option.some.inj e))
        have hs5 : W4.heap.size ≤ W5.heap.size := hgr5.size
        have h5q := hk5 q hq4.2 (fun e => hbq e.symm)
        have hm5 := (unhide HE4).m.block h5q (fun g hg => hk5 g ((unhide HE4).its g (Or.inr (Or.inr hg))).2 (fun e => (unhide HE4).bv (by rw [← e]; exact hg)))
        have hf5 := frozen_block h5q (unhide HE4).fz
        have hc5 := (World.cell?_of_block (a := ⟨q, 2, none⟩) h5q).trans (unhide HE4).c2
        have hr5 : wr.heap.size < W4.heap.size := World.block_lt_of_cell? W4 ⟨wr.heap.size, 0, none⟩ (unhide HA54).1
        have hb5 : wr.heap.size ≠ b := fun e => by
          have := ((unhide HE).its b (Or.inr (Or.inl rfl))).2; omega
        have hA55 := (unhide HA54).block (hk5 _ hr5 hb5)
        have HM5 := hide hm5
        have HF5 := hide hf5
        have HC5 := hide hc5
        have HA55 := hide hA55
        have HMO5 := hide hmo5
        have HG5 := hide hgr5
        clear hm5 hf5 hc5 hA55 hmo5 hgr5 hk5 h5q
        go_upto_region 6 with fail
        refine wp_region_held_drew (S := fun w' : World => w'.cell? ⟨wr.heap.size, 0, none⟩ = some (.int .i64 x.time) ∧ w'.cell? ⟨wr.heap.size, 1, none⟩ = some (.int .i64 x.to) ∧ w'.cell? ⟨wr.heap.size, 2, none⟩ = some (.int .i64 x.src) ∧ w'.cell? ⟨wr.heap.size, 3, none⟩ = some (.int .i64 x.count) ∧ w'.cell? ⟨wr.heap.size, 4, none⟩ = some (.int .i64 x.n) ∧ w'.cell? ⟨wr.heap.size, 5, none⟩ = some (.int .i64 x.kind) ∧ w'.cell? ⟨wr.heap.size, 6, none⟩ = some (.int .i64 x.arg)) (by kernel_rfl) (unhide HA55) (fun hHeld => ?_)
        refine wpAnyH_take (i := 0) (v := ?_) rfl (by kernel_rfl) (by kernel_rfl) (by kernel_rfl) (fun _ _ _ h => h) (Or.inl ⟨by kernel_rfl, ?_⟩) hHeld ?_
        rotate_left
        · (intro w hSw; (try dsimp only at hSw); obtain ⟨s0, s1, s2, s3, s4, s5, s6⟩ := hSw; go_simp; try with_reducible rfl)
        refine wpAnyH_take (i := 1) (v := ?_) rfl (by kernel_rfl) (by kernel_rfl) (by kernel_rfl) (fun _ _ _ h => h) (Or.inl ⟨by kernel_rfl, ?_⟩) hHeld ?_
        rotate_left
        · (intro w hSw; (try dsimp only at hSw); obtain ⟨s0, s1, s2, s3, s4, s5, s6⟩ := hSw; go_simp; try with_reducible rfl)
        refine wpAnyH_take (i := 2) (v := ?_) rfl (by kernel_rfl) (by kernel_rfl) (by kernel_rfl) (fun _ _ _ h => h) (Or.inl ⟨by kernel_rfl, ?_⟩) hHeld ?_
        rotate_left
        · (intro w hSw; (try dsimp only at hSw); obtain ⟨s0, s1, s2, s3, s4, s5, s6⟩ := hSw; go_simp; try with_reducible rfl)
        refine wpAnyH_take (i := 3) (v := ?_) rfl (by kernel_rfl) (by kernel_rfl) (by kernel_rfl) (fun _ _ _ h => h) (Or.inl ⟨by kernel_rfl, ?_⟩) hHeld ?_
        rotate_left
        · (intro w hSw; (try dsimp only at hSw); obtain ⟨s0, s1, s2, s3, s4, s5, s6⟩ := hSw; go_simp; try with_reducible rfl)
        refine wpAnyH_ready (rs := [4]) (by kernel_rfl) (by simp) ?_
        refine AllReadyH.cons rfl (fun K hK => ?_) AllReadyH.nil
        go_simp
        refine (putEv_any S N q u ys x W5.drew ((unhide HM5).on (Below.refl _ _).drew) (unhide HF5) (unhide HE4).hp (Nat.le_trans (unhide HE4).ns hs5) (by omega)).mono ?_
        rintro e w6 ⟨rfl, u', ys', hp6, hh6, hm6, hb6, hv6, hf6, hk6⟩
        go_wp2_with fail
        have hr5q : wr.heap.size ≠ q := fun e => by have := ((unhide HE).its q (Or.inl rfl)).2; omega
        have hr5u : u.ownBlock ≠ some wr.heap.size := fun e => by have := ((unhide HE).its _ (Or.inr (Or.inr e))).2; omega
        refine hK.out _ _ ((unhide HA55).block (w := W5.drew) (hb6.other wr.heap.size (Nat.lt_of_lt_of_le hr5 hs5) hr5q hr5u)) (fun _ => ?_)
        clear hK K hHeld
        refine wpAnyH_done (by kernel_rfl) ?_ _
        have hbl5 : b < W5.heap.size := Nat.lt_of_lt_of_le ((unhide HE4).its b (Or.inr (Or.inl rfl))).2 hs5
        have hE6 : EvHeap N q b u' w6 ys' := by
          refine ⟨hm6, hf6, hk6 2 _ (by omega) (unhide HC5), ⟨ks ++ [x], (unhide HMO5).block (hb6.other b hbl5 hbq (unhide HE4).bv), hp6.trans (List.Perm.append_right [x] (unhide HPK))⟩, hh6, ?_, hbq, fun e => ?_, (unhide HE4).nb, (unhide HE4).nq, Nat.le_trans (unhide HE4).ns (Nat.le_trans hs5 hb6.size)⟩
          · refine hp6.nodup_iff.2 (List.nodup_append.2 ⟨(unhide HE4).nd, by simp, fun a ha c hc => ?_⟩)
            obtain rfl : c = x := by simpa using hc
            exact fun e => hiny (e ▸ ha)
          · rcases hv6 b e with h | h
            · exact (unhide HE4).bv h
            · exact Nat.lt_irrefl _ (Nat.lt_of_lt_of_le hbl5 h)
        have hT6 : Touch (Its q b v) w w6 := by
          have t1 : Touch (Its q b u) wr W4.drew := Touch.ofBelow (unhide HB4).drew
          have t2 : Touch (Its q b u) wr W5 := t1.then (Touch.ofGrown (unhide HG5)) (fun z hz => Or.inl (Or.inr (Or.inl hz)))
          have t2' : Touch (Its q b u) wr W5.drew := t2.then (Touch.ofBelow (T := fun _ => False) (Below.refl _ _).drew) (fun z hz => hz.elim)
          have t3 : Touch (Its q b u) wr w6 := t2'.then (Touch.ofBoth hb6) (fun z hz => Or.inl (by
            rcases hz with h | h
            · exact Or.inl h
            · exact Or.inr (Or.inr h)))
          refine (unhide HT).then t3 (fun z hz => ?_)
          rcases hz with h | h | h
          · exact Or.inl (Or.inl h)
          · exact Or.inl (Or.inr (Or.inl h))
          · rcases (unhide HU) z h with h | h
            · exact Or.inl (Or.inr (Or.inr h))
            · exact Or.inr h
        have hU6 : ∀ g, u'.ownBlock = some g → v.ownBlock = some g ∨ w.heap.size ≤ g := fun g hg => by
          rcases hv6 g hg with h | h
          · exact (unhide HU) g h
          · exact Or.inr (Nat.le_trans (unhide HT).size (Nat.le_trans (unhide HB4).size (Nat.le_trans hs5 h)))
        have hl6 : ys'.length = ys.length + 1 := by rw [hp6.length_eq, List.length_append]; rfl
        have HE6 := hide hE6
        have HT6 := hide hT6
        have HU6 := hide hU6
        have HS6 : Hid (∀ a, a ∈ ys' ↔ a ∈ xs ∨ a ∈ es.take (k + 1)) := hide (fun a => by
          rw [unhide HXK, hp6.mem_iff, List.mem_append, List.mem_append, (unhide HS) a, or_assoc])
        have hl7 : ys'.length ≤ xs.length + (k + 1) := by omega
        clear hE6 hT6 hU6 hp6 hh6 hm6 hb6 hv6 hf6 hk6 hl6
        go_wp2_with fail
        go_roundw
        case rel => exact ⟨k + 1, ys', u', by omega, by simp, hl7, HE6, HS6, HT6, HU6⟩
        case measure => simp [intOf]; omega
    · have hke : k = es.length := by omega
      go_wp2_with fail
      (try simp only [Exit.inBlock, Exit.then])
      refine bodyPost_end (results_none rfl _ _ _) rfl ?_
      refine ⟨rfl, u, ys, unhide HE, fun a => ?_, by omega, unhide HT, unhide HU⟩
      rw [(unhide HS) a, hke, List.take_length]
end Go.Proofs.Ytmkbacpkemmepaa.E
