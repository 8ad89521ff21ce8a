/- A region that draws its order: what is left of it but its last operation, each operation walked once, under an invariant. No Go text is walked here. -/
import Derived.Test.YtimkamgghkjhhaaHeld
namespace Go.Proofs.Ytimkamgghkjhhaa

def upd (u : Nat → Value) (i : Nat) (v : Value) : Nat → Value := fun j => if j = i then v else u j
theorem upd_same (u : Nat → Value) (i : Nat) (v : Value) : upd u i v i = v := by simp [upd]
theorem upd_other (u : Nat → Value) {i j : Nat} (v : Value) (h : j ≠ i) : upd u i v j = u j := by simp [upd, h]

/-- The frame's slots, with the answer of operation p.1 in slot p.2. -/
def setsT (t : Array Value) : List (Nat × Nat) → (Nat → Value) → Array Value
  | [], _ => t
  | p :: ps, u => (setsT t ps u).setIfInBounds p.2 (u p.1)
def setsA (a : Act) (ps : List (Nat × Nat)) (u : Nat → Value) : Act := ⟨setsT a.tmps ps u, a.defers⟩

theorem setsT_congr (t : Array Value) : ∀ (ps : List (Nat × Nat)) (u u' : Nat → Value), (∀ p ∈ ps, u p.1 = u' p.1) → setsT t ps u = setsT t ps u'
  | [], _, _, _ => rfl
  | p :: ps, u, u', h => by
    simp only [setsT]
    rw [setsT_congr t ps u u' (fun q hq => h q (List.mem_cons_of_mem _ hq)), h p (List.mem_cons_self ..)]

theorem setsT_upd (t : Array Value) (i d : Nat) (v : Value) : ∀ (ps : List (Nat × Nat)) (u : Nat → Value), (ps.map Prod.fst).Nodup → (ps.map Prod.snd).Nodup → (i, d) ∈ ps →
    (setsT t ps u).setIfInBounds d v = setsT t ps (upd u i v)
  | [], _, _, _, h => by cases h
  | p :: ps, u, h1, h2, h => by
    simp only [List.map_cons, List.nodup_cons] at h1 h2
    simp only [setsT]
    rcases List.mem_cons.1 h with rfl | h
    · rw [upd_same, ← setsT_congr t ps u (upd u i v) (fun q hq => (upd_other u v (fun e => h1.1 (List.mem_map.2 ⟨q, hq, e⟩))).symm)]
      simp
    · have hne : d ≠ p.2 := fun e => h2.1 (e ▸ List.mem_map_of_mem (f := Prod.snd) h)
      have hne1 : p.1 ≠ i := fun e => h1.1 (e ▸ List.mem_map_of_mem (f := Prod.fst) h)
      rw [upd_other u v hne1, Array.setIfInBounds_comm _ _ (Ne.symm hne), setsT_upd t i d v ps u h1.2 h2.2 h]

theorem setsT_self (t : Array Value) : ∀ (ps : List (Nat × Nat)) (u : Nat → Value), (∀ p ∈ ps, ∀ (h : p.2 < t.size), u p.1 = t[p.2]) → setsT t ps u = t
  | [], _, _ => rfl
  | p :: ps, u, h => by
    simp only [setsT]
    rw [setsT_self t ps u (fun q hq => h q (List.mem_cons_of_mem _ hq))]
    have hp := h p (List.mem_cons_self ..)
    apply Array.ext
    · simp
    · intro j h1 h2
      rw [Array.getElem_setIfInBounds]
      split
      · rename_i e; subst e; exact hp h2
      · rfl

theorem sets_first (t : Array Value) : ∀ (ps : List (Nat × Nat)), (ps.map Prod.fst).Nodup → ∃ u : Nat → Value, ∀ p ∈ ps, ∀ (h : p.2 < t.size), u p.1 = t[p.2]
  | [], _ => ⟨fun _ => undef, fun p hp => by cases hp⟩
  | p :: ps, h => by
    simp only [List.map_cons, List.nodup_cons] at h
    obtain ⟨u, hu⟩ := sets_first t ps h.2
    refine ⟨upd u p.1 (t.getD p.2 undef), fun q hq hlt => ?_⟩
    rcases List.mem_cons.1 hq with rfl | hq
    · rw [upd_same]; simp [hlt]
    · rw [upd_other u _ (fun e => h.1 (List.mem_map.2 ⟨q, hq, e⟩))]; exact hu q hq hlt

theorem setsT_size (t : Array Value) (u : Nat → Value) : ∀ ps : List (Nat × Nat), (setsT t ps u).size = t.size
  | [] => rfl
  | p :: ps => by simp [setsT, setsT_size t u ps]
theorem setsA_in {a : Act} {u : Nat → Value} {i d : Nat} : ∀ {ps : List (Nat × Nat)}, (ps.map Prod.snd).Nodup → (i, d) ∈ ps → d < a.tmps.size → (setsA a ps u).eval (.tmp d) = u i
  | [], _, h, _ => by cases h
  | p :: ps, hn, h, hd => by
    simp only [List.map_cons, List.nodup_cons] at hn
    show ((setsT a.tmps ps u).setIfInBounds p.2 (u p.1)).getD d undef = u i
    rcases List.mem_cons.1 h with rfl | h
    · simp [Array.getD_eq_getD_getElem?, setsT_size, hd]
    · have hne : p.2 ≠ d := fun e => hn.1 (List.mem_map.2 ⟨(i, d), h, e.symm⟩)
      rw [Array.getD_eq_getD_getElem?, Array.getElem?_setIfInBounds_ne hne, ← Array.getD_eq_getD_getElem?]
      exact setsA_in (a := a) hn.2 h hd
theorem setsA_out {a : Act} {u : Nat → Value} {d : Nat} : ∀ {ps : List (Nat × Nat)}, (ps.all fun p => !Nat.beq p.2 d) = true → (setsA a ps u).eval (.tmp d) = a.eval (.tmp d)
  | [], _ => rfl
  | p :: ps, h => by
    simp only [List.all_cons, Bool.and_eq_true, Bool.not_eq_true'] at h
    have hne : p.2 ≠ d := fun e => by rw [e] at h; simp at h
    show ((setsT a.tmps ps u).setIfInBounds p.2 (u p.1)).getD d undef = _
    rw [Array.getD_eq_getD_getElem?, Array.getElem?_setIfInBounds_ne hne, ← Array.getD_eq_getD_getElem?]
    exact setsA_out (a := a) h.2

def leftN (listed : Array Bool) (ps : List (Nat × Nat)) : Nat := ps.countP fun p => !listed.getD p.1 false
theorem leftN_set {listed : Array Bool} {i : Nat} (hi : listed[i]? = some false) : ∀ (ps : List (Nat × Nat)), (ps.map Prod.fst).Nodup → (∃ d, (i, d) ∈ ps) → leftN (listed.setIfInBounds i true) ps + 1 = leftN listed ps
  | [], _, ⟨_, h⟩ => by cases h
  | p :: ps, hn, ⟨d, h⟩ => by
    simp only [List.map_cons, List.nodup_cons] at hn
    have hlt : i < listed.size := (Array.getElem?_eq_some_iff.1 hi).1
    have hcongr : (¬ ∃ d, (i, d) ∈ ps) → leftN (listed.setIfInBounds i true) ps = leftN listed ps := fun hno => by
      unfold leftN
      refine List.countP_congr (fun q hq => ?_)
      have : i ≠ q.1 := fun e => hno ⟨q.2, by rw [e]; exact hq⟩
      rw [getD_set_ne false this]
    rcases List.mem_cons.1 h with rfl | h
    · have hno : ¬ ∃ d, (i, d) ∈ ps := fun ⟨d', h'⟩ => hn.1 (List.mem_map.2 ⟨(i, d'), h', rfl⟩)
      have h1 := hcongr hno
      unfold leftN at h1 ⊢
      rw [List.countP_cons, List.countP_cons, h1]
      have e1 : (listed.setIfInBounds i true).getD i false = true := by simp [hlt]
      have e2 : listed.getD i false = false := by simp [Array.getD_eq_getD_getElem?, hi]
      simp only [e1, e2]
      simp
    · have hne : i ≠ p.1 := fun e => hn.1 (e ▸ List.mem_map_of_mem (f := Prod.fst) h)
      have ih := leftN_set hi ps hn.2 ⟨d, h⟩
      unfold leftN at ih ⊢
      rw [List.countP_cons, List.countP_cons, getD_set_ne false hne]
      omega

theorem leftN_zero {listed : Array Bool} {ps : List (Nat × Nat)} (h : leftN listed ps = 0) : ∀ p ∈ ps, listed.getD p.1 false = true := fun p hp => by
  have := (List.countP_eq_zero.1 h) p hp
  simpa using this
theorem leftN_pos {listed : Array Bool} : ∀ (ps : List (Nat × Nat)) (k : Nat), leftN listed ps = k + 1 → ∃ p ∈ ps, listed.getD p.1 false = false ∧ ∀ q ∈ ps, q.1 < p.1 → listed.getD q.1 false = true := fun ps k h => by
  have key : ∀ (n : Nat) (p : Nat × Nat), p ∈ ps → p.1 ≤ n → listed.getD p.1 false = false → ∃ p ∈ ps, listed.getD p.1 false = false ∧ ∀ q ∈ ps, q.1 < p.1 → listed.getD q.1 false = true := by
    intro n
    induction n with
    | zero => exact fun p hp hn hf => ⟨p, hp, hf, fun q _ hq => by omega⟩
    | succ n ih =>
      intro p hp hn hf
      by_cases hex : ∃ q ∈ ps, q.1 < p.1 ∧ listed.getD q.1 false = false
      · obtain ⟨q, hq, hlt, hqf⟩ := hex
        exact ih q hq (by omega) hqf
      · refine ⟨p, hp, hf, fun q hq hlt => ?_⟩
        cases hb : listed.getD q.1 false
        · exact absurd ⟨q, hq, hlt, hb⟩ hex
        · rfl
  have hpos : 0 < ps.countP fun p => !listed.getD p.1 false := by unfold leftN at h; omega
  obtain ⟨p, hp, hf⟩ := List.countP_pos_iff.1 hpos
  exact key p.1 p hp (Nat.le_refl _) (by simpa using hf)

def allSet (listed : Array Bool) (ps : List (Nat × Nat)) : Array Bool := ps.foldl (fun l p => l.setIfInBounds p.1 true) listed
theorem allSet_size : ∀ (ps : List (Nat × Nat)) (listed : Array Bool), (allSet listed ps).size = listed.size
  | [], _ => rfl
  | p :: ps, listed => by
    show (allSet (listed.setIfInBounds p.1 true) ps).size = _
    rw [allSet_size ps]; simp
theorem allSet_other : ∀ (ps : List (Nat × Nat)) (listed : Array Bool) (j : Nat), j ∉ ps.map Prod.fst → (allSet listed ps)[j]? = listed[j]?
  | [], _, _, _ => rfl
  | p :: ps, listed, j, h => by
    simp only [List.map_cons, List.mem_cons, not_or] at h
    show (allSet (listed.setIfInBounds p.1 true) ps)[j]? = _
    rw [allSet_other ps _ j h.2, Array.getElem?_setIfInBounds_ne (Ne.symm h.1)]
theorem allSet_in : ∀ (ps : List (Nat × Nat)) (listed : Array Bool) (j : Nat), j ∈ ps.map Prod.fst → j < listed.size → (allSet listed ps)[j]? = some true
  | [], _, _, h, _ => by cases h
  | p :: ps, listed, j, h, hlt => by
    show (allSet (listed.setIfInBounds p.1 true) ps)[j]? = _
    by_cases hj : j ∈ ps.map Prod.fst
    · exact allSet_in ps _ j hj (by simpa using hlt)
    · rw [allSet_other ps _ j hj]
      simp only [List.map_cons, List.mem_cons] at h
      rcases h with rfl | h
      · simp [hlt]
      · exact absurd h hj

/-- Operation i waits for operation j, by an edge of its own. -/
def depB (md : Region.Mode) (ops : Array Oper) (i j : Nat) : Bool := waitsB md ops i j

section
variable {P : Program} {ops : Array Oper} {Q : Exit → Act → World → Prop} {md : Region.Mode} {S : World → Prop} {L : Nat}

def updN (f : Nat → Nat) (i v : Nat) : Nat → Nat := fun j => if j = i then v else f j
theorem updN_same (f : Nat → Nat) (i v : Nat) : updN f i v i = v := by simp [updN]
theorem updN_other (f : Nat → Nat) {i j : Nat} (v : Nat) (h : j ≠ i) : updN f i v j = f j := by simp [updN, h]

/-- What is known of the operations ps once they are done: what each has yielded, and that what each has made lies within its own blocks [lo, hi). -/
structure Done (D : Nat → Nat → Bool) (ps : List (Nat × Nat)) (B : Nat) (F : Nat → (Nat → Nat) → (Nat → Nat) → (Nat → Value) → World → Prop) (lo hi : Nat → Nat) (u : Nat → Value) (w : World) : Prop where
  f : ∀ q ∈ ps, F q.1 lo hi u w
  ge : ∀ q ∈ ps, B ≤ lo q.1
  le : ∀ q ∈ ps, lo q.1 ≤ hi q.1
  top : ∀ q ∈ ps, hi q.1 ≤ w.heap.size
  apart : ∀ p ∈ ps, ∀ q ∈ ps, p.1 ≠ q.1 → hi p.1 ≤ lo q.1 ∨ hi q.1 ≤ lo p.1
  ord : ∀ p ∈ ps, ∀ q ∈ ps, D p.1 q.1 = true → hi q.1 ≤ lo p.1
  size : B ≤ w.heap.size

def invB (md : Region.Mode) (ops : Array Oper) (L : Nat) (ps : List (Nat × Nat)) (listed0 : Array Bool) : Bool :=
  decide (ps.map Prod.fst).Nodup && decide (ps.map Prod.snd).Nodup &&
  (ps.all fun p => (ops[p.1]?).any (fun o => o.after.all fun e => !Region.binds md e || Nat.blt e.on p.1) && (listed0[p.1]?).any (fun b => !b) && waitsB md ops L p.1 && Nat.blt p.1 L) &&
  (List.range ops.size).all fun j => Nat.beq j L || (ps.any fun p => Nat.beq p.1 j) || (listed0[j]?).any fun b => b

theorem invB_spec {ps : List (Nat × Nat)} {listed0 : Array Bool} (h : invB md ops L ps listed0 = true) :
    (ps.map Prod.fst).Nodup ∧ (ps.map Prod.snd).Nodup ∧ (∀ p ∈ ps, ∃ o, ops[p.1]? = some o ∧ ∀ e ∈ o.after, Region.binds md e = true → e.on < p.1) ∧ (∀ p ∈ ps, listed0[p.1]? = some false) ∧
    (∀ j, j < ops.size → j ≠ L → j ∉ ps.map Prod.fst → listed0[j]? = some true) ∧ (∀ p ∈ ps, waitsB md ops L p.1 = true ∧ p.1 < L) := by
  simp only [invB, Bool.and_eq_true, decide_eq_true_eq, List.all_eq_true, Bool.or_eq_true, Nat.blt_eq, List.any_eq_true, Option.any_eq_true] at h
  obtain ⟨⟨⟨h1, h2⟩, h3⟩, h4⟩ := h
  refine ⟨h1, h2, fun p hp => ?_, fun p hp => ?_, fun j hj hL hn => ?_, fun p hp => ?_⟩
  · obtain ⟨⟨⟨⟨o, ho, hall⟩, _⟩, _⟩, _⟩ := h3 p hp
    refine ⟨o, ho, fun e he hb => ?_⟩
    have h5 := Array.all_eq_true_iff_forall_mem.1 hall e he
    simpa [hb] using h5
  · obtain ⟨⟨⟨_, ⟨b, hb, hf⟩⟩, _⟩, _⟩ := h3 p hp
    cases b
    · exact hb
    · cases hf
  · rcases h4 j (List.mem_range.2 hj) with (h5 | ⟨p, hp, h5⟩) | ⟨b, hb, h5⟩
    · exact absurd (Nat.eq_of_beq_eq_true h5) hL
    · exact absurd (List.mem_map.2 ⟨p, hp, Nat.eq_of_beq_eq_true h5⟩) hn
    · rw [hb, h5]
  · obtain ⟨⟨⟨_, _⟩, h5⟩, h6⟩ := h3 p hp
    exact ⟨h5, h6⟩

/-- Each operation of ps (number, slot) is walked once, from any world in which those that it waits for are done. -/
theorem wpAnyL_inv (ps : List (Nat × Nat)) (G : World → Prop) (R : World → World → Prop) (F : Nat → (Nat → Nat) → (Nat → Nat) → (Nat → Value) → World → Prop) {a0 : Act} {w0 : World} {listed0 : Array Bool} {m : Nat}
    (hinv : invB md ops L ps listed0 = true)
    (hsize : ∀ w w', R w w' → w.heap.size ≤ w'.heap.size)
    (hcong : ∀ p ∈ ps, ∀ lo hi u lo' hi' u' w, (∀ q, q = p.1 ∨ depB md ops p.1 q = true → lo q = lo' q ∧ hi q = hi' q ∧ u q = u' q) → F p.1 lo hi u w → F p.1 lo' hi' u' w)
    (hst : ∀ p ∈ ps, ∀ lo hi u w w', R w w' → hi p.1 ≤ w.heap.size → F p.1 lo hi u w → F p.1 lo hi u w')
    (hstep : ∀ p ∈ ps, ∀ lo hi u w, G w → S w → w0.heap.size ≤ w.heap.size → (∀ q ∈ ps, depB md ops p.1 q.1 = true → F q.1 lo hi u w ∧ w0.heap.size ≤ lo q.1 ∧ lo q.1 ≤ hi q.1 ∧ hi q.1 ≤ w.heap.size) →
      wpOp P ops Q p.1 (fun a' w' => ∃ v, a' = (setsA a0 ps u).put (some p.2) v ∧ G w' ∧ S w' ∧ R w w' ∧ F p.1 (updN lo p.1 w.heap.size) (updN hi p.1 w'.heap.size) (upd u p.1 v) w') (setsA a0 ps u) w)
    (hend : ∀ lo hi u w, G w → S w → Done (depB md ops) ps w0.heap.size F lo hi u w → wpAnyL P md ops Q S L m (allSet listed0 ps) (setsA a0 ps u) w)
    (hG : G w0) (hS : S w0) : wpAnyL P md ops Q S L (m + ps.length) listed0 a0 w0 := by
  obtain ⟨hnd1, hnd2, hops, hleft, hdone, hwait⟩ := invB_spec hinv
  have key : ∀ (k : Nat) (listed : Array Bool) (lo hi : Nat → Nat) (u : Nat → Value) (w : World), listed.size = listed0.size → (∀ j, j ∉ ps.map Prod.fst → listed[j]? = listed0[j]?) →
      leftN listed ps = k → G w → S w → w0.heap.size ≤ w.heap.size →
      (∀ p ∈ ps, listed.getD p.1 false = true → F p.1 lo hi u w ∧ w0.heap.size ≤ lo p.1 ∧ lo p.1 ≤ hi p.1 ∧ hi p.1 ≤ w.heap.size ∧ ∀ q, depB md ops p.1 q = true → listed.getD q false = true ∧ (q ∈ ps.map Prod.fst → hi q ≤ lo p.1)) →
      (∀ p ∈ ps, ∀ q ∈ ps, listed.getD p.1 false = true → listed.getD q.1 false = true → p.1 ≠ q.1 → hi p.1 ≤ lo q.1 ∨ hi q.1 ≤ lo p.1) →
      wpAnyL P md ops Q S L (m + k) listed (setsA a0 ps u) w := by
    intro k
    induction k with
    | zero =>
      intro listed lo hi u w hsz hoth hk hG hS hB hF hD
      have hall := leftN_zero hk
      have e : listed = allSet listed0 ps := by
        apply Array.ext_getElem?
        intro j
        by_cases hj : j ∈ ps.map Prod.fst
        · obtain ⟨p, hp, rfl⟩ := List.mem_map.1 hj
          have hlt : p.1 < listed0.size := (Array.getElem?_eq_some_iff.1 (hleft p hp)).1
          rw [allSet_in ps listed0 p.1 hj hlt]
          have h1 := hall p hp
          have hlt2 : p.1 < listed.size := by omega
          rw [Array.getElem?_eq_getElem hlt2]
          simpa [hlt2] using h1
        · rw [allSet_other ps listed0 j hj, hoth j hj]
      subst e
      exact hend lo hi u w hG hS ⟨fun q hq => (hF q hq (hall q hq)).1, fun q hq => (hF q hq (hall q hq)).2.1, fun q hq => (hF q hq (hall q hq)).2.2.1, fun q hq => (hF q hq (hall q hq)).2.2.2.1, fun p hp q hq => hD p hp q hq (hall p hp) (hall q hq), fun p hp q hq hd => ((hF p hp (hall p hp)).2.2.2.2 q.1 hd).2 (List.mem_map_of_mem hq), hB⟩
    | succ k ih =>
      intro listed lo hi u w hsz hoth hk hG hS hB hF hD
      obtain ⟨p0, hp0, hf0, hmin⟩ := leftN_pos ps k hk
      refine ⟨fun hnil => ?_, fun i hri => ?_⟩
      · exfalso
        obtain ⟨o, ho, hdep⟩ := hops p0 hp0
        have hlt0 : p0.1 < listed.size := by
          have := (Array.getElem?_eq_some_iff.1 (hleft p0 hp0)).1
          omega
        have hr : p0.1 ∈ Region.ready md ops listed := by
          rw [mem_ready]
          refine ⟨by simpa [hlt0] using hf0, o, ho, fun e he hb => ?_⟩
          have hlt := hdep e he hb
          by_cases hj : e.on ∈ ps.map Prod.fst
          · obtain ⟨q, hq, heq⟩ := List.mem_map.1 hj
            rw [← heq]
            exact hmin q hq (by omega)
          · have h1 := hdone e.on (by have := (Array.getElem?_eq_some_iff.1 ho).1; omega) (by have := (hwait p0 hp0).2; omega) hj
            rw [← hoth e.on hj] at h1
            simp [Array.getD_eq_getD_getElem?, h1]
        rw [hnil] at hr
        cases hr
      · obtain ⟨hun, o, ho, hall⟩ := mem_ready.1 hri
        have hiL : i ≠ L := fun e => by
          subst e
          obtain ⟨e, he, hb, hon⟩ := waitsB_spec (hwait p0 hp0).1 ho
          have h1 := hall e he hb
          rw [hon, hf0] at h1
          cases h1
        have hin : i ∈ ps.map Prod.fst := by
          by_cases hj : i ∈ ps.map Prod.fst
          · exact hj
          · have h1 := hdone i (Array.getElem?_eq_some_iff.1 ho).1 hiL hj
            rw [← hoth i hj] at h1
            simp [Array.getD_eq_getD_getElem?, h1] at hun
        obtain ⟨p, hp, rfl⟩ := List.mem_map.1 hin
        have hlp : listed[p.1]? = some false := by
          have hlt : p.1 < listed.size := by
            have := (Array.getElem?_eq_some_iff.1 (hleft p hp)).1
            omega
          rw [Array.getElem?_eq_getElem hlt]
          simpa [hlt] using hun
        have hlpd : listed.getD p.1 false = false := by simp [Array.getD_eq_getD_getElem?, hlp]
        have hdeps : ∀ q, depB md ops p.1 q = true → listed.getD q false = true := fun q hd => by
          obtain ⟨e, he, hb, hon⟩ := waitsB_spec hd ho
          have h1 := hall e he hb
          rwa [hon] at h1
        refine wpOp_mono (fun a' w' h => ?_) (hstep p hp lo hi u w hG hS hB (fun q hq hd => ⟨(hF q hq (hdeps q.1 hd)).1, (hF q hq (hdeps q.1 hd)).2.1, (hF q hq (hdeps q.1 hd)).2.2.1, (hF q hq (hdeps q.1 hd)).2.2.2.1⟩))
        obtain ⟨v, rfl, hG', hS', hR, hFv⟩ := h
        refine ⟨fun _ => hS', ?_⟩
        have hs' := hsize w w' hR
        have ea : (setsA a0 ps u).put (some p.2) v = setsA a0 ps (upd u p.1 v) := by
          simp only [Act.put, setsA]
          rw [setsT_upd a0.tmps p.1 p.2 v ps u hnd1 hnd2 hp]
        rw [ea]
        refine ih (listed.setIfInBounds p.1 true) (updN lo p.1 w.heap.size) (updN hi p.1 w'.heap.size) (upd u p.1 v) w' (by simpa using hsz) (fun j hj => ?_) ?_ hG' hS' (Nat.le_trans hB hs') (fun q hq hl => ?_) (fun q hq r hr hlq hlr hne => ?_)
        · have : p.1 ≠ j := fun e => hj (e ▸ List.mem_map_of_mem hp)
          rw [Array.getElem?_setIfInBounds_ne this]
          exact hoth j hj
        · have := leftN_set hlp ps hnd1 ⟨p.2, hp⟩
          omega
        · by_cases e : q.1 = p.1
          · rw [e, updN_same, updN_same]
            refine ⟨hFv, hB, hs', Nat.le_refl _, fun r hd => ⟨getD_set_true (hdeps r hd), fun hrin => ?_⟩⟩
            have hrl := hdeps r hd
            have hrp : r ≠ p.1 := fun e3 => by rw [e3, hlpd] at hrl; cases hrl
            rw [updN_other _ _ hrp]
            obtain ⟨q2, hq2, rfl⟩ := List.mem_map.1 hrin
            exact (hF q2 hq2 hrl).2.2.2.1
          · rw [updN_other _ _ e, updN_other _ _ e]
            rw [getD_set_ne false (fun e2 => e e2.symm)] at hl
            obtain ⟨f1, f2, f3, f4, f5⟩ := hF q hq hl
            refine ⟨hcong q hq lo hi u _ _ _ w' (fun r hr => ?a) (hst q hq lo hi u w w' hR f4 f1), f2, f3, Nat.le_trans f4 hs', fun r hd => ⟨getD_set_true (f5 r hd).1, fun hrin => ?b⟩⟩
            case' a => skip
            have hrl : listed.getD r false = true := by
              rcases hr with rfl | hr
              · exact hl
              · exact (f5 r hr).1
            have hrp : r ≠ p.1 := fun e3 => by rw [e3, hlpd] at hrl; cases hrl
            exact ⟨(updN_other _ _ hrp).symm, (updN_other _ _ hrp).symm, (upd_other _ _ hrp).symm⟩
            have hrl := (f5 r hd).1
            have hrp : r ≠ p.1 := fun e3 => by rw [e3, hlpd] at hrl; cases hrl
            rw [updN_other _ _ hrp]
            exact (f5 r hd).2 hrin
        · by_cases e : q.1 = p.1
          · have e2 : r.1 ≠ p.1 := fun e3 => hne (e.trans e3.symm)
            rw [e, updN_same, updN_same, updN_other _ _ e2, updN_other _ _ e2]
            rw [getD_set_ne false (fun e3 => e2 e3.symm)] at hlr
            exact Or.inr (hF r hr hlr).2.2.2.1
          · rw [updN_other _ _ e, updN_other _ _ e]
            rw [getD_set_ne false (fun e3 => e e3.symm)] at hlq
            by_cases e2 : r.1 = p.1
            · rw [e2, updN_same, updN_same]
              exact Or.inl (hF q hq hlq).2.2.2.1
            · rw [updN_other _ _ e2, updN_other _ _ e2]
              rw [getD_set_ne false (fun e3 => e2 e3.symm)] at hlr
              exact hD q hq r hr hlq hlr hne
  obtain ⟨u0, hu0⟩ := sets_first a0.tmps ps hnd1
  have e0 : setsA a0 ps u0 = a0 := by
    simp only [setsA]
    rw [setsT_self a0.tmps ps u0 hu0]
  have hno : ∀ p ∈ ps, ¬ listed0.getD p.1 false = true := fun p hp hl => by
    simp [Array.getD_eq_getD_getElem?, hleft p hp] at hl
  have hc : leftN listed0 ps = ps.length := by
    unfold leftN
    rw [List.countP_eq_length]
    intro p hp
    simp [Array.getD_eq_getD_getElem?, hleft p hp]
  have := key ps.length listed0 (fun _ => 0) (fun _ => 0) u0 w0 rfl (fun _ _ => rfl) hc hG hS (Nat.le_refl _) (fun p hp hl => absurd hl (hno p hp)) (fun p hp q hq hl => absurd hl (hno p hp))
  rwa [e0] at this
end
end Go.Proofs.Ytimkamgghkjhhaa
