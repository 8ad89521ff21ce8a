/- Writes to a disk, plainly. -/
import Derived.Test.YtocgfngcgekciaaSWr2
import Derived.Test.YtocgfngcgekciaaSRead2
namespace Go.Proofs.Ytocgfngcgekciaa
open Go.RowKit
set_option linter.unusedVariables false
set_option linter.unusedSimpArgs false


def stepS (s : SlotV) (e : StepV) : SlotV := if e.sct = -1 then ⟨e.num, e.cnt, s.rows⟩ else if inR 0 ((s.rows.length : Int) - 1) e.sct then ⟨s.num, s.cnt, s.rows.set e.sct.toNat e.data⟩ else s
def stepD (d : DiskV) (e : StepV) : DiskV := if e.sec then ⟨d.a, stepS d.b e⟩ else ⟨stepS d.a e, d.b⟩
def stepDo (d : DiskV) (e : StepV) : DiskV := if diskOk (stepD d e) then stepD d e else d
def stepsDo (d : DiskV) (es : List StepV) : DiskV := es.foldl stepDo d
def mostOf (n : Nat) (most : Int) : Nat := min most.toNat n
def bareDisk : DiskV := ⟨⟨0, 0, []⟩, ⟨0, 0, []⟩⟩
def slotDoD (d : DiskV) (es : List StepV) (most : Int) : DiskV := if diskOk d then stepsDo d (es.take (mostOf es.length most)) else bareDisk

theorem stepDo_ok {d : DiskV} (e : StepV) (h : diskOk d = true) : diskOk (stepDo d e) = true := by
  unfold stepDo
  split
  · assumption
  · exact h
theorem stepsDo_ok : ∀ (es : List StepV) (d : DiskV), diskOk d = true → diskOk (stepsDo d es) = true
  | [], d, h => h
  | e :: es, d, h => stepsDo_ok es _ (stepDo_ok e h)
theorem stepsDo_snoc (es : List StepV) (d : DiskV) (k : Nat) (h : k < es.length) : stepsDo d (es.take (k + 1)) = stepDo (stepsDo d (es.take k)) es[k] := by
  unfold stepsDo
  rw [take_more es k h, List.foldl_append]
  rfl

def implStep (d : DiskV) (e : StepV) : DiskV := if e.sct = -1 then writeHeadD d e.sec e.num e.cnt else if inR 0 159 e.sct then writeSectorD d e.sec e.sct.toNat e.data else d

theorem inR_iff {lo hi n : Int} : inR lo hi n = true ↔ lo ≤ n ∧ n ≤ hi := by
  unfold inR
  simp
theorem apart_comm (a b : Int) : apartB a b = apartB b a := by
  rw [Bool.eq_iff_iff]
  unfold apartB
  simp only [Bool.or_eq_true, decide_eq_true_eq]
  omega
theorem all_set {α : Type} (p : α → Bool) : ∀ (ls : List α) (k : Nat) (x : α), ls.all p = true → k < ls.length → (ls.set k x).all p = p x
  | [], _, _, _, h => absurd h (Nat.not_lt_zero _)
  | y :: ys, 0, x, h, _ => by
    simp only [List.all_cons, Bool.and_eq_true] at h
    simp [h.2]
  | y :: ys, k + 1, x, h, hk => by
    simp only [List.all_cons, Bool.and_eq_true] at h
    simp only [List.set_cons_succ, List.all_cons, h.1, Bool.true_and]
    exact all_set p ys k x h.2 (by simpa using hk)
theorem slotOk_set {s : SlotV} {k : Nat} {l : List Int} (h : slotOk s = true) (hk : k < s.rows.length) : slotOk ⟨s.num, s.cnt, s.rows.set k l⟩ = sectorOk l := by
  unfold slotOk at h ⊢
  simp only [Bool.and_eq_true] at h
  simp only [List.length_set, h.1.1, h.1.2, all_set sectorOk _ _ _ h.2 hk, Bool.true_and]
theorem slotOk_head {s : SlotV} {n c : Int} (h : slotOk s = true) : slotOk ⟨n, c, s.rows⟩ = headOk n c := by
  unfold slotOk at h ⊢
  simp only [Bool.and_eq_true] at h
  simp only [h.1.2, h.2, Bool.and_true]
theorem implStep_is {d : DiskV} (e : StepV) (h : diskOk d = true) : implStep d e = stepDo d e := by
  have h0 := h
  unfold diskOk at h
  simp only [Bool.and_eq_true] at h
  obtain ⟨⟨ha, hb⟩, hab⟩ := h
  have hla := (slotOk_facts ha).2.2.2.2.1
  have hlb := (slotOk_facts hb).2.2.2.2.1
  unfold implStep stepDo stepD stepS
  by_cases h1 : e.sct = -1
  · simp only [h1, if_true]
    cases hs : e.sec
    · simp only [writeHeadD, headD, otherNum, Bool.false_eq_true, if_false, diskOk, slotOk_head ha, hb, Bool.and_true]
    · simp only [writeHeadD, headD, otherNum, if_true, diskOk, slotOk_head hb, ha, Bool.true_and, apart_comm d.a.num e.num]
  · simp only [h1, if_false]
    rw [hla, hlb]
    have e159 : ((160 : Nat) : Int) - 1 = 159 := rfl
    simp only [e159]
    cases h2 : inR 0 159 e.sct
    · cases hs : e.sec <;> simp [h0]
    · have hr := inR_iff.1 h2
      have hk : e.sct.toNat < 160 := by omega
      simp only [if_true]
      cases hs : e.sec
      · simp only [writeSectorD, sectorD, Bool.false_eq_true, if_false, diskOk, slotOk_set ha (show e.sct.toNat < d.a.rows.length by omega), hb, hab, Bool.and_true]
      · simp only [writeSectorD, sectorD, if_true, diskOk, slotOk_set hb (show e.sct.toNat < d.b.rows.length by omega), ha, hab, Bool.and_true, Bool.true_and]
end Go.Proofs.Ytocgfngcgekciaa
