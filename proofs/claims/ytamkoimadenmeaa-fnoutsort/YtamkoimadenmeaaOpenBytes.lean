/- Arguments opened: a slice of bytes. -/
import Derived.Test.YtamkoimadenmeaaOpenBase
import Derived.Test.YtamkoimadenmeaaPick
import Derived.ShutString
namespace Go.Proofs.Ytamkoimadenmeaa
open Go.RowKit Go.ChangeShapes Go.WideShapes Go.ChangeAt

section
variable {H : Type} {enc : TypeId × Value → H} {W : World}

theorem open_bytes {fuel : Nat} {a : Option Addr} {len cap : Nat} {y : DataW H × List MemPlace} (h : DataW.trod enc Try.prog W 0 (fun _ => true) true fuel 22 (Value.slice a len cap).cells.toList = some y) :
    ∃ zs, BytesAt W (.slice a len cap) zs := by
  rcases open_ints Try.underlying22 Try.underlying5 (by kernel_rfl) h with ⟨hcs, _⟩ | ⟨x, l, c, zs, hcs, _, hl, hm, hz, _, hcell, hwz⟩
  · simp [Value.cells] at hcs
    obtain ⟨rfl, rfl, rfl⟩ := hcs
    exact ⟨[], none, 0, rfl, Nat.le_refl _, Nat.zero_le _, by simp, fun _ => rfl, Or.inl rfl⟩
  · simp [Value.cells] at hcs
    obtain ⟨rfl, rfl, rfl⟩ := hcs
    have hz' : zs.length = cap := by simpa using hz
    have hlen : (zs.take len).length = len := by rw [List.length_take]; omega
    refine ⟨zs.take len, some x, cap, by rw [hlen], by rw [hlen]; exact hl, hm, fun z hzm => ?_, (fun h => by cases h), ?_⟩
    · have := bounds_u8 (hwz z (List.mem_of_mem_take hzm))
      omega
    · rcases Nat.eq_zero_or_pos len with h0 | h0
      · subst h0
        exact Or.inl (by simp)
      · obtain ⟨b, off, spot⟩ := x
        obtain ⟨hs, _⟩ := at_add (hcell 0 (by omega))
        have hs' : spot = none := hs rfl
        subst hs'
        refine Or.inr ⟨b, off, rfl, fun i hi => ?_⟩
        rw [hlen] at hi
        obtain ⟨_, hc⟩ := at_add (hcell i (by omega))
        rw [hc]
        have hil : i < zs.length := by omega
        simp [List.getD, List.getElem?_eq_getElem hil]
end
end Go.Proofs.Ytamkoimadenmeaa
