/- What stays beside what is written. No Go text is walked here. -/
import Derived.Test.YtimkamgghkjhhaaOwn4
namespace Go.Proofs.Ytimkamgghkjhhaa
open Go.RowKit
set_option linter.unusedVariables false

theorem PastsOwn.keep2 {N M : Nat} {w w' : World} {v : Value} {ps : List PastV} (hk : ∀ b, N ≤ b → b < M → b < w.heap.size → w'.heap[b]? = w.heap[b]?) (h : PastsOwn N M w v ps) : PastsOwn N M w' v ps := by
  obtain ⟨us, h1, h2⟩ := h
  refine ⟨us, ?_, h2⟩
  rcases h1 with h | ⟨g, cap, f, h1, h2, h3, h4, h5, h6, h7, h8⟩
  · exact Or.inl h
  · exact Or.inr ⟨g, cap, f, h1, h2, h3, h4, h5, h6.of_block (hk g h2 h3 h6.lt), h7, fun i hi hi' => ⟨(h8 i hi hi').1, (h8 i hi hi').2.only (fun b hb => hk b ((h8 i hi hi').2.fr.s.blk b hb).1 ((h8 i hi hi').2.hs b hb) ((h8 i hi hi').2.fr.s.blk b hb).2) (fun b hb => hk b ((h8 i hi hi').2.fr.o.blk b hb).1 ((h8 i hi hi').2.ho b hb) ((h8 i hi hi').2.fr.o.blk b hb).2)⟩⟩
theorem PastsOwn.on {N M : Nat} {w w' : World} {v : Value} {ps : List PastV} (hb : Below w.heap.size w w') (h : PastsOwn N M w v ps) : PastsOwn N M w' v ps := h.keep2 (fun b _ _ hl => hb.block b hl)
theorem PastsOwn.frame {N M N' M' : Nat} {w w' : World} {v : Value} {ps : List PastV} (hf : Frame N M w w') (hd : M ≤ N' ∨ M' ≤ N) (h : PastsOwn N' M' w v ps) : PastsOwn N' M' w' v ps :=
  h.keep2 (fun b h1 h2 hl => hf.other b hl (by omega))
theorem CellsAt.frame {N M b o : Nat} {w w' : World} {cs : List Value} (hf : Frame N M w w') (hd : b < N ∨ M ≤ b) (h : CellsAt w b o cs) : CellsAt w' b o cs := fun j hj =>
  (World.cell?_of_block (a := ⟨b, o + j, none⟩) (hf.other b (World.block_lt_of_cell? _ ⟨b, o + j, none⟩ (h j hj)) (by omega))).trans (h j hj)
theorem RowsFr.frame {N M K t n : Nat} {w w' : World} {v : Value} {rs : List (List Int)} (hf : Frame N M w w') (hd : ∀ g, v.ownBlock = some g → g < N ∨ M ≤ g) (h : RowsFr K t n w v rs) : RowsFr K t n w' v rs :=
  h.block (fun g hg hl => hf.other g hl (by have := hd g hg; omega))
theorem frame_of_only {N M : Nat} {v : Value} {w w' : World} (h : OnlyOf v w w') (hv : ∀ g, v.ownBlock = some g → N ≤ g ∧ g < M) : Frame N M w w' := Frame.of_within (Within.of_only h hv)
theorem Frame.then_below {N M B : Nat} {a w w' : World} (hf : Frame N M w w') (h : Below B a w) (hN : B ≤ N) (hs : B ≤ w.heap.size) : Below B a w' := h.trans (hf.below B hN hs)
end Go.Proofs.Ytimkamgghkjhhaa
