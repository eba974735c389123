/- A slice of bools that came in. Condition: none. -/
import Derived.Test.YtejjafmppihneaaOpn
import Derived.Test.YtejjafmppihneaaBls
import Derived.Deep.Grids
import Derived.Lib.LaidU8
namespace Go.Proofs.Ytejjafmppihneaa.opm
open Go.Joins Go.ChangeShapes Go.WideShapes Go.RowKit Go.Deep Go.Lib sl
set_option linter.unusedVariables false
theorem open_bls {H : Type} {enc : TypeId × Value → H} {w : World} {base : Nat} {held : Bool} {fuel : Nat} {cs : List Value} {x : DataW H × List MemPlace} (h : DataW.trod enc Try.prog w base (fun _ => true) held fuel 36 cs = some x) :
    ∃ A n cap l, cs = [.slice A n cap] ∧ bls.Rb w 0 w.heap.size A n cap l := by
  rcases open_bools Try.underlying36 Try.underlying4 (by kernel_rfl) h with ⟨rfl, _⟩ | ⟨a, len, cap, B, rfl, _, hl, hm, _, hc⟩
  · exact ⟨none, 0, 0, [], rfl, bls.Rb.nil w none 0 0 w.heap.size (by unfold maxLen; omega) (Nat.le_refl _)⟩
  · refine ⟨some a, len, cap, (List.range len).map B, rfl, by simp, hl, hm, Nat.le_refl _, fun hn => ?_⟩
    obtain ⟨b, off, sp⟩ := a
    have e0 := hc 0 (by omega)
    have hs : sp = none := cell_spot (by simpa [Addr.add] using e0)
    subst hs
    have ea : ∀ i, (⟨b, off, none⟩ : Addr).add i = ⟨b, off + i, none⟩ := fun i => by unfold Addr.add; split <;> simp_all
    rw [ea] at e0
    have hb : b < w.heap.size := by
      rcases Nat.lt_or_ge b w.heap.size with h1 | h1
      · exact h1
      · exfalso
        have : w.heap[b]? = none := Array.getElem?_eq_none h1
        simp [World.cell?, this] at e0
    refine ⟨b, off, rfl, Nat.zero_le _, hb, fun i hi => ?_⟩
    have h1 := hc i (by omega)
    rw [ea] at h1
    rw [h1, List.getD_eq_getElem?_getD]
    simp [hi]
end Go.Proofs.Ytejjafmppihneaa.opm
