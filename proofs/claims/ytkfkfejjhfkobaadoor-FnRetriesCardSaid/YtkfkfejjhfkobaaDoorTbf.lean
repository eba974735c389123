/- What the listed variable holds, said of a world: the program's table of parameters. Condition: it reads as laid. -/
import Derived.Test.YtkfkfejjhfkobaaDoorRows
import Derived.Test.YtkfkfejjhfkobaaDoorAc4
import Derived.Lib.LaidU8
namespace Go.Proofs.YtkfkfejjhfkobaaDoor.tbf
open Go.RowKit Go.Lib bx

theorem cEl : Tryd.prog.cellsOf 26 = 4 := by kernel_rfl
theorem cInt : Tryd.prog.cellsOf 3 = 1 := by kernel_rfl
theorem gTab : Tryd.prog.globalNamed "loop.example/g00511/impl.paramsOfCategories" = some 0 := by kernel_rfl
theorem tTab : (Tryd.prog.globals[0]?).map (·.type) = some 63 := by kernel_rfl
/-- The four rows as data. -/
def rows : List (List Int) := [[7, 15, 1023, 10], [3, 15, 1023, 10], [2, 7, 15, 40], [2, 3, 7, 20]]
theorem laid_rows : (Rows.laid_loop_example_g00511_impl_paramsOfCategories : DataW Unit) = .slice (rows.map fun r => .agg (r.map fun z => .lit (.int .i64 z))) [] := rfl
theorem tcs_rows (i : Nat) (v : Int) (h : tcs[i]? = some v) : ∃ r, rows[i / 4]? = some r ∧ r[i % 4]? = some v ∧ i / 4 < 4 := by
  have hi : i < 16 := (List.getElem?_eq_some_iff.1 h).1
  have hall : ∀ i, i < 16 → (tcs[i]? = (rows[i / 4]?).bind fun r => r[i % 4]?) := by decide
  rw [hall i hi] at h
  obtain ⟨r, h1, h2⟩ := Option.bind_eq_some_iff.1 h
  exact ⟨r, h1, h2, by omega⟩
theorem tbl_of {w : World} {l : List (String × DataW Unit)} (h : laidMet Tryd.prog (("loop.example/g00511/impl.paramsOfCategories", Rows.laid_loop_example_g00511_impl_paramsOfCategories) :: l) w) : Tbl w := by
  obtain ⟨g, t, cs, fuel, p, h1, h2, h3, h4⟩ := laidMet.reads h (.head _)
  obtain rfl := Option.some.inj (gTab.symm.trans h1)
  obtain rfl := Option.some.inj (tTab.symm.trans h2)
  rw [laid_rows] at h4
  rcases DataW.trod_slice Tryd.underlying63 h4 with ⟨_, hx⟩ | ⟨a, len, cap, elems, rest, n, _, hcs, hx, _, hl, _, hlen, hel, _⟩
  · simp at hx
  · simp only [Prod.mk.injEq, DataW.slice.injEq] at hx
    obtain ⟨⟨he, _⟩, _⟩ := hx
    have el : len = 4 := by rw [← hlen, ← List.length_map (f := (·.1)), ← he]; rfl
    subst el
    have each : ∀ i v, tcs[i]? = some v → w.cell? ((a.add (i / 4 * 4)).add (i % 4)) = some (.int .i64 v) := by
      intro i v hi
      obtain ⟨r, hr, hv, hq⟩ := tcs_rows i v hi
      have hE := hel (i / 4) hq
      rw [cEl] at hE
      obtain ⟨y, hy⟩ : ∃ y, elems[i / 4]? = some y := ⟨elems[i / 4]'(by omega), List.getElem?_eq_getElem (by omega)⟩
      have hy1 : y.1 = .agg (r.map fun z => .lit (.int .i64 z)) := by
        have := congrArg (·[i / 4]?) he
        simp only [List.getElem?_map, hr, hy, Option.map_some, Option.some.injEq] at this
        exact this.symm
      rw [hy] at hE
      obtain ⟨c4, hc, ht⟩ := Option.bind_eq_some_iff.1 hE
      obtain ⟨y1, y2⟩ := y
      subst hy1
      have hi4 := ints_of_struct Tryd.underlying26 (fun j f hj => by
        match j, hj with
        | 0, hj => simp at hj; subst hj; exact ⟨Tryd.underlying3, rfl, cInt⟩
        | 1, hj => simp at hj; subst hj; exact ⟨Tryd.underlying3, rfl, cInt⟩
        | 2, hj => simp at hj; subst hj; exact ⟨Tryd.underlying3, rfl, cInt⟩
        | 3, hj => simp at hj; subst hj; exact ⟨Tryd.underlying3, rfl, cInt⟩
        | j + 4, hj => simp at hj) (by rw [cEl]; rfl) ht
      have hc2 := (World.cells?_some hc).2.2 (i % 4) (by omega)
      rw [hc2, hi4, List.getElem?_map, hv]
      rfl
    obtain ⟨b, off, sp⟩ := a
    have hsp : sp = none := cell_spot (by have := each 0 7 rfl; simpa [Addr.add] using this)
    subst hsp
    refine ⟨b, off, cap, ?_, hl, fun i v hi => ?_⟩
    · rw [World.var?_cell gTab h3 0, ← Array.getElem?_toList, hcs]
      rfl
    · have := each i v hi
      rw [Addr.add_mid, Addr.add_mid, Nat.add_assoc, show i / 4 * 4 + i % 4 = i by omega] at this
      exact this
end Go.Proofs.YtkfkfejjhfkobaaDoor.tbf
