/- Remembered frames as values of the harness. Condition: none. -/
import Derived.Test.YtbkdbdhbmabgcaaUy
namespace Go.Proofs.Ytbkdbdhbmabgcaa.ux
open Go.RowKit sl harn bx stw
set_option linter.unusedVariables false
set_option linter.unusedSimpArgs false

structure Sen where
  From : Int
  Category : Int
  Seq : Int
  Fragment : Int
abbrev senV (x : Sen) : Value := .agg #[.int .i64 x.From, .int .i64 x.Category, .int .i64 x.Seq, .int .i64 x.Fragment]
theorem oneSen (y0 : Int) (y1 : Int) (y2 : Int) (y3 : Int) : (#[.int .i64 y0, .int .i64 y1, .int .i64 y2, .int .i64 y3] : Array Value).all (·.oneCell') = true :=
  all_oneCell_toArray (cs := [.int .i64 y0, .int .i64 y1, .int .i64 y2, .int .i64 y3]) (by intro v hv; simp only [List.mem_cons, List.not_mem_nil, or_false] at hv; rcases hv with rfl | rfl | rfl | rfl <;> rfl)
def sen : Rep Sen where
  n := 4
  R := fun w lo hi v x => hi ≤ w.heap.size ∧ v = senV x
  O := fun w fp v x => v = senV x ∧ fp = [] ∧ fp.Nodup
  sz := fun x => 0
  tot := fun x => 4
  mkx := fun q x => ⟨q, (q + 1), (q + 2), (q + 3)⟩
  pos := by omega
  len := fun ⟨hh, e⟩ => by subst e; rfl
  one := fun ⟨hh, e⟩ => by
    subst e
    exact oneSen _ _ _ _
  same := fun ⟨hh, e⟩ hs hb => ⟨by omega, e⟩
  hi_ := fun h => h.1
  osame := fun ⟨e, hf, hn⟩ hs hb => ⟨e, hf, hn⟩
  rd := fun ⟨e, hf, hn⟩ hb hh => ⟨hh, e⟩
  lt := fun ⟨e, hf, hn⟩ b hm => by
    rw [hf] at hm
    cases hm
  nd := fun ⟨e, hf, hn⟩ => hn
  tle := fun x => by
    show 4 ≤ 64 * (0) + 64
    omega
theorem sen_r {w : World} {lo hi : Nat} {v : Value} {x : Sen} (h : RR sen w lo hi v x) : v = senV x := h.2
theorem sen_rr {w : World} {lo hi : Nat} (x : Sen) (h : hi ≤ w.heap.size) : RR sen w lo hi (senV x) x := ⟨h, rfl⟩
theorem szSen : (Try.prog.info? 84).map (·.size) = some 4 := by kernel_rfl
def rowSen : Rep (List Sen) := row 84 sen
theorem rowSen_sl {w : World} {lo hi : Nat} {v : Value} {x : List Sen} (h : rowSen.R w lo hi v x) : ∃ A n c, v = .slice A n c := by
  obtain ⟨A, n, c, e, _⟩ := h
  exact ⟨A, n, c, e⟩
theorem rowSen_slo {w : World} {fp : List Nat} {v : Value} {x : List Sen} (h : rowSen.O w fp v x) : ∃ A n c, v = .slice A n c := by
  obtain ⟨A, n, c, es, e, _⟩ := h
  exact ⟨A, n, c, e⟩
theorem rowSen_tot (x : List Sen) : rowSen.tot x ≤ 64 * rowSen.sz x := row_tot _ _ x
end Go.Proofs.Ytbkdbdhbmabgcaa.ux
