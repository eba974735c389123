/- Small laws on rows of the call's own and on worlds that only drew. Condition: none. -/
import Derived.Test.YtalfihfielgmpaaApp
namespace Go.Proofs.Ytalfihfielgmpaa.own
open Go.RowKit sl harn

section
variable {E : TypeId} {k : IntKind} {w : World} {lo hi n cap m : Nat} {A : Option Addr} {zs : List Int}
theorem ow_drewN (h : Ow E k w lo hi A n cap zs) : Ow E k (w.drewN m) lo hi A n cap zs := h.same (Nat.le_refl _) fun _ _ _ => rfl
theorem ow_drew (h : Ow E k w lo hi A n cap zs) : Ow E k w.drew lo hi A n cap zs := h.same (Nat.le_refl _) fun _ _ _ => rfl
theorem below_drewN {B m : Nat} {a w : World} (h : Below B a w) : Below B a (w.drewN m) := h.trans ⟨rfl, rfl, rfl, Nat.le_refl _, fun _ _ => rfl⟩
theorem below_drew {B : Nat} {a w : World} (h : Below B a w) : Below B a w.drew := h.trans ⟨rfl, rfl, rfl, Nat.le_refl _, fun _ _ => rfl⟩
theorem rd_drew (h : Rd k w lo hi A n cap zs) : Rd k w.drew lo hi A n cap zs := h.same (Nat.le_refl _) fun _ _ _ => rfl
theorem rd_drewN (h : Rd k w lo hi A n cap zs) : Rd k (w.drewN m) lo hi A n cap zs := h.same (Nat.le_refl _) fun _ _ _ => rfl
theorem own_some (h : Ow E k w lo hi A n cap zs) (hn : 0 < n) : ∃ b, A = some ⟨b, 0, none⟩ ∧ lo ≤ b := by
  rcases h.form with ⟨_, h0, _⟩ | ⟨g, cur, h, g1, _⟩
  · omega
  · exact ⟨g, h, g1⟩
/-- Behind a change of one cell of a row of the call's own. -/
theorem ow_set {b : Nat} (h : Ow E k w lo hi (some ⟨b, 0, none⟩) n cap zs) (i : Nat) (v : Int) (hv : (Lit.int k v).wf = true) : Ow E k (w.setCell ⟨b, i, none⟩ (.int k v)) lo hi (some ⟨b, 0, none⟩) n cap (zs.set i v) := by
  have hs := h.1.stored i (.int k v)
  have e : (zs.map (Value.int k)).set i (.int k v) = (zs.set i v).map (Value.int k) := by rw [List.map_set]
  refine ⟨?_, ?_, ?_, h.2.2.2⟩
  · rw [← e]; exact hs.1
  · intro z hz
    rcases List.mem_or_eq_of_mem_set hz with hz | hz
    · exact h.wf z hz
    · rw [hz]; exact hv
  · have := h.hi_; simpa [World.setCell] using this
theorem cell_of {b : Nat} (h : Ow E k w lo hi (some ⟨b, 0, none⟩) n cap zs) {j : Nat} (hj : j < n) : w.cell? ⟨b, j, none⟩ = some (.int k (zs.getD j 0)) := by
  obtain ⟨b', off, e, _, _, hc⟩ := h.rd.at_ hj
  injection e with e; injection e with e1 e2 e3
  subst e1 e2
  rwa [Nat.zero_add] at hc
end
theorem wf_at {zs : List Int} {n : Nat} (h : Wf .i64 zs) (hl : zs.length = n) {k : Nat} (hk : k < n) {x : Int} (hx : zs.getD k 0 = x) : (Lit.int .i64 x).wf = true := by
  rw [← hx]; exact h.getD (by omega)
theorem wf_in {x : Int} (h : (Lit.int .i64 x).wf = true) : -9223372036854775808 ≤ x ∧ x ≤ 9223372036854775807 := by have := bounds_i64 h; omega
end Go.Proofs.Ytalfihfielgmpaa.own
