/- The hash of a list of integers, program and specification. Condition: none. -/
import Derived.Test.YtalfihfielgmpaaApp
namespace Go.Proofs.Ytalfihfielgmpaa.hsh
open Go.RowKit sl harn

/-- One value is folded in. -/
def step (a v : Int) : Int := (a * 1000003 + v % 2147483647 + 13) % 2147483647
theorem step_in (a v : Int) : 0 ≤ step a v ∧ step a v < 2147483647 := ⟨Int.emod_nonneg _ (by omega), Int.emod_lt_of_pos _ (by omega)⟩
/-- The hash of a list. -/
def hs (l : List Int) : Int := l.foldl step 11
theorem fold_in : ∀ (l : List Int) (a : Int), (0 ≤ a ∧ a < 2147483647) → 0 ≤ l.foldl step a ∧ l.foldl step a < 2147483647
  | [], _, h => h
  | _ :: l, _, _ => fold_in l _ (step_in _ _)
theorem hs_in (l : List Int) : 0 ≤ hs l ∧ hs l < 2147483647 := fold_in l 11 (by omega)
theorem fold_take (l : List Int) (a : Int) {k : Nat} (h : k < l.length) : (l.take (k + 1)).foldl step a = step ((l.take k).foldl step a) (l.getD k 0) := by
  rw [List.take_add_one, List.foldl_append, List.getD_eq_getElem?_getD, List.getElem?_eq_getElem h]; rfl

theorem tmod_of {p q r : Int} (hq : 1 ≤ q) (hr : p.tmod q = r) : -q < r ∧ r < q ∧ p % q = r % q := by
  have b1 : p.tmod q < q := Int.tmod_lt_of_pos p (show 0 < q by omega)
  have b2 : -q < p.tmod q := by
    have := Int.tmod_lt_of_pos (-p) (show 0 < q by omega)
    rw [Int.neg_tmod] at this; omega
  refine ⟨by omega, by omega, ?_⟩
  have e := Int.tmod_add_mul_tdiv p q
  rw [hr] at e
  conv => lhs; rw [← e]
  exact Int.add_mul_emod_self_left r q _

theorem implMod (p q : Int) (h : 1 ≤ q ∧ q ≤ 1000000000000) (w : World) :
    Calls Try.prog 59 #[.int .i64 p, .int .i64 q] w fun e w' => e = .returned (.int .i64 (p % q)) ∧ w = w' := by
  obtain ⟨h1, h2⟩ := h
  obtain ⟨r, hr⟩ : ∃ r, p.tmod q = r := ⟨_, rfl⟩
  obtain ⟨b1, b2, b3⟩ := tmod_of h1 hr
  by_cases h5 : r < 0
  · have e1 : Hid (p % q = r + q) := by
      unfold Hid
      rw [b3, ← Int.add_emod_right]; exact Int.emod_eq_of_lt (by omega) (by omega)
    clear b3
    go_enter Try.func59, Try.ntmps59
    go_wp2
    go_ret
    exact ⟨ret_num e1.out.symm, rfl⟩
  · have e1 : Hid (p % q = r) := by
      unfold Hid
      rw [b3]; exact Int.emod_eq_of_lt (by omega) (by omega)
    clear b3
    go_enter Try.func59, Try.ntmps59
    go_wp2
    go_ret
    exact ⟨ret_num e1.out.symm, rfl⟩
theorem specMod (p q : Int) (h : 1 ≤ q ∧ q ≤ 1000000000000) (w : World) :
    Calls Try.prog 58 #[.int .i64 p, .int .i64 q] w fun e w' => e = .returned (.int .i64 (p % q)) ∧ w = w' := by
  obtain ⟨h1, h2⟩ := h
  obtain ⟨r, hr⟩ : ∃ r, p.tmod q = r := ⟨_, rfl⟩
  obtain ⟨b1, b2, b3⟩ := tmod_of h1 hr
  have e1 : Hid (p % q = (r + q) % q) := by
    unfold Hid
    rw [b3, Int.add_emod_right]
  clear b3
  go_enter Try.func58, Try.ntmps58
  go_wp2
  go_ret
  exact ⟨ret_num e1.out.symm, rfl⟩

/-- The hash of what is read. -/
def HashPost (zs : List Int) (w : World) (e : Ending) (w' : World) : Prop := e = .returned (.int .i64 (hs zs)) ∧ ∃ m, w' = w.drewN m
theorem HashPost.below {zs : List Int} {w w' : World} {e : Ending} (h : HashPost zs w e w') : e = .returned (.int .i64 (hs zs)) ∧ Below w.heap.size w w' := by
  obtain ⟨h1, m, rfl⟩ := h
  exact ⟨h1, below_drews w m⟩
theorem hash_all {zs : List Int} {k n : Nat} {a : Int} (h : a = (zs.take k).foldl step 11) (hk : k = n) (hl : zs.length = n) : a = hs zs := by
  rw [h, List.take_of_length_le (by omega)]; rfl
theorem hash_next {zs : List Int} {k : Nat} {a x : Int} (h : a = (zs.take k).foldl step 11) (hk : k < zs.length) (hx : zs.getD k 0 = x) : (a * 1000003 + x % 2147483647 + 13) % 2147483647 = (zs.take (k + 1)).foldl step 11 := by
  rw [fold_take zs 11 hk, ← h, hx]; rfl
theorem hash_in {zs : List Int} {k : Nat} {a : Int} (h : a = (zs.take k).foldl step 11) : 0 ≤ a ∧ a < 2147483647 := by
  rw [h]; exact fold_in _ _ (by omega)

theorem HashPost.parts {zs : List Int} {r : Int} (ht : hs zs = r) {w : World} {e : Ending} {w' : World} (h : HashPost zs w e w') : e = .returned (.int .i64 r) ∧ Below w.heap.size w w' := by
  subst ht; exact h.below
end Go.Proofs.Ytalfihfielgmpaa.hsh
