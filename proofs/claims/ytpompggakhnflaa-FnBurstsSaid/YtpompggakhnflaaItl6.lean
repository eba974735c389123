/- IsPermutation, program and specification. Condition: lengths up to 2^26. -/
import Derived.Test.YtpompggakhnflaaItl1
namespace Go.Proofs.Ytpompggakhnflaa.itl
open Go.RowKit sl harn rng itm

theorem boolInfo : (Try.prog.info? 4).map (fun i => (i.zero, i.size, i.bytes)) = some (some (.bool false), 1, 1) := by kernel_rfl
def asBool (b : Bool) : Value := .bool b
def asInt (b : Bool) : Value := .int .i64 (if b then 1 else 0)
/-- Which of the numbers below n were among the first k, in a block of its own. -/
def Seen (f : Bool → Value) (E : TypeId) (w wr : World) (n : Nat) (l : List Int) (k : Nat) : Prop :=
  ∃ cs, wr.heap[w.heap.size]? = some (.cells cs E (0, 0)) ∧ cs.size = n ∧ (∀ j : Nat, j < n → cs[j]? = some (f (decide ((j : Int) ∈ l.take k)))) ∧ Below w.heap.size w wr
theorem made_at (z : Value) (n j : Nat) (h : j < n) : (madeCells #[z] n)[j]? = some z := by
  rw [Array.getElem?_eq_getElem (by rw [size_madeCells]; exact h)]
  simp [madeCells, Nat.mod_one]
theorem Seen.start (f : Bool → Value) (E : TypeId) (w : World) (n : Nat) (l : List Int) (z : Array Value) (hz : z = #[f false]) : Seen f E w (w.alloc (.cells (madeCells z n) E)) n l 0 := by
  subst hz
  exact ⟨_, heap_alloc_new w _, size_madeCells _ n, fun j h => by rw [made_at _ _ _ h]; simp, (Below.refl _ _).alloc (Nat.le_refl _) _⟩
section
variable {f : Bool → Value} {E : TypeId} {w wr : World} {n k : Nat} {l : List Int}
theorem Seen.below (h : Seen f E w wr n l k) : Below w.heap.size w wr := by obtain ⟨_, _, _, _, h4⟩ := h; exact h4
theorem Seen.cell (h : Seen f E w wr n l k) {j : Nat} (hj : j < n) : wr.cell? ⟨w.heap.size, j, none⟩ = some (f (decide ((j : Int) ∈ l.take k))) := by
  obtain ⟨cs, h1, h2, h3, _⟩ := h
  simp only [World.cell?, h1]
  exact h3 j hj
theorem Seen.free (h : Seen f E w wr n l k) (i : Nat) : wr.frozen? ⟨w.heap.size, i, none⟩ = false := by
  obtain ⟨cs, h1, _⟩ := h
  simp [World.frozen?, h1]
theorem Seen.next (h : Seen f E w wr n l k) (hk : k < l.length) {x : Nat} (hx : l.getD k 0 = x) (hxn : x < n) : Seen f E w (wr.setCell ⟨w.heap.size, x, none⟩ (f true)) n l (k + 1) := by
  obtain ⟨cs, h1, h2, h3, h4⟩ := h
  refine ⟨cs.setIfInBounds x (f true), heap_setCell_same wr w.heap.size x cs E _ h1, by simpa using h2, fun j hj => ?_, h4.setCell (Nat.le_refl _) _⟩
  by_cases e : j = x
  · subst e
    rw [Array.getElem?_setIfInBounds_self_of_lt (by omega), decide_eq_true ((mem_next hk hx _).2 (Or.inr rfl))]
  · rw [Array.getElem?_setIfInBounds_ne (by omega), h3 j hj]
    have : decide ((j : Int) ∈ l.take k) = decide ((j : Int) ∈ l.take (k + 1)) := by
      rw [decide_eq_decide, mem_next hk hx]
      exact ⟨Or.inl, fun h => h.elim id fun e2 => absurd e2 (by omega)⟩
    rw [this]
end

set_option maxRecDepth 100000 in
theorem implPm (zs : List Int) (lo hi : Nat) (A : Option Addr) (n cap : Nat) (w : World) (h : Rd .i64 w lo hi A n cap zs) (hn : n ≤ 67108864) :
    Calls Try.prog 17 #[.slice A n cap] w fun e w' => e = .returned (.bool (pm zs)) ∧ Below w.heap.size w w' := by
  obtain ⟨i0, hi0, hz0, hz1, hz2⟩ := info_parts boolInfo
  have hmk := fun W => run_make1 (P := Try.prog) 43 4 i0 _ Try.underlying43 hi0 hz0 hz1 n (by omega) hn W
  have hb := h.cap_
  have HL := Lib.hid h.len
  have HR := Lib.hid h
  clear h hz2 hz1 hz0 hi0
  go_enter Try.func17, Try.ntmps17
  go_wp2_with fail
  go_loopw [11] (fun i wr => ∃ k : Nat, i = .int .i64 k ∧ k ≤ n ∧ Uniq zs k ∧ Seen asBool 4 w wr n zs k) (fun i _ => n - (intOf i).toNat)
  case atStart => exact ⟨0, rfl, by omega, good_zero _, Seen.start asBool _ _ _ _ _ rfl⟩
  case round =>
    clear hmk
    obtain ⟨k, rfl, hk, hg, hp⟩ := hrel
    have HG := Lib.hid hg
    have HP := Lib.hid hp
    clear hg hp
    by_cases hlt : k < n
    · have hlt2 : (k : Int) < n := by omega
      have HK := Lib.hid (show k < zs.length by rw [HL.out]; exact hlt)
      obtain ⟨b, off, rfl, g1, g2, hc⟩ := (HR.out.below HP.out.below).at_ hlt
      obtain ⟨x, hx⟩ : ∃ x, zs.getD k 0 = x := ⟨_, rfl⟩
      have HX := Lib.hid hx
      rw [hx] at hc
      clear hx g1 g2
      by_cases hr : 0 ≤ x ∧ x ≤ (n : Int) - 1
      · have HI := Lib.hid hr
        obtain ⟨j, rfl⟩ := Int.eq_ofNat_of_zero_le hr.1
        have hj : j < n := by omega
        have hj2 : (j : Int) < n := by omega
        have hcell := HP.out.cell hj
        have hfree := HP.out.free j
        clear hr
        by_cases hm : (j : Int) ∈ zs.take k
        · have HN := Lib.hid (pm_no (not_twice HK.out HX.out hm))
          rw [decide_eq_true hm] at hcell
          unfold asBool at hcell
          clear hm
          go_wp2_with fail
          (with_reducible refine (inRange_yes j 0 ((n : Int) - 1) HI.out _).mono ?_)
          rintro e w2 ⟨rfl, rfl⟩
          go_wp2_with fail
          go_ret
          rw [HN.out]
          exact ⟨rfl, HP.out.below⟩
        · have HN := Lib.hid (good_next HK.out HX.out HG.out (by rw [HL.out]; omega) hm)
          rw [decide_eq_false hm] at hcell
          unfold asBool at hcell
          clear hm
          go_wp2_with fail
          (with_reducible refine (inRange_yes j 0 ((n : Int) - 1) HI.out _).mono ?_)
          rintro e w2 ⟨rfl, rfl⟩
          go_wp2_with fail
          go_roundw
          case rel => exact ⟨k + 1, by go_num, by omega, HN.out, HP.out.next HK.out HX.out hj⟩
          case measure => simp [intOf]; omega
      · have HI := Lib.hid hr
        have HN := Lib.hid (pm_no (not_range HK.out HX.out (by rw [HL.out]; omega)))
        clear hr
        go_wp2_with fail
        (with_reducible refine (inRange_no x 0 ((n : Int) - 1) HI.out _).mono ?_)
        rintro e w2 ⟨rfl, rfl⟩
        go_wp2_with fail
        go_ret
        rw [HN.out]
        exact ⟨rfl, HP.out.below⟩
    · have hlt2 : ¬ (k : Int) < n := by omega
      have HN := Lib.hid (pm_yes (good_all (by rw [HL.out]; have : k = n := by omega
                                               rw [← this]; exact HG.out)))
      go_wp2_with fail
      go_ret
      rw [HN.out]
      exact ⟨rfl, HP.out.below⟩
set_option maxRecDepth 100000 in
theorem specPm (zs : List Int) (lo hi : Nat) (A : Option Addr) (n cap : Nat) (w : World) (h : Rd .i64 w lo hi A n cap zs) (hn : n ≤ 67108864) :
    Calls Try.prog 31 #[.slice A n cap] w fun e w' => e = .returned (.bool (pm zs)) ∧ Below w.heap.size w w' := by
  obtain ⟨i0, hi0, hz0, hz1, hz2⟩ := info_parts intInfo
  have hmk := fun W => run_make1 (P := Try.prog) 24 3 i0 _ Try.underlying24 hi0 hz0 hz1 n (by omega) hn W
  have hb := h.cap_
  have HL := Lib.hid h.len
  have HR := Lib.hid h
  clear h hz2 hz1 hz0 hi0
  go_enter Try.func31, Try.ntmps31
  go_wp2_with fail
  go_loopw [4] (fun i wr => ∃ k : Nat, i = .int .i64 k ∧ k ≤ n ∧ Uniq zs k ∧ Seen asInt 3 w wr n zs k) (fun i _ => n - (intOf i).toNat)
  case atStart => exact ⟨0, rfl, by omega, good_zero _, Seen.start asInt _ _ _ _ _ rfl⟩
  case round =>
    clear hmk
    obtain ⟨k, rfl, hk, hg, hp⟩ := hrel
    have HG := Lib.hid hg
    have HP := Lib.hid hp
    clear hg hp
    by_cases hlt : k < n
    · have hlt2 : (k : Int) < n := by omega
      have HK := Lib.hid (show k < zs.length by rw [HL.out]; exact hlt)
      obtain ⟨b, off, rfl, g1, g2, hc⟩ := (HR.out.below HP.out.below).at_ hlt
      obtain ⟨x, hx⟩ : ∃ x, zs.getD k 0 = x := ⟨_, rfl⟩
      have HX := Lib.hid hx
      rw [hx] at hc
      clear hx g1 g2
      by_cases hr : 0 ≤ x ∧ x ≤ (n : Int) - 1
      · have HI := Lib.hid hr
        obtain ⟨j, rfl⟩ := Int.eq_ofNat_of_zero_le hr.1
        have hj : j < n := by omega
        have hj2 : (j : Int) < n := by omega
        have hcell := HP.out.cell hj
        have hfree := HP.out.free j
        clear hr
        by_cases hm : (j : Int) ∈ zs.take k
        · have HN := Lib.hid (pm_no (not_twice HK.out HX.out hm))
          rw [decide_eq_true hm] at hcell
          have hcell2 : wr.cell? ⟨w.heap.size, j, none⟩ = some (.int .i64 1) := hcell
          clear hm hcell
          go_wp2_with fail
          (with_reducible refine (l1In_yes j 0 ((n : Int) - 1) HI.out _).mono ?_)
          rintro e w2 ⟨rfl, rfl⟩
          go_wp2_with fail
          go_ret
          rw [HN.out]
          exact ⟨rfl, HP.out.below⟩
        · have HN := Lib.hid (good_next HK.out HX.out HG.out (by rw [HL.out]; omega) hm)
          rw [decide_eq_false hm] at hcell
          have hcell2 : wr.cell? ⟨w.heap.size, j, none⟩ = some (.int .i64 0) := hcell
          clear hm hcell
          go_wp2_with fail
          (with_reducible refine (l1In_yes j 0 ((n : Int) - 1) HI.out _).mono ?_)
          rintro e w2 ⟨rfl, rfl⟩
          go_wp2_with fail
          go_roundw
          case rel => exact ⟨k + 1, by go_num, by omega, HN.out, HP.out.next HK.out HX.out hj⟩
          case measure => simp [intOf]; omega
      · have HI := Lib.hid hr
        have HN := Lib.hid (pm_no (not_range HK.out HX.out (by rw [HL.out]; omega)))
        clear hr
        go_wp2_with fail
        (with_reducible refine (l1In_no x 0 ((n : Int) - 1) HI.out _).mono ?_)
        rintro e w2 ⟨rfl, rfl⟩
        go_wp2_with fail
        go_ret
        rw [HN.out]
        exact ⟨rfl, HP.out.below⟩
    · have hlt2 : ¬ (k : Int) < n := by omega
      have HN := Lib.hid (pm_yes (good_all (by rw [HL.out]; have : k = n := by omega
                                               rw [← this]; exact HG.out)))
      go_wp2_with fail
      go_ret
      rw [HN.out]
      exact ⟨rfl, HP.out.below⟩
end Go.Proofs.Ytpompggakhnflaa.itl
