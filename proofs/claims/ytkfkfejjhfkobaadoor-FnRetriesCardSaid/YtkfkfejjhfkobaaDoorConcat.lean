/- slices.Concat of slices of integers, walked in the library's own text. Condition: together at most 2^30 elements. -/
import Derived.Test.YtkfkfejjhfkobaaDoorApp
import Derived.Lib.AppendZerosOnto
import Derived.Lib.Walk
import Derived.Lib.SliceRun
namespace Go.Proofs.YtkfkfejjhfkobaaDoor.cat
open Go.RowKit sl harn

/-- slices.Grow of nil: a row of the call's own, of length 0. -/
def GrowPost (w : World) (e : Ending) (w' : World) : Prop := ∃ A cap, e = .returned (.slice A 0 cap) ∧ Ow 3 .i64 w' w.heap.size w'.heap.size A 0 cap [] ∧ Below w.heap.size w w'
theorem grow_own (w : World) (z : Array Value) (hz : z.size = 1) (n G : Nat) (hG : n ≤ G) (hm : G ≤ maxLen) :
    Ow 3 .i64 (w.alloc (.cells (Builtin.zeroCells z n ++ Builtin.zeroCells z (G - n)) 3)).drew w.heap.size (w.alloc (.cells (Builtin.zeroCells z n ++ Builtin.zeroCells z (G - n)) 3)).drew.heap.size (some ⟨w.heap.size, 0, none⟩) 0 G [] := by
  refine ⟨⟨rfl, Or.inr ⟨w.heap.size, G, _, rfl, Nat.le_refl _, heap_alloc_new w _, by omega, hm, ?_, by simp⟩⟩, Wf.nil _, Nat.le_refl _, ?_⟩
  · simp only [Array.size_append, size_zeroCells, hz]
    omega
  · intro g o e; injection e with e; injection e with e _; subst e; simp
set_option maxRecDepth 100000 in
theorem grow (n : Nat) (hn : n ≤ 1073741824) (w : World) : Calls Tryd.prog 50 #[.slice none 0 0, .int .i64 n] w (GrowPost w) := by
  obtain ⟨i0, hi0, hz0, hz1, hz2⟩ := info_parts intInfo
  by_cases h0 : n = 0
  · subst h0
    clear hi0 hz0 hz1 hz2
    go_enter Tryd.func50, Tryd.ntmps50
    go_wp2
    go_ret
    exact ⟨none, 0, rfl, Ow.nil_ _ _ _ _ _ (Nat.le_refl _), Below.refl _ _⟩
  · have hrz : ∀ ty, (Builtin.append_ #[49, 3] ty #[.slice none 0 0, .int .i64 n]).run Tryd.prog w =
        .ok (.slice (some ⟨w.heap.size, 0, none⟩) n (grownCap w n 0 3)) (w.drew.alloc (.cells (#[] ++ Builtin.zeroCells (Value.int .i64 0).cells n ++ Builtin.zeroCells (Value.int .i64 0).cells (grownCap w n 0 3 - n)) 3)) := fun ty => by
      have h := Lib.run_append_grow_zeros (P := Tryd.prog) w 49 3 ty 3 i0 (.int .i64 0) .i64 .i64 Tryd.underlying49 Tryd.underlying3 hi0 hz0 none 0 0 [] (run_firstCells_none w.drew i0.size 0 0 0) n (by omega) (by omega) (by omega) (by omega) (by rw [hz2]; omega)
        (by rw [Nat.zero_add]; exact growslice_fits (by omega) (by rw [hz2]; omega))
      rw [Nat.zero_add] at h
      exact h
    have hG := grownCap_ge w n 0 3
    have hM := grownCap_le_maxLen w n 0 3 (by unfold maxLen; omega)
    obtain ⟨G, hGe⟩ : ∃ G, grownCap w n 0 3 = G := ⟨_, rfl⟩
    rw [hGe] at hrz hG hM
    have hM2 : G ≤ 9223372036854775807 := by unfold maxLen at hM; omega
    have HM := Lib.hid hM
    have hpos : 0 < (n : Int) := by omega
    clear hi0 hz0 hz1 hz2 hGe hM
    go_enter Tryd.func50, Tryd.ntmps50
    go_wp2_with (at_builtin; refine Lib.wpList_append_run _ rfl _ _ _ _ rfl _ _ rfl rfl _ _ (hrz _) ?_)
    go_ret
    exact ⟨_, _, rfl, grow_own w #[.int .i64 0] rfl n G hG HM.out, ((Below.refl _ _).alloc (Nat.le_refl _) _).drew⟩

/-- A slice that is one of several. -/
structure Piece where
  A : Option Addr
  n : Nat
  cap : Nat
  zs : List Int
def tot (L : List Piece) : Nat := (L.map Piece.n).sum
def flat (L : List Piece) : List Int := (L.map Piece.zs).flatten
theorem tot_take (L : List Piece) {k : Nat} {s : Piece} (h : L[k]? = some s) : tot (L.take (k + 1)) = tot (L.take k) + s.n := by
  simp [tot, List.take_add_one, h]
theorem flat_take (L : List Piece) {k : Nat} {s : Piece} (h : L[k]? = some s) : flat (L.take (k + 1)) = flat (L.take k) ++ s.zs := by
  simp [flat, List.take_add_one, h]
theorem tot_le : ∀ (L : List Piece) (k : Nat), tot (L.take k) ≤ tot L
  | [], k => by simp
  | s :: L, 0 => by simp [tot]
  | s :: L, k + 1 => by have := tot_le L k; simp only [List.take_succ_cons]; simp [tot] at this ⊢; omega
/-- The slices lie in memory, one behind the other, and each is read. -/
def Pieces (w : World) (X : Option Addr) (m : Nat) (L : List Piece) : Prop :=
  L.length = m ∧ ∀ j s, L[j]? = some s → (∃ b off, X = some ⟨b, off, none⟩ ∧ b < w.heap.size ∧ w.cell? ⟨b, off + j, none⟩ = some (.slice s.A s.n s.cap)) ∧ Rd .i64 w 0 w.heap.size s.A s.n s.cap s.zs
theorem Pieces.at_ {w : World} {X : Option Addr} {m : Nat} {L : List Piece} (h : Pieces w X m L) {k : Nat} (hk : k < m) : ∃ s b off, L[k]? = some s ∧ X = some ⟨b, off, none⟩ ∧ b < w.heap.size ∧ w.cell? ⟨b, off + k, none⟩ = some (.slice s.A s.n s.cap) ∧ Rd .i64 w 0 w.heap.size s.A s.n s.cap s.zs := by
  have hl : k < L.length := by rw [h.1]; exact hk
  obtain ⟨⟨b, off, e, h1, h2⟩, h3⟩ := h.2 k _ (List.getElem?_eq_getElem hl)
  exact ⟨_, b, off, List.getElem?_eq_getElem hl, e, h1, h2, h3⟩
theorem Pieces.all {w : World} {X : Option Addr} {m : Nat} {L : List Piece} (h : Pieces w X m L) {k : Nat} (hk : k = m) : L.take k = L := List.take_of_length_le (by rw [h.1]; omega)
/-- The result being gathered. -/
def Gath (w wr : World) (L : List Piece) (k : Nat) (v : Value) : Prop := ∃ A q c, v = .slice A q c ∧ q = tot (L.take k) ∧ Ow 3 .i64 wr w.heap.size wr.heap.size A q c (flat (L.take k)) ∧ Below w.heap.size w wr

set_option maxRecDepth 100000 in
set_option maxHeartbeats 4000000 in
theorem concat (L : List Piece) (X : Option Addr) (m c : Nat) (w : World) (h : Pieces w X m L) (hm : m ≤ 1073741824) (ht : tot L ≤ 1073741824) :
    Calls Tryd.prog 42 #[.slice X m c] w (SlPost 3 .i64 w (flat L)) := by
  obtain ⟨i0, hi0, hz0, hz1, hz2⟩ := info_parts intInfo
  have HZ := Lib.hid (And.intro hi0 (And.intro hz0 (And.intro hz1 hz2)))
  have HS := Lib.hid h
  have HT := Lib.hid ht
  clear h hi0 hz0 hz1 hz2 ht
  go_enter Tryd.func42, Tryd.ntmps42
  go_wp2
  go_loopw [3, 11] (fun x i wr => ∃ (k q : Nat), i = .int .i64 k ∧ x = .int .i64 q ∧ k ≤ m ∧ w = wr ∧ q = tot (L.take k)) (fun _ i _ => m - (intOf i).toNat)
  case atStart => exact ⟨0, 0, rfl, rfl, by omega, rfl, rfl⟩
  case round =>
    obtain ⟨k, q, rfl, rfl, hk, rfl, hq⟩ := hrel
    have hq1 : q ≤ 1073741824 := by have := tot_le L k; have := HT.out; omega
    have HQ := Lib.hid hq
    clear hq
    by_cases hlt : k < m
    · obtain ⟨⟨SA, sn, sc, sz⟩, b, off, hs, rfl, hb, hc, hr⟩ := HS.out.at_ hlt
      have hlt2 : (k : Int) < m := by omega
      have hsn : sn ≤ 1073741824 := by
        have h1 := tot_take L hs; have h2 := tot_le L (k + 1); have := HT.out; simp only at h1; omega
      have HS1 := Lib.hid hs
      clear hs hr hb
      go_wp2
      go_roundw
      case rel => exact ⟨k + 1, q + sn, by go_num, by go_num, by omega, (by first | rfl | trivial), by rw [tot_take L HS1.out, ← HQ.out]⟩
      case measure => simp [intOf]; omega
    · have hlt2 : ¬ (k : Int) < m := by omega
      obtain rfl : q = tot L := by rw [HQ.out, HS.out.all (by omega)]
      clear HQ
      go_wp2_with fail
      (with_reducible refine (grow (tot L) HT.out _).mono ?_)
      (rintro e w1 ⟨A1, c1, rfl, ho, hb⟩; have O1 := Lib.hid ho; have B1 := Lib.hid hb; clear ho hb)
      go_wp2_with fail
      go_loopw [6, 27] (fun v i wr => ∃ k : Nat, i = .int .i64 k ∧ k ≤ m ∧ Gath w wr L k v) (fun _ i _ => m - (intOf i).toNat)
      case atStart => exact ⟨0, rfl, by omega, _, _, _, rfl, rfl, O1.out, B1.out⟩
      case round =>
        obtain ⟨k2, rfl, hk2, A2, q2, c2, rfl, hq2, ho, hb⟩ := hrel
        have O2 := Lib.hid ho
        have B2 := Lib.hid hb
        have HQ2 := Lib.hid hq2
        have hq21 : q2 ≤ 1073741824 := by have := tot_le L k2; have := HT.out; omega
        clear ho hb hq2
        by_cases hlt3 : k2 < m
        · obtain ⟨⟨SA, sn, sc, sz⟩, b, off, hs, rfl, hb, hc0, hr⟩ := HS.out.at_ hlt3
          have hlt4 : (k2 : Int) < m := by omega
          have hc := (B2.out.cell (p := ⟨b, off + k2, none⟩) hb).trans hc0
          have hsn : q2 + sn ≤ 1073741824 := by
            have h1 := tot_take L hs; have h2 := tot_le L (k2 + 1); have := HT.out; have := HQ2.out; simp only at h1; omega
          have HS1 := Lib.hid hs
          have R2 := Lib.hid (hr.below B2.out)
          clear hs hr hb hc0
          go_wp2_with (at_builtin; refine wpList_app _ rfl _ _ 49 rfl 3 i0 _ .i64 Tryd.underlying49 HZ.out.1 HZ.out.2.1 HZ.out.2.2.1 (by rw [HZ.out.2.2.2]; omega) rfl rfl rfl O2.out R2.out hsn B2.out.size ?_; intro A3 c3 w3 ho hb3; have O3 := Lib.hid ho; have B3 := Lib.hid (B2.out.trans hb3); clear ho hb3)
          go_roundw
          case rel => exact ⟨k2 + 1, by go_num, by omega, A3, _, c3, rfl, by rw [tot_take L HS1.out, ← HQ2.out], by rw [flat_take L HS1.out]; exact O3.out, B3.out⟩
          case measure => simp [intOf]; omega
        · have hlt4 : ¬ (k2 : Int) < m := by omega
          go_wp2
          go_ret
          have hz := O2.out
          rw [HS.out.all (show k2 = m by omega)] at hz
          exact ⟨_, _, _, rfl, hz, B2.out⟩
end Go.Proofs.YtkfkfejjhfkobaaDoor.cat
