/- Merged texts of this seat. Concat: slices.Concat of slices of integers, walked in the library's own text. Condition: together at most 2^30 elements. | Own: Small laws on rows of the call's own and on worlds that only drew. Condition: none. | Convm: The convolutional code, puncturing and symbols as lists of numbers: linear, its lengths, what is restored. Condition: none (no program). | Cnv1: The encoder's steps and the lengths, program and specification. Condition: none. | Crcm: The check of bytes as numbers, no program: the register's steps are linear, and a frame in which one or two bits were inverted has another check. Condition: frames of at most eleven bytes for the last. | Crc1: The check of bytes: shiftCrc and Crc16, program and specification. Condition: none. | Shelf: The library contracts that the proofs use, laid at this program by the kit's own command. Conditions: those that each theorem names. | Eq: EqualBytes and EqualInts, program and specification. Condition: none. | Enc: Varints as lists of numbers: the encoding, the decoding, and that each undoes the other. Condition: none (no program). | Uv: The functions of varints, program and specification: AppendUvarint. Condition: lengths up to 2^27. | Crc2: AppendCrc and CheckCrc, program and specification. Condition: lengths up to 2^26. | Itm: Interleaving as numbers, no program: the position of a symbol, that positions are a permutation, the least distance of neighbours, the symbols that a burst hits, and what a permutation is. Condition: none. -/
import Derived.Lib.AppendZerosOnto
import Derived.Lib.Walk
import Derived.Lib.SliceRun
import Derived.Shelf.Bits.Mul64
import Derived.Shelf.Bytes.SlEqualAll
import Derived.Shelf.Bytes.Small
import Derived.Test.YtdelpepepbkjmaaGreatDoorProg
import Derived.Laws.Bits128
import Derived.Test.YtdelpepepbkjmaaGreatDoorG1
section
namespace Go.Proofs.YtdelpepepbkjmaaGreatDoor.cat
open Go.RowKit sl harn

/-- slices.Grow of nil: a row of the call's own, of length 0. -/
def GrowPost (w : World) (e : Ending) (w' : World) : Prop := ∃ A cap, e = .returned (.slice A 0 cap) ∧ Ow 3 .i64 w' w.heap.size w'.heap.size A 0 cap [] ∧ Below w.heap.size w w'
theorem grow_own (w : World) (z : Array Value) (hz : z.size = 1) (n G : Nat) (hG : n ≤ G) (hm : G ≤ maxLen) :
    Ow 3 .i64 (w.alloc (.cells (Builtin.zeroCells z n ++ Builtin.zeroCells z (G - n)) 3)).drew w.heap.size (w.alloc (.cells (Builtin.zeroCells z n ++ Builtin.zeroCells z (G - n)) 3)).drew.heap.size (some ⟨w.heap.size, 0, none⟩) 0 G [] := by
  refine ⟨⟨rfl, Or.inr ⟨w.heap.size, G, _, rfl, Nat.le_refl _, heap_alloc_new w _, by omega, hm, ?_, by simp⟩⟩, Wf.nil _, Nat.le_refl _, ?_⟩
  · simp only [Array.size_append, size_zeroCells, hz]
    omega
  · intro g o e; injection e with e; injection e with e _; subst e; simp
set_option maxRecDepth 100000 in
theorem grow (n : Nat) (hn : n ≤ 1073741824) (w : World) : Calls Tryz.prog 85 #[.slice none 0 0, .int .i64 n] w (GrowPost w) := by
  obtain ⟨i0, hi0, hz0, hz1, hz2⟩ := info_parts intInfo
  by_cases h0 : n = 0
  · subst h0
    clear hi0 hz0 hz1 hz2
    go_enter Tryz.func85, Tryz.ntmps85
    go_wp2
    go_ret
    exact ⟨none, 0, rfl, Ow.nil_ _ _ _ _ _ (Nat.le_refl _), Below.refl _ _⟩
  · have hrz : ∀ ty, (Builtin.append_ #[28, 3] ty #[.slice none 0 0, .int .i64 n]).run Tryz.prog w =
        .ok (.slice (some ⟨w.heap.size, 0, none⟩) n (grownCap w n 0 3)) (w.drew.alloc (.cells (#[] ++ Builtin.zeroCells (Value.int .i64 0).cells n ++ Builtin.zeroCells (Value.int .i64 0).cells (grownCap w n 0 3 - n)) 3)) := fun ty => by
      have h := Lib.run_append_grow_zeros (P := Tryz.prog) w 28 3 ty 3 i0 (.int .i64 0) .i64 .i64 Tryz.underlying28 Tryz.underlying3 hi0 hz0 none 0 0 [] (run_firstCells_none w.drew i0.size 0 0 0) n (by omega) (by omega) (by omega) (by omega) (by rw [hz2]; omega)
        (by rw [Nat.zero_add]; exact growslice_fits (by omega) (by rw [hz2]; omega))
      rw [Nat.zero_add] at h
      exact h
    have hG := grownCap_ge w n 0 3
    have hM := grownCap_le_maxLen w n 0 3 (by unfold maxLen; omega)
    obtain ⟨G, hGe⟩ : ∃ G, grownCap w n 0 3 = G := ⟨_, rfl⟩
    rw [hGe] at hrz hG hM
    have hM2 : G ≤ 9223372036854775807 := by unfold maxLen at hM; omega
    have HM := Lib.hid hM
    have hpos : 0 < (n : Int) := by omega
    clear hi0 hz0 hz1 hz2 hGe hM
    go_enter Tryz.func85, Tryz.ntmps85
    go_wp2_with (at_builtin; refine Lib.wpList_append_run _ rfl _ _ _ _ rfl _ _ rfl rfl _ _ (hrz _) ?_)
    go_ret
    exact ⟨_, _, rfl, grow_own w #[.int .i64 0] rfl n G hG HM.out, ((Below.refl _ _).alloc (Nat.le_refl _) _).drew⟩

/-- A slice that is one of several. -/
structure Piece where
  A : Option Addr
  n : Nat
  cap : Nat
  zs : List Int
def tot (L : List Piece) : Nat := (L.map Piece.n).sum
def flat (L : List Piece) : List Int := (L.map Piece.zs).flatten
theorem tot_take (L : List Piece) {k : Nat} {s : Piece} (h : L[k]? = some s) : tot (L.take (k + 1)) = tot (L.take k) + s.n := by
  simp [tot, List.take_add_one, h]
theorem flat_take (L : List Piece) {k : Nat} {s : Piece} (h : L[k]? = some s) : flat (L.take (k + 1)) = flat (L.take k) ++ s.zs := by
  simp [flat, List.take_add_one, h]
theorem tot_le : ∀ (L : List Piece) (k : Nat), tot (L.take k) ≤ tot L
  | [], k => by simp
  | s :: L, 0 => by simp [tot]
  | s :: L, k + 1 => by have := tot_le L k; simp only [List.take_succ_cons]; simp [tot] at this ⊢; omega
/-- The slices lie in memory, one behind the other, and each is read. -/
def Pieces (w : World) (X : Option Addr) (m : Nat) (L : List Piece) : Prop :=
  L.length = m ∧ ∀ j s, L[j]? = some s → (∃ b off, X = some ⟨b, off, none⟩ ∧ b < w.heap.size ∧ w.cell? ⟨b, off + j, none⟩ = some (.slice s.A s.n s.cap)) ∧ Rd .i64 w 0 w.heap.size s.A s.n s.cap s.zs
theorem Pieces.at_ {w : World} {X : Option Addr} {m : Nat} {L : List Piece} (h : Pieces w X m L) {k : Nat} (hk : k < m) : ∃ s b off, L[k]? = some s ∧ X = some ⟨b, off, none⟩ ∧ b < w.heap.size ∧ w.cell? ⟨b, off + k, none⟩ = some (.slice s.A s.n s.cap) ∧ Rd .i64 w 0 w.heap.size s.A s.n s.cap s.zs := by
  have hl : k < L.length := by rw [h.1]; exact hk
  obtain ⟨⟨b, off, e, h1, h2⟩, h3⟩ := h.2 k _ (List.getElem?_eq_getElem hl)
  exact ⟨_, b, off, List.getElem?_eq_getElem hl, e, h1, h2, h3⟩
theorem Pieces.all {w : World} {X : Option Addr} {m : Nat} {L : List Piece} (h : Pieces w X m L) {k : Nat} (hk : k = m) : L.take k = L := List.take_of_length_le (by rw [h.1]; omega)
/-- The result being gathered. -/
def Gath (w wr : World) (L : List Piece) (k : Nat) (v : Value) : Prop := ∃ A q c, v = .slice A q c ∧ q = tot (L.take k) ∧ Ow 3 .i64 wr w.heap.size wr.heap.size A q c (flat (L.take k)) ∧ Below w.heap.size w wr

set_option maxRecDepth 100000 in
set_option maxHeartbeats 4000000 in
theorem concat (L : List Piece) (X : Option Addr) (m c : Nat) (w : World) (h : Pieces w X m L) (hm : m ≤ 1073741824) (ht : tot L ≤ 1073741824) :
    Calls Tryz.prog 51 #[.slice X m c] w (SlPost 3 .i64 w (flat L)) := by
  obtain ⟨i0, hi0, hz0, hz1, hz2⟩ := info_parts intInfo
  have HZ := Lib.hid (And.intro hi0 (And.intro hz0 (And.intro hz1 hz2)))
  have HS := Lib.hid h
  have HT := Lib.hid ht
  clear h hi0 hz0 hz1 hz2 ht
  go_enter Tryz.func51, Tryz.ntmps51
  go_wp2
  go_loopw [3, 11] (fun x i wr => ∃ (k q : Nat), i = .int .i64 k ∧ x = .int .i64 q ∧ k ≤ m ∧ w = wr ∧ q = tot (L.take k)) (fun _ i _ => m - (intOf i).toNat)
  case atStart => exact ⟨0, 0, rfl, rfl, by omega, rfl, rfl⟩
  case round =>
    obtain ⟨k, q, rfl, rfl, hk, rfl, hq⟩ := hrel
    have hq1 : q ≤ 1073741824 := by have := tot_le L k; have := HT.out; omega
    have HQ := Lib.hid hq
    clear hq
    by_cases hlt : k < m
    · obtain ⟨⟨SA, sn, sc, sz⟩, b, off, hs, rfl, hb, hc, hr⟩ := HS.out.at_ hlt
      have hlt2 : (k : Int) < m := by omega
      have hsn : sn ≤ 1073741824 := by
        have h1 := tot_take L hs; have h2 := tot_le L (k + 1); have := HT.out; simp only at h1; omega
      have HS1 := Lib.hid hs
      clear hs hr hb
      go_wp2
      go_roundw
      case rel => exact ⟨k + 1, q + sn, by go_num, by go_num, by omega, (by first | rfl | trivial), by rw [tot_take L HS1.out, ← HQ.out]⟩
      case measure => simp [intOf]; omega
    · have hlt2 : ¬ (k : Int) < m := by omega
      obtain rfl : q = tot L := by rw [HQ.out, HS.out.all (by omega)]
      clear HQ
      go_wp2_with fail
      (with_reducible refine (grow (tot L) HT.out _).mono ?_)
      (rintro e w1 ⟨A1, c1, rfl, ho, hb⟩; have O1 := Lib.hid ho; have B1 := Lib.hid hb; clear ho hb)
      go_wp2_with fail
      go_loopw [6, 27] (fun v i wr => ∃ k : Nat, i = .int .i64 k ∧ k ≤ m ∧ Gath w wr L k v) (fun _ i _ => m - (intOf i).toNat)
      case atStart => exact ⟨0, rfl, by omega, _, _, _, rfl, rfl, O1.out, B1.out⟩
      case round =>
        obtain ⟨k2, rfl, hk2, A2, q2, c2, rfl, hq2, ho, hb⟩ := hrel
        have O2 := Lib.hid ho
        have B2 := Lib.hid hb
        have HQ2 := Lib.hid hq2
        have hq21 : q2 ≤ 1073741824 := by have := tot_le L k2; have := HT.out; omega
        clear ho hb hq2
        by_cases hlt3 : k2 < m
        · obtain ⟨⟨SA, sn, sc, sz⟩, b, off, hs, rfl, hb, hc0, hr⟩ := HS.out.at_ hlt3
          have hlt4 : (k2 : Int) < m := by omega
          have hc := (B2.out.cell (p := ⟨b, off + k2, none⟩) hb).trans hc0
          have hsn : q2 + sn ≤ 1073741824 := by
            have h1 := tot_take L hs; have h2 := tot_le L (k2 + 1); have := HT.out; have := HQ2.out; simp only at h1; omega
          have HS1 := Lib.hid hs
          have R2 := Lib.hid (hr.below B2.out)
          clear hs hr hb hc0
          go_wp2_with (at_builtin; refine wpList_app _ rfl _ _ 28 rfl 3 i0 _ .i64 Tryz.underlying28 HZ.out.1 HZ.out.2.1 HZ.out.2.2.1 (by rw [HZ.out.2.2.2]; omega) rfl rfl rfl O2.out R2.out hsn B2.out.size ?_; intro A3 c3 w3 ho hb3; have O3 := Lib.hid ho; have B3 := Lib.hid (B2.out.trans hb3); clear ho hb3)
          go_roundw
          case rel => exact ⟨k2 + 1, by go_num, by omega, A3, _, c3, rfl, by rw [tot_take L HS1.out, ← HQ2.out], by rw [flat_take L HS1.out]; exact O3.out, B3.out⟩
          case measure => simp [intOf]; omega
        · have hlt4 : ¬ (k2 : Int) < m := by omega
          go_wp2
          go_ret
          have hz := O2.out
          rw [HS.out.all (show k2 = m by omega)] at hz
          exact ⟨_, _, _, rfl, hz, B2.out⟩
end Go.Proofs.YtdelpepepbkjmaaGreatDoor.cat
end

section
namespace Go.Proofs.YtdelpepepbkjmaaGreatDoor.own
open Go.RowKit sl harn

section
variable {E : TypeId} {k : IntKind} {w : World} {lo hi n cap m : Nat} {A : Option Addr} {zs : List Int}
theorem ow_drewN (h : Ow E k w lo hi A n cap zs) : Ow E k (w.drewN m) lo hi A n cap zs := h.same (Nat.le_refl _) fun _ _ _ => rfl
theorem ow_drew (h : Ow E k w lo hi A n cap zs) : Ow E k w.drew lo hi A n cap zs := h.same (Nat.le_refl _) fun _ _ _ => rfl
theorem below_drewN {B m : Nat} {a w : World} (h : Below B a w) : Below B a (w.drewN m) := h.trans ⟨rfl, rfl, rfl, Nat.le_refl _, fun _ _ => rfl⟩
theorem below_drew {B : Nat} {a w : World} (h : Below B a w) : Below B a w.drew := h.trans ⟨rfl, rfl, rfl, Nat.le_refl _, fun _ _ => rfl⟩
theorem rd_drew (h : Rd k w lo hi A n cap zs) : Rd k w.drew lo hi A n cap zs := h.same (Nat.le_refl _) fun _ _ _ => rfl
theorem rd_drewN (h : Rd k w lo hi A n cap zs) : Rd k (w.drewN m) lo hi A n cap zs := h.same (Nat.le_refl _) fun _ _ _ => rfl
theorem own_some (h : Ow E k w lo hi A n cap zs) (hn : 0 < n) : ∃ b, A = some ⟨b, 0, none⟩ ∧ lo ≤ b := by
  rcases h.form with ⟨_, h0, _⟩ | ⟨g, cur, h, g1, _⟩
  · omega
  · exact ⟨g, h, g1⟩
/-- Behind a change of one cell of a row of the call's own. -/
theorem ow_set {b : Nat} (h : Ow E k w lo hi (some ⟨b, 0, none⟩) n cap zs) (i : Nat) (v : Int) (hv : (Lit.int k v).wf = true) : Ow E k (w.setCell ⟨b, i, none⟩ (.int k v)) lo hi (some ⟨b, 0, none⟩) n cap (zs.set i v) := by
  have hs := h.1.stored i (.int k v)
  have e : (zs.map (Value.int k)).set i (.int k v) = (zs.set i v).map (Value.int k) := by rw [List.map_set]
  refine ⟨?_, ?_, ?_, h.2.2.2⟩
  · rw [← e]; exact hs.1
  · intro z hz
    rcases List.mem_or_eq_of_mem_set hz with hz | hz
    · exact h.wf z hz
    · rw [hz]; exact hv
  · have := h.hi_; simpa [World.setCell] using this
theorem cell_of {b : Nat} (h : Ow E k w lo hi (some ⟨b, 0, none⟩) n cap zs) {j : Nat} (hj : j < n) : w.cell? ⟨b, j, none⟩ = some (.int k (zs.getD j 0)) := by
  obtain ⟨b', off, e, _, _, hc⟩ := h.rd.at_ hj
  injection e with e; injection e with e1 e2 e3
  subst e1 e2
  rwa [Nat.zero_add] at hc
end
theorem wf_at {zs : List Int} {n : Nat} (h : Wf .i64 zs) (hl : zs.length = n) {k : Nat} (hk : k < n) {x : Int} (hx : zs.getD k 0 = x) : (Lit.int .i64 x).wf = true := by
  rw [← hx]; exact h.getD (by omega)
theorem wf_in {x : Int} (h : (Lit.int .i64 x).wf = true) : -9223372036854775808 ≤ x ∧ x ≤ 9223372036854775807 := by have := bounds_i64 h; omega
end Go.Proofs.YtdelpepepbkjmaaGreatDoor.own
end

section
namespace Go.Proofs.YtdelpepepbkjmaaGreatDoor.cvm
open Go.RowKit sl bm
set_option linter.unusedVariables false

/-- A state of the encoder and a bit. -/
def Sb (s b : Int) : Prop := (0 ≤ s ∧ s ≤ 3) ∧ (0 ≤ b ∧ b ≤ 1)
instance (s b : Int) : Decidable (Sb s b) := inferInstanceAs (Decidable ((0 ≤ s ∧ s ≤ 3) ∧ (0 ≤ b ∧ b ≤ 1)))
theorem Sb.st {s b : Int} (h : Sb s b) : 0 ≤ s ∧ s ≤ 3 := h.1
theorem Sb.bit {s b : Int} (h : Sb s b) : 0 ≤ b ∧ b ≤ 1 := h.2
def op1 (s b : Int) : Int := (b + s % 2 + s / 2) % 2
def op2 (s b : Int) : Int := (b + s / 2) % 2
def nst (s b : Int) : Int := (2 * s + b) % 4
def nxt (s b : Int) : Int := if Sb s b then nst s b else 0
def outp (s b : Int) : Int × Int := if Sb s b then (op1 s b, op2 s b) else (0, 0)
theorem nxt_yes {s b : Int} (h : Sb s b) : nxt s b = nst s b := if_pos h
theorem nxt_no {s b : Int} (h : ¬ Sb s b) : nxt s b = 0 := if_neg h
theorem outp_yes {s b : Int} (h : Sb s b) : outp s b = (op1 s b, op2 s b) := if_pos h
theorem outp_no {s b : Int} (h : ¬ Sb s b) : outp s b = (0, 0) := if_neg h
theorem nst_in (s b : Int) : 0 ≤ nst s b ∧ nst s b ≤ 3 := by unfold nst; omega
theorem op1_in (s b : Int) : 0 ≤ op1 s b ∧ op1 s b ≤ 1 := by unfold op1; omega
theorem op2_in (s b : Int) : 0 ≤ op2 s b ∧ op2 s b ≤ 1 := by unfold op2; omega
/-- The symbols of some bits from a state on, and the state behind them. -/
def cw : Int → List Int → List Int
  | _, [] => []
  | s, b :: r => op1 s b :: op2 s b :: cw (nst s b) r
def fin : Int → List Int → Int
  | s, [] => s
  | s, b :: r => fin (nst s b) r
theorem cw_append : ∀ (s : Int) (a b : List Int), cw s (a ++ b) = cw s a ++ cw (fin s a) b
  | _, [], _ => rfl
  | s, x :: a, b => by simp only [List.cons_append, cw, fin, cw_append (nst s x) a b]
theorem fin_append : ∀ (s : Int) (a b : List Int), fin s (a ++ b) = fin (fin s a) b
  | _, [], _ => rfl
  | s, x :: a, b => by simp only [List.cons_append, fin, fin_append (nst s x) a b]
theorem cw_len : ∀ (s : Int) (a : List Int), (cw s a).length = 2 * a.length
  | _, [] => rfl
  | s, x :: a => by simp only [cw, List.length_cons, cw_len (nst s x) a]; omega
theorem cw_bit : ∀ (s : Int) (a : List Int), ∀ z ∈ cw s a, 0 ≤ z ∧ z ≤ 1
  | _, [], _, h => by cases h
  | s, x :: a, z, h => by
    simp only [cw, List.mem_cons] at h
    rcases h with rfl | rfl | h
    · exact op1_in s x
    · exact op2_in s x
    · exact cw_bit _ a z h
theorem fin_in : ∀ (s : Int) (a : List Int), 0 ≤ s ∧ s ≤ 3 → 0 ≤ fin s a ∧ fin s a ≤ 3
  | _, [], h => h
  | s, x :: a, _ => fin_in _ a (nst_in s x)
theorem take_one {zs : List Int} {k : Nat} (h : k < zs.length) : zs.take (k + 1) = zs.take k ++ [zs.getD k 0] := by
  rw [List.take_add_one, List.getElem?_eq_getElem h, List.getD_eq_getElem?_getD, List.getElem?_eq_getElem h]; rfl
theorem cw_take (s : Int) {zs : List Int} {k : Nat} (h : k < zs.length) {x : Int} (hx : zs.getD k 0 = x) : cw s (zs.take (k + 1)) = cw s (zs.take k) ++ [op1 (fin s (zs.take k)) x, op2 (fin s (zs.take k)) x] := by
  rw [take_one h, cw_append, hx]; rfl
theorem fin_take (s : Int) {zs : List Int} {k : Nat} (h : k < zs.length) {x : Int} (hx : zs.getD k 0 = x) : fin s (zs.take (k + 1)) = nst (fin s (zs.take k)) x := by
  rw [take_one h, fin_append, hx]; rfl
/-- The code word of some bits. -/
def tail (l : List Int) : List Int := l ++ [0, 0]
def conv (l : List Int) : List Int := if isb l = true then cw 0 (tail l) else []
theorem conv_yes {l : List Int} (h : isb l = true) : conv l = cw 0 (tail l) := if_pos h
theorem conv_no {l : List Int} (h : ¬ isb l = true) : conv l = [] := if_neg h
theorem tail_len (l : List Int) : (tail l).length = l.length + 2 := by simp [tail]
theorem tail_at (l : List Int) {k : Nat} (h : k < l.length) : (tail l).getD k 0 = l.getD k 0 := by
  rw [tail, List.getD_eq_getElem?_getD, List.getElem?_append_left h, List.getD_eq_getElem?_getD]
theorem tail_zero (l : List Int) {k : Nat} (h : ¬ k < l.length) : (tail l).getD k 0 = 0 := by
  rw [tail, List.getD_eq_getElem?_getD, List.getElem?_append_right (by omega)]
  rcases hk : k - l.length with _ | _ | m <;> simp
theorem tail_isb {l : List Int} (h : isb l = true) : isb (tail l) = true := (isb_iff _).2 fun z hz => by
  rcases List.mem_append.1 hz with hz | hz
  · exact isb_all h z hz
  · simp at hz; omega
theorem isb_tail {l : List Int} (h : isb (tail l) = true) : isb l = true := isb_sub h fun z hz => List.mem_append_left _ hz
theorem conv_len (l : List Int) : (conv l).length ≤ 2 * (l.length + 2) := by
  unfold conv
  split
  · rw [cw_len, tail_len]; omega
  · simp
theorem conv_len_yes {l : List Int} (h : isb l = true) : (conv l).length = 2 * (l.length + 2) := by rw [conv_yes h, cw_len, tail_len]
theorem conv_bit (l : List Int) : ∀ z ∈ conv l, 0 ≤ z ∧ z ≤ 1 := fun z hz => by
  unfold conv at hz
  split at hz
  · exact cw_bit _ _ z hz
  · cases hz
theorem conv_isb (l : List Int) : isb (conv l) = true := (isb_iff _).2 (conv_bit l)
theorem conv_wf (l : List Int) : Wf .i64 (conv l) := Wf.of_i64 fun z hz => by have := conv_bit l z hz; omega
/-- The sum of two bits, and of two states bit by bit. -/
def bx (x y : Int) : Int := bits .and .i64 (bits .xor .i64 x y) 1
def sx (s t : Int) : Int := ((s % 2 + t % 2) % 2) + 2 * ((s / 2 + t / 2) % 2)
theorem bx_in {x y : Int} (hx : 0 ≤ x ∧ x ≤ 1) (hy : 0 ≤ y ∧ y ≤ 1) : bx x y = (x + y) % 2 := by
  rw [bx, bit_xor hx hy]; split <;> omega
theorem lin1 {s t b c : Int} (hs : 0 ≤ s ∧ s ≤ 3) (ht : 0 ≤ t ∧ t ≤ 3) (hb : 0 ≤ b ∧ b ≤ 1) (hc : 0 ≤ c ∧ c ≤ 1) : bx (op1 s b) (op1 t c) = op1 (sx s t) (bx b c) := by
  rw [bx_in (op1_in s b) (op1_in t c), bx_in hb hc]; unfold op1 sx; omega
theorem lin2 {s t b c : Int} (hs : 0 ≤ s ∧ s ≤ 3) (ht : 0 ≤ t ∧ t ≤ 3) (hb : 0 ≤ b ∧ b ≤ 1) (hc : 0 ≤ c ∧ c ≤ 1) : bx (op2 s b) (op2 t c) = op2 (sx s t) (bx b c) := by
  rw [bx_in (op2_in s b) (op2_in t c), bx_in hb hc]; unfold op2 sx; omega
theorem lin3 {s t b c : Int} (hs : 0 ≤ s ∧ s ≤ 3) (ht : 0 ≤ t ∧ t ≤ 3) (hb : 0 ≤ b ∧ b ≤ 1) (hc : 0 ≤ c ∧ c ≤ 1) : sx (nst s b) (nst t c) = nst (sx s t) (bx b c) := by
  rw [bx_in hb hc]; unfold nst sx; omega
theorem cw_lin : ∀ (a b : List Int) (s t : Int), 0 ≤ s ∧ s ≤ 3 → 0 ≤ t ∧ t ≤ 3 → (∀ z ∈ a, 0 ≤ z ∧ z ≤ 1) → (∀ z ∈ b, 0 ≤ z ∧ z ≤ 1) → a.length = b.length → xorB (cw s a) (cw t b) = cw (sx s t) (xorB a b)
  | [], b, s, t, _, _, _, _, _ => by simp [cw, xorB]
  | x :: a, [], s, t, _, _, _, _, h => by simp at h
  | x :: a, y :: b, s, t, hs, ht, ha, hb, h => by
    have hx := ha x (List.mem_cons_self ..)
    have hy := hb y (List.mem_cons_self ..)
    have ih := cw_lin a b (nst s x) (nst t y) (nst_in s x) (nst_in t y) (fun z hz => ha z (List.mem_cons_of_mem _ hz)) (fun z hz => hb z (List.mem_cons_of_mem _ hz)) (by simpa using h)
    have e1 : xorB (cw s (x :: a)) (cw t (y :: b)) = bx (op1 s x) (op1 t y) :: bx (op2 s x) (op2 t y) :: xorB (cw (nst s x) a) (cw (nst t y) b) := rfl
    have e2 : xorB (x :: a) (y :: b) = bx x y :: xorB a b := rfl
    rw [e1, e2, ih, lin1 hs ht hx hy, lin2 hs ht hx hy, lin3 hs ht hx hy]
    rfl
theorem xor_isb {a b : List Int} (ha : isb a = true) (hb : isb b = true) : isb (xorB a b) = true := isb_of_at fun i hi => by
  rw [xorB_len] at hi
  rw [xorB_at a b (by omega) (by omega)]
  have := bx_in (isb_getD ha i) (isb_getD hb i)
  unfold bx at this
  rw [this]; omega
theorem xor_tail {a b : List Int} (h : a.length = b.length) : xorB (tail a) (tail b) = tail (xorB a b) := by
  unfold tail xorB
  rw [List.zipWith_append h]
  rfl
theorem conv_lin {a b : List Int} (ha : isb a = true) (hb : isb b = true) (h : a.length = b.length) : xorB (conv a) (conv b) = conv (xorB a b) := by
  rw [conv_yes ha, conv_yes hb, conv_yes (xor_isb ha hb), cw_lin _ _ 0 0 (by omega) (by omega) (isb_all (tail_isb ha)) (isb_all (tail_isb hb)) (by rw [tail_len, tail_len, h]), xor_tail h]
  rfl
/-- The lengths. -/
def enl (c : Int) : Int := if 0 ≤ c ∧ c ≤ 1000000000000 then 2 * (c + 2) else 0
theorem enl_yes {c : Int} (h : 0 ≤ c ∧ c ≤ 1000000000000) : enl c = 2 * (c + 2) := if_pos h
theorem enl_no {c : Int} (h : ¬ (0 ≤ c ∧ c ≤ 1000000000000)) : enl c = 0 := if_neg h
def plen (n : Int) : Int := if n < 0 then 0 else n - n / 4
theorem plen_nat (n : Nat) : plen n = ((n - n / 4 : Nat) : Int) := by unfold plen; rw [if_neg (by omega)]; omega
theorem plen_neg {n : Int} (h : n < 0) : plen n = 0 := if_pos h
/-- What puncturing leaves, from the index i on. -/
def pk : Nat → List Int → List Int
  | _, [] => []
  | i, x :: r => if i % 4 = 3 then pk (i + 1) r else x :: pk (i + 1) r
theorem pk_append : ∀ (i : Nat) (a b : List Int), pk i (a ++ b) = pk i a ++ pk (i + a.length) b
  | i, [], b => rfl
  | i, x :: a, b => by
    simp only [List.cons_append, pk, pk_append (i + 1) a b, List.length_cons]
    rw [show i + (a.length + 1) = i + 1 + a.length by omega]
    split <;> rfl
theorem pk_take {zs : List Int} {k : Nat} (h : k < zs.length) {x : Int} (hx : zs.getD k 0 = x) : pk 0 (zs.take (k + 1)) = if k % 4 = 3 then pk 0 (zs.take k) else pk 0 (zs.take k) ++ [x] := by
  rw [take_one h, pk_append, hx, List.length_take, Nat.min_eq_left (by omega), Nat.zero_add]
  simp only [pk]
  split
  · rw [List.append_nil]
  · rfl
theorem pk_len (zs : List Int) : ∀ k, k ≤ zs.length → (pk 0 (zs.take k)).length = k - k / 4
  | 0, _ => rfl
  | k + 1, h => by
    have ih := pk_len zs k (by omega)
    rw [pk_take (by omega) rfl]
    split
    · rw [ih]; omega
    · rw [List.length_append, ih, List.length_singleton]; omega
def punc (l : List Int) : List Int := pk 0 l
theorem punc_len (l : List Int) : (punc l).length = l.length - l.length / 4 := by
  have := pk_len l l.length (Nat.le_refl _)
  rwa [List.take_of_length_le (Nat.le_refl _)] at this
theorem pk_mem : ∀ (i : Nat) (l : List Int), ∀ z ∈ pk i l, z ∈ l
  | _, [], _, h => by cases h
  | i, x :: r, z, h => by
    simp only [pk] at h
    split at h
    · exact List.mem_cons_of_mem _ (pk_mem _ r z h)
    · rcases List.mem_cons.1 h with rfl | h
      · exact List.mem_cons_self ..
      · exact List.mem_cons_of_mem _ (pk_mem _ r z h)
theorem punc_wf {l : List Int} (h : Wf .i64 l) : Wf .i64 (punc l) := fun z hz => h z (pk_mem 0 l z hz)
theorem punc_at (l : List Int) {k : Nat} (h : k < l.length) (h3 : ¬ k % 4 = 3) : (punc l).getD (k - k / 4) 0 = l.getD k 0 := by
  have e : l = l.take k ++ (l.getD k 0 :: l.drop (k + 1)) := by
    have h1 := List.take_append_drop (k + 1) l
    rw [take_one h, List.append_assoc] at h1
    exact h1.symm
  have h2 : punc l = pk 0 (l.take k) ++ (l.getD k 0 :: pk (k + 1) (l.drop (k + 1))) := by
    unfold punc
    conv => lhs; rw [e]
    rw [pk_append, List.length_take, Nat.min_eq_left (by omega), Nat.zero_add]
    simp only [pk, if_neg h3]
  rw [h2, List.getD_eq_getElem?_getD, List.getElem?_append_right (by rw [pk_len l k (by omega)]; omega), pk_len l k (by omega), Nat.sub_self]
  rfl
/-- What is restored. -/
def dep1 (l : List Int) (m : Nat) : List Int := (List.range m).map fun i => if i % 4 = 3 then 2 else l.getD (i - i / 4) 0
def dep (l : List Int) (c : Int) : List Int := if (0 ≤ c ∧ c ≤ 4000) ∧ (l.length : Int) = plen c then dep1 l c.toNat else []
theorem dep_yes {l : List Int} {c : Int} (h : 0 ≤ c ∧ c ≤ 4000) (h2 : (l.length : Int) = plen c) : dep l c = dep1 l c.toNat := if_pos ⟨h, h2⟩
theorem dep_no {l : List Int} {c : Int} (h : ¬ ((0 ≤ c ∧ c ≤ 4000) ∧ (l.length : Int) = plen c)) : dep l c = [] := if_neg h
theorem dep1_len (l : List Int) (m : Nat) : (dep1 l m).length = m := by simp [dep1]
theorem dep1_at (l : List Int) {m i : Nat} (h : i < m) : (dep1 l m).getD i 0 = if i % 4 = 3 then 2 else l.getD (i - i / 4) 0 := by
  simp [dep1, List.getD_eq_getElem?_getD, h]
theorem dep_len (l : List Int) (c : Int) : (dep l c).length ≤ 4000 := by
  unfold dep
  split
  · rw [dep1_len]; omega
  · simp
theorem dep1_wf {l : List Int} (h : Wf .i64 l) (m : Nat) : Wf .i64 (dep1 l m) := fun z hz => by
  obtain ⟨i, _, rfl⟩ := List.mem_map.1 hz
  split
  · exact WalkArith.wf_i64 (by omega)
  · rcases Nat.lt_or_ge (i - i / 4) l.length with hi | hi
    · exact h.getD hi
    · rw [List.getD_eq_getElem?_getD, List.getElem?_eq_none hi]; exact WalkArith.wf_i64 (by simp)
theorem dep_wf {l : List Int} (h : Wf .i64 l) (c : Int) : Wf .i64 (dep l c) := by
  unfold dep
  split
  · exact dep1_wf h _
  · exact Wf.nil _
theorem dep_punc (l : List Int) (h : l.length ≤ 4000) : dep (punc l) l.length = dep1 (punc l) l.length := by
  rw [dep_yes (by omega) (by rw [plen_nat, punc_len]), Int.toNat_natCast]
theorem dep_punc4 (l : List Int) : dep (punc l) ((l.length + 4 : Nat) : Int) = [] := dep_no fun h => by
  have := h.2
  rw [plen_nat, punc_len] at this
  omega
theorem conv_ins (l : List Int) : inr (conv l) 0 2 = true := (inr_iff _ _ _).2 fun z hz => by have := conv_bit l z hz; omega
theorem weight_one : wt (conv [1]) = 5 := by decide +kernel
end Go.Proofs.YtdelpepepbkjmaaGreatDoor.cvm
end

section
namespace Go.Proofs.YtdelpepepbkjmaaGreatDoor.cvs
open Go.RowKit sl harn bm rng cvm

theorem isEnc_yes (s b : Int) (h : Sb s b) (w : World) :
    Calls Tryz.prog 120 #[.int .i64 s, .int .i64 b] w fun e w' => e = .returned (.bool true) ∧ w = w' := by
  have H := Lib.hid h
  clear h
  go_enter Tryz.func120, Tryz.ntmps120
  go_wp2_with fail
  (with_reducible refine (inRange_yes s 0 3 (Sb.st H.out) _).mono ?_)
  rintro e w1 ⟨rfl, rfl⟩
  go_wp2_with fail
  (with_reducible refine (inRange_yes b 0 1 (Sb.bit H.out) _).mono ?_)
  rintro e w1 ⟨rfl, rfl⟩
  go_wp2_with fail
  go_ret
  exact ⟨rfl, rfl⟩
theorem isEnc_no (s b : Int) (h : ¬ Sb s b) (w : World) :
    Calls Tryz.prog 120 #[.int .i64 s, .int .i64 b] w fun e w' => e = .returned (.bool false) ∧ w = w' := by
  by_cases h1 : 0 ≤ s ∧ s ≤ 3
  · have H1 := Lib.hid h1
    have H2 := Lib.hid (show ¬ (0 ≤ b ∧ b ≤ 1) from fun g => h ⟨h1, g⟩)
    clear h h1
    go_enter Tryz.func120, Tryz.ntmps120
    go_wp2_with fail
    (with_reducible refine (inRange_yes s 0 3 H1.out _).mono ?_)
    rintro e w1 ⟨rfl, rfl⟩
    go_wp2_with fail
    (with_reducible refine (inRange_no b 0 1 H2.out _).mono ?_)
    rintro e w1 ⟨rfl, rfl⟩
    go_wp2_with fail
    go_ret
    exact ⟨rfl, rfl⟩
  · have H1 := Lib.hid h1
    clear h h1
    go_enter Tryz.func120, Tryz.ntmps120
    go_wp2_with fail
    (with_reducible refine (inRange_no s 0 3 H1.out _).mono ?_)
    rintro e w1 ⟨rfl, rfl⟩
    go_wp2_with fail
    go_ret
    exact ⟨rfl, rfl⟩
theorem low2 (n : Int) : bits .and .i64 n 3 = n % 4 := draw.low_bits 2 (by omega) n
theorem implNext (s b : Int) (w : World) :
    Calls Tryz.prog 89 #[.int .i64 s, .int .i64 b] w fun e w' => e = .returned (.int .i64 (nxt s b)) ∧ w = w' := by
  by_cases h : Sb s b
  · have H := Lib.hid h
    obtain ⟨⟨h1, h2⟩, h3, h4⟩ := h
    have hl := low2 (2 * s + b)
    have HE := Lib.hid (nxt_yes H.out)
    obtain ⟨v, hv⟩ : ∃ v, (2 * s + b) % 4 = v := ⟨_, rfl⟩
    have HV := Lib.hid (show nst s b = v from hv)
    rw [hv] at hl
    clear hv
    go_enter Tryz.func89, Tryz.ntmps89
    go_wp2_with fail
    (with_reducible refine (isEnc_yes s b H.out _).mono ?_)
    rintro e w1 ⟨rfl, rfl⟩
    go_wp2_with fail
    go_ret
    exact ⟨ret_num (by rw [HE.out, HV.out]), rfl⟩
  · have H := Lib.hid h
    have HE := Lib.hid (nxt_no h)
    clear h
    go_enter Tryz.func89, Tryz.ntmps89
    go_wp2_with fail
    (with_reducible refine (isEnc_no s b H.out _).mono ?_)
    rintro e w1 ⟨rfl, rfl⟩
    go_wp2_with fail
    go_ret
    exact ⟨ret_num HE.out.symm, rfl⟩
theorem specNext (s b : Int) (w : World) :
    Calls Tryz.prog 117 #[.int .i64 s, .int .i64 b] w fun e w' => e = .returned (.int .i64 (nxt s b)) ∧ w = w' := by
  by_cases hs : 0 ≤ s ∧ s ≤ 3
  · by_cases hb : 0 ≤ b ∧ b ≤ 1
    · have H := Lib.hid hs
      have H' := Lib.hid hb
      obtain ⟨h1, h2⟩ := hs
      obtain ⟨h3, h4⟩ := hb
      have hl := low2 (2 * s + b)
      have HE := Lib.hid (nxt_yes ⟨H.out, H'.out⟩)
      obtain ⟨v, hv⟩ : ∃ v, (2 * s + b) % 4 = v := ⟨_, rfl⟩
      have HV := Lib.hid (show nst s b = v from hv)
      rw [hv] at hl
      clear hv
      go_enter Tryz.func117, Tryz.ntmps117
      go_wp2_with fail
      (with_reducible refine (l1In_yes s 0 3 H.out _).mono ?_)
      rintro e w1 ⟨rfl, rfl⟩
      go_wp2_with fail
      (with_reducible refine (l1In_yes b 0 1 H'.out _).mono ?_)
      rintro e w1 ⟨rfl, rfl⟩
      go_wp2_with fail
      go_ret
      exact ⟨ret_num (by rw [HE.out, HV.out]), rfl⟩
    · have H := Lib.hid hs
      have H' := Lib.hid hb
      have HE := Lib.hid (nxt_no (s := s) (b := b) fun g => hb g.2)
      clear hs hb
      go_enter Tryz.func117, Tryz.ntmps117
      go_wp2_with fail
      (with_reducible refine (l1In_yes s 0 3 H.out _).mono ?_)
      rintro e w1 ⟨rfl, rfl⟩
      go_wp2_with fail
      (with_reducible refine (l1In_no b 0 1 H'.out _).mono ?_)
      rintro e w1 ⟨rfl, rfl⟩
      go_wp2_with fail
      go_ret
      exact ⟨ret_num HE.out.symm, rfl⟩
  · have H := Lib.hid hs
    have HE := Lib.hid (nxt_no (s := s) (b := b) fun g => hs g.1)
    clear hs
    go_enter Tryz.func117, Tryz.ntmps117
    go_wp2_with fail
    (with_reducible refine (l1In_no s 0 3 H.out _).mono ?_)
    rintro e w1 ⟨rfl, rfl⟩
    go_wp2_with fail
    go_ret
    exact ⟨ret_num HE.out.symm, rfl⟩

/-- Two results: two numbers. -/
def two (t : Int × Int) : Value := .tuple #[.int .i64 t.1, .int .i64 t.2]
def TwoPost (t : Int × Int) (w : World) (e : Ending) (w' : World) : Prop := e = .returned (two t) ∧ w = w'
theorem TwoPost.parts {t : Int × Int} {p q : Int} (ht : t = (p, q)) {w : World} {e : Ending} {w' : World} (h : TwoPost t w e w') : e = .returned (.tuple #[.int .i64 p, .int .i64 q]) ∧ w = w' := by
  subst ht; exact h
/-- The facts of the bits of a state and a bit. -/
theorem st_facts {s b : Int} (h : Sb s b) : ∃ p q r u v : Int, bits .and .i64 s 1 = p ∧ s / 2 = q ∧ bits .xor .i64 b p = r ∧ bits .xor .i64 r q = u ∧ bits .xor .i64 b q = v ∧ u = op1 s b ∧ v = op2 s b := by
  obtain ⟨⟨h1, h2⟩, h3, h4⟩ := h
  have hs : s = 0 ∨ s = 1 ∨ s = 2 ∨ s = 3 := by omega
  have hb : b = 0 ∨ b = 1 := by omega
  refine ⟨_, _, _, _, _, rfl, rfl, rfl, rfl, rfl, ?_, ?_⟩ <;> rcases hs with rfl | rfl | rfl | rfl <;> rcases hb with rfl | rfl <;> decide +kernel
theorem implOut (s b : Int) (w : World) :
    Calls Tryz.prog 88 #[.int .i64 s, .int .i64 b] w (TwoPost (outp s b) w) := by
  by_cases h : Sb s b
  · have H := Lib.hid h
    have HE := Lib.hid (outp_yes h)
    obtain ⟨p, q, r, u, v, e1, e2, e3, e4, e5, e6, e7⟩ := st_facts h
    have HU := Lib.hid (And.intro e6 e7)
    obtain ⟨⟨h1, h2⟩, h3, h4⟩ := h
    clear e6 e7
    go_enter Tryz.func88, Tryz.ntmps88
    go_wp2_with fail
    (with_reducible refine (isEnc_yes s b H.out _).mono ?_)
    rintro e w1 ⟨rfl, rfl⟩
    go_wp2_with fail
    go_ret2
    exact ⟨by rw [HE.out, ← HU.out.1, ← HU.out.2]; rfl, rfl⟩
  · have H := Lib.hid h
    have HE := Lib.hid (outp_no h)
    clear h
    go_enter Tryz.func88, Tryz.ntmps88
    go_wp2_with fail
    (with_reducible refine (isEnc_no s b H.out _).mono ?_)
    rintro e w1 ⟨rfl, rfl⟩
    go_wp2_with fail
    go_ret2
    exact ⟨by rw [HE.out]; rfl, rfl⟩
theorem specOut (s b : Int) (w : World) :
    Calls Tryz.prog 132 #[.int .i64 s, .int .i64 b] w (TwoPost (outp s b) w) := by
  by_cases hs : 0 ≤ s ∧ s ≤ 3
  · by_cases hb : 0 ≤ b ∧ b ≤ 1
    · have H := Lib.hid hs
      have H' := Lib.hid hb
      have h : Sb s b := ⟨hs, hb⟩
      have HE := Lib.hid (outp_yes h)
      obtain ⟨p, q, r, u, v, e1, e2, e3, e4, e5, e6, e7⟩ := st_facts h
      have HU := Lib.hid (And.intro e6 e7)
      obtain ⟨h1, h2⟩ := hs
      obtain ⟨h3, h4⟩ := hb
      clear e6 e7 h
      go_enter Tryz.func132, Tryz.ntmps132
      go_wp2_with fail
      (with_reducible refine (l1In_yes s 0 3 H.out _).mono ?_)
      rintro e w1 ⟨rfl, rfl⟩
      go_wp2_with fail
      (with_reducible refine (l1In_yes b 0 1 H'.out _).mono ?_)
      rintro e w1 ⟨rfl, rfl⟩
      go_wp2_with fail
      go_ret2
      exact ⟨by rw [HE.out, ← HU.out.1, ← HU.out.2]; rfl, rfl⟩
    · have H := Lib.hid hs
      have H' := Lib.hid hb
      have HE := Lib.hid (outp_no (s := s) (b := b) fun g => hb g.2)
      clear hs hb
      go_enter Tryz.func132, Tryz.ntmps132
      go_wp2_with fail
      (with_reducible refine (l1In_yes s 0 3 H.out _).mono ?_)
      rintro e w1 ⟨rfl, rfl⟩
      go_wp2_with fail
      (with_reducible refine (l1In_no b 0 1 H'.out _).mono ?_)
      rintro e w1 ⟨rfl, rfl⟩
      go_wp2_with fail
      go_ret2
      exact ⟨by rw [HE.out]; rfl, rfl⟩
  · have H := Lib.hid hs
    have HE := Lib.hid (outp_no (s := s) (b := b) fun g => hs g.1)
    clear hs
    go_enter Tryz.func132, Tryz.ntmps132
    go_wp2_with fail
    (with_reducible refine (l1In_no s 0 3 H.out _).mono ?_)
    rintro e w1 ⟨rfl, rfl⟩
    go_wp2_with fail
    go_ret2
    exact ⟨by rw [HE.out]; rfl, rfl⟩

theorem implEnl (c : Int) (w : World) :
    Calls Tryz.prog 98 #[.int .i64 c] w fun e w' => e = .returned (.int .i64 (enl c)) ∧ w = w' := by
  by_cases h : 0 ≤ c ∧ c ≤ 1000000000000
  · have H := Lib.hid h
    have HE := Lib.hid (enl_yes h)
    obtain ⟨h1, h2⟩ := h
    go_enter Tryz.func98, Tryz.ntmps98
    go_wp2_with fail
    (with_reducible refine (inRange_yes c 0 1000000000000 H.out _).mono ?_)
    rintro e w1 ⟨rfl, rfl⟩
    go_wp2_with fail
    go_ret
    exact ⟨ret_num (by rw [HE.out]), rfl⟩
  · have H := Lib.hid h
    have HE := Lib.hid (enl_no h)
    clear h
    go_enter Tryz.func98, Tryz.ntmps98
    go_wp2_with fail
    (with_reducible refine (inRange_no c 0 1000000000000 H.out _).mono ?_)
    rintro e w1 ⟨rfl, rfl⟩
    go_wp2_with fail
    go_ret
    exact ⟨ret_num HE.out.symm, rfl⟩
theorem specEnl (c : Int) (w : World) :
    Calls Tryz.prog 41 #[.int .i64 c] w fun e w' => e = .returned (.int .i64 (enl c)) ∧ w = w' := by
  by_cases h : 0 ≤ c ∧ c ≤ 1000000000000
  · have H := Lib.hid h
    have HE := Lib.hid (enl_yes h)
    obtain ⟨h1, h2⟩ := h
    go_enter Tryz.func41, Tryz.ntmps41
    go_wp2_with fail
    (with_reducible refine (l1In_yes c 0 1000000000000 H.out _).mono ?_)
    rintro e w1 ⟨rfl, rfl⟩
    go_wp2_with fail
    go_ret
    exact ⟨ret_num (by rw [HE.out]), rfl⟩
  · have H := Lib.hid h
    have HE := Lib.hid (enl_no h)
    clear h
    go_enter Tryz.func41, Tryz.ntmps41
    go_wp2_with fail
    (with_reducible refine (l1In_no c 0 1000000000000 H.out _).mono ?_)
    rintro e w1 ⟨rfl, rfl⟩
    go_wp2_with fail
    go_ret
    exact ⟨ret_num HE.out.symm, rfl⟩
theorem plen_pos {c v : Int} (h : 0 ≤ c) (hv : c / 4 = v) : plen c = c - v := by rw [← hv]; unfold plen; rw [if_neg (by omega)]
theorem quarter {c v : Int} (h : 0 ≤ c) (hv : c / 4 = v) : 0 ≤ v ∧ v ≤ c := by omega
theorem implPln (c : Int) (hw : (Lit.int .i64 c).wf = true) (w : World) :
    Calls Tryz.prog 61 #[.int .i64 c] w fun e w' => e = .returned (.int .i64 (plen c)) ∧ w = w' := by
  by_cases h : c < 0
  · have HE := Lib.hid (plen_neg h)
    go_enter Tryz.func61, Tryz.ntmps61
    go_wp2_with fail
    go_ret
    exact ⟨ret_num HE.out.symm, rfl⟩
  · obtain ⟨v, hv⟩ : ∃ v, c / 4 = v := ⟨_, rfl⟩
    have h0 : 0 ≤ c := by omega
    have HE := Lib.hid (plen_pos h0 hv)
    obtain ⟨hv0, hv1⟩ := quarter h0 hv
    have hc := bounds_i64 hw
    obtain ⟨_, hc2⟩ := hc
    clear hw
    have hv2 : c.tdiv 4 = v := by rw [Int.tdiv_eq_ediv_of_nonneg h0]; exact hv
    go_enter Tryz.func61, Tryz.ntmps61
    go_wp2_with fail
    go_ret
    exact ⟨ret_num HE.out.symm, rfl⟩
theorem specPln (c : Int) (hw : (Lit.int .i64 c).wf = true) (w : World) :
    Calls Tryz.prog 71 #[.int .i64 c] w fun e w' => e = .returned (.int .i64 (plen c)) ∧ w = w' := by
  by_cases h : c < 0
  · have HE := Lib.hid (plen_neg h)
    go_enter Tryz.func71, Tryz.ntmps71
    go_wp2_with fail
    go_ret
    exact ⟨ret_num HE.out.symm, rfl⟩
  · obtain ⟨v, hv⟩ : ∃ v, c / 4 = v := ⟨_, rfl⟩
    have h0 : 0 ≤ c := by omega
    have HE := Lib.hid (plen_pos h0 hv)
    obtain ⟨hv0, hv1⟩ := quarter h0 hv
    have hc := bounds_i64 hw
    obtain ⟨_, hc2⟩ := hc
    clear hw
    have hv2 : c.tdiv 4 = v := by rw [Int.tdiv_eq_ediv_of_nonneg h0]; exact hv
    go_enter Tryz.func71, Tryz.ntmps71
    go_wp2_with fail
    go_ret
    exact ⟨ret_num HE.out.symm, rfl⟩
theorem isPun_yes (k : Nat) (h : k % 4 = 3) (w : World) :
    Calls Tryz.prog 96 #[.int .i64 k] w fun e w' => e = .returned (.bool true) ∧ w = w' := by
  have h2 : (k : Int) % 4 = 3 := by omega
  have h0 : 0 ≤ (k : Int) := by omega
  clear h
  go_enter Tryz.func96, Tryz.ntmps96
  go_wp2_with fail
  go_ret
  exact ⟨rfl, rfl⟩
theorem isPun_no (k : Nat) (h : ¬ k % 4 = 3) (w : World) :
    Calls Tryz.prog 96 #[.int .i64 k] w fun e w' => e = .returned (.bool false) ∧ w = w' := by
  obtain ⟨r, hr⟩ : ∃ r, (k : Int) % 4 = r := ⟨_, rfl⟩
  have h0 : 0 ≤ (k : Int) := by omega
  have h2 : (r == 3) = false := by
    have : r ≠ 3 := by omega
    simpa using this
  clear h
  go_enter Tryz.func96, Tryz.ntmps96
  go_wp2_with fail
  go_ret
  exact ⟨rfl, rfl⟩
end Go.Proofs.YtdelpepepbkjmaaGreatDoor.cvs
end

section
namespace Go.Proofs.YtdelpepepbkjmaaGreatDoor.crcm

/-- The register shifted by one bit. -/
def st (x : Nat) : Nat := if x % 2 = 1 then x / 2 ^^^ 33800 else x / 2
theorem st_lt {x : Nat} (h : x < 65536) : st x < 65536 := by
  unfold st; split
  · exact Nat.xor_lt_two_pow (n := 16) (by omega) (by omega)
  · omega
theorem half_xor (x y : Nat) : (x ^^^ y) / 2 = x / 2 ^^^ y / 2 := by
  have := Nat.shiftRight_xor_distrib (a := x) (b := y) (i := 1)
  simpa [Nat.shiftRight_eq_div_pow] using this
theorem odd_xor (x y : Nat) : (x ^^^ y) % 2 = (x % 2 + y % 2) % 2 := by
  have h := Nat.testBit_xor x y 0
  simp only [Nat.testBit_zero] at h
  rcases Nat.mod_two_eq_zero_or_one x with hx | hx <;> rcases Nat.mod_two_eq_zero_or_one y with hy | hy <;> rcases Nat.mod_two_eq_zero_or_one (x ^^^ y) with hz | hz <;> simp_all
theorem st_xor (x y : Nat) : st (x ^^^ y) = st x ^^^ st y := by
  unfold st
  rw [odd_xor, half_xor]
  rcases Nat.mod_two_eq_zero_or_one x with hx | hx <;> rcases Nat.mod_two_eq_zero_or_one y with hy | hy <;> simp only [hx, hy]
  · simp
  · simp [Nat.xor_assoc]
  · simp only [if_true]
    rw [Nat.xor_assoc, Nat.xor_comm (y / 2), ← Nat.xor_assoc]
    simp
  · simp only [Nat.reduceAdd, Nat.mod_self, if_true]
    rw [if_neg (by omega), Nat.xor_assoc, Nat.xor_comm 33800, Nat.xor_assoc, Nat.xor_self, Nat.xor_zero]
/-- The register shifted n times. -/
def sn : Nat → Nat → Nat
  | 0, x => x
  | n + 1, x => sn n (st x)
theorem sn_succ : ∀ (n x : Nat), sn (n + 1) x = st (sn n x)
  | 0, _ => rfl
  | n + 1, x => by rw [sn, sn_succ n, sn]
theorem sn_lt : ∀ (n : Nat) {x : Nat}, x < 65536 → sn n x < 65536
  | 0, _, h => h
  | n + 1, _, h => sn_lt n (st_lt h)
theorem sn_xor : ∀ (n x y : Nat), sn n (x ^^^ y) = sn n x ^^^ sn n y
  | 0, _, _ => rfl
  | n + 1, x, y => by rw [sn, st_xor, sn_xor n]; rfl
/-- A byte's step. -/
def by8 (r b : Nat) : Nat := sn 8 (r ^^^ b)
/-- The register behind the bytes. -/
def reg (r : Nat) (l : List Int) : Nat := l.foldl (fun r b => by8 r b.toNat) r
theorem reg_nil (r : Nat) : reg r [] = r := rfl
theorem reg_cons (r : Nat) (x : Int) (l : List Int) : reg r (x :: l) = reg (by8 r x.toNat) l := rfl
theorem reg_append (r : Nat) (a b : List Int) : reg r (a ++ b) = reg (reg r a) b := by simp [reg]
theorem reg_take (r : Nat) (l : List Int) {k : Nat} (h : k < l.length) : reg r (l.take (k + 1)) = by8 (reg r (l.take k)) (l.getD k 0).toNat := by
  rw [List.take_add_one, reg_append, List.getElem?_eq_getElem h, List.getD_eq_getElem?_getD, List.getElem?_eq_getElem h]
  simp [reg]
def Byt (l : List Int) : Prop := ∀ z ∈ l, 0 ≤ z ∧ z ≤ 255
theorem by8_lt {r : Nat} {b : Int} (h : r < 65536) (hb : 0 ≤ b ∧ b ≤ 255) : by8 r b.toNat < 65536 := sn_lt 8 (Nat.xor_lt_two_pow (n := 16) h (by omega))
theorem reg_lt : ∀ {r : Nat} {l : List Int}, r < 65536 → Byt l → reg r l < 65536
  | _, [], h, _ => h
  | r, x :: l, h, hb => by
    rw [reg_cons]
    exact reg_lt (by8_lt h (hb x (List.mem_cons_self ..))) fun z hz => hb z (List.mem_cons_of_mem _ hz)
/-- The check. -/
def crc (l : List Int) : Nat := reg 65535 l ^^^ 65535
theorem crc_lt {l : List Int} (h : Byt l) : crc l < 65536 := Nat.xor_lt_two_pow (n := 16) (reg_lt (by omega) h) (by omega)
/-- Another register in front of the bytes. -/
theorem reg_xor : ∀ (l : List Int) (r d : Nat), reg (r ^^^ d) l = reg r l ^^^ sn (8 * l.length) d
  | [], r, d => rfl
  | x :: l, r, d => by
    rw [reg_cons, reg_cons, by8, Nat.xor_assoc, Nat.xor_comm d, ← Nat.xor_assoc, sn_xor, reg_xor l]
    congr 1
/-- A byte changed. -/
theorem reg_set : ∀ (l : List Int) (r k : Nat) (d : Nat) (v : Int), k < l.length → v.toNat = (l.getD k 0).toNat ^^^ d → reg r (l.set k v) = reg r l ^^^ sn (8 * (l.length - k)) d
  | [], _, _, _, _, h, _ => absurd h (by simp)
  | x :: l, r, 0, d, v, _, hv => by
    rw [List.set_cons_zero, reg_cons, reg_cons, hv, List.getD_cons_zero, by8, ← Nat.xor_assoc, sn_xor, reg_xor]
    congr 1
  | x :: l, r, k + 1, d, v, h, hv => by
    rw [List.set_cons_succ, reg_cons, reg_cons, reg_set l _ k d v (by simpa using h) (by simpa using hv), List.length_cons]
    congr 2; first | omega | skip

/-- What a frame's check misses by. -/
def miss (l : List Int) : Nat := crc (l.take (l.length - 2)) ^^^ ((l.getD (l.length - 2) 0).toNat ^^^ ((l.getD (l.length - 1) 0).toNat * 256))
/-- What a bit at q of the byte k places ahead of the last one makes of it. -/
def syn (k q : Nat) : Nat := if k = 0 then 2 ^ q * 256 else if k = 1 then 2 ^ q else sn (8 * (k - 1)) (2 ^ q)
theorem mul_xor (a b : Nat) : (a ^^^ b) * 256 = a * 256 ^^^ b * 256 := by
  have := Nat.shiftLeft_xor_distrib (a := a) (b := b) (i := 8)
  simpa [Nat.shiftLeft_eq] using this
theorem take_set_lt {l : List Int} {n k : Nat} {v : Int} (h : n ≤ k) : (l.set k v).take n = l.take n := by
  rw [List.take_set_of_le h]
theorem miss_set (l : List Int) (k q : Nat) (v : Int) (h2 : 2 ≤ l.length) (hk : k < l.length) (hv : v.toNat = (l.getD k 0).toNat ^^^ 2 ^ q) : miss (l.set k v) = miss l ^^^ syn (l.length - 1 - k) q := by
  have gd : ∀ i, (l.set k v).getD i 0 = if k = i then (if k < l.length then v else 0) else l.getD i 0 := by
    intro i
    rw [List.getD_eq_getElem?_getD, List.getElem?_set, List.getD_eq_getElem?_getD]
    split <;> rename_i h
    · subst h; simp
    · rfl
  unfold miss
  rw [List.length_set, gd, gd, if_pos hk]
  by_cases h1 : k = l.length - 1
  · rw [if_neg (by omega), if_pos h1, take_set_lt (by omega), hv, mul_xor, h1, Nat.sub_self, syn, if_pos rfl]
    simp only [Nat.xor_assoc]
  · by_cases h3 : k = l.length - 2
    · rw [if_pos h3, if_neg h1, take_set_lt (by omega), hv, h3, show l.length - 1 - (l.length - 2) = 1 by omega, syn, if_neg (by omega), if_pos rfl]
      simp only [Nat.xor_assoc, Nat.xor_comm (2 ^ q)]
    · rw [if_neg h3, if_neg h1, show (l.set k v).take (l.length - 2) = (l.take (l.length - 2)).set k v by rw [List.take_set], crc, crc,
        reg_set _ _ k (2 ^ q) v (by rw [List.length_take]; omega) (by rw [hv, List.getD_eq_getElem?_getD, List.getD_eq_getElem?_getD, List.getElem?_take, if_pos (by omega)]),
        List.length_take, Nat.min_eq_left (by omega), syn, if_neg (by omega), if_neg (by omega), show l.length - 1 - k - 1 = l.length - 2 - k by omega]
      simp only [Nat.xor_assoc]
      congr 1
      rw [Nat.xor_comm (sn _ _)]
      simp only [Nat.xor_assoc]
theorem syn_ne : ∀ k, k < 11 → ∀ q, q < 8 → syn k q ≠ 0 := by decide +kernel
theorem syn_diff : ∀ k, k < 11 → ∀ q, q < 8 → ∀ k', k' < 11 → ∀ q', q' < 8 → (syn k q = syn k' q' ↔ k = k' ∧ q = q') := by decide +kernel
theorem xor_zero_iff {a b : Nat} : a ^^^ b = 0 ↔ a = b := by
  constructor
  · intro h
    have : (a ^^^ b) ^^^ b = 0 ^^^ b := by rw [h]
    rwa [Nat.xor_assoc, Nat.xor_self, Nat.xor_zero, Nat.zero_xor] at this
  · rintro rfl; exact Nat.xor_self _
theorem or_xor {a b : Nat} (h : a < 256) : a ^^^ (b * 256) = a + b * 256 := by
  have e := Nat.two_pow_add_eq_or_of_lt (show a < 2 ^ 8 by omega) b
  have : a ^^^ (b * 256) = 2 ^ 8 * b ||| a := by
    apply Nat.eq_of_testBit_eq
    intro i
    rw [Nat.testBit_xor, Nat.testBit_or, Nat.mul_comm b 256, show 256 = 2 ^ 8 from rfl, Nat.testBit_two_pow_mul]
    by_cases hi : 8 ≤ i
    · have : a.testBit i = false := Nat.testBit_lt_two_pow (Nat.lt_of_lt_of_le (show a < 2 ^ 8 by omega) (Nat.pow_le_pow_right (by omega) hi))
      simp [this, hi]
    · simp [hi]
  rw [this, ← e]; omega
end Go.Proofs.YtdelpepepbkjmaaGreatDoor.crcm
end

section
namespace Go.Proofs.YtdelpepepbkjmaaGreatDoor.crcs
open Go.RowKit sl harn bm rng crcm

theorem low1 (n : Int) : bits .and .i64 n 1 = n % 2 := draw.low_bits 1 (by omega) n
theorem i64_nat {p : Nat} (h : p < 65536) : (BitVec.ofInt 64 (p : Int)).toNat = p := by rw [BitVec.ofInt_natCast, BitVec.toNat_ofNat]; omega
theorem xor_nat {p q : Nat} (hp : p < 65536) (hq : q < 65536) : bits .xor .i64 (p : Int) (q : Int) = ((p ^^^ q : Nat) : Int) := by
  show IntKind.i64.wrap ((BitVec.ofInt 64 (p : Int) ^^^ BitVec.ofInt 64 (q : Int)).toNat : Int) = _
  rw [BitVec.toNat_xor, i64_nat hp, i64_nat hq, IntKind.wrap_i64]
  have : p ^^^ q < 65536 := Nat.xor_lt_two_pow (n := 16) hp hq
  omega
theorem byt_of_wf {zs : List Int} (h : Wf .u8 zs) : Byt zs := h.u8
theorem st_odd {y : Nat} (h : y % 2 = 1) : st y = y / 2 ^^^ 33800 := if_pos h
theorem st_even {y : Nat} (h : y % 2 = 0) : st y = y / 2 := if_neg (by omega)
theorem ret_num2 {a b : Int} (h : a = b) : Ending.returned (.int .i64 a) = .returned (.int .i64 b) := by rw [h]

theorem shiftCrc (x : Nat) (hx : x < 65536) (w : World) :
    Calls Tryz.prog 123 #[.int .i64 x] w fun e w' => e = .returned (.int .i64 (sn 8 x : Nat)) ∧ w = w' := by
  have HX := Lib.hid hx
  clear hx
  go_enter Tryz.func123, Tryz.ntmps123
  go_wp2
  go_loop [0, 4] (fun r i => ∃ k y : Nat, i = .int .i64 k ∧ r = .int .i64 y ∧ k ≤ 8 ∧ y = sn k x) (fun _ i => 8 - (intOf i).toNat)
  case atStart => exact ⟨0, x, rfl, rfl, by omega, rfl⟩
  case round =>
    obtain ⟨k, y, rfl, rfl, hk, hy⟩ := hrel
    have hy2 : y < 65536 := by rw [hy]; exact sn_lt k HX.out
    have HY := Lib.hid hy
    clear hy
    by_cases hlt : k < 8
    · have hlt2 : (k : Int) < 8 := by omega
      have hl := low1 (y : Int)
      obtain ⟨z, hz⟩ : ∃ z : Nat, z = y / 2 := ⟨_, rfl⟩
      have hz1 : (y : Int) / 2 = z := by omega
      have hz2 : z < 32768 := by omega
      have HZ := Lib.hid hz
      clear hz
      rcases Nat.mod_two_eq_zero_or_one y with h2 | h2
      · have h3 : (y : Int) % 2 = 0 := by omega
        rw [h3] at hl
        clear h3
        go_wp2
        go_round
        case rel => exact ⟨k + 1, z, by go_num, rfl, by omega, by rw [sn_succ, ← HY.out, st_even h2, HZ.out]⟩
        case measure => simp [intOf]; omega
      · have h3 : (y : Int) % 2 = 1 := by omega
        rw [h3] at hl
        have hx := xor_nat (p := z) (q := 33800) (by omega) (by omega)
        obtain ⟨v, hv⟩ : ∃ v : Nat, z ^^^ 33800 = v := ⟨_, rfl⟩
        rw [hv] at hx
        have hx2 : bits .xor .i64 (z : Int) 33800 = v := hx
        have HV := Lib.hid hv
        clear h3 hv hx
        go_wp2
        go_round
        case rel => exact ⟨k + 1, v, by go_num, rfl, by omega, by rw [sn_succ, ← HY.out, st_odd h2, ← HZ.out, HV.out]⟩
        case measure => simp [intOf]; omega
    · have hlt2 : ¬ (k : Int) < 8 := by omega
      obtain rfl : k = 8 := by omega
      go_wp2
      go_ret
      exact ⟨ret_num2 (by rw [HY.out]), rfl⟩

theorem implCrc (zs : List Int) (lo hi : Nat) (A : Option Addr) (n cap : Nat) (w : World) (h : Rd .u8 w lo hi A n cap zs) :
    Calls Tryz.prog 94 #[.slice A n cap] w fun e w' => e = .returned (.int .i64 (crc zs : Nat)) ∧ w = w' := by
  have hb := h.cap_
  have HR := Lib.hid h
  clear h
  go_enter Tryz.func94, Tryz.ntmps94
  go_wp2
  go_loop [3, 8] (fun r i => ∃ k y : Nat, i = .int .i64 k ∧ r = .int .i64 y ∧ k ≤ n ∧ y = reg 65535 (zs.take k)) (fun _ i => n - (intOf i).toNat)
  case atStart => exact ⟨0, 65535, rfl, rfl, by omega, rfl⟩
  case round =>
    obtain ⟨k, y, rfl, rfl, hk, hy⟩ := hrel
    have hy2 : y < 65536 := by rw [hy]; exact reg_lt (by omega) (byt_of_wf (Wf.take HR.out.wf k))
    have HY := Lib.hid hy
    clear hy
    by_cases hlt : k < n
    · obtain ⟨b, off, rfl, h1, h2, hc⟩ := HR.out.at_ hlt
      have hx01 : 0 ≤ zs.getD k 0 ∧ zs.getD k 0 ≤ 255 := by
        have h1 := HR.out.wf.getD (i := k) (by have := HR.out.len; omega)
        have := bounds_u8 h1; omega
      obtain ⟨x, hx⟩ : ∃ x, zs.getD k 0 = x := ⟨_, rfl⟩
      rw [hx] at hc hx01
      obtain ⟨hx0, hx1⟩ := hx01
      obtain ⟨m, rfl⟩ := Int.eq_ofNat_of_zero_le hx0
      have hm : m ≤ 255 := by omega
      have hxr := xor_nat (p := y) (q := m) hy2 (by omega)
      obtain ⟨v, hv⟩ : ∃ v : Nat, y ^^^ m = v := ⟨_, rfl⟩
      rw [hv] at hxr
      have HV := Lib.hid (show v < 65536 by rw [← hv]; exact Nat.xor_lt_two_pow (n := 16) hy2 (by omega))
      have HN := Lib.hid (show reg 65535 (zs.take (k + 1)) = sn 8 v by rw [reg_take _ _ (by rw [HR.out.len]; exact hlt), ← HY.out, hx, by8, Int.toNat_natCast, hv])
      clear hx hv hx0 hx1
      have hlt2 : (k : Int) < n := by omega
      go_wp2_with (go_at_call 123; refine (shiftCrc v HV.out _).mono ?_; rintro e w1 ⟨rfl, rfl⟩)
      go_round
      case rel => exact ⟨k + 1, _, by go_num, rfl, by omega, HN.out.symm⟩
      case measure => simp [intOf]; omega
    · have hlt2 : ¬ (k : Int) < n := by omega
      obtain rfl : k = n := by omega
      have hxr := xor_nat (p := y) (q := 65535) hy2 (by omega)
      obtain ⟨v, hv⟩ : ∃ v : Nat, y ^^^ 65535 = v := ⟨_, rfl⟩
      rw [hv] at hxr
      have hx2 : bits .xor .i64 (y : Int) 65535 = v := hxr
      have HV := Lib.hid hv
      clear hxr hv
      go_wp2
      go_ret
      exact ⟨ret_num2 (by rw [← HV.out, HY.out, bits.take_all HR.out.len]; rfl), rfl⟩

theorem specCrc (zs : List Int) (lo hi : Nat) (A : Option Addr) (n cap : Nat) (w : World) (h : Rd .u8 w lo hi A n cap zs) :
    Calls Tryz.prog 84 #[.slice A n cap] w fun e w' => e = .returned (.int .i64 (crc zs : Nat)) ∧ w = w' := by
  have hb := h.cap_
  have HR := Lib.hid h
  clear h
  go_enter Tryz.func84, Tryz.ntmps84
  go_wp2
  go_loop [3, 4] (fun r i => ∃ k y : Nat, i = .int .i64 k ∧ r = .int .i64 y ∧ k ≤ n ∧ y = reg 65535 (zs.take k)) (fun _ i => n - (intOf i).toNat)
  case atStart => exact ⟨0, 65535, rfl, rfl, by omega, rfl⟩
  case round =>
    obtain ⟨k, y, rfl, rfl, hk, hy⟩ := hrel
    have hy2 : y < 65536 := by rw [hy]; exact reg_lt (by omega) (byt_of_wf (Wf.take HR.out.wf k))
    have HY := Lib.hid hy
    clear hy
    by_cases hlt : k < n
    · obtain ⟨b, off, rfl, h1, h2, hc⟩ := HR.out.at_ hlt
      have hx01 : 0 ≤ zs.getD k 0 ∧ zs.getD k 0 ≤ 255 := by
        have h1 := HR.out.wf.getD (i := k) (by have := HR.out.len; omega)
        have := bounds_u8 h1; omega
      obtain ⟨x, hx⟩ : ∃ x, zs.getD k 0 = x := ⟨_, rfl⟩
      rw [hx] at hc hx01
      obtain ⟨hx0, hx1⟩ := hx01
      obtain ⟨m, rfl⟩ := Int.eq_ofNat_of_zero_le hx0
      have hm : m ≤ 255 := by omega
      have hxr := xor_nat (p := y) (q := m) hy2 (by omega)
      obtain ⟨v, hv⟩ : ∃ v : Nat, y ^^^ m = v := ⟨_, rfl⟩
      rw [hv] at hxr
      have HV := Lib.hid (show v < 65536 by rw [← hv]; exact Nat.xor_lt_two_pow (n := 16) hy2 (by omega))
      have HN := Lib.hid (show reg 65535 (zs.take (k + 1)) = sn 8 v by rw [reg_take _ _ (by rw [HR.out.len]; exact hlt), ← HY.out, hx, by8, Int.toNat_natCast, hv])
      clear hx hv hx0 hx1
      have hlt2 : (k : Int) < n := by omega
      go_wp2
      go_loop [3, 5] (fun r i => ∃ j u : Nat, i = .int .i64 j ∧ r = .int .i64 u ∧ j ≤ 8 ∧ u = sn j v) (fun _ i => 8 - (intOf i).toNat)
      case atStart => exact ⟨0, v, rfl, rfl, by omega, rfl⟩
      case round =>
        clear hxr
        obtain ⟨j, u, rfl, rfl, hj, hu⟩ := hrel
        have hu2 : u < 65536 := by rw [hu]; exact sn_lt j HV.out
        have HU := Lib.hid hu
        clear hu
        by_cases hlj : j < 8
        · have hlj2 : (j : Int) < 8 := by omega
          have hl := low1 (u : Int)
          obtain ⟨z, hz⟩ : ∃ z : Nat, z = u / 2 := ⟨_, rfl⟩
          have hz1 : (u : Int) / 2 = z := by omega
          have hz2 : z < 32768 := by omega
          have HZ := Lib.hid hz
          clear hz
          rcases Nat.mod_two_eq_zero_or_one u with h2 | h2
          · have h3 : (u : Int) % 2 = 0 := by omega
            rw [h3] at hl
            clear h3
            go_wp2
            go_round
            case rel => exact ⟨j + 1, z, by go_num, rfl, by omega, by rw [sn_succ, ← HU.out, st_even h2, HZ.out]⟩
            case measure => simp [intOf]; omega
          · have h3 : (u : Int) % 2 = 1 := by omega
            rw [h3] at hl
            have hx := xor_nat (p := z) (q := 33800) (by omega) (by omega)
            obtain ⟨t, ht⟩ : ∃ t : Nat, z ^^^ 33800 = t := ⟨_, rfl⟩
            rw [ht] at hx
            have hx2 : bits .xor .i64 (z : Int) 33800 = t := hx
            have HT := Lib.hid ht
            clear h3 ht hx
            go_wp2
            go_round
            case rel => exact ⟨j + 1, t, by go_num, rfl, by omega, by rw [sn_succ, ← HU.out, st_odd h2, ← HZ.out, HT.out]⟩
            case measure => simp [intOf]; omega
        · have hlj2 : ¬ (j : Int) < 8 := by omega
          obtain rfl : j = 8 := by omega
          go_wp2
          go_round
          case rel => exact ⟨k + 1, u, by go_num, rfl, by omega, by rw [HU.out, HN.out]⟩
          case measure => simp [intOf]; omega
    · have hlt2 : ¬ (k : Int) < n := by omega
      obtain rfl : k = n := by omega
      have hxr := xor_nat (p := y) (q := 65535) hy2 (by omega)
      obtain ⟨v, hv⟩ : ∃ v : Nat, y ^^^ 65535 = v := ⟨_, rfl⟩
      rw [hv] at hxr
      have hx2 : bits .xor .i64 (y : Int) 65535 = v := hxr
      have HV := Lib.hid hv
      clear hxr hv
      go_wp2
      go_ret
      exact ⟨ret_num2 (by rw [← HV.out, HY.out, bits.take_all HR.out.len]; rfl), rfl⟩
end Go.Proofs.YtdelpepepbkjmaaGreatDoor.crcs
end

section
namespace Go.Proofs
open Go.Shelf
def Tryz.laysnb115_ren : Go.Shelf.Ren := ⟨fun | 115 => 135 | n => n, fun | 37 => 22 | 4 => 4 | 9 => 9 | 5 => 5 | n => n, fun | n => n⟩
theorem Tryz.laysnb115 : Go.Proofs.Lays.nb115 Tryz.prog Tryz.laysnb115_ren := {
  mixed := by kernel_rfl
  f115 := Tryz.func135.trans (congrArg some (by kernel_rfl))
  t4 := Tryz.underlying4
  a4 := Tryz.isAgg4
  z4 := Tryz.sizeOf4
  v4 := Tryz.zeroValue4
  t9 := Tryz.underlying9
  a9 := Tryz.isAgg9
  z9 := Tryz.sizeOf9
  v9 := Tryz.zeroValue9
  t37 := Tryz.underlying22
  a37 := Tryz.isAgg22
  z37 := Tryz.sizeOf22
  v37 := Tryz.zeroValue22
  t5 := Tryz.underlying5
  a5 := Tryz.isAgg5
  z5 := Tryz.sizeOf5
  v5 := Tryz.zeroValue5 }
theorem Tryz.bytes_Equal_all (p1 p2 : Option Addr) (n c m d : Nat) (xs ys : List Int) (w : World) (hx : xs.length = n) (hy : ys.length = m) (h1 : Lib.BytesIn w p1 n xs) (h2 : Lib.BytesIn w p2 m ys) :
    Calls Tryz.prog 135 #[.slice p1 n c, .slice p2 m d] w fun e w' => e = .returned (.bool (Lib.bytesOf xs == Lib.bytesOf ys)) ∧ w' = w := Any.bytes_Equal_all Tryz.laysnb115 p1 p2 n c m d xs ys w hx hy h1 h2
end Go.Proofs
end

section
namespace Go.Proofs.YtdelpepepbkjmaaGreatDoor.eqs
open Go.RowKit sl harn

theorem bytesIn {w : World} {lo hi n cap : Nat} {A : Option Addr} {zs : List Int} (h : Rd .u8 w lo hi A n cap zs) : Lib.BytesIn w A n zs := fun hn => by
  obtain ⟨b, off, e, _, _, hc⟩ := h.2.2.2.2.2 hn
  exact ⟨b, off, e, hc⟩
theorem bytesOf_inj : ∀ {xs ys : List Int}, Wf .u8 xs → Wf .u8 ys → Lib.bytesOf xs = Lib.bytesOf ys → xs = ys
  | [], [], _, _, _ => rfl
  | [], _ :: _, _, _, h => by simp [Lib.bytesOf] at h
  | _ :: _, [], _, _, h => by simp [Lib.bytesOf] at h
  | x :: xs, y :: ys, hx, hy, h => by
    simp only [Lib.bytesOf, List.map_cons, List.cons.injEq] at h
    have h1 := hx.u8 x (List.mem_cons_self ..)
    have h2 := hy.u8 y (List.mem_cons_self ..)
    have e : x = y := by
      have := congrArg UInt8.toNat h.1
      simp at this
      omega
    rw [e, bytesOf_inj (xs := xs) (ys := ys) (fun z hz => hx z (List.mem_cons_of_mem _ hz)) (fun z hz => hy z (List.mem_cons_of_mem _ hz)) h.2]
theorem bytesOf_eq {xs ys : List Int} (hx : Wf .u8 xs) (hy : Wf .u8 ys) : (Lib.bytesOf xs == Lib.bytesOf ys) = decide (xs = ys) := by
  by_cases h : xs = ys
  · subst h; simp
  · have : ¬ Lib.bytesOf xs = Lib.bytesOf ys := fun e => h (bytesOf_inj hx hy e)
    simp [h, this]
theorem ret_bool {a b : Bool} (h : a = b) : Ending.returned (.bool a) = .returned (.bool b) := by rw [h]

theorem implEqB (zs ys : List Int) (lo hi lo2 hi2 : Nat) (A A2 : Option Addr) (n cap n2 cap2 : Nat) (w : World) (h : Rd .u8 w lo hi A n cap zs) (h2 : Rd .u8 w lo2 hi2 A2 n2 cap2 ys) :
    Calls Tryz.prog 131 #[.slice A n cap, .slice A2 n2 cap2] w (EqPost zs ys w) := by
  have hc := Tryz.bytes_Equal_all A A2 n cap n2 cap2 zs ys w h.len h2.len (bytesIn h) (bytesIn h2)
  rw [bytesOf_eq h.wf h2.wf] at hc
  obtain ⟨b, hb⟩ : ∃ b, decide (zs = ys) = b := ⟨_, rfl⟩
  rw [hb] at hc
  have HB := Lib.hid hb
  have HC := Lib.hid hc
  clear h h2 hb hc
  go_enter Tryz.func131, Tryz.ntmps131
  go_wp2_with (go_at_call 135; refine HC.out.mono ?_; rintro e w1 ⟨rfl, rfl⟩)
  go_ret
  exact ⟨ret_bool HB.out.symm, Below.refl _ _⟩
theorem EqPost_parts {zs ys : List Int} {b : Bool} (ht : decide (zs = ys) = b) {w : World} {e : Ending} {w' : World} (h : EqPost zs ys w e w') : e = .returned (.bool b) ∧ Below w.heap.size w w' := by
  unfold EqPost at h; rw [ht] at h; exact h
end Go.Proofs.YtdelpepepbkjmaaGreatDoor.eqs
end

section
namespace Go.Proofs.YtdelpepepbkjmaaGreatDoor.enc

/-- The varint of a number. -/
def enc (n : Nat) : List Int := if n < 128 then [(n : Int)] else ((n % 128 + 128 : Nat) : Int) :: enc (n / 128)
termination_by n
decreasing_by omega
theorem enc_less {n : Nat} (h : n < 128) : enc n = [(n : Int)] := by rw [enc, if_pos h]
theorem enc_more {n : Nat} (h : 128 ≤ n) : enc n = ((n % 128 + 128 : Nat) : Int) :: enc (n / 128) := by rw [enc, if_neg (by omega)]
theorem enc_len : ∀ (k n : Nat), n < 128 ^ (k + 1) → (enc n).length ≤ k + 1
  | 0, n, h => by rw [enc_less (by simpa using h)]; simp
  | k + 1, n, h => by
    by_cases h1 : n < 128
    · rw [enc_less h1]; simp
    · rw [enc_more (by omega), List.length_cons]
      have := enc_len k (n / 128) (by rw [Nat.div_lt_iff_lt_mul (by omega)]; rw [Nat.pow_succ] at h; exact h)
      omega
theorem enc_len6 {n : Nat} (h : n ≤ 1000000000000) : (enc n).length ≤ 6 := enc_len 5 n (by omega)
theorem enc_pos (n : Nat) : 1 ≤ (enc n).length := by rw [enc]; split <;> simp
theorem enc_wf (n : Nat) : ∀ z ∈ enc n, 0 ≤ z ∧ z ≤ 255 := by
  induction n using Nat.strongRecOn with
  | _ n ih =>
    intro z hz
    by_cases h : n < 128
    · rw [enc_less h] at hz
      have : z = n := by simpa using hz
      omega
    · rw [enc_more (by omega)] at hz
      rcases List.mem_cons.1 hz with hz | hz
      · omega
      · exact ih (n / 128) (by omega) z hz

/-- The varint in front of a list: its number and how many bytes; f groups at most, k of them read, a gathered. -/
def dec : Nat → List Int → Nat → Int → Option (Int × Nat)
  | 0, _, _, _ => none
  | _ + 1, [], _, _ => none
  | f + 1, x :: r, k, a => if x < 128 then (if (x = 0 ∧ 0 < k) ∨ 1000000000000 < a + x * 128 ^ k then none else some (a + x * 128 ^ k, k + 1)) else dec f r (k + 1) (a + (x - 128) * 128 ^ k)
theorem dec_zero (l : List Int) (k : Nat) (a : Int) : dec 0 l k a = none := rfl
theorem dec_nil (f k : Nat) (a : Int) : dec f [] k a = none := by cases f <;> rfl
theorem dec_last {f : Nat} {x : Int} {r : List Int} {k : Nat} {a : Int} (h : x < 128) : dec (f + 1) (x :: r) k a = if (x = 0 ∧ 0 < k) ∨ 1000000000000 < a + x * 128 ^ k then none else some (a + x * 128 ^ k, k + 1) := by
  rw [dec, if_pos h]
theorem dec_more {f : Nat} {x : Int} {r : List Int} {k : Nat} {a : Int} (h : ¬ x < 128) : dec (f + 1) (x :: r) k a = dec f r (k + 1) (a + (x - 128) * 128 ^ k) := by
  rw [dec, if_neg h]

theorem dec_enc : ∀ (f n k : Nat) (a : Int) (r : List Int), (enc n).length ≤ f → (0 < k → 0 < n) → a + n * 128 ^ k ≤ 1000000000000 → dec f (enc n ++ r) k a = some (a + n * 128 ^ k, k + (enc n).length) := by
  intro f
  induction f with
  | zero => intro n k a r h; have := enc_pos n; omega
  | succ f ih =>
    intro n k a r h h0 hm
    by_cases hn : n < 128
    · rw [enc_less hn, List.singleton_append, dec_last (by omega), if_neg (by rintro (h | h) <;> omega)]
      rfl
    · have hp : (0 : Int) ≤ 128 ^ k := Int.pow_nonneg (by omega)
      have e : (a + (((n % 128 + 128 : Nat) : Int) - 128) * 128 ^ k) + ((n / 128 : Nat) : Int) * 128 ^ (k + 1) = a + n * 128 ^ k := by
        have e1 : ((n % 128 + 128 : Nat) : Int) - 128 = ((n % 128 : Nat) : Int) := by omega
        have e2 : (n : Int) = ((n % 128 : Nat) : Int) + ((n / 128 : Nat) : Int) * 128 := by omega
        rw [e1, Int.pow_succ]
        conv => rhs; rw [e2]
        rw [Int.add_mul, Int.add_assoc, Int.mul_assoc, Int.mul_comm 128 (128 ^ k)]
      rw [enc_more (by omega)] at h ⊢
      rw [List.cons_append, dec_more (by omega), ih (n / 128) (k + 1) _ r (by simpa using h) (by omega) (by rw [e]; exact hm), e, List.length_cons]
      congr 2; omega

theorem enc_dec : ∀ (f : Nat) (l : List Int) (k : Nat) (a m : Int) (c : Nat), (∀ z ∈ l, 0 ≤ z ∧ z ≤ 255) → dec f l k a = some (m, c) →
    ∃ y : Nat, m = a + y * 128 ^ k ∧ (0 < k → 0 < y) ∧ c = k + (enc y).length ∧ l.take (c - k) = enc y ∧ m ≤ 1000000000000 := by
  intro f
  induction f with
  | zero => intro l k a m c _ h; cases h
  | succ f ih =>
    intro l k a m c hl h
    cases l with
    | nil => cases h
    | cons x r =>
      have hx := hl x (List.mem_cons_self ..)
      by_cases h1 : x < 128
      · rw [dec_last h1] at h
        split at h
        · cases h
        · injection h with h
          injection h with e1 e2
          have ex : ((x.toNat : Nat) : Int) = x := by omega
          have el : enc x.toNat = [x] := by rw [enc_less (by omega), ex]
          rename_i hno
          refine ⟨x.toNat, by rw [ex, e1], fun h => ?_, by rw [el, ← e2]; rfl, ?_, by omega⟩
          · rcases Nat.eq_zero_or_pos x.toNat with h0 | h0
            · exact absurd (Or.inl ⟨by omega, h⟩) hno
            · exact h0
          · rw [el, ← e2, Nat.add_sub_cancel_left]; simp
      · rw [dec_more h1] at h
        obtain ⟨y, e1, e2, e3, e4, e5⟩ := ih r (k + 1) _ m c (fun z hz => hl z (List.mem_cons_of_mem _ hz)) h
        have hy := e2 (by omega)
        have ey : enc ((x - 128).toNat + 128 * y) = x :: enc y := by
          rw [enc_more (by omega)]
          have d1 : ((x - 128).toNat + 128 * y) / 128 = y := by omega
          have d2 : ((((x - 128).toNat + 128 * y) % 128 + 128 : Nat) : Int) = x := by omega
          rw [d1, d2]
        have hc : k + 1 ≤ c := by omega
        refine ⟨(x - 128).toNat + 128 * y, ?_, by omega, by rw [ey, List.length_cons]; omega, ?_, e5⟩
        · rw [e1, Int.pow_succ]
          have e6 : (((x - 128).toNat + 128 * y : Nat) : Int) = (x - 128) + y * 128 := by omega
          rw [e6, Int.add_mul, Int.add_assoc, Int.mul_assoc, Int.mul_comm 128 (128 ^ k)]
        · rw [ey, show c - k = (c - (k + 1)) + 1 by omega, List.take_succ_cons, e4]
theorem dec_c {f : Nat} {l : List Int} {k : Nat} {a m : Int} {c : Nat} (hl : ∀ z ∈ l, 0 ≤ z ∧ z ≤ 255) (h : dec f l k a = some (m, c)) : k + 1 ≤ c ∧ c ≤ k + l.length ∧ (0 ≤ a → a ≤ m) := by
  obtain ⟨y, e1, e2, e3, e4, e5⟩ := enc_dec f l k a m c hl h
  have h1 := enc_pos y
  have h2 := congrArg List.length e4
  rw [List.length_take] at h2
  refine ⟨by omega, by omega, fun h0 => ?_⟩
  have : (0 : Int) ≤ y * 128 ^ k := Int.mul_nonneg (by omega) (Int.pow_nonneg (by omega))
  omega

/-- What AppendUvarint hands back. -/
def uv (b : List Int) (n : Int) : List Int := if 0 ≤ n ∧ n ≤ 1000000000000 then b ++ enc n.toNat else b
theorem uv_in {b : List Int} {n : Int} (h : 0 ≤ n ∧ n ≤ 1000000000000) : uv b n = b ++ enc n.toNat := if_pos h
theorem uv_out {b : List Int} {n : Int} (h : ¬ (0 ≤ n ∧ n ≤ 1000000000000)) : uv b n = b := if_neg h
theorem uv_len (b : List Int) (n : Int) : (uv b n).length ≤ b.length + 6 := by
  unfold uv
  split
  · rename_i h
    rw [List.length_append]
    have := enc_len6 (n := n.toNat) (by omega)
    omega
  · omega
theorem uv_wf {b : List Int} (hb : ∀ z ∈ b, 0 ≤ z ∧ z ≤ 255) (n : Int) : ∀ z ∈ uv b n, 0 ≤ z ∧ z ≤ 255 := by
  unfold uv
  split
  · intro z hz
    rcases List.mem_append.1 hz with hz | hz
    · exact hb z hz
    · exact enc_wf _ z hz
  · exact hb
/-- What ReadUvarint hands back. -/
def rv (b : List Int) (off : Int) : Int × Int × Bool :=
  if 0 ≤ off ∧ off < b.length then
    match dec 6 (b.drop off.toNat) 0 0 with
    | some (m, c) => (m, off + c, true)
    | none => (0, 0, false)
  else (0, 0, false)
theorem rv_out {b : List Int} {off : Int} (h : ¬ (0 ≤ off ∧ off < b.length)) : rv b off = (0, 0, false) := if_neg h
theorem rv_none {b : List Int} {off : Int} (hd : dec 6 (b.drop off.toNat) 0 0 = none) : rv b off = (0, 0, false) := by
  unfold rv; split
  · rw [hd]
  · rfl
theorem rv_some {b : List Int} {off m : Int} {c : Nat} (h : 0 ≤ off ∧ off < b.length) (hd : dec 6 (b.drop off.toNat) 0 0 = some (m, c)) : rv b off = (m, off + c, true) := by
  unfold rv; rw [if_pos h, hd]
/-- What a reading that went well says. -/
theorem rv_ok {b : List Int} (hb : ∀ z ∈ b, 0 ≤ z ∧ z ≤ 255) {off m nx : Int} (h : rv b off = (m, nx, true)) :
    0 ≤ off ∧ off < nx ∧ nx ≤ b.length ∧ 0 ≤ m ∧ m ≤ 1000000000000 ∧ enc m.toNat = (b.drop off.toNat).take (nx - off).toNat := by
  unfold rv at h
  split at h
  · rename_i ho
    cases hd : dec 6 (b.drop off.toNat) 0 0 with
    | none => rw [hd] at h; cases h
    | some p =>
      obtain ⟨m', c⟩ := p
      rw [hd] at h
      injection h with e1 e2; injection e2 with e2 e3
      subst e1 e2
      obtain ⟨y, g1, g2, g3, g4, g5⟩ := enc_dec 6 _ 0 0 m' c (fun z hz => hb z (List.mem_of_mem_drop hz)) hd
      obtain ⟨g6, g7, g8⟩ := dec_c (fun z hz => hb z (List.mem_of_mem_drop hz)) hd
      rw [List.length_drop] at g7
      have ey : m'.toNat = y := by rw [g1]; simp
      refine ⟨ho.1, by omega, by omega, g8 (by omega), g5, ?_⟩
      rw [ey, ← g4]
      congr 1; omega
  · cases h
theorem rv_bad {b : List Int} {off : Int} (h : (rv b off).2.2 = false) : rv b off = (0, 0, false) := by
  unfold rv at h ⊢
  split at h
  · rename_i ho
    rw [if_pos ho]
    cases hd : dec 6 (b.drop off.toNat) 0 0 with
    | none => rfl
    | some p => rw [hd] at h; cases h
  · rename_i ho
    rw [if_neg ho]
theorem rv_enc (b r : List Int) (n : Int) (h : 0 ≤ n ∧ n ≤ 1000000000000) : rv (b ++ (enc n.toNat ++ r)) b.length = (n, (b.length : Int) + ((enc n.toNat).length : Int), true) := by
  have hp := enc_pos n.toNat
  have hd := dec_enc 6 n.toNat 0 0 r (enc_len6 (by omega)) (by omega) (by simp; omega)
  have e : (b ++ (enc n.toNat ++ r)).drop ((b.length : Int)).toNat = enc n.toNat ++ r := by simp
  rw [rv_some (by simp; omega) (by rw [e]; exact hd)]
  simp; omega
end Go.Proofs.YtdelpepepbkjmaaGreatDoor.enc
end

section
namespace Go.Proofs.YtdelpepepbkjmaaGreatDoor.uvs
open Go.RowKit sl enc harn

theorem inRange_yes (n a b : Int) (h : a ≤ n ∧ n ≤ b) (w : World) :
    Calls Tryz.prog 49 #[.int .i64 n, .int .i64 a, .int .i64 b] w fun e w' => e = .returned (.bool true) ∧ w = w' := by
  obtain ⟨h1, h2⟩ := h
  go_enter Tryz.func49, Tryz.ntmps49
  go_wp2
  go_ret
  exact ⟨rfl, rfl⟩
theorem inRange_no (n a b : Int) (h : ¬ (a ≤ n ∧ n ≤ b)) (w : World) :
    Calls Tryz.prog 49 #[.int .i64 n, .int .i64 a, .int .i64 b] w fun e w' => e = .returned (.bool false) ∧ w = w' := by
  by_cases h1 : a ≤ n
  · have h2 : ¬ n ≤ b := by omega
    clear h
    go_enter Tryz.func49, Tryz.ntmps49
    go_wp2
    go_ret
    exact ⟨rfl, rfl⟩
  · clear h
    go_enter Tryz.func49, Tryz.ntmps49
    go_wp2
    go_ret
    exact ⟨rfl, rfl⟩
theorem l1In_yes (n a b : Int) (h : a ≤ n ∧ n ≤ b) (w : World) :
    Calls Tryz.prog 32 #[.int .i64 n, .int .i64 a, .int .i64 b] w fun e w' => e = .returned (.bool true) ∧ w = w' := by
  obtain ⟨h1, h2⟩ := h
  go_enter Tryz.func32, Tryz.ntmps32
  go_wp2
  go_ret
  exact ⟨rfl, rfl⟩
theorem l1In_no (n a b : Int) (h : ¬ (a ≤ n ∧ n ≤ b)) (w : World) :
    Calls Tryz.prog 32 #[.int .i64 n, .int .i64 a, .int .i64 b] w fun e w' => e = .returned (.bool false) ∧ w = w' := by
  by_cases h1 : a ≤ n
  · have h2 : ¬ n ≤ b := by omega
    clear h
    go_enter Tryz.func32, Tryz.ntmps32
    go_wp2
    go_ret
    exact ⟨rfl, rfl⟩
  · clear h
    go_enter Tryz.func32, Tryz.ntmps32
    go_wp2
    go_ret
    exact ⟨rfl, rfl⟩

/-- A part of a slice of bytes: it is read where it lies. -/
def PartPost (lo hi : Nat) (zs : List Int) (i j : Nat) (w : World) (e : Ending) (w' : World) : Prop :=
  ∃ A, e = .returned (.slice A (j - i) (j - i)) ∧ Rd .u8 w lo hi A (j - i) (j - i) ((zs.drop i).take (j - i)) ∧ w = w'
theorem part (lo hi : Nat) (A : Option Addr) (n cap : Nat) (zs : List Int) (i j : Nat) (w : World) (h : Rd .u8 w lo hi A n cap zs) (h1 : i ≤ j) (h2 : j ≤ n) :
    Calls Tryz.prog 124 #[.slice A n cap, .int .i64 i, .int .i64 j] w (PartPost lo hi zs i j w) := by
  have hb := h.cap_
  have h3 : j ≤ cap := by omega
  have HR := Lib.hid h
  clear h
  by_cases hij : j = i
  · subst hij
    go_enter Tryz.func124, Tryz.ntmps124
    go_wp2
    go_ret
    exact ⟨A, by rw [Nat.sub_self]; rfl, HR.out.cut j j (j - j) A (fun h => by omega) h1 h2 (Nat.le_refl _) (by unfold maxLen; omega), rfl⟩
  · go_enter Tryz.func124, Tryz.ntmps124
    go_wp2
    go_ret
    exact ⟨_, rfl, HR.out.cut i j (j - i) _ (fun h => by simp) h1 h2 (Nat.le_refl _) (by unfold maxLen; omega), rfl⟩

/-- A copy in new memory. -/
theorem copyPart (lo hi : Nat) (A : Option Addr) (n cap : Nat) (zs : List Int) (i j : Nat) (w : World) (h : Rd .u8 w lo hi A n cap zs) (h1 : i ≤ j) (h2 : j ≤ n) (hn : n ≤ 134217728) :
    Calls Tryz.prog 95 #[.slice A n cap, .int .i64 i, .int .i64 j] w (SlPost 5 .u8 w ((zs.drop i).take (j - i))) := by
  obtain ⟨i0, hi0, hz0, hz1, hz2⟩ := info_parts u8Info
  have hb := h.cap_
  have HR := Lib.hid h
  have HZ := Lib.hid (And.intro hi0 (And.intro hz0 (And.intro hz1 hz2)))
  clear h hi0 hz0 hz1 hz2
  go_enter Tryz.func95, Tryz.ntmps95
  go_wp2_with (first
    | (go_at_call 124; refine (part lo hi A n cap zs i j _ (HR.out.alloc _) h1 h2).mono ?_; rintro e w1 ⟨B, rfl, hr, rfl⟩; have HP := Lib.hid hr; clear hr)
    | (at_builtin; refine wpList_app _ rfl _ _ 22 rfl 5 i0 _ .u8 Tryz.underlying22 HZ.out.1 HZ.out.2.1 HZ.out.2.2.1 (by rw [HZ.out.2.2.2]; omega) rfl rfl rfl (Ow.empty _ _ _) HP.out (by omega) (by simp) ?_; intro A1 cap1 w1 ho hb1; have HO := Lib.hid ho; have HB := Lib.hid hb1; clear ho hb1))
  go_ret
  refine ⟨_, _, _, rfl, by simpa using HO.out, ?_⟩
  exact ((Below.refl _ _).alloc (Nat.le_refl _) _).trans HB.out

/-- A slice of bytes from block lo on, below which nothing has turned. -/
def AddPost (lo : Nat) (w : World) (zs : List Int) (e : Ending) (w' : World) : Prop :=
  ∃ A n cap, e = .returned (.slice A n cap) ∧ Ow 5 .u8 w' lo w'.heap.size A n cap zs ∧ Below lo w w'
theorem AddPost.intro {lo : Nat} {w w' : World} {zs : List Int} {A : Option Addr} {n cap hi : Nat} (h : Ow 5 .u8 w' lo hi A n cap zs) (hb : Below lo w w') : AddPost lo w zs (.returned (.slice A n cap)) w' :=
  ⟨A, n, cap, rfl, h.up, hb⟩
/-- A varint that is being written: what is there, and what is to come. -/
def Way (lo : Nat) (w wr : World) (zs : List Int) (N : Nat) (b x : Value) : Prop :=
  ∃ A m cap l y, b = .slice A m cap ∧ x = .int .i64 (y : Nat) ∧ l ++ enc y = zs ++ enc N ∧ Ow 5 .u8 wr lo wr.heap.size A m cap l ∧ Below lo w wr ∧ y ≤ N ∧ lo ≤ wr.heap.size
theorem way_step {l zs : List Int} {y N : Nat} (h : l ++ enc y = zs ++ enc N) (hy : 128 ≤ y) : (l ++ [((y % 128 + 128 : Nat) : Int)]) ++ enc (y / 128) = zs ++ enc N := by
  rw [← h, enc_more hy]; simp
theorem way_last {l zs : List Int} {y N : Nat} (h : l ++ enc y = zs ++ enc N) (hy : y < 128) : l ++ [(y : Int)] = zs ++ enc N := by
  rw [← h, enc_less hy]
theorem way_len {l zs : List Int} {y N : Nat} (h : l ++ enc y = zs ++ enc N) (hN : N ≤ 1000000000000) : l.length ≤ zs.length + 5 := by
  have e := congrArg List.length h
  rw [List.length_append, List.length_append] at e
  have := enc_pos y
  have := enc_len6 hN
  omega
theorem below_push {lo : Nat} {w wr w' : World} {o : Obj} (h : Below lo w wr) (hl : lo ≤ wr.heap.size) (hb : Below lo (wr.alloc o) w') : Below lo w w' := (h.alloc hl o).trans hb

theorem or128 (x : Int) (h0 : 0 ≤ x) (h1 : x < 128) : bits .or .i64 x 128 = x + 128 := by
  obtain ⟨k, rfl⟩ := Int.eq_ofNat_of_zero_le h0
  have e : (k ||| 128) = k + 128 := by
    have := Nat.two_pow_add_eq_or_of_lt (show k < 2 ^ 7 by omega) 1
    rw [Nat.or_comm]
    simpa [Nat.add_comm] using this.symm
  show IntKind.i64.wrap ((BitVec.ofInt 64 (k : Int) ||| BitVec.ofInt 64 128).toNat : Int) = _
  rw [BitVec.toNat_or]
  have e1 : (BitVec.ofInt 64 (k : Int)).toNat = k := by rw [BitVec.ofInt_natCast, BitVec.toNat_ofNat]; omega
  have e2 : (BitVec.ofInt 64 128).toNat = 128 := by rfl
  rw [e1, e2, e, IntKind.wrap_i64]
  omega
theorem and127 (x : Int) : bits .and .i64 x 127 = x % 128 := i64_and127 x

end Go.Proofs.YtdelpepepbkjmaaGreatDoor.uvs
end

section
namespace Go.Proofs.YtdelpepepbkjmaaGreatDoor.crcs
open Go.RowKit sl harn rng crcm

/-- The bytes with their check. -/
def wc (l : List Int) : List Int := l ++ [(crc l : Int) % 256, (crc l : Int) / 256]
theorem wc_len (l : List Int) : (wc l).length = l.length + 2 := by simp [wc]
/-- The bytes in front of the check. -/
def front (l : List Int) : List Int := l.take (l.length - 2)
theorem front_len (l : List Int) : (front l).length = l.length - 2 := by simp only [front, List.length_take]; omega
theorem front_wf {k : IntKind} {l : List Int} (h : Wf k l) : Wf k (front l) := h.take _
/-- CheckCrc. -/
def chk (l : List Int) : List Int × Bool := if 2 ≤ l.length ∧ wc (front l) = l then (front l, true) else ([], false)
theorem chk_yes {l : List Int} (h : 2 ≤ l.length) (h2 : wc (front l) = l) : chk l = (front l, true) := if_pos ⟨h, h2⟩
theorem chk_no {l : List Int} (h : ¬ (2 ≤ l.length ∧ wc (front l) = l)) : chk l = ([], false) := if_neg h
theorem chk_len (l : List Int) : (chk l).1.length ≤ l.length := by
  unfold chk; split
  · rw [front_len]; omega
  · simp
theorem two_last {l : List Int} {n : Nat} (h : l.length = n + 2) : l = l.take n ++ [l.getD n 0, l.getD (n + 1) 0] := by
  conv => lhs; rw [← List.take_append_drop n l]
  congr 1
  rw [List.drop_eq_getElem_cons (by omega), List.drop_eq_getElem_cons (by omega), List.drop_of_length_le (by omega), List.getD_eq_getElem?_getD, List.getD_eq_getElem?_getD, List.getElem?_eq_getElem (by omega), List.getElem?_eq_getElem (by omega)]
  rfl
theorem wc_iff {l : List Int} {n : Nat} (h : l.length = n + 2) (hb : Byt l) : wc (front l) = l ↔ l.getD n 0 + l.getD (n + 1) 0 * 256 = (crc (l.take n) : Int) := by
  have e := two_last h
  have hf : front l = l.take n := by rw [front, h]; rfl
  have hx : 0 ≤ l.getD n 0 ∧ l.getD n 0 ≤ 255 := by
    apply hb; rw [List.getD_eq_getElem?_getD, List.getElem?_eq_getElem (by omega)]; exact List.getElem_mem _
  have hy : 0 ≤ l.getD (n + 1) 0 ∧ l.getD (n + 1) 0 ≤ 255 := by
    apply hb; rw [List.getD_eq_getElem?_getD, List.getElem?_eq_getElem (by omega)]; exact List.getElem_mem _
  have hc : crc (l.take n) < 65536 := crc_lt fun z hz => hb z (List.mem_of_mem_take hz)
  rw [hf]
  constructor
  · intro g
    rw [wc] at g
    have g2 := List.append_cancel_left (g.trans e)
    injection g2 with g3 g4
    injection g4 with g4 _
    omega
  · intro g
    conv => rhs; rw [e]
    rw [wc]
    congr 2
    · omega
    · congr 1; omega

theorem Rd.two (k : IntKind) (E : TypeId) (w : World) (x y : Int) (hx : (Lit.int k x).wf = true) (hy : (Lit.int k y).wf = true) : Rd k (w.alloc (.cells #[.int k x, .int k y] E)) w.heap.size (w.heap.size + 1) (some ⟨w.heap.size, 0, none⟩) 2 2 [x, y] :=
  ⟨rfl, by omega, by unfold maxLen; omega, by simp, fun z hz => by
    rcases List.mem_cons.1 hz with rfl | hz
    · exact hx
    · have : z = y := by simpa using hz
      rw [this]; exact hy, fun _ => ⟨_, 0, rfl, Nat.le_refl _, by omega, fun i hi => by
    have : i = 0 ∨ i = 1 := by omega
    rcases this with rfl | rfl <;> simp⟩⟩

theorem copyFront (lo hi : Nat) (A : Option Addr) (n cap : Nat) (zs : List Int) (m : Nat) (w : World) (h : Rd .u8 w lo hi A n cap zs) (h2 : m ≤ n) (hn : n ≤ 134217728) :
    Calls Tryz.prog 95 #[.slice A n cap, .int .i64 0, .int .i64 m] w (SlPost 5 .u8 w (zs.take m)) := by
  have := uvs.copyPart lo hi A n cap zs 0 m w h (Nat.zero_le _) h2 hn
  rwa [List.drop_zero, Nat.sub_zero] at this
set_option maxRecDepth 100000 in
theorem implAppend (zs : List Int) (lo hi : Nat) (A : Option Addr) (n cap : Nat) (w : World) (h : Rd .u8 w lo hi A n cap zs) (hn : n ≤ 67108864) :
    Calls Tryz.prog 58 #[.slice A n cap] w (SlPost 5 .u8 w (wc zs)) := by
  obtain ⟨i0, hi0, hz0, hz1, hz2⟩ := info_parts u8Info
  have hb := h.cap_
  have HL := Lib.hid h.len
  have HR := Lib.hid h
  have HZ := Lib.hid (And.intro hi0 (And.intro hz0 (And.intro hz1 hz2)))
  have hc := crc_lt (byt_of_wf h.wf)
  have HW := Lib.hid (show wc zs = zs ++ [(crc zs : Int) % 256, (crc zs : Int) / 256] from rfl)
  have HC := Lib.hid (implCrc zs lo hi A n cap w h)
  obtain ⟨c, hce⟩ : ∃ c, crc zs = c := ⟨_, rfl⟩
  rw [hce] at hc HW HC
  have hq : (c : Int) / 256 % 256 = (c : Int) / 256 := by omega
  have h1 := Lib.hid (show (Lit.int .u8 ((c : Int) % 256)).wf = true from WalkArith.wf_u8 (by omega))
  have h2 := Lib.hid (show (Lit.int .u8 ((c : Int) / 256)).wf = true from WalkArith.wf_u8 (by omega))
  clear h hi0 hz0 hz1 hz2 hce
  go_enter Tryz.func58, Tryz.ntmps58
  go_wp2_with fail
  (with_reducible refine HC.out.mono ?_)
  rintro e w1 ⟨rfl, rfl⟩
  go_wp2_with fail
  (with_reducible refine (copyFront lo hi A n cap zs n _ HR.out (Nat.le_refl _) (by omega)).mono ?_)
  rintro e w2 ⟨B, m, cp, rfl, ho, hb2⟩
  obtain rfl : n = m := by
    have h3 := ho.len
    have h4 := HL.out
    simp only [List.length_take] at h3
    omega
  have HO := Lib.hid (show Ow 5 .u8 w2 w.heap.size w2.heap.size B n cp zs by have := HL.out; simpa [List.take_of_length_le (Nat.le_of_eq this)] using ho)
  have HB := Lib.hid hb2
  clear ho hb2
  go_wp2_with (at_builtin; refine wpList_app _ rfl _ _ 22 rfl 5 i0 _ .u8 Tryz.underlying22 HZ.out.1 HZ.out.2.1 HZ.out.2.2.1 (by rw [HZ.out.2.2.2]; omega) rfl rfl rfl (HO.out.alloc _) (Rd.two .u8 _ _ _ _ h1.out h2.out) (by omega) (by have := HB.out.size; simp; omega) ?_; intro A1 cap1 w3 ho hb1; have HO1 := Lib.hid ho; have HB1 := Lib.hid ((HB.out.alloc HB.out.size _).trans hb1); clear ho hb1)
  go_ret
  rw [HW.out]
  exact ⟨_, _, _, rfl, HO1.out, HB1.out⟩

set_option maxRecDepth 100000 in
theorem specAppend (zs : List Int) (lo hi : Nat) (A : Option Addr) (n cap : Nat) (w : World) (h : Rd .u8 w lo hi A n cap zs) (hn : n ≤ 67108864) :
    Calls Tryz.prog 112 #[.slice A n cap] w (SlPost 5 .u8 w (wc zs)) := by
  obtain ⟨i0, hi0, hz0, hz1, hz2⟩ := info_parts u8Info
  have hb := h.cap_
  have HL := Lib.hid h.len
  have HR := Lib.hid h
  have HZ := Lib.hid (And.intro hi0 (And.intro hz0 (And.intro hz1 hz2)))
  have hc := crc_lt (byt_of_wf h.wf)
  have HW := Lib.hid (show wc zs = zs ++ [(crc zs : Int) % 256, (crc zs : Int) / 256] from rfl)
  have HC := Lib.hid (specCrc zs lo hi A n cap w h)
  obtain ⟨c, hce⟩ : ∃ c, crc zs = c := ⟨_, rfl⟩
  rw [hce] at hc HW HC
  have hq : (c : Int) / 256 % 256 = (c : Int) / 256 := by omega
  have h1 := Lib.hid (show (Lit.int .u8 ((c : Int) % 256)).wf = true from WalkArith.wf_u8 (by omega))
  have h2 := Lib.hid (show (Lit.int .u8 ((c : Int) / 256)).wf = true from WalkArith.wf_u8 (by omega))
  clear h hi0 hz0 hz1 hz2 hce
  go_enter Tryz.func112, Tryz.ntmps112
  go_wp2_with fail
  (with_reducible refine HC.out.mono ?_)
  rintro e w1 ⟨rfl, rfl⟩
  go_wp2_with (first
    | (at_builtin; refine wpList_app _ rfl _ _ 22 rfl 5 i0 _ .u8 Tryz.underlying22 HZ.out.1 HZ.out.2.1 HZ.out.2.2.1 (by rw [HZ.out.2.2.2]; omega) rfl rfl rfl (Ow.empty _ _ _) (HR.out.alloc _) (by omega) (by simp) ?_; intro A1 cap1 w2 ho hb1; have HO := Lib.hid (show Ow 5 .u8 w2 w.heap.size w2.heap.size A1 n cap1 zs by simpa using ho); have HB := Lib.hid (((Below.refl _ _).alloc (Nat.le_refl _) _).trans hb1); clear ho hb1)
    | (at_builtin; refine wpList_app _ rfl _ _ 22 rfl 5 i0 _ .u8 Tryz.underlying22 HZ.out.1 HZ.out.2.1 HZ.out.2.2.1 (by rw [HZ.out.2.2.2]; omega) rfl rfl rfl (HO.out.alloc _) (Rd.two .u8 _ _ _ _ h1.out h2.out) (by omega) (by have := HB.out.size; simp; omega) ?_; intro A2 cap2 w3 ho hb1; have HO1 := Lib.hid ho; have HB1 := Lib.hid ((HB.out.alloc HB.out.size _).trans hb1); clear ho hb1))
  go_ret
  rw [HW.out]
  exact ⟨_, _, _, rfl, HO1.out, HB1.out⟩

/-- What CheckCrc hands back. -/
def CkPost (zs : List Int) (w : World) (e : Ending) (w' : World) : Prop :=
  ∃ A n cap, e = .returned (.tuple #[.slice A n cap, .bool (chk zs).2]) ∧ Ow 5 .u8 w' w.heap.size w'.heap.size A n cap (chk zs).1 ∧ Below w.heap.size w w'
theorem CkPost.parts {zs ys : List Int} {t : Bool} (ht : chk zs = (ys, t)) {w : World} {e : Ending} {w' : World} (h : CkPost zs w e w') :
    ∃ A n cap, e = .returned (.tuple #[.slice A n cap, .bool t]) ∧ Ow 5 .u8 w' w.heap.size w'.heap.size A n cap ys ∧ Below w.heap.size w w' := by
  unfold CkPost at h; rw [ht] at h; exact h
theorem ck_yes {zs : List Int} (h : chk zs = (front zs, true)) {w w' : World} {A : Option Addr} {n cap : Nat} (ho : Ow 5 .u8 w' w.heap.size w'.heap.size A n cap (front zs)) (hb : Below w.heap.size w w') :
    CkPost zs w (.returned (.tuple #[.slice A n cap, .bool true])) w' := by
  unfold CkPost; rw [h]; exact ⟨_, _, _, rfl, ho, hb⟩
theorem ck_empty {zs : List Int} (h : chk zs = ([], false)) {w w' : World} (hb : Below w.heap.size w w') :
    CkPost zs w (.returned (.tuple #[.slice (some ⟨w'.heap.size, 0, none⟩) 0 0, .bool false])) (w'.alloc (.cells #[] 5)) := by
  unfold CkPost; rw [h]
  exact ⟨_, _, _, rfl, (Ow.empty 5 .u8 w').up.down hb.size, hb.alloc hb.size _⟩

set_option maxRecDepth 100000 in
theorem implCheck (zs : List Int) (lo hi : Nat) (A : Option Addr) (n cap : Nat) (w : World) (h : Rd .u8 w lo hi A n cap zs) (hn : n ≤ 67108864) :
    Calls Tryz.prog 106 #[.slice A n cap] w (CkPost zs w) := by
  have hb := h.cap_
  have HL := Lib.hid h.len
  have HR := Lib.hid h
  clear h
  by_cases h2 : n < 2
  · have hlt : (n : Int) - 2 < 0 := by omega
    have H0 := Lib.hid (chk_no (l := zs) (fun h => by have := HL.out; omega))
    go_enter Tryz.func106, Tryz.ntmps106
    go_wp2
    go_ret2
    exact ck_empty H0.out (Below.refl _ _)
  · obtain ⟨m, rfl⟩ : ∃ m, n = m + 2 := ⟨n - 2, by omega⟩
    have hs1 : ((m + 2 : Nat) : Int) - 2 = m := by omega
    have hs2 : (m : Int) + 2 - 2 = m := by omega
    have HF := Lib.hid (show zs.take m = front zs by rw [front, HL.out]; rfl)
    have HFL := Lib.hid (show (front zs).length = m by rw [front_len, HL.out]; rfl)
    clear h2
    go_enter Tryz.func106, Tryz.ntmps106
    go_wp2_with fail
    (with_reducible refine (copyFront lo hi A (m + 2) cap zs m _ HR.out (by omega) (by omega)).mono ?_)
    rintro e w2 ⟨B, m', cp, rfl, ho, hb2⟩
    rw [HF.out] at ho
    obtain rfl : m = m' := by have h3 := ho.len; have h4 := HFL.out; omega
    have HO := Lib.hid ho
    have HB := Lib.hid hb2
    clear ho hb2
    go_wp2_with fail
    (with_reducible refine (implAppend (front zs) _ _ B m cp _ HO.out.rd (by omega)).mono ?_)
    rintro e w3 ⟨C, m3, cp3, rfl, ho, hb3⟩
    have HO3 := Lib.hid ho
    have HO2 := Lib.hid (HO.out.below hb3)
    have HB3 := Lib.hid (HB.out.trans (hb3.mono HB.out.size))
    clear ho hb3 HO HB
    by_cases heq : wc (front zs) = zs
    · have H0 := Lib.hid (chk_yes (l := zs) (by have := HL.out; omega) heq)
      have HD := Lib.hid (show decide (wc (front zs) = zs) = true from decide_eq_true heq)
      clear heq
      go_wp2_with fail
      (with_reducible refine (eqs.implEqB (wc (front zs)) zs _ _ _ _ C A m3 cp3 (m + 2) cap _ HO3.out.rd (HR.out.below HB3.out)).mono ?_)
      rintro e w4 ⟨he, hb4⟩
      rw [HD.out] at he
      subst he
      have HB4 := Lib.hid (HB3.out.trans (hb4.mono HB3.out.size))
      have HO4 := Lib.hid (HO2.out.below hb4)
      clear hb4
      go_wp2
      go_ret2
      exact ck_yes H0.out HO4.out.up HB4.out
    · have H0 := Lib.hid (chk_no (l := zs) (fun h => heq h.2))
      have HD := Lib.hid (show decide (wc (front zs) = zs) = false from decide_eq_false heq)
      clear heq
      go_wp2_with fail
      (with_reducible refine (eqs.implEqB (wc (front zs)) zs _ _ _ _ C A m3 cp3 (m + 2) cap _ HO3.out.rd (HR.out.below HB3.out)).mono ?_)
      rintro e w4 ⟨he, hb4⟩
      rw [HD.out] at he
      subst he
      have HB4 := Lib.hid (HB3.out.trans (hb4.mono HB3.out.size))
      clear hb4
      go_wp2
      go_ret2
      exact ck_empty H0.out HB4.out

theorem or_high {p q : Nat} (hp : p < 256) (hq : q < 256) : bits .or .i64 (p : Int) ((q : Int) * 256) = (p : Int) + (q : Int) * 256 := by
  have e : (p ||| q * 256) = p + q * 256 := by
    have := Nat.two_pow_add_eq_or_of_lt (show p < 2 ^ 8 by omega) q
    rw [Nat.or_comm, Nat.mul_comm q, Nat.add_comm p]
    exact this.symm
  rw [show ((q : Int) * 256) = ((q * 256 : Nat) : Int) by omega]
  show IntKind.i64.wrap ((BitVec.ofInt 64 (p : Int) ||| BitVec.ofInt 64 ((q * 256 : Nat) : Int)).toNat : Int) = _
  rw [BitVec.toNat_or]
  have e1 : (BitVec.ofInt 64 (p : Int)).toNat = p := by rw [BitVec.ofInt_natCast, BitVec.toNat_ofNat]; omega
  have e2 : (BitVec.ofInt 64 ((q * 256 : Nat) : Int)).toNat = q * 256 := by rw [BitVec.ofInt_natCast, BitVec.toNat_ofNat]; omega
  rw [e1, e2, e, IntKind.wrap_i64]
  omega
set_option maxRecDepth 100000 in
set_option maxHeartbeats 1000000 in
theorem specCheck (zs : List Int) (lo hi : Nat) (A : Option Addr) (n cap : Nat) (w : World) (h : Rd .u8 w lo hi A n cap zs) (hn : n ≤ 67108864) :
    Calls Tryz.prog 45 #[.slice A n cap] w (CkPost zs w) := by
  have hb := h.cap_
  have HL := Lib.hid h.len
  have HR := Lib.hid h
  clear h
  by_cases h2 : n < 2
  · have hlt : (n : Int) - 2 < 0 := by omega
    have hd : decide ((n : Int) - 2 < 0) = true := decide_eq_true hlt
    have H0 := Lib.hid (chk_no (l := zs) (fun h => by have := HL.out; omega))
    go_enter Tryz.func45, Tryz.ntmps45
    go_wp2
    go_quiet (fail)
    go_wp2
    go_ret2
    exact ck_empty H0.out (below_drews w _)
  · obtain ⟨m, hm⟩ : ∃ m, n = m + 2 := ⟨n - 2, by omega⟩
    have hs1 : (n : Int) - 2 = m := by omega
    have hm1 : (m : Int) < n := by omega
    have hmc : m ≤ cap := by omega
    have hmc2 : (m : Int) ≤ cap := by omega
    obtain ⟨k, hk⟩ : ∃ k, k = m + 1 := ⟨_, rfl⟩
    have hm2 : (k : Int) < n := by omega
    have hw1 : IntKind.i64.wrap ((m : Int) + 1) = (k : Int) := by rw [IntWalk.i64_in _ (by omega)]; omega
    have hd : decide ((m : Int) < 0) = false := decide_eq_false (by omega)
    have HF := Lib.hid (show zs.take m = front zs by rw [front, HL.out, hm]; rfl)
    have HFL := Lib.hid (show (front zs).length = m by rw [front_len, HL.out, hm]; rfl)
    clear h2
    obtain ⟨b, off, rfl, _, _, hc1⟩ := HR.out.at_ (show m < n by omega)
    obtain ⟨b', off', e, _, _, hc2⟩ := HR.out.at_ (show k < n by omega)
    injection e with e; injection e with e1 e2; subst e1 e2
    have hx01 : 0 ≤ zs.getD m 0 ∧ zs.getD m 0 ≤ 255 := by
      have h1 := HR.out.wf.getD (i := m) (by have := HL.out; omega)
      have := bounds_u8 h1; omega
    have hy01 : 0 ≤ zs.getD (m + 1) 0 ∧ zs.getD (m + 1) 0 ≤ 255 := by
      have h1 := HR.out.wf.getD (i := m + 1) (by have := HL.out; omega)
      have := bounds_u8 h1; omega
    have hiff := wc_iff (n := m) (HL.out.trans hm) (byt_of_wf HR.out.wf)
    obtain ⟨x, hx⟩ : ∃ x, zs.getD m 0 = x := ⟨_, rfl⟩
    rw [← hk] at hy01 hiff
    obtain ⟨y, hy⟩ : ∃ y, zs.getD k 0 = y := ⟨_, rfl⟩
    obtain ⟨c, hce⟩ : ∃ c, crc (zs.take m) = c := ⟨_, rfl⟩
    rw [hx] at hc1 hx01 hiff
    rw [hy] at hc2 hy01 hiff
    rw [hce] at hiff
    obtain ⟨p, rfl⟩ := Int.eq_ofNat_of_zero_le hx01.1
    obtain ⟨q, rfl⟩ := Int.eq_ofNat_of_zero_le hy01.1
    have hor := or_high (p := p) (q := q) (by omega) (by omega)
    obtain ⟨v, hv⟩ : ∃ v, (p : Int) + (q : Int) * 256 = v := ⟨_, rfl⟩
    rw [hv] at hor hiff
    have HC := Lib.hid hce
    have HI := Lib.hid hiff
    have hq : (q : Int) ≤ 255 := hy01.2
    have hwp : IntKind.i64.wrap (p : Int) = p := IntWalk.i64_in _ (by omega)
    have hwq : IntKind.i64.wrap (q : Int) = q := IntWalk.i64_in _ (by omega)
    have hw2 : IntKind.i64.wrap ((q : Int) * 256) = (q : Int) * 256 := IntWalk.i64_in _ (by omega)
    have hw3 : wrap64 ((q : Int) * 256) = (q : Int) * 256 := IntWalk.wrap64_in _ (by omega)
    have HM := Lib.hid hm
    clear hx hy hv hce hiff hx01 hy01 hm hk
    have HK := Lib.hid (show ∀ r, Calls Tryz.prog 84 #[.slice (some ⟨b, off, none⟩) m cap] (w.drewN r) fun e w' => e = .returned (.int .i64 c) ∧ w' = w.drewN r from fun r => by
      have h1 := HR.out.cut 0 m cap (some ⟨b, off, none⟩) (fun _ => by simp [Addr.add]) (Nat.zero_le _) (by omega) (by omega) (by have := HR.out.2.2.1; exact this)
      rw [List.drop_zero, Nat.sub_zero] at h1
      have h2 := specCrc (zs.take m) lo hi _ m cap (w.drewN r) (h1.below (below_drews w r))
      rw [HC.out] at h2
      exact h2.mono fun e w' ⟨h, h'⟩ => ⟨h, h'.symm⟩)
    have HRF := Lib.hid (show ∀ W, Below w.heap.size w W → Rd .u8 W lo hi (some ⟨b, off, none⟩) m cap (front zs) from fun W hW => by
      have h1 := HR.out.cut 0 m cap (some ⟨b, off, none⟩) (fun _ => by simp [Addr.add]) (Nat.zero_le _) (by omega) (by omega) (by have := HR.out.2.2.1; exact this)
      rw [List.drop_zero, Nat.sub_zero, HF.out] at h1
      exact h1.below hW)
    by_cases heq : v = (c : Int)
    · have H0 := Lib.hid (chk_yes (l := zs) (by have := HL.out; have := HM.out; omega) (HI.out.2 heq))
      subst heq
      obtain ⟨i0, hi0, hz0, hz1, hz2⟩ := info_parts u8Info
      have HZ := Lib.hid (And.intro hi0 (And.intro hz0 (And.intro hz1 hz2)))
      clear hi0 hz0 hz1 hz2
      go_enter Tryz.func45, Tryz.ntmps45
      go_wp2
      go_quiet ((go_at_call 84; exact Calls.quiet_of_same (HK.out _)))
      go_wp2_with (at_builtin; refine wpList_app _ rfl _ _ 22 rfl 5 i0 _ .u8 Tryz.underlying22 HZ.out.1 HZ.out.2.1 HZ.out.2.2.1 (by rw [HZ.out.2.2.2]; omega) rfl rfl rfl (Ow.empty _ _ _) ((HRF.out _ (below_drews w _)).alloc _) (by omega) (by simp) ?_; intro A1 cap1 w2 ho hb1; have HO := Lib.hid (show Ow 5 .u8 w2 w.heap.size w2.heap.size A1 m cap1 (front zs) by simpa using ho); have HB := Lib.hid ((below_drews w _).trans (((Below.refl _ _).alloc (Nat.le_refl _) _).trans hb1)); clear ho hb1)
      go_ret2
      exact ck_yes H0.out HO.out HB.out
    · have H0 := Lib.hid (chk_no (l := zs) (fun h => heq (HI.out.1 h.2)))
      have hne : (v == (c : Int)) = false := by simpa using heq
      go_enter Tryz.func45, Tryz.ntmps45
      go_wp2
      go_quiet ((go_at_call 84; exact Calls.quiet_of_same (HK.out _)))
      go_wp2
      go_ret2
      exact ck_empty H0.out (below_drews w _)
end Go.Proofs.YtdelpepepbkjmaaGreatDoor.crcs
end

section
namespace Go.Proofs.YtdelpepepbkjmaaGreatDoor.itm
open Go.RowKit sl bm

/-- The first position of a column. -/
def st (n c m : Nat) : Nat := m * (n / c) + min m (n % c)
/-- The position of a symbol. -/
def pos (n c i : Nat) : Nat := (i % c) * (n / c) + min (i % c) (n % c) + i / c
theorem st_succ (n c m : Nat) : st n c (m + 1) = st n c m + n / c + (if m < n % c then 1 else 0) := by
  unfold st
  rw [Nat.succ_mul]
  split <;> omega
theorem st_mono {n c a b : Nat} (h : a ≤ b) : st n c a ≤ st n c b := by
  unfold st
  have := Nat.mul_le_mul_right (n / c) h
  omega
theorem st_all {n c : Nat} (hc : 0 < c) : st n c c = n := by
  unfold st
  have := Nat.mod_lt n hc
  have := Nat.div_add_mod n c
  omega
theorem st_zero (n c : Nat) : st n c 0 = 0 := by unfold st; omega
theorem pos_eq (n c i : Nat) : pos n c i = st n c (i % c) + i / c := rfl
/-- A row is below the height of its column. -/
theorem row_lt {n c i : Nat} (hc : 0 < c) (hi : i < n) : i / c < n / c + (if i % c < n % c then 1 else 0) := by
  have h1 := Nat.div_add_mod i c
  have h2 := Nat.div_add_mod n c
  have h3 := Nat.mod_lt i hc
  have h5 := Nat.mod_lt n hc
  have h4 : i / c ≤ n / c := Nat.div_le_div_right (by omega)
  rcases Nat.lt_or_ge (i / c) (n / c) with h | h
  · split <;> omega
  · have e : i / c = n / c := by omega
    rw [e] at h1
    rw [if_pos (by omega), e]; omega
theorem pos_lt_next {n c i : Nat} (hc : 0 < c) (hi : i < n) : pos n c i < st n c (i % c + 1) := by
  rw [st_succ, pos_eq]
  have := row_lt hc hi
  omega
theorem pos_lt {n c i : Nat} (hc : 0 < c) (hi : i < n) : pos n c i < n := by
  have h1 := pos_lt_next hc hi
  have h2 : st n c (i % c + 1) ≤ st n c c := st_mono (Nat.mod_lt i hc)
  rw [st_all hc] at h2
  omega
theorem pos_inj {n c i j : Nat} (hc : 0 < c) (hi : i < n) (hj : j < n) (h : pos n c i = pos n c j) : i = j := by
  have key : ∀ {a b : Nat}, a < n → b < n → pos n c a = pos n c b → ¬ a % c < b % c := by
    intro a b ha hb h hlt
    have h1 := pos_lt_next hc ha
    have h2 : st n c (a % c + 1) ≤ st n c (b % c) := st_mono hlt
    rw [h, pos_eq] at h1
    generalize b / c = q at h1
    omega
  have h1 := key hi hj h
  have h2 := key hj hi h.symm
  have e : i % c = j % c := by omega
  rw [pos_eq, pos_eq, e] at h
  have e2 : i / c = j / c := by omega
  rw [← Nat.div_add_mod i c, ← Nat.div_add_mod j c, e, e2]
theorem column (n c p : Nat) : ∀ m, p < st n c m → ∃ k, k < m ∧ st n c k ≤ p ∧ p < st n c (k + 1)
  | 0, h => by rw [st_zero] at h; omega
  | m + 1, h => by
    rcases Nat.lt_or_ge p (st n c m) with h1 | h1
    · obtain ⟨k, g1, g2, g3⟩ := column n c p m h1
      exact ⟨k, by omega, g2, g3⟩
    · exact ⟨m, by omega, h1, h⟩
theorem pos_onto {n c p : Nat} (hc : 0 < c) (hp : p < n) : ∃ i, i < n ∧ pos n c i = p := by
  obtain ⟨k, g1, g2, g3⟩ := column n c p c (by rw [st_all hc]; exact hp)
  have h2 := Nat.div_add_mod n c
  rw [st_succ] at g3
  obtain ⟨r, hr⟩ : ∃ r, p = st n c k + r := ⟨p - st n c k, by omega⟩
  subst hr
  have em : (c * r + k) % c = k := by rw [Nat.mul_add_mod]; exact Nat.mod_eq_of_lt g1
  have ed : (c * r + k) / c = r := by rw [Nat.mul_add_div hc, Nat.div_eq_of_lt g1]; rfl
  refine ⟨c * r + k, ?_, by rw [pos_eq, em, ed]⟩
  by_cases h : r < n / c
  · have h3 : c * (r + 1) ≤ c * (n / c) := Nat.mul_le_mul_left c h
    rw [Nat.mul_succ] at h3
    omega
  · have h4 : k < n % c := by
      by_cases hk : k < n % c
      · exact hk
      · rw [if_neg hk] at g3; omega
    rw [if_pos h4] at g3
    have : r = n / c := by omega
    subst this
    omega

/-- The interleaver's conditions and its index function. -/
def Ok (n c : Int) : Prop := (1 ≤ c ∧ c ≤ 64) ∧ (0 ≤ n ∧ n ≤ 10000)
instance (n c : Int) : Decidable (Ok n c) := inferInstanceAs (Decidable (_ ∧ _))
def idx (n c i : Int) : Int := if Ok n c ∧ (0 ≤ i ∧ i ≤ n - 1) then (pos n.toNat c.toNat i.toNat : Nat) else -1
theorem idx_no {n c i : Int} (h : ¬ (Ok n c ∧ (0 ≤ i ∧ i ≤ n - 1))) : idx n c i = -1 := if_neg h
theorem idx_yes {n c i : Nat} (hc : 1 ≤ c ∧ c ≤ 64) (hn : n ≤ 10000) (hi : i < n) : idx n c i = (pos n c i : Nat) := by
  unfold idx
  rw [if_pos ⟨⟨by omega, by omega⟩, by omega⟩]
  rfl
theorem Ok.nats {n c : Int} (h : Ok n c) : ∃ a b : Nat, n = a ∧ c = b ∧ 1 ≤ b ∧ b ≤ 64 ∧ a ≤ 10000 := by
  obtain ⟨⟨h1, h2⟩, h3, h4⟩ := h
  exact ⟨n.toNat, c.toNat, by omega, by omega, by omega, by omega, by omega⟩
theorem pos_le {n c i : Nat} (hc : 1 ≤ c ∧ c ≤ 64) (hn : n ≤ 10000) (hi : i < n) : pos n c i ≤ 9999 := by have := pos_lt (c := c) (by omega) hi; omega

/-- The symbols as they are read, after the first k were written. -/
def put (n c : Nat) (l : List Int) : Nat → List Int
  | 0 => l
  | k + 1 => (put n c l k).set (pos n c k) (l.getD k 0)
theorem put_len (n c : Nat) (l : List Int) : ∀ k, (put n c l k).length = l.length
  | 0 => rfl
  | k + 1 => by rw [put, List.length_set, put_len n c l k]
theorem put_at {n c : Nat} (hc : 0 < c) {l : List Int} (hl : l.length = n) : ∀ k, k ≤ n → ∀ i, i < k → (put n c l k).getD (pos n c i) 0 = l.getD i 0
  | 0, _, i, hi => by omega
  | k + 1, hk, i, hi => by
    rw [put, List.getD_eq_getElem?_getD]
    by_cases h : i = k
    · subst h
      rw [List.getElem?_set_self (by rw [put_len, hl]; exact pos_lt hc (by omega))]; rfl
    · rw [List.getElem?_set_ne (fun e => h (pos_inj hc (by omega) (by omega) e).symm), ← List.getD_eq_getElem?_getD]
      exact put_at hc hl k (by omega) i (by omega)
/-- The symbols in their original order. -/
def back (n c : Nat) (l : List Int) : List Int := (List.range n).map fun i => l.getD (pos n c i) 0
theorem back_len (n c : Nat) (l : List Int) : (back n c l).length = n := by simp [back]
theorem back_at {n c : Nat} {l : List Int} {i : Nat} (hi : i < n) : (back n c l).getD i 0 = l.getD (pos n c i) 0 := by
  simp [back, List.getD_eq_getElem?_getD, hi]
theorem put_wf {k : IntKind} {n c : Nat} {l : List Int} (hl : Wf k l) (h0 : (Lit.int k 0).wf = true) : ∀ m, Wf k (put n c l m)
  | 0 => hl
  | m + 1 => fun z hz => by
    rw [put] at hz
    rcases List.mem_or_eq_of_mem_set hz with hz | hz
    · exact put_wf hl h0 m z hz
    · rw [hz]
      rcases Nat.lt_or_ge m l.length with h | h
      · exact hl.getD h
      · rw [List.getD_eq_getElem?_getD, List.getElem?_eq_none h]; exact h0
theorem back_wf {k : IntKind} {n c : Nat} {l : List Int} (hl : Wf k l) (h0 : (Lit.int k 0).wf = true) : Wf k (back n c l) := fun z hz => by
  obtain ⟨i, _, rfl⟩ := List.mem_map.1 hz
  rcases Nat.lt_or_ge (pos n c i) l.length with h | h
  · exact hl.getD h
  · rw [List.getD_eq_getElem?_getD, List.getElem?_eq_none h]; exact h0

def itl (l : List Int) (c : Int) : List Int := if Ok l.length c then put l.length c.toNat l l.length else l
def dei (l : List Int) (c : Int) : List Int := if Ok l.length c then back l.length c.toNat l else l
theorem itl_no {l : List Int} {c : Int} (h : ¬ Ok l.length c) : itl l c = l := if_neg h
theorem dei_no {l : List Int} {c : Int} (h : ¬ Ok l.length c) : dei l c = l := if_neg h
theorem itl_yes {l : List Int} {n c : Nat} (hl : l.length = n) (h : Ok n c) : itl l c = put n c l n := by
  subst hl; exact if_pos h
theorem dei_yes {l : List Int} {n c : Nat} (hl : l.length = n) (h : Ok n c) : dei l c = back n c l := by
  subst hl; exact if_pos h
theorem itl_len (l : List Int) (c : Int) : (itl l c).length = l.length := by
  unfold itl; split
  · exact put_len _ _ _ _
  · rfl
theorem dei_len (l : List Int) (c : Int) : (dei l c).length = l.length := by
  unfold dei; split
  · exact back_len _ _ _
  · rfl
theorem list_eq {a b : List Int} {n : Nat} (ha : a.length = n) (hb : b.length = n) (h : ∀ i, i < n → a.getD i 0 = b.getD i 0) : a = b := by
  apply List.ext_getElem (by omega)
  intro i h1 h2
  have := h i (by omega)
  simpa [List.getD_eq_getElem?_getD, h1, h2] using this
theorem dei_itl (l : List Int) (c : Int) : dei (itl l c) c = l := by
  by_cases h : Ok l.length c
  · obtain ⟨a, b, _, rfl, h1, h2, h3⟩ := h.nats
    rw [dei_yes (n := l.length) (itl_len _ _) h, itl_yes rfl h]
    refine list_eq (back_len _ _ _) rfl fun i hi => ?_
    rw [back_at hi, put_at (by omega) rfl _ (Nat.le_refl _) i hi]
  · rw [itl_no h, dei_no h]
theorem itl_dei (l : List Int) (c : Int) : itl (dei l c) c = l := by
  by_cases h : Ok l.length c
  · obtain ⟨a, b, _, rfl, h1, h2, h3⟩ := h.nats
    rw [dei_yes rfl h, itl_yes (n := l.length) (back_len _ _ _) h]
    refine list_eq ((put_len _ _ _ _).trans (back_len _ _ _)) rfl fun p hp => ?_
    obtain ⟨i, hi, rfl⟩ := pos_onto (c := b) (by omega) hp
    rw [put_at (by omega) (back_len _ _ _) _ (Nat.le_refl _) i hi, back_at hi]
  · rw [dei_no h, itl_no h]

/-- The distance of neighbours, and the least one of the first k. -/
def dist (n c i : Nat) : Nat := max (pos n c i) (pos n c (i + 1)) - min (pos n c i) (pos n c (i + 1))
def least (n c : Nat) : Nat → Nat
  | 0 => n
  | k + 1 => min (least n c k) (dist n c k)
theorem dist_lt {n c i : Nat} (hc : 0 < c) (hi : i + 1 < n) : dist n c i < n := by
  have h1 := pos_lt (c := c) hc (show i < n by omega)
  have h2 := pos_lt (c := c) hc hi
  unfold dist; omega
theorem dist_pos {n c i : Nat} (hc : 0 < c) (hi : i + 1 < n) : 1 ≤ dist n c i := by
  have h : pos n c i ≠ pos n c (i + 1) := fun e => by have := pos_inj hc (by omega) hi e; omega
  unfold dist; omega
theorem least_le (n c : Nat) : ∀ k, least n c k ≤ n
  | 0 => Nat.le_refl _
  | k + 1 => by have := least_le n c k; rw [least]; omega
theorem least_dist (n c : Nat) : ∀ k i, i < k → least n c k ≤ dist n c i
  | 0, i, h => by omega
  | k + 1, i, h => by
    rw [least]
    by_cases e : i = k
    · subst e; omega
    · have := least_dist n c k i (by omega); omega
theorem least_pos {n c : Nat} (hc : 0 < c) (hn : 1 ≤ n) : ∀ k, k < n → 1 ≤ least n c k
  | 0, _ => hn
  | k + 1, h => by
    have h1 := least_pos hc hn k (by omega)
    have h2 := dist_pos (n := n) hc (show k + 1 < n by omega)
    rw [least]; omega
def spread (n c : Int) : Int := if Ok n c ∧ 2 ≤ n then (least n.toNat c.toNat (n.toNat - 1) : Nat) else 0
theorem spread_no {n c : Int} (h : ¬ (Ok n c ∧ 2 ≤ n)) : spread n c = 0 := if_neg h
theorem spread_yes {n c : Nat} (h : Ok n c) (hn : 2 ≤ n) : spread n c = (least n c (n - 1) : Nat) := if_pos ⟨h, by omega⟩

/-- The least distance so far, as the specification keeps it. -/
def bst (n c k : Nat) : Int := if k = 0 then 0 else (least n c k : Nat)
theorem bst_first {n c : Nat} (hc : 0 < c) (hn : 2 ≤ n) {d : Nat} (hd : dist n c 0 = d) : bst n c 1 = d := by
  have := dist_lt (n := n) (i := 0) hc (by omega)
  unfold bst
  rw [if_neg (by omega), least, least]; omega
theorem bst_low {n c k d : Nat} {v : Int} (hd : dist n c k = d) (hv : bst n c k = v) (h0 : 0 < k) (h : (d : Int) < v) : bst n c (k + 1) = d := by
  unfold bst at hv ⊢
  rw [if_neg (by omega)] at hv
  rw [if_neg (by omega), least]; omega
theorem bst_high {n c k d : Nat} {v : Int} (hd : dist n c k = d) (hv : bst n c k = v) (h0 : 0 < k) (h : ¬ (d : Int) < v) : bst n c (k + 1) = v := by
  unfold bst at hv ⊢
  rw [if_neg (by omega)] at hv
  rw [if_neg (by omega), least]; omega
theorem bst_end {n c k : Nat} (h : k + 1 = n) (hn : 2 ≤ n) : bst n c k = (least n c (n - 1) : Nat) := by
  unfold bst
  rw [if_neg (by omega)]
  congr 2; omega
/-- The parts of a distance, as the walks meet them. -/
theorem dist_parts {n c k a b d : Nat} (ha : pos n c k = a) (hb : pos n c (k + 1) = b) (hd : dist n c k = d) :
    ∃ mx mn : Nat, (mx : Int) = (if (a : Int) < b then (b : Int) else a) ∧ (mn : Int) = (if (b : Int) < a then (b : Int) else a) ∧ (mx : Int) - mn = d ∧ mx ≤ max a b ∧ mn ≤ mx := by
  subst ha hb hd
  refine ⟨max (pos n c k) (pos n c (k + 1)), min (pos n c k) (pos n c (k + 1)), ?_, ?_, ?_, Nat.le_refl _, by omega⟩
  · split <;> omega
  · split <;> omega
  · unfold dist; omega

/-- The symbols that a burst hits, among the first k. -/
def hitN (n c : Nat) (s e : Int) (k : Nat) : List Int := ((List.range k).filter fun i => decide (s ≤ (pos n c i : Nat) ∧ (pos n c i : Nat) ≤ e)).map fun (i : Nat) => (i : Int)
theorem hitN_zero (n c : Nat) (s e : Int) : hitN n c s e 0 = [] := rfl
theorem hitN_succ (n c : Nat) (s e : Int) (k : Nat) : hitN n c s e (k + 1) = hitN n c s e k ++ (if s ≤ (pos n c k : Nat) ∧ (pos n c k : Nat) ≤ e then [(k : Int)] else []) := by
  unfold hitN
  rw [List.range_succ, List.filter_append, List.map_append]
  congr 1
  by_cases h : s ≤ (pos n c k : Nat) ∧ (pos n c k : Nat) ≤ e
  · rw [if_pos h, List.filter_cons_of_pos (by simpa using h)]; rfl
  · rw [if_neg h, List.filter_cons_of_neg (by simpa using h)]; rfl
theorem hitN_le (n c : Nat) (s e : Int) (k : Nat) : (hitN n c s e k).length ≤ k := by
  unfold hitN
  rw [List.length_map]
  have := List.length_filter_le (fun i => decide (s ≤ (pos n c i : Nat) ∧ (pos n c i : Nat) ≤ e)) (List.range k)
  simpa using this
def clamp (d : Int) : Int := if d ≤ 0 then 0 else if 10000 ≤ d then 10000 else d
theorem clamp_impl (d : Int) : clamp d = if (10000 : Int) < (if d < 0 then 0 else d) then 10000 else (if d < 0 then 0 else d) := by
  unfold clamp
  split <;> split <;> (try split) <;> (try split) <;> omega
theorem clamp_spec (d : Int) : clamp d = if (0 : Int) < (if (10000 : Int) < d then 10000 else d) then (if (10000 : Int) < d then 10000 else d) else 0 := by
  unfold clamp
  split <;> split <;> (try split) <;> (try split) <;> omega
theorem clamp_in (d : Int) : 0 ≤ clamp d ∧ clamp d ≤ 10000 := by unfold clamp; split <;> (try split) <;> omega
def hits (n c s d : Int) : List Int := if Ok n c ∧ (0 ≤ s ∧ s ≤ 10000) then hitN n.toNat c.toNat s (s + clamp d - 1) n.toNat else []
theorem hits_no {n c s d : Int} (h : ¬ (Ok n c ∧ (0 ≤ s ∧ s ≤ 10000))) : hits n c s d = [] := if_neg h
theorem hits_yes {n c : Nat} {s d : Int} (h : Ok n c) (hs : 0 ≤ s ∧ s ≤ 10000) : hits n c s d = hitN n c s (s + clamp d - 1) n := if_pos ⟨h, hs⟩
theorem hits_len (n c s d : Int) : (hits n c s d).length ≤ 10000 := by
  unfold hits; split
  · rename_i h
    have := hitN_le n.toNat c.toNat s (s + clamp d - 1) n.toNat
    have := h.1.2
    omega
  · simp

/-- Every integer from 0 to the length minus 1 once. -/
def inR (n : Nat) (l : List Int) : Prop := ∀ z ∈ l, 0 ≤ z ∧ z < n
def Pm (l : List Int) : Prop := inR l.length l ∧ l.Nodup
instance (l : List Int) : Decidable (Pm l) := by unfold Pm inR; infer_instance
def pm (l : List Int) : Bool := decide (Pm l)
theorem pm_yes {l : List Int} (h : Pm l) : pm l = true := decide_eq_true h
theorem pm_no {l : List Int} (h : ¬ Pm l) : pm l = false := decide_eq_false h
/-- What stands for the first k. -/
def Uniq (l : List Int) (k : Nat) : Prop := inR l.length (l.take k) ∧ (l.take k).Nodup
theorem good_zero (l : List Int) : Uniq l 0 := ⟨fun z h => by simp at h, by simp⟩
theorem good_all {l : List Int} (h : Uniq l l.length) : Pm l := by
  unfold Uniq at h
  rw [List.take_length] at h
  exact h
theorem take_next {l : List Int} {k : Nat} (hk : k < l.length) {x : Int} (hx : l.getD k 0 = x) : l.take (k + 1) = l.take k ++ [x] := by
  rw [List.take_add_one, List.getElem?_eq_getElem hk, ← hx, List.getD_eq_getElem?_getD, List.getElem?_eq_getElem hk]; rfl
theorem good_next {l : List Int} {k : Nat} (hk : k < l.length) {x : Int} (hx : l.getD k 0 = x) (h : Uniq l k) (h0 : 0 ≤ x ∧ x < l.length) (hn : ¬ x ∈ l.take k) : Uniq l (k + 1) := by
  unfold Uniq
  rw [take_next hk hx]
  refine ⟨fun z hz => ?_, ?_⟩
  · rcases List.mem_append.1 hz with hz | hz
    · exact h.1 z hz
    · have : z = x := by simpa using hz
      subst this; exact h0
  · rw [List.nodup_append]
    refine ⟨h.2, by simp, fun a ha b hb => ?_⟩
    have : b = x := by simpa using hb
    subst this
    exact fun e => hn (e ▸ ha)
theorem not_range {l : List Int} {k : Nat} (hk : k < l.length) {x : Int} (hx : l.getD k 0 = x) (h0 : ¬ (0 ≤ x ∧ x < l.length)) : ¬ Pm l := fun h => by
  have hm : x ∈ l := by
    rw [← hx, List.getD_eq_getElem?_getD, List.getElem?_eq_getElem hk]; exact List.getElem_mem hk
  exact h0 (h.1 x hm)
theorem not_twice {l : List Int} {k : Nat} (hk : k < l.length) {x : Int} (hx : l.getD k 0 = x) (h0 : x ∈ l.take k) : ¬ Pm l := fun h => by
  have h2 : (l.take (k + 1)).Nodup := (List.take_sublist _ _).nodup h.2
  rw [take_next hk hx, List.nodup_append] at h2
  exact h2.2.2 x h0 x (by simp) rfl
theorem mem_next {l : List Int} {k : Nat} (hk : k < l.length) {x : Int} (hx : l.getD k 0 = x) (j : Int) : j ∈ l.take (k + 1) ↔ j ∈ l.take k ∨ j = x := by
  rw [take_next hk hx]; simp
theorem put_next {n c : Nat} {l : List Int} {k z : Nat} {x : Int} (h1 : pos n c k = z) (h2 : l.getD k 0 = x) : put n c l (k + 1) = (put n c l k).set z x := by
  subst h1 h2; rfl
/-- What has been brought back so far. -/
def half (a b : List Int) (k : Nat) : List Int := a.take k ++ b.drop k
theorem half_zero (a b : List Int) : half a b 0 = b := by simp [half]
theorem half_all {a b : List Int} {n : Nat} (h : a.length = n) (h2 : b.length = n) : half a b n = a := by
  unfold half
  rw [List.take_of_length_le (by omega), List.drop_of_length_le (by omega), List.append_nil]
theorem half_len {a b : List Int} (h : a.length = b.length) (k : Nat) : (half a b k).length = b.length := by
  simp only [half, List.length_append, List.length_take, List.length_drop]; omega
theorem half_at {a b : List Int} {k : Nat} (h : k ≤ a.length) : (half a b k).getD k 0 = b.getD k 0 := by
  unfold half
  rw [List.getD_eq_getElem?_getD, List.getElem?_append_right (by simp; omega), List.getElem?_drop, List.length_take, Nat.min_eq_left h, List.getD_eq_getElem?_getD]
  congr 2; omega
theorem half_set {a b : List Int} {k : Nat} (h : a.length = b.length) (hk : k < a.length) : (half a b k).set k (a.getD k 0) = half a b (k + 1) := by
  unfold half
  rw [List.set_append_right _ _ (by simp; omega), List.length_take, Nat.min_eq_left (by omega), Nat.sub_self, List.drop_eq_getElem_cons (show k < b.length by omega), List.set_cons_zero, List.take_add_one,
    List.getElem?_eq_getElem hk, List.getD_eq_getElem?_getD, List.getElem?_eq_getElem hk]
  simp only [Option.toList_some, Option.getD_some, List.append_assoc, List.singleton_append]
theorem half_next {a b : List Int} {k : Nat} {v : Int} (h : a.length = b.length) (hk : k < a.length) (hv : a.getD k 0 = v) : (half a b k).set k v = half a b (k + 1) := by
  rw [← hv]; exact half_set h hk
end Go.Proofs.YtdelpepepbkjmaaGreatDoor.itm
end
