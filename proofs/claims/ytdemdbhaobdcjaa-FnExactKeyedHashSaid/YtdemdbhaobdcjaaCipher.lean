/- The cipher, program and specification: the key stream as a closure, Encrypt, Decrypt; and that each undoes the other. Condition: lengths up to 2^26. -/
import Derived.Test.YtdemdbhaobdcjaaKeyed
namespace Go.Proofs.Ytdemdbhaobdcjaa.cip
open Go.RowKit sl harn hsh

def enc (k : Int) (l : List Int) : List Int := l.mapIdx fun i x => (x + kh k [(i : Int)] % 256) % 256
def dec (k : Int) (l : List Int) : List Int := l.mapIdx fun i x => (x - kh k [(i : Int)] % 256) % 256
theorem enc_len (k : Int) (l : List Int) : (enc k l).length = l.length := by simp [enc]
theorem dec_len (k : Int) (l : List Int) : (dec k l).length = l.length := by simp [dec]
theorem enc_at (k : Int) (l : List Int) {j : Nat} (h : j < l.length) : (enc k l).getD j 0 = (l.getD j 0 + kh k [(j : Int)] % 256) % 256 := by
  simp [enc, List.getD_eq_getElem?_getD, h]
theorem dec_at (k : Int) (l : List Int) {j : Nat} (h : j < l.length) : (dec k l).getD j 0 = (l.getD j 0 - kh k [(j : Int)] % 256) % 256 := by
  simp [dec, List.getD_eq_getElem?_getD, h]
theorem enc_wf (k : Int) (l : List Int) : Wf .u8 (enc k l) := Wf.of_u8 fun z hz => by
  obtain ⟨j, hj, rfl⟩ := List.getElem_of_mem hz
  simp only [enc, List.getElem_mapIdx]
  omega
theorem dec_wf (k : Int) (l : List Int) : Wf .u8 (dec k l) := Wf.of_u8 fun z hz => by
  obtain ⟨j, hj, rfl⟩ := List.getElem_of_mem hz
  simp only [dec, List.getElem_mapIdx]
  omega
theorem dec_enc (k : Int) {l : List Int} (h : Wf .u8 l) : dec k (enc k l) = l := by
  apply List.ext_getElem (by rw [dec_len, enc_len])
  intro i h1 h2
  have := h.u8 _ (List.getElem_mem h2)
  simp only [dec, enc, List.getElem_mapIdx]
  omega
theorem enc_dec (k : Int) {l : List Int} (h : Wf .u8 l) : enc k (dec k l) = l := by
  apply List.ext_getElem (by rw [enc_len, dec_len])
  intro i h1 h2
  have := h.u8 _ (List.getElem_mem h2)
  simp only [dec, enc, List.getElem_mapIdx]
  omega

/-- The next byte of the key stream. -/
def NextPost (k : Int) (i : Nat) (q : Nat) (w : World) (e : Ending) (w' : World) : Prop :=
  e = .returned (.int .u8 (kh k [(i : Int)] % 256)) ∧ Tch q (q + 1) w w' ∧ w'.heap[q]? = some (.cells #[.int .i64 ((i : Int) + 1)] 3 (0, 0))
theorem tch_set {q : Nat} {w w1 : World} (h : Below w.heap.size w w1) (v : Value) : Tch q (q + 1) w (w1.setCell ⟨q, 0, none⟩ v) :=
  ⟨h.os, h.tape, h.output, by simpa [World.setCell] using h.size, fun b hb hn => by
    rw [Below.heap_setCell _ _ _ _ (by show b ≠ q; omega)]; exact h.block b hb⟩
set_option maxRecDepth 100000 in
theorem next (k : Int) (hk : (Lit.int .i64 k).wf = true) (p q i : Nat) (w : World) (hp : w.heap[p]? = some (.cells #[.int .i64 k] 3 (0, 0))) (hq : w.heap[q]? = some (.cells #[.int .i64 i] 3 (0, 0))) (hi : i ≤ 67108864) :
    Calls Try.prog 60 #[.pointer (some ⟨p, 0, none⟩), .pointer (some ⟨q, 0, none⟩)] w (NextPost k i q w) := by
  have c0 := cell_of_one hp
  have c1 := cell_of_one hq
  have HQ := Lib.hid hq
  have HK := Lib.hid hk
  obtain ⟨h, hh⟩ : ∃ h, kh k [(i : Int)] = h := ⟨_, rfl⟩
  have hb0 := kh_in k [(i : Int)]
  rw [hh] at hb0
  obtain ⟨hb0, hb1⟩ := hb0
  have HH := Lib.hid hh
  have HI := Lib.hid (show (Lit.int .i64 (i : Int)).wf = true from WalkArith.wf_i64 (by omega))
  clear hq hh hk hp
  go_enter Try.func60, Try.ntmps60
  go_wp2_with fail
  (with_reducible refine (implKh k HK.out _ _ _ _ 1 1 _ (Rd.one .i64 3 w i HI.out) (by omega)).mono ?_)
  rintro e w1 ⟨rfl, hb⟩
  rw [HH.out]
  have hb2 : Below w.heap.size w w1 := ((Below.refl w.heap.size w).alloc (Nat.le_refl _) _).trans (hb.mono (by simp))
  have HB := Lib.hid hb2
  have hq1 := (hb2.block q (lt_of_block HQ.out)).trans HQ.out
  have c2 := cell_of_one hq1
  have z2 := free_of_one hq1
  have HQ1 := Lib.hid hq1
  clear hb hb2 hq1
  go_wp2_with fail
  go_ret
  exact ⟨by rw [HH.out]; rfl, tch_set HB.out _, one_setCell HQ1.out⟩

/-- The key stream is made: its key and its index lie in new blocks. -/
def StreamPost (key : Int) (w : World) (e : Ending) (w' : World) : Prop :=
  ∃ p q, e = .returned (.func (.func 60) #[] #[.pointer (some ⟨p, 0, none⟩), .pointer (some ⟨q, 0, none⟩)]) ∧ w.heap.size ≤ p ∧ p < q ∧
    w'.heap[p]? = some (.cells #[.int .i64 key] 3 (0, 0)) ∧ w'.heap[q]? = some (.cells #[.int .i64 0] 3 (0, 0)) ∧ Below w.heap.size w w'
theorem stream (key : Int) (w : World) : Calls Try.prog 48 #[.int .i64 key] w (StreamPost key w) := by
  go_enter Try.func48, Try.ntmps48
  go_wp2
  go_ret
  have s1 : (w.alloc (.cells #[.int .i64 key] 3)).heap.size = w.heap.size + 1 := by simp
  have h2 := heap_alloc_new (w.alloc (.cells #[.int .i64 key] 3)) (.cells #[.int .i64 0] 3)
  rw [s1] at h2
  have h1 : ((w.alloc (.cells #[.int .i64 key] 3)).alloc (.cells #[.int .i64 0] 3)).heap[w.heap.size]? = some (.cells #[.int .i64 key] 3 (0, 0)) := by
    rw [heap_alloc_old _ _ (by rw [s1]; omega)]
    exact heap_alloc_new w _
  have b := ((Below.refl w.heap.size w).alloc (Nat.le_refl _) (.cells #[.int .i64 key] 3)).alloc (by rw [s1]; omega) (.cells #[.int .i64 0] 3)
  exact ⟨w.heap.size, w.heap.size + 1, rfl, Nat.le_refl _, by omega, h1, h2, b⟩

/-- A cipher on its way: the captured key and index, and the result with its first k bytes. -/
structure Run (key : Int) (p q r : Nat) (w wr : World) (n k : Nat) (zs : List Int) : Prop where
  low : w.heap.size ≤ p ∧ p < q ∧ q < r
  key_ : wr.heap[p]? = some (.cells #[.int .i64 key] 3 (0, 0))
  idx : wr.heap[q]? = some (.cells #[.int .i64 k] 3 (0, 0))
  row : ∃ cs, wr.heap[r]? = some (.cells cs 5 (0, 0)) ∧ cs.size = n ∧ ∀ j, j < k → cs[j]? = some (.int .u8 (zs.getD j 0))
  bel : Below w.heap.size w wr
theorem Run.start {key : Int} {p q : Nat} {w w1 : World} (n : Nat) (z : Array Value) (zs : List Int) (h1 : w.heap.size ≤ p) (h2 : p < q) (h3 : w1.heap[p]? = some (.cells #[.int .i64 key] 3 (0, 0))) (h4 : w1.heap[q]? = some (.cells #[.int .i64 0] 3 (0, 0))) (h5 : Below w.heap.size w w1) :
    Run key p q w1.heap.size w (w1.alloc (.cells (madeCells z n) 5)) n 0 zs where
  low := ⟨h1, h2, lt_of_block h4⟩
  key_ := by rw [heap_alloc_old _ _ (lt_of_block h3)]; exact h3
  idx := by rw [heap_alloc_old _ _ (lt_of_block h4)]; exact h4
  row := ⟨madeCells z n, heap_alloc_new _ _, size_madeCells z n, fun j h => absurd h (by omega)⟩
  bel := h5.alloc h5.size _
/-- Behind the call of the key stream only the index has turned. -/
theorem Run.called {key : Int} {p q r : Nat} {w wr w1 : World} {n k : Nat} {zs : List Int} (h : Run key p q r w wr n k zs) (t : Tch q (q + 1) wr w1) :
    w1.heap[p]? = some (.cells #[.int .i64 key] 3 (0, 0)) ∧ (∃ cs, w1.heap[r]? = some (.cells cs 5 (0, 0)) ∧ cs.size = n ∧ ∀ j, j < k → cs[j]? = some (.int .u8 (zs.getD j 0))) ∧ Below w.heap.size w w1 := by
  obtain ⟨⟨l1, l2, l3⟩, h1, h2, ⟨cs, h3, h4, h5⟩, h6⟩ := h
  refine ⟨(t.block _ (lt_of_block h1) (by omega)).trans h1, ⟨cs, (t.block _ (lt_of_block h3) (by omega)).trans h3, h4, h5⟩, ?_⟩
  exact h6.trans (t.below (by omega) h6.size)
theorem Run.cell {key : Int} {p q r : Nat} {w wr w1 : World} {n k : Nat} {zs : List Int} (h : Run key p q r w wr n k zs) (t : Tch q (q + 1) wr w1) (hk : k < n) : ∃ v, w1.cell? ⟨r, k, none⟩ = some v := by
  obtain ⟨_, ⟨cs, h1, h2, _⟩, _⟩ := h.called t
  exact ⟨cs[k]'(by omega), by simp [World.cell?, h1]⟩
theorem Run.free {key : Int} {p q r : Nat} {w wr w1 : World} {n k : Nat} {zs : List Int} (h : Run key p q r w wr n k zs) (t : Tch q (q + 1) wr w1) : w1.frozen? ⟨r, k, none⟩ = false := by
  obtain ⟨_, ⟨cs, h1, _⟩, _⟩ := h.called t
  simp [World.frozen?, h1]
theorem Run.step {key : Int} {p q r : Nat} {w wr w1 : World} {n k : Nat} {zs : List Int} (h : Run key p q r w wr n k zs) (t : Tch q (q + 1) wr w1) (hq : w1.heap[q]? = some (.cells #[.int .i64 ((k : Int) + 1)] 3 (0, 0))) (hk : k < n) {x : Int} (hx : zs.getD k 0 = x) :
    Run key p q r w (w1.setCell ⟨r, k, none⟩ (.int .u8 x)) n (k + 1) zs := by
  obtain ⟨h1, ⟨cs, h3, h4, h5⟩, h6⟩ := h.called t
  obtain ⟨l1, l2, l3⟩ := h.low
  subst hx
  refine ⟨⟨l1, l2, l3⟩, ?_, ?_, ⟨cs.setIfInBounds k (.int .u8 (zs.getD k 0)), heap_setCell_same w1 _ k cs _ _ h3, by simpa using h4, fun j hj => ?_⟩, h6.setCell (by show w.heap.size ≤ r; omega) _⟩
  · rw [Below.heap_setCell _ _ _ _ (by show p ≠ r; omega)]; exact h1
  · rw [Below.heap_setCell _ _ _ _ (by show q ≠ r; omega)]; exact hq
  · rcases Nat.lt_or_ge j k with hlt | hge
    · rw [Array.getElem?_setIfInBounds_ne (by omega)]; exact h5 j hlt
    · have : j = k := by omega
      subst this
      rw [Array.getElem?_setIfInBounds_self_of_lt (by omega)]
theorem Run.done {key : Int} {p q r : Nat} {w wr : World} {n : Nat} {zs : List Int} (h : Run key p q r w wr n n zs) (hl : zs.length = n) (hw : Wf .u8 zs) (hm : n ≤ maxLen) :
    SlPost 5 .u8 w zs (.returned (.slice (some ⟨r, 0, none⟩) n n)) wr := by
  obtain ⟨⟨l1, l2, l3⟩, h1, h2, ⟨cs, h3, h4, h5⟩, h6⟩ := h
  have e : cs.toList = zs.map (Value.int .u8) := by
    apply List.ext_getElem?
    intro i
    rw [Array.getElem?_toList, List.getElem?_map]
    rcases Nat.lt_or_ge i n with hi | hi
    · rw [h5 i hi, List.getElem?_eq_getElem (show i < zs.length by omega), List.getD_eq_getElem?_getD, List.getElem?_eq_getElem (show i < zs.length by omega)]
      rfl
    · rw [Array.getElem?_eq_none (by omega), List.getElem?_eq_none (by omega)]; rfl
  refine ⟨_, _, _, rfl, ⟨⟨by simpa using hl, Or.inr ⟨_, n, cs, rfl, by omega, h3, Nat.le_refl _, hm, by simpa using h4, ?_⟩⟩, hw, Nat.le_refl _, ?_⟩, h6⟩
  · rw [Nat.mul_one, ← e, List.take_of_length_le (by simp; omega)]
  · intro g o e; injection e with e; injection e with e _; subst e; exact lt_of_block h3

set_option maxRecDepth 100000 in
theorem implEnc (key : Int) (hk : (Lit.int .i64 key).wf = true) (zs : List Int) (lo hi : Nat) (A : Option Addr) (n cap : Nat) (w : World) (h : Rd .u8 w lo hi A n cap zs) (hn : n ≤ 67108864) :
    Calls Try.prog 17 #[.int .i64 key, .slice A n cap] w (SlPost 5 .u8 w (enc key zs)) := by
  obtain ⟨i0, hi0, hz0, hz1, hz2⟩ := info_parts u8Info
  have hmk := fun W => run_make1 (P := Try.prog) 22 5 i0 _ Try.underlying22 hi0 hz0 hz1 n (by omega) hn W
  have HR := Lib.hid h
  have HK := Lib.hid hk
  clear h hz2 hz1 hz0 hi0 hk
  go_enter Try.func17, Try.ntmps17
  go_wp2_with fail
  (with_reducible refine (stream key _).mono ?_)
  rintro e w1 ⟨p, q, rfl, l1, l2, h3, h4, h5⟩
  have HS := Lib.hid (Run.start n (Value.cells (.int .u8 0)) (enc key zs) l1 l2 h3 h4 h5)
  clear l1 l2 h3 h4 h5
  go_wp2_with fail
  go_loopw [16] (fun i wr => ∃ k : Nat, i = .int .i64 k ∧ k ≤ n ∧ Run key p q w1.heap.size w wr n k (enc key zs)) (fun i _ => n - (intOf i).toNat)
  case atStart => exact ⟨0, rfl, by omega, HS.out⟩
  case round =>
    obtain ⟨k, rfl, hk, hp⟩ := hrel
    have HP := Lib.hid hp
    clear hp
    by_cases hlt : k < n
    · obtain ⟨b, off, rfl, h1, h2, hc⟩ := (HR.out.below HP.out.bel).at_ hlt
      have hx01 : 0 ≤ zs.getD k 0 ∧ zs.getD k 0 ≤ 255 := by
        have h1 := HR.out.wf.getD (i := k) (by have := HR.out.len; omega)
        have := bounds_u8 h1; omega
      obtain ⟨x, hx⟩ : ∃ x, zs.getD k 0 = x := ⟨_, rfl⟩
      obtain ⟨y, hy⟩ : ∃ y, kh key [(k : Int)] % 256 = y := ⟨_, rfl⟩
      have hy01 : 0 ≤ y ∧ y ≤ 255 := by rw [← hy]; omega
      have HE := Lib.hid (show (enc key zs).getD k 0 = (x + y) % 256 by rw [enc_at key zs (by have := HR.out.len; omega), hx, hy])
      rw [hx] at hc hx01
      obtain ⟨hx0, hx1⟩ := hx01
      obtain ⟨hy0, hy1⟩ := hy01
      have HY := Lib.hid hy
      clear hx hy h1 h2
      have hlt2 : (k : Int) < n := by omega
      go_wp2_with fail
      (with_reducible refine (next key HK.out p q k _ HP.out.key_ HP.out.idx (by omega)).mono ?_)
      rintro e w2 ⟨rfl, ht, hq⟩
      rw [HY.out]
      have HT := Lib.hid ht
      have HQ := Lib.hid hq
      obtain ⟨v, hv⟩ := HP.out.cell ht hlt
      have hf := HP.out.free ht
      clear ht hq
      go_wp2_with fail
      go_roundw
      case rel => exact ⟨k + 1, by go_num, by omega, HP.out.step HT.out HQ.out hlt HE.out⟩
      case measure => simp [intOf]; omega
    · have hlt2 : ¬ (k : Int) < n := by omega
      go_wp2
      go_ret
      obtain rfl : k = n := by omega
      exact HP.out.done (by rw [enc_len]; exact HR.out.len) (enc_wf _ _) (by unfold maxLen; omega)
set_option maxRecDepth 100000 in
theorem implDec (key : Int) (hk : (Lit.int .i64 key).wf = true) (zs : List Int) (lo hi : Nat) (A : Option Addr) (n cap : Nat) (w : World) (h : Rd .u8 w lo hi A n cap zs) (hn : n ≤ 67108864) :
    Calls Try.prog 16 #[.int .i64 key, .slice A n cap] w (SlPost 5 .u8 w (dec key zs)) := by
  obtain ⟨i0, hi0, hz0, hz1, hz2⟩ := info_parts u8Info
  have hmk := fun W => run_make1 (P := Try.prog) 22 5 i0 _ Try.underlying22 hi0 hz0 hz1 n (by omega) hn W
  have HR := Lib.hid h
  have HK := Lib.hid hk
  clear h hz2 hz1 hz0 hi0 hk
  go_enter Try.func16, Try.ntmps16
  go_wp2_with fail
  (with_reducible refine (stream key _).mono ?_)
  rintro e w1 ⟨p, q, rfl, l1, l2, h3, h4, h5⟩
  have HS := Lib.hid (Run.start n (Value.cells (.int .u8 0)) (dec key zs) l1 l2 h3 h4 h5)
  clear l1 l2 h3 h4 h5
  go_wp2_with fail
  go_loopw [16] (fun i wr => ∃ k : Nat, i = .int .i64 k ∧ k ≤ n ∧ Run key p q w1.heap.size w wr n k (dec key zs)) (fun i _ => n - (intOf i).toNat)
  case atStart => exact ⟨0, rfl, by omega, HS.out⟩
  case round =>
    obtain ⟨k, rfl, hk, hp⟩ := hrel
    have HP := Lib.hid hp
    clear hp
    by_cases hlt : k < n
    · obtain ⟨b, off, rfl, h1, h2, hc⟩ := (HR.out.below HP.out.bel).at_ hlt
      have hx01 : 0 ≤ zs.getD k 0 ∧ zs.getD k 0 ≤ 255 := by
        have h1 := HR.out.wf.getD (i := k) (by have := HR.out.len; omega)
        have := bounds_u8 h1; omega
      obtain ⟨x, hx⟩ : ∃ x, zs.getD k 0 = x := ⟨_, rfl⟩
      obtain ⟨y, hy⟩ : ∃ y, kh key [(k : Int)] % 256 = y := ⟨_, rfl⟩
      have hy01 : 0 ≤ y ∧ y ≤ 255 := by rw [← hy]; omega
      have HE := Lib.hid (show (dec key zs).getD k 0 = (x - y) % 256 by rw [dec_at key zs (by have := HR.out.len; omega), hx, hy])
      rw [hx] at hc hx01
      obtain ⟨hx0, hx1⟩ := hx01
      obtain ⟨hy0, hy1⟩ := hy01
      have HY := Lib.hid hy
      clear hx hy h1 h2
      have hlt2 : (k : Int) < n := by omega
      go_wp2_with fail
      (with_reducible refine (next key HK.out p q k _ HP.out.key_ HP.out.idx (by omega)).mono ?_)
      rintro e w2 ⟨rfl, ht, hq⟩
      rw [HY.out]
      have HT := Lib.hid ht
      have HQ := Lib.hid hq
      obtain ⟨v, hv⟩ := HP.out.cell ht hlt
      have hf := HP.out.free ht
      clear ht hq
      go_wp2_with fail
      go_roundw
      case rel => exact ⟨k + 1, by go_num, by omega, HP.out.step HT.out HQ.out hlt HE.out⟩
      case measure => simp [intOf]; omega
    · have hlt2 : ¬ (k : Int) < n := by omega
      go_wp2
      go_ret
      obtain rfl : k = n := by omega
      exact HP.out.done (by rw [dec_len]; exact HR.out.len) (dec_wf _ _) (by unfold maxLen; omega)
end Go.Proofs.Ytdemdbhaobdcjaa.cip
