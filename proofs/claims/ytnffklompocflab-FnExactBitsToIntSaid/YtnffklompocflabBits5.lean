/- Bit strings, program and specification: BitsToBytes. Condition: lengths up to 2^26. -/
import Derived.Test.YtnffklompocflabBits4
namespace Go.Proofs.Ytnffklompocflab.bits
open Go.RowKit sl harn bm rng

def BbPost (zs : List Int) (w : World) (e : Ending) (w' : World) : Prop :=
  ∃ A n cap, e = .returned (.tuple #[.slice A n cap, .bool (bb zs).2]) ∧ Ow 5 .u8 w' w.heap.size w'.heap.size A n cap (bb zs).1 ∧ Below w.heap.size w w'
theorem BbPost.parts {zs ys : List Int} {t : Bool} (ht : bb zs = (ys, t)) {w : World} {e : Ending} {w' : World} (h : BbPost zs w e w') :
    ∃ A n cap, e = .returned (.tuple #[.slice A n cap, .bool t]) ∧ Ow 5 .u8 w' w.heap.size w'.heap.size A n cap ys ∧ Below w.heap.size w w' := by
  unfold BbPost at h; rw [ht] at h; exact h
theorem bb_empty {zs : List Int} (h : bb zs = ([], false)) (w : World) : BbPost zs w (.returned (.tuple #[.slice (some ⟨w.heap.size, 0, none⟩) 0 0, .bool false])) (w.alloc (.cells #[] 5)) := by
  unfold BbPost; rw [h]
  exact ⟨_, _, _, rfl, (Ow.empty _ _ w).up, (Below.refl _ _).alloc (Nat.le_refl _) _⟩
/-- Byte j of the first i bits. -/
def cellOf (zs : List Int) (i j : Nat) : Int := num (((zs.take i).drop (8 * j)).take 8)
theorem cellOf_zero (zs : List Int) (j : Nat) : cellOf zs 0 j = 0 := by simp [cellOf, num]
theorem cellOf_other (zs : List Int) {i j : Nat} (h : j ≠ i / 8) : cellOf zs (i + 1) j = cellOf zs i j := by
  unfold cellOf
  congr 1
  apply List.ext_getElem?
  intro m
  rw [List.getElem?_take, List.getElem?_take, List.getElem?_drop, List.getElem?_drop, List.getElem?_take, List.getElem?_take]
  split
  · split <;> split <;> first | rfl | omega
  · rfl
theorem cellOf_in {zs : List Int} (h : isb zs = true) (i j : Nat) : 0 ≤ cellOf zs i j ∧ cellOf zs i j ≤ 255 := by
  have h1 := num_in (isb_all (isb_sub h (m := ((zs.take i).drop (8 * j)).take 8) fun z hz => List.mem_of_mem_take (List.mem_of_mem_drop (List.mem_of_mem_take hz))))
  have h2 := pow_le (k := (((zs.take i).drop (8 * j)).take 8).length) (m := 8) (by simp; omega)
  unfold cellOf
  omega
theorem cellOf_list (zs : List Int) {q r : Nat} (hr : r ≤ 8) : ((zs.take (8 * q + r)).drop (8 * q)).take 8 = (zs.drop (8 * q)).take r := by
  rw [List.drop_take, List.take_take, show 8 * q + r - 8 * q = r by omega, Nat.min_eq_right hr]
theorem cellOf_step (zs : List Int) {q r : Nat} (hr : r < 8) (h : 8 * q + r < zs.length) : cellOf zs (8 * q + r + 1) q = cellOf zs (8 * q + r) q + zs.getD (8 * q + r) 0 * 2 ^ r := by
  unfold cellOf
  rw [Nat.add_assoc, cellOf_list zs (by omega), cellOf_list zs (by omega), num_take _ (by simp; omega)]
  congr 2
  rw [List.getD_eq_getElem?_getD, List.getD_eq_getElem?_getD, List.getElem?_drop]
theorem cellOf_lt {zs : List Int} (hb : isb zs = true) {q r : Nat} (hr : r < 8) (h : 8 * q + r < zs.length) : 0 ≤ cellOf zs (8 * q + r) q ∧ cellOf zs (8 * q + r) q < 2 ^ r := by
  unfold cellOf
  rw [cellOf_list zs (by omega)]
  have h1 := num_in (isb_all (isb_sub hb (m := (zs.drop (8 * q)).take r) fun z hz => List.mem_of_mem_drop (List.mem_of_mem_take hz)))
  have h2 : ((zs.drop (8 * q)).take r).length = r := by simp; omega
  rwa [h2] at h1
/-- Bytes that are being filled bit by bit. -/
def Fill (w wr : World) (m i : Nat) (zs : List Int) : Prop :=
  ∃ cs, wr.heap[w.heap.size]? = some (.cells cs 5 (0, 0)) ∧ cs.size = m ∧ (∀ j, j < m → cs[j]? = some (.int .u8 (cellOf zs i j))) ∧ Below w.heap.size w wr
theorem made_at (m j : Nat) (h : j < m) : (madeCells (Value.cells (.int .u8 0)) m)[j]? = some (.int .u8 0) := by
  rw [← Array.getElem?_toList, show Value.cells (.int .u8 0) = #[.int .u8 0] from rfl, toList_madeCells_one, List.getElem?_replicate, if_pos h]
theorem Fill.start (w : World) (m : Nat) (zs : List Int) : Fill w (w.alloc (.cells (madeCells (Value.cells (.int .u8 0)) m) 5)) m 0 zs :=
  ⟨_, heap_alloc_new w _, size_madeCells _ m, fun j h => by rw [cellOf_zero, made_at m j h], (Below.refl _ _).alloc (Nat.le_refl _) _⟩
theorem Fill.cell {w wr : World} {m i : Nat} {zs : List Int} (h : Fill w wr m i zs) {j : Nat} (hj : j < m) : wr.cell? ⟨w.heap.size, j, none⟩ = some (.int .u8 (cellOf zs i j)) := by
  obtain ⟨cs, h1, h2, h3, _⟩ := h
  simp [World.cell?, h1, h3 j hj]
theorem Fill.free {w wr : World} {m i : Nat} {zs : List Int} (h : Fill w wr m i zs) (j : Nat) : wr.frozen? ⟨w.heap.size, j, none⟩ = false := by
  obtain ⟨cs, h1, _⟩ := h
  simp [World.frozen?, h1]
theorem fill_below {w wr : World} {m i : Nat} {zs : List Int} (h : Fill w wr m i zs) : Below w.heap.size w wr := by
  obtain ⟨_, _, _, _, h4⟩ := h
  exact h4
theorem Fill.drew {w wr : World} {m i : Nat} {zs : List Int} (h : Fill w wr m i zs) : Fill w wr.drew m i zs := by
  obtain ⟨cs, h1, h2, h3, h4⟩ := h
  exact ⟨cs, h1, h2, h3, below_drew h4⟩
theorem Fill.step {w wr : World} {m i q : Nat} {zs : List Int} (h : Fill w wr m i zs) (hq : q = i / 8) (hm : q < m) {v : Int} (hv : cellOf zs (i + 1) q = v) : Fill w (wr.setCell ⟨w.heap.size, q, none⟩ (.int .u8 v)) m (i + 1) zs := by
  obtain ⟨cs, h1, h2, h3, h4⟩ := h
  refine ⟨cs.setIfInBounds q (.int .u8 v), heap_setCell_same wr w.heap.size q cs _ _ h1, by simpa using h2, fun j hj => ?_, h4.setCell (Nat.le_refl _) _⟩
  by_cases hjq : j = q
  · subst hjq
    rw [Array.getElem?_setIfInBounds_self_of_lt (by omega), hv]
  · rw [Array.getElem?_setIfInBounds_ne (by omega), h3 j hj, cellOf_other zs (by omega)]
theorem Fill.done {w wr : World} {m i : Nat} {zs : List Int} (h : Fill w wr m i zs) (hi : i = 8 * m) (hl : zs.length = 8 * m) (hb : isb zs = true) (hm : m ≤ maxLen) :
    BbPost zs w (.returned (.tuple #[.slice (some ⟨w.heap.size, 0, none⟩) m m, .bool true])) wr := by
  obtain ⟨cs, h1, h2, h3, h4⟩ := h
  have hbb : bb zs = (bytesOf m zs, true) := by rw [bb_yes hb (by omega), show zs.length / 8 = m by omega]
  have hp : Part .u8 5 w wr m m (bytesOf m zs) := ⟨cs, h1, h2, fun j hj => by
    rw [h3 j hj, bytesOf_at m zs j hj, cellOf, hi, ← hl, take_all rfl], h4⟩
  obtain ⟨A, n, c, e, ho, hb2⟩ := hp.done (bytesOf_len m zs) (Wf.of_u8 (bytesOf_in m hb)) hm
  unfold BbPost; rw [hbb]
  injection e with e; injection e with e1 e2 e3; subst e1 e2 e3
  exact ⟨_, _, _, rfl, ho, hb2⟩
theorem or8 {r : Nat} {a x : Int} (ha : 0 ≤ a) (ha2 : a < 2 ^ r) (hx : 0 ≤ x ∧ x ≤ 1) (hr : r < 8) : bits .or .u8 a (wrap64 (x * 2 ^ r) % 256) = a + x * 2 ^ r := by
  obtain ⟨p, rfl⟩ := Int.eq_ofNat_of_zero_le ha
  obtain ⟨q, rfl⟩ := Int.eq_ofNat_of_zero_le hx.1
  have hp : p < 2 ^ r := by exact_mod_cast ha2
  have hk2 : 2 ^ r ≤ 2 ^ 7 := Nat.pow_le_pow_right (by omega) (by omega)
  rw [show ((q : Int) * 2 ^ r) = ((q * 2 ^ r : Nat) : Int) by rw [Int.natCast_mul, Int.natCast_pow, show ((2 : Nat) : Int) = 2 from rfl]]
  have hs : q * 2 ^ r ≤ 128 := by
    have : q = 0 ∨ q = 1 := by omega
    rcases this with rfl | rfl <;> omega
  have e : (p ||| q * 2 ^ r) = p + q * 2 ^ r := by
    have := Nat.two_pow_add_eq_or_of_lt hp q
    rw [Nat.or_comm, Nat.mul_comm q, Nat.add_comm p]
    exact this.symm
  have h3 : p + q * 2 ^ r < 256 := by omega
  generalize hg : q * 2 ^ r = g at *
  rw [IntWalk.wrap64_in g (by omega), show (g : Int) % 256 = g by omega]
  show IntKind.u8.wrap ((BitVec.ofInt 8 (p : Int) ||| BitVec.ofInt 8 (g : Int)).toNat : Int) = _
  rw [BitVec.toNat_or]
  have e1 : (BitVec.ofInt 8 (p : Int)).toNat = p := by rw [BitVec.ofInt_natCast, BitVec.toNat_ofNat]; omega
  have e2 : (BitVec.ofInt 8 (g : Int)).toNat = g := by rw [BitVec.ofInt_natCast, BitVec.toNat_ofNat]; omega
  rw [e1, e2, e, IntWalk.u8_in _ (by omega)]
  omega
theorem cellOf_or {zs : List Int} (hb : isb zs = true) {k : Nat} (hk : k < zs.length) {x y : Int} (hx : zs.getD k 0 = x) (hy : cellOf zs k (k / 8) = y) : cellOf zs (k + 1) (k / 8) = bits .or .u8 y (wrap64 (x * 2 ^ (k % 8)) % 256) := by
  obtain ⟨q, r, hr, hk2⟩ : ∃ q r, r < 8 ∧ k = 8 * q + r := ⟨k / 8, k % 8, by omega, by omega⟩
  have hx01 := isb_getD hb k
  rw [show k % 8 = r by omega]
  rw [show k / 8 = q by omega] at hy ⊢
  subst hk2
  have h2 := cellOf_lt hb hr hk
  rw [hy] at h2
  rw [hx] at hx01
  rw [cellOf_step zs hr hk, hy, hx, or8 h2.1 h2.2 hx01 hr]
set_option maxRecDepth 100000 in
set_option maxHeartbeats 4000000 in
theorem implBb (zs : List Int) (lo hi : Nat) (A : Option Addr) (n cap : Nat) (w : World) (h : Rd .i64 w lo hi A n cap zs) (hn : n ≤ 67108864) :
    Calls Try.prog 14 #[.slice A n cap] w (BbPost zs w) := by
  have hb := h.cap_
  have hlen := h.len
  have HR := Lib.hid h
  clear h
  cases hi : isb zs
  · have H0 := Lib.hid (bb_no (l := zs) (fun h => by rw [hi] at h; cases h.1))
    have HI := Lib.hid hi
    clear hi
    go_enter Try.func14, Try.ntmps14
    go_wp2_with (go_at_call 11; refine (implIsb zs _ _ A n cap _ HR.out).mono ?_; rw [HI.out]; rintro e w1 ⟨rfl, rfl⟩)
    go_ret2
    exact bb_empty H0.out _
  · have HI := Lib.hid hi
    clear hi
    by_cases h8 : n % 8 = 0
    · obtain ⟨m, rfl⟩ : ∃ m, n = 8 * m := ⟨n / 8, by omega⟩
      obtain ⟨i0, hi0, hz0, hz1, hz2⟩ := info_parts u8Info
      have hmk := fun W => run_make1 (P := Try.prog) 26 5 i0 _ Try.underlying26 hi0 hz0 hz1 m (by omega) (by omega) W
      clear hz2 hz1 hz0 hi0
      go_enter Try.func14, Try.ntmps14
      go_wp2_with (go_at_call 11; refine (implIsb zs _ _ A _ cap _ HR.out).mono ?_; rw [HI.out]; rintro e w1 ⟨rfl, rfl⟩)
      go_loopw [23] (fun i wr => ∃ k : Nat, i = .int .i64 k ∧ k ≤ 8 * m ∧ Fill w wr m k zs) (fun i _ => 8 * m - (intOf i).toNat)
      case atStart => exact ⟨0, rfl, by omega, Fill.start _ _ _⟩
      case round =>
        obtain ⟨k, rfl, hk, hp⟩ := hrel
        have HP := Lib.hid hp
        clear hp
        by_cases hlt : k < 8 * m
        · have hq : k / 8 < m := by omega
          have hv := HP.out.cell hq
          have hf := HP.out.free (k / 8)
          have hv0 := cellOf_in HI.out k (k / 8)
          obtain ⟨b, off, rfl, h1, h2, hc⟩ := (HR.out.below (fill_below HP.out)).at_ hlt
          have hx01 := isb_getD HI.out k
          obtain ⟨x, hx⟩ : ∃ x, zs.getD k 0 = x := ⟨_, rfl⟩
          obtain ⟨y, hy⟩ : ∃ y, cellOf zs k (k / 8) = y := ⟨_, rfl⟩
          rw [hx] at hc hx01
          rw [hy] at hv hv0
          have hlt2 : (k : Int) < 8 * m := by omega
          have e1 : (k : Int) / 8 < m := by omega
          have HX := Lib.hid (cellOf_or HI.out (by rw [hlen]; exact hlt) hx hy)
          clear hx hy
          go_wp2
          go_region
          go_wp2
          go_roundw
          case rel => exact ⟨k + 1, by go_num, by omega, (HP.out.step rfl hq HX.out).drew⟩
          case measure => simp [intOf]; omega
        · have hlt2 : ¬ (k : Int) < 8 * m := by omega
          go_wp2
          go_ret2
          exact HP.out.done (by omega) hlen HI.out (by unfold maxLen; omega)
    · have H0 := Lib.hid (bb_no (l := zs) (fun h => by omega))
      have h9 : ¬ (n : Int) % 8 = 0 := by omega
      go_enter Try.func14, Try.ntmps14
      go_wp2_with (go_at_call 11; refine (implIsb zs _ _ A n cap _ HR.out).mono ?_; rw [HI.out]; rintro e w1 ⟨rfl, rfl⟩)
      go_ret2
      exact bb_empty H0.out _
set_option maxRecDepth 100000 in
set_option maxHeartbeats 4000000 in
theorem specBb (zs : List Int) (lo hi : Nat) (A : Option Addr) (n cap : Nat) (w : World) (h : Rd .i64 w lo hi A n cap zs) (hn : n ≤ 67108864) :
    Calls Try.prog 13 #[.slice A n cap] w (BbPost zs w) := by
  have hb := h.cap_
  have hlen := h.len
  have HR := Lib.hid h
  clear h
  cases hi : isb zs
  · have H0 := Lib.hid (bb_no (l := zs) (fun h => by rw [hi] at h; cases h.1))
    have HI := Lib.hid hi
    clear hi
    go_enter Try.func13, Try.ntmps13
    go_wp2_with (go_at_call 9; refine (specIsb zs _ _ A n cap _ (HR.out.alloc _)).mono ?_; rw [HI.out]; rintro e w1 ⟨rfl, rfl⟩)
    go_ret2
    exact bb_empty H0.out _
  · have HI := Lib.hid hi
    clear hi
    by_cases h8 : n % 8 = 0
    · obtain ⟨m, rfl⟩ : ∃ m, n = 8 * m := ⟨n / 8, by omega⟩
      obtain ⟨i0, hi0, hz0, hz1, hz2⟩ := info_parts u8Info
      have HZ := Lib.hid (And.intro hi0 (And.intro hz0 (And.intro hz1 hz2)))
      clear hz2 hz1 hz0 hi0
      go_enter Try.func13, Try.ntmps13
      go_wp2_with (go_at_call 9; refine (specIsb zs _ _ A _ cap _ (HR.out.alloc _)).mono ?_; rw [HI.out]; rintro e w1 ⟨rfl, rfl⟩)
      go_loopw [4, 5] (fun v i wr => ∃ k : Nat, i = .int .i64 (8 * k) ∧ k ≤ m ∧ Gath 5 .u8 w wr (bytesOf m zs) k v) (fun _ i _ => 8 * m - (intOf i).toNat)
      case atStart => exact ⟨0, rfl, by omega, Gath.start _ _ _ _⟩
      case round =>
        obtain ⟨k, rfl, hk, C, c, rfl, ho, hb⟩ := hrel
        have HO := Lib.hid ho
        have HB := Lib.hid hb
        clear ho hb
        by_cases hlt : k < m
        · obtain ⟨b, off, rfl, h1, h2, hc⟩ := (HR.out.below HB.out).at_ (show 0 < 8 * m by omega)
          have HC := Lib.hid ((HR.out.below HB.out).cut (8 * k) (8 * k + 8) (cap - 8 * k) (some ⟨b, off + 8 * k, none⟩) (fun _ => by simp [Addr.add]) (by omega) (by omega) (by omega) (by unfold maxLen; omega))
          have hx := bytesOf_at m zs k hlt
          have hbt := bti_yes (l := (zs.drop (8 * k)).take 8) (isb_sub HI.out fun z hz => List.mem_of_mem_drop (List.mem_of_mem_take hz)) (by simp; omega)
          have hin := bytesOf_in m HI.out _ (show (bytesOf m zs).getD k 0 ∈ bytesOf m zs by rw [List.getD_eq_getElem?_getD, List.getElem?_eq_getElem (by rw [bytesOf_len]; exact hlt)]; exact List.getElem_mem _)
          have htk := take_one (zs := bytesOf m zs) (k := k) (by rw [bytesOf_len]; exact hlt)
          obtain ⟨x, hxe⟩ : ∃ x, num ((zs.drop (8 * k)).take 8) = x := ⟨_, rfl⟩
          rw [hxe] at hx hbt
          rw [hx] at hin htk
          have HX := Lib.hid htk
          have HBt := Lib.hid hbt
          have HV := Lib.hid (show (Lit.int .u8 x).wf = true from WalkArith.wf_u8 (by omega))
          obtain ⟨hin0, hin1⟩ := hin
          clear hx hbt htk hxe
          have hlt2 : 8 * (k : Int) < 8 * m := by omega
          go_wp2_with fail
          (with_reducible refine (specBti _ lo hi _ 8 _ _ (by have := HC.out; rwa [show 8 * k + 8 - 8 * k = 8 by omega] at this)).mono ?_)
          rw [HBt.out]
          rintro e w1 ⟨rfl, rfl⟩
          go_wp2_with (at_builtin; refine wpList_app _ rfl _ _ 26 rfl 5 i0 _ .u8 Try.underlying26 HZ.out.1 HZ.out.2.1 HZ.out.2.2.1 (by rw [HZ.out.2.2.2]; omega) rfl rfl rfl (HO.out.alloc _) (Rd.one .u8 _ _ _ HV.out) (by omega) (by have := HB.out.size; simp; omega) ?_; intro A1 cap1 w1 ho hb1; have HO1 := Lib.hid ho; have HB1 := Lib.hid ((HB.out.alloc HB.out.size _).trans hb1); clear ho hb1)
          go_roundw
          case rel => exact ⟨k + 1, by go_num, by omega, A1, cap1, rfl, by rw [HX.out]; exact HO1.out, HB1.out⟩
          case measure => simp [intOf]; omega
        · have hlt2 : ¬ 8 * (k : Int) < 8 * m := by omega
          obtain rfl : k = m := by omega
          have hbb := Lib.hid (show bb zs = (bytesOf k zs, true) by rw [bb_yes HI.out (by omega), hlen, show 8 * k / 8 = k by omega])
          go_wp2
          go_ret2
          have hz := HO.out
          rw [take_all (bytesOf_len k zs)] at hz
          unfold BbPost; rw [hbb.out]
          exact ⟨_, _, _, rfl, hz, HB.out⟩
    · have H0 := Lib.hid (bb_no (l := zs) (fun h => by omega))
      have h9 : ¬ (n : Int) % 8 = 0 := by omega
      go_enter Try.func13, Try.ntmps13
      go_wp2_with (go_at_call 9; refine (specIsb zs _ _ A n cap _ (HR.out.alloc _)).mono ?_; rw [HI.out]; rintro e w1 ⟨rfl, rfl⟩)
      go_ret2
      exact bb_empty H0.out _
end Go.Proofs.Ytnffklompocflab.bits
