/- BytesToBits of the program: its iterator over the bits (a range over a function). Condition: lengths up to 2^26. -/
import Derived.RangeFuncBox
import Derived.RangeFuncLeaves
import Derived.Shelf.Abstract
import Derived.OwnWalkIn
import Derived.TacticsInMore
import Derived.LoopNIn
import Derived.LoopIn
import Derived.Test.YtdelpepepbkjmaaBits4
namespace Go.Proofs.Ytdelpepepbkjmaa.bits
open Go.RowKit Go.Shelf sl harn bm rng

attribute [local go_sem] Oper.semAt_some

/-- A number that fits. -/
abbrev I64 := { x : Int // (Lit.int .i64 x).wf = true }
def upto (f : Nat → I64) (k : Nat) : List I64 := (List.range k).map f
theorem upto_succ (f : Nat → I64) (k : Nat) : upto f (k + 1) = upto f k ++ [f k] := by simp [upto, List.range_succ]
theorem upto_length (f : Nat → I64) (k : Nat) : (upto f k).length = k := by simp [upto]
theorem getD_wf {l : List Int} (h : Wf .i64 l) (i : Nat) : (Lit.int .i64 (l.getD i 0)).wf = true := by
  rcases Nat.lt_or_ge i l.length with hi | hi
  · exact h.getD hi
  · rw [List.getD_eq_getElem?_getD, List.getElem?_eq_none hi]; exact WalkArith.wf_i64 (by simp)
/-- Bit i of the bytes. -/
def sq (zs : List Int) (i : Nat) : I64 := ⟨(btb zs).getD i 0, getD_wf (btb_wf zs) i⟩
theorem sq_map (zs : List Int) (n : Nat) (h : zs.length = n) : (upto (sq zs) (8 * n)).map (fun x : I64 => Value.int .i64 x.1) = (btb zs).map (Value.int .i64) := by
  apply List.ext_getElem
  · simp [upto, btb_len, h]
  · intro i h1 h2
    have : i < (btb zs).length := by simpa using h2
    simp [upto, sq, this]
theorem btb_at (zs : List Int) {k j : Nat} (hk : k < zs.length) (hj : j < 8) : (btb zs).getD (8 * k + j) 0 = zs.getD k 0 / 2 ^ j % 2 := by
  have e : zs = zs.take k ++ (zs.getD k 0 :: zs.drop (k + 1)) := by
    rw [List.getD_eq_getElem?_getD, List.getElem?_eq_getElem hk, Option.getD_some, ← List.drop_eq_getElem_cons hk, List.take_append_drop]
  have e2 : btb zs = btb (zs.take k) ++ (dig (zs.getD k 0) 8 ++ btb (zs.drop (k + 1))) := by
    conv => lhs; rw [e]
    rw [btb_append]; rfl
  rw [e2, List.getD_eq_getElem?_getD, List.getElem?_append_right (by rw [btb_len]; simp; omega), btb_len, List.length_take, Nat.min_eq_left (by omega), Nat.add_sub_cancel_left,
    List.getElem?_append_left (by rw [dig_len]; exact hj), ← List.getD_eq_getElem?_getD, dig_at _ hj]
theorem low1u {y : Int} (h0 : 0 ≤ y) (h1 : y ≤ 255) : bits .and .u8 y 1 = y % 2 := by
  obtain ⟨p, rfl⟩ := Int.eq_ofNat_of_zero_le h0
  show IntKind.u8.wrap ((BitVec.ofInt 8 (p : Int) &&& BitVec.ofInt 8 1).toNat : Int) = _
  have e1 : (BitVec.ofInt 8 (p : Int)).toNat = p := by rw [BitVec.ofInt_natCast, BitVec.toNat_ofNat]; omega
  have e2 : (BitVec.ofInt 8 1).toNat = 2 ^ 1 - 1 := by decide
  rw [BitVec.toNat_and, e1, e2, Nat.and_two_pow_sub_one_eq_mod, IntWalk.u8_in _ (by omega)]
  omega
theorem div_in {x : Int} (h0 : 0 ≤ x) (h1 : x ≤ 255) (j : Nat) : 0 ≤ x / 2 ^ j ∧ x / 2 ^ j ≤ 255 := by
  have hp := pow_pos j
  refine ⟨Int.ediv_nonneg h0 (by omega), ?_⟩
  have := Int.ediv_le_self (2 ^ j) h0
  omega

set_option maxRecDepth 100000 in
set_option maxHeartbeats 4000000 in
/-- The iterator's closure: every bit in order, for every loop body that keeps what lay below n₀. -/
theorem bits1 (n : Nat) (hn : 1 ≤ n) (l Bs n₀ lo len cap : Nat) (A : Option Addr) (zs : List Int) (J Jx : List I64 → World → Prop)
    (hY : ∀ pre (x : I64) W, J pre W → pre.length < 8 * len → YieldAt Fence.wide (n - 1) Try.prog l #[.int .i64 x.1] W fun e W' =>
      (e = .returned (.bool true) ∧ J (pre ++ [x]) W' ∧ Below n₀ W W') ∨ (e = .returned (.bool false) ∧ Jx (pre ++ [x]) W'))
    (W : World) (hBs : W.cell? ⟨Bs, 0, none⟩ = some (.slice A len cap)) (hr : Rd .u8 W lo n₀ A len cap zs) (h0 : J [] W) :
    CallsIn Fence.wide n Try.prog 101 #[.func (.yield l) #[] #[], .pointer (some ⟨Bs, 0, none⟩)] W fun e W' => (∃ v, e = .returned v) ∧
      ((∃ ys, ys = upto (sq zs) (8 * len) ∧ J ys W') ∨ (∃ pre, True ∧ Jx pre W')) := by
  have hb := hr.cap_
  have HR := Lib.hid hr
  clear hr
  refine callsIn_of_wp Try.func101 rfl trivial ?_ rfl
  simp only [Try.ntmps101, List.size_toArray, List.length_cons, List.length_nil, Nat.reduceAdd, Nat.reduceSub, Array.replicate_succ, Array.replicate_zero, List.push_toArray, List.append_toArray, List.nil_append, List.cons_append]
  gi_wp2
  gi_loopw [8] (fun i wr => ∃ k : Nat, k ≤ len ∧ i = .int .i64 k ∧ J (upto (sq zs) (8 * k)) wr ∧ Below n₀ W wr)
    (fun i _ => len - (intOf i).toNat)
  case atStart => exact ⟨0, Nat.zero_le _, rfl, h0, Below.refl _ _⟩
  case round =>
    obtain ⟨k, hk, rfl, hJs, hnx⟩ := hrel
    have HJ := Lib.hid hJs
    have HN := Lib.hid hnx
    clear hJs hnx
    by_cases hlt : k < len
    · obtain ⟨b, off, rfl, h1, h2, hc⟩ := (HR.out.same HN.out.size fun b _ hlt => HN.out.block b hlt).at_ hlt
      have hx01 : 0 ≤ zs.getD k 0 ∧ zs.getD k 0 ≤ 255 := by
        have h1 := HR.out.wf.getD (i := k) (by have := HR.out.len; omega)
        have := bounds_u8 h1; omega
      obtain ⟨x, hx⟩ : ∃ x, zs.getD k 0 = x := ⟨_, rfl⟩
      rw [hx] at hc hx01
      have HX := Lib.hid hx
      obtain ⟨hx0, hx1⟩ := hx01
      have hlt2 : (k : Int) < len := by omega
      clear hx
      gi_wp2
      gi_loopw [12] (fun i wr => ∃ j : Nat, j ≤ 8 ∧ i = .int .i64 j ∧ J (upto (sq zs) (8 * k + j)) wr ∧ Below n₀ W wr)
        (fun i _ => 8 - (intOf i).toNat)
      case atStart => exact ⟨0, Nat.zero_le _, rfl, HJ.out, HN.out⟩
      case round =>
        obtain ⟨j, hj, rfl, hJs, hnx⟩ := hrel
        have HJ2 := Lib.hid hJs
        have HN2 := Lib.hid hnx
        clear hJs hnx
        by_cases hlt3 : j < 8
        · have hlt4 : (j : Int) < 8 := by omega
          have hbit : bits .and .u8 (x / 2 ^ j) 1 = (sq zs (8 * k + j)).1 := by
            rw [low1u (div_in hx0 hx1 j).1 (div_in hx0 hx1 j).2]
            show _ = (btb zs).getD (8 * k + j) 0
            rw [btb_at zs (by rw [HR.out.len]; exact hlt) hlt3, HX.out]
          have hs01 : 0 ≤ (sq zs (8 * k + j)).1 ∧ (sq zs (8 * k + j)).1 ≤ 1 := by
            rw [← hbit, low1u (div_in hx0 hx1 j).1 (div_in hx0 hx1 j).2]; omega
          obtain ⟨fn, tmps, assign, body, hy, hR⟩ := hY _ (sq zs (8 * k + j)) _ HJ2.out (by rw [upto_length]; omega)
          have HS := Lib.hid (upto_succ (sq zs) (8 * k + j))
          generalize sq zs (8 * k + j) = s at *
          obtain ⟨v, hv⟩ : ∃ v, s.1 = v := ⟨_, rfl⟩
          rw [hv] at hbit hs01 hy
          have HR2 := Lib.hid hR
          clear hR hv
          gi_wp2
          refine HR2.out.mono ?_
          rintro e W3 (⟨rfl, hJ3, hk3⟩ | ⟨rfl, hJx3⟩)
          · have HJ3 := Lib.hid hJ3
            have HK3 := Lib.hid hk3
            clear hJ3 hk3
            gi_wp2
            go_roundw
            case rel => exact ⟨j + 1, by omega, by simp, by rw [← Nat.add_assoc, HS.out]; exact HJ3.out, HN2.out.trans HK3.out⟩
            case measure => simp [intOf]; omega
          · have HJx := Lib.hid hJx3
            clear hJx3
            gi_wp2
            refine bodyPost_ret (results_none rfl _ _ _) rfl ?_
            exact ⟨⟨_, rfl⟩, .inr ⟨_, trivial, HJx.out⟩⟩
        · have hlt4 : ¬ (j : Int) < 8 := by omega
          obtain rfl : j = 8 := by omega
          gi_wp2
          go_roundw
          case rel => exact ⟨k + 1, by omega, by simp, HJ2.out, HN2.out⟩
          case measure => simp [intOf]; omega
    · have hlt2 : ¬ (k : Int) < len := by omega
      gi_wp2
      go_end0
      obtain rfl : k = len := by omega
      exact ⟨⟨_, rfl⟩, .inl HJ.out⟩

set_option maxHeartbeats 1000000 in
/-- The iterator is made: the bytes' slice value is boxed. -/
theorem bitsOf_in (n : Nat) (A : Option Addr) (len cap : Nat) (w : World) :
    CallsIn Fence.wide n Try.prog 94 #[.slice A len cap] w fun e w' => e = .returned (.func (.func 101) #[] #[.pointer (some ⟨w.heap.size, 0, none⟩)]) ∧ w' = w.alloc (.cells #[.slice A len cap] 22) := by
  refine callsIn_of_wp Try.func94 rfl trivial ?_ rfl
  simp only [Try.ntmps94, List.size_toArray, List.length_cons, List.length_nil, Nat.reduceAdd, Nat.reduceSub, Array.replicate_succ, Array.replicate_zero, List.push_toArray, List.append_toArray, List.nil_append, List.cons_append]
  gi_wp2
  go_ret
  exact ⟨rfl, rfl⟩
theorem bits_stops (n : Nat) (hn : 1 ≤ n) (Bs n₀ lo len cap : Nat) (A : Option Addr) (zs : List Int) (w : World) (hBs : Bs < w.heap.size) (hn₀ : n₀ ≤ w.heap.size)
    (hc : w.cell? ⟨Bs, 0, none⟩ = some (.slice A len cap)) (hr : Rd .u8 w lo n₀ A len cap zs) :
    SeqStopsK Fence.wide n Try.prog 101 #[.pointer (some ⟨Bs, 0, none⟩)] (fun x : I64 => #[Value.int .i64 x.1]) (Below n₀) (fun ys => ys = upto (sq zs) (8 * len)) (fun _ => True) (8 * len) w := fun l J Jx W hW _ _ hY h0 =>
  bits1 n hn l Bs n₀ lo len cap A zs J Jx hY W ((hW.cell (p := ⟨Bs, 0, none⟩) hBs).trans hc) (hr.same hW.size fun b _ hlt => hW.block b (by omega)) h0

set_option maxRecDepth 100000 in
set_option maxHeartbeats 4000000 in
theorem implBtb_in (n : Nat) (hn : 3 ≤ n) (zs : List Int) (lo len cap : Nat) (A : Option Addr) (w : World) (hr : Rd .u8 w lo w.heap.size A len cap zs) (hl : len ≤ 67108864) :
    CallsIn Fence.wide n Try.prog 79 #[.slice A len cap] w fun e W' => ∃ v, e = .returned v ∧ W'.ownsRow w.heap.size 3 1 v (btb zs).length ((btb zs).map (Value.int .i64)) ∧ Below w.heap.size w W' := by
  have h1 : 1 ≤ n := by omega
  have hlen := hr.len
  have HR := Lib.hid hr
  clear hr
  obtain ⟨i0, hi, hz0, hz1, hz2⟩ := info_parts intInfo
  refine callsIn_of_wp_marks Try.func79 rfl trivial ?_ rfl
  simp only [Try.ntmps79, List.size_toArray, List.length_cons, List.length_nil, Nat.reduceAdd, Nat.reduceSub, Array.replicate_succ, Array.replicate_zero, List.push_toArray, List.append_toArray, List.nil_append, List.cons_append]
  gi_wp2_with fail
  refine ⟨trivial, (bitsOf_in (n - 1) _ _ _ _).mono ?_⟩
  rintro e w' ⟨rfl, rfl⟩
  gi_wp2_with fail
  have bO := Boxed.new (w.alloc (.cells #[] 3)) 27 (.slice (some ⟨w.heap.size, 0, none⟩) 0 0)
  have bN := Boxed.new ((w.alloc (.cells #[] 3)).alloc (.cells #[.slice (some ⟨w.heap.size, 0, none⟩) 0 0] 27)) 22 (.slice A len cap)
  simp only [World.size_alloc] at bO bN
  have hO0 := (((Ow.empty 3 .i64 w).alloc (.cells #[.slice (some ⟨w.heap.size, 0, none⟩) 0 0] 27)).alloc (.cells #[.slice A len cap] 22)).1
  have hB0 : Below w.heap.size w (((w.alloc (.cells #[] 3)).alloc (.cells #[.slice (some ⟨w.heap.size, 0, none⟩) 0 0] 27)).alloc (.cells #[.slice A len cap] 22)) :=
    (((Below.refl _ w).alloc (Nat.le_refl _) _).alloc (by simp) _).alloc (by simp; omega) _
  refine wpIn_rangeFunc_ownG rfl h1 (gf := 101) (lb := #[.pointer (some ⟨w.heap.size + 1 + 1, 0, none⟩)]) rfl trivial (enters_of Try.func101 (by kernel_rfl) rfl)
    (bits_stops (n - 1) (by omega) (w.heap.size + 1 + 1) w.heap.size lo len cap A zs _ (by simp) (by simp; omega) bN.cell (HR.out.same hB0.size fun b _ hlt => hB0.block b hlt)) belowK_t (belowK_b (by simp; omega)) (Below.refl _ _) (fun _ => rfl)
    (fun pre W => (∃ v, Boxed W (w.heap.size + 1) 27 v ∧ W.ownsRow w.heap.size 3 1 v pre.length (pre.map (fun x : I64 => Value.int .i64 x.1)) ∧ True) ∧ Below w.heap.size w W)
    (fun _ _ _ => False)
    (OwnFrom.and (Own.from (holdsRow_own w.heap.size (w.heap.size + 1) 27 3 1 (fun pre : List I64 => pre.length) (fun pre : List I64 => pre.map (fun x : I64 => Value.int .i64 x.1)) (fun _ _ => True)) _) (ownFrom_below (Nat.le_refl _) (by simp; omega)))
    (fun _ _ _ _ _ hs _ _ => hs)
    ⟨⟨_, bO.alloc _, hO0, trivial⟩, hB0⟩
    (fun x => { tmps := #[.slice A len cap, undef, .slice none 0 0, .pointer (some ⟨w.heap.size + 1, 0, none⟩), .int .i64 x.1, .slice (some ⟨w.heap.size, 0, none⟩) 0 0, .slice A len cap, .func (.func 101) #[] #[.pointer (some ⟨w.heap.size + 1 + 1, 0, none⟩)], .int .i64 x.1, undef, undef, undef, undef, undef], defers := [] }) ?assign ?body ?done ?stop
  case assign =>
    intro l x W K hK
    gi_wp2
    exact hK
  case body =>
    rintro l pre x W ⟨⟨v, hv, hrow, _⟩, hB⟩ hlt
    have hc := hv.cell
    gi_wp2_with (gi_at_builtin; refine wpListIn_append_own _ rfl _ _ 27 rfl w.heap.size 3 i0 (.int .i64 0) 1 8 Try.underlying27 hi hz0 hz1 hz2 rfl (by decide) _ _ _ rfl (hrow.alloc _) ⟨W.heap.size, 0, none⟩ 1 1 [.int .i64 x.1] rfl rfl (cell_one_new _ _ _) (by simp [Value.oneCell']) (by unfold maxLen; omega) (by omega) (by have := hB.size; simp; omega) ?_; intro v' w1 hown' hgrow _; obtain ⟨g', cap', rfl⟩ := ownsRow_succ hown'; obtain ⟨hv1, hv2, hr2, hk2, hb2⟩ := hv.appended (by decide) hrow hB.size (by omega) hown' hgrow; have hc1 := hv1.cell; have hf1 := hv1.frozen)
    exact ⟨hk2.from _, hb2, ⟨_, hv2, by simpa using hr2, trivial⟩, hB.trans hb2⟩
  case done =>
    rintro D ys W hD rfl ⟨⟨v, hv, hrow, _⟩, hB⟩ hK
    have hc := hv.cell
    rw [sq_map zs len hlen, upto_length] at hrow
    have hrow2 : W.ownsRow w.heap.size 3 1 v (btb zs).length ((btb zs).map (Value.int .i64)) := by rw [btb_len, hlen]; exact hrow
    gi_wp2
    refine ⟨by simp, .inl ⟨_, _, rfl, run_takeDeferred hK, ?_⟩⟩
    exact ⟨_, results_tmp rfl _ _ _, v, rfl, ownsRow_putObj hrow2 _ hK rfl, hB.trans (belowK_b (w := w) (Nat.le_refl _) W D _ _ (by simp at hD; omega) hK rfl rfl)⟩
  case stop =>
    rintro D c pre W _ _ h _
    exact h.elim
theorem implBtb (zs : List Int) (lo hi : Nat) (A : Option Addr) (n cap : Nat) (w : World) (h : Rd .u8 w lo hi A n cap zs) (hn : n ≤ 67108864) :
    Calls Try.prog 79 #[.slice A n cap] w (SlPost 3 .i64 w (btb zs)) := by
  refine (callsIn_wide (n := 3)).1 ((implBtb_in 3 (by omega) zs 0 n cap A w h.wide hn).mono ?_)
  rintro e w1 ⟨v, rfl, ho, hb⟩
  obtain ⟨B, c, rfl, ho2⟩ := Ow.of_own ho (btb_wf zs)
  exact ⟨_, _, _, rfl, ho2, hb⟩
end Go.Proofs.Ytdelpepepbkjmaa.bits
