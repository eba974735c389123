/- LongestBurst, program and specification: a set of integers ranged over in whatever order. Condition: lengths up to 2^26. -/
import Derived.Test.YtcfgjlolabnolaaMset
import Derived.Test.YtcfgjlolabnolaaChb
import Derived.Test.YtcfgjlolabnolaaRng
import Derived.Test.YtcfgjlolabnolaaChw8
namespace Go.Proofs.Ytcfgjlolabnolaa.chw
open Go.RowKit Go.Maps sl harn rng chm own mset
set_option linter.unusedVariables false

/-- What has been found out of the integers that are not to come any more. -/
def Best (S : List Int) (left : Int → Bool) (L : Nat) : Prop := (∀ x ∈ S, left x = false → nx x (-1) ∉ S → ∃ m, Bl S x m ∧ m ≤ L) ∧ (L = 0 ∨ ∃ x ∈ S, Bl S x L)
theorem best_start {S : List Int} {left : Int → Bool} (h : ∀ x ∈ S, left x = true) : Best S left 0 := ⟨fun x hx hl => (by rw [h x hx] at hl; cases hl), Or.inl rfl⟩
theorem best_skip {S : List Int} {left : Int → Bool} {L : Nat} {x : Int} (h : Best S left L) (hp : nx x (-1) ∈ S) : Best S (fun y => left y && !decide (y = x)) L :=
  ⟨fun y hy hl hn => by
    by_cases e : y = x
    · subst e; exact absurd hp hn
    · exact h.1 y hy (by simpa [e] using hl) hn, h.2⟩
theorem best_more {S : List Int} {left : Int → Bool} {L j M : Nat} {x : Int} (h : Best S left L) (hx : x ∈ S) (hb : Bl S x j) (hM : (M : Int) = if (L : Int) < j then (j : Int) else L) : Best S (fun y => left y && !decide (y = x)) M := by
  have h1 : L ≤ M := by split at hM <;> omega
  have h2 : j ≤ M := by split at hM <;> omega
  refine ⟨fun y hy hl hn => ?_, ?_⟩
  · by_cases e : y = x
    · subst e; exact ⟨j, hb, h2⟩
    · obtain ⟨m, g1, g2⟩ := h.1 y hy (by simpa [e] using hl) hn
      exact ⟨m, g1, by omega⟩
  · split at hM
    · obtain rfl : M = j := by omega
      exact Or.inr ⟨x, hx, hb⟩
    · obtain rfl : M = L := by omega
      exact h.2
theorem best_end {S : List Int} {left : Int → Bool} {L : Nat} (h : Best S left L) (hl : ∀ x, left x = false) (hS : S.length ≤ 1073741824) (hw : Wf .i64 S) : lb S = L :=
  (lb_begins hS hw.i64 (fun x hx hn => h.1 x hx (hl x) hn) h.2).eq
theorem grown_of_below {w w' : World} (h : Below w.heap.size w w') : w.grownBy w' none := ⟨h.os, h.tape, h.output, h.size, fun k hk _ => h.block k hk⟩
theorem below_of_grown {w w' : World} {B : Nat} {row : Option Nat} (h : w.grownBy w' row) (hB : B ≤ w.heap.size) (hr : ∀ r, row = some r → B ≤ r) : Below B w w' := (Below.refl B w).grown h hB hr
theorem run_more {S : List Int} {x y : Int} {j : Nat} (h : ∀ m : Nat, 1 ≤ m → m < j → nx x m ∈ S) (hy : nx x j = y) (hm : y ∈ S) : ∀ m : Nat, 1 ≤ m → m < j + 1 → nx x m ∈ S := fun m h1 h2 => by
  by_cases e : m < j
  · exact h m h1 e
  · obtain rfl : m = j := by omega
    rw [hy]; exact hm

set_option maxRecDepth 100000 in
set_option maxHeartbeats 4000000 in
theorem implBurstLen (zs : List Int) (lo hi : Nat) (A : Option Addr) (n cap : Nat) (w : World) (h : Rd .i64 w lo hi A n cap zs) (hn : n ≤ 67108864) :
    Calls Try.prog 20 #[.slice A n cap] w fun e w' => e = .returned (.int .i64 (lb zs : Nat)) ∧ Below w.heap.size w w' := by
  have hb := h.cap_
  have HL := Lib.hid h.len
  have HR := Lib.hid h
  have HS := Lib.hid (show zs.length ≤ 1073741824 by rw [h.len]; omega)
  have hmm := @run_makeMap Try.prog
  clear h
  go_enter Try.func20, Try.ntmps20
  go_wp2_with fail
  go_loopw [12] (fun i wr => ∃ k : Nat, i = .int .i64 k ∧ k ≤ n ∧ Mset wr w.heap.size k (zs.take k) ∧ Below w.heap.size w wr) (fun i _ => n - (intOf i).toNat)
  case atStart => exact ⟨0, rfl, by omega, Mset.made w, (Below.refl _ _).alloc (Nat.le_refl _) _⟩
  case round =>
    obtain ⟨k, rfl, hk, hs, hb'⟩ := hrel
    have HB := Lib.hid hb'
    have HM := Lib.hid hs
    clear hb' hs
    by_cases hlt : k < n
    · have hlt2 : (k : Int) < n := by omega
      obtain ⟨b', off, rfl, g1, g2, hc⟩ := (HR.out.below HB.out).at_ hlt
      obtain ⟨x, hx⟩ : ∃ x, zs.getD k 0 = x := ⟨_, rfl⟩
      have HW := Lib.hid (show (Lit.int .i64 x).wf = true from wf_at HR.out.wf HL.out hlt hx)
      have HT := Lib.hid (show zs.take (k + 1) = zs.take k ++ [x] by rw [take_next zs (by rw [HL.out]; exact hlt), hx])
      rw [hx] at hc
      clear g1 g2 hx
      go_wp2_with (at_mapUpdate; refine wpList_put _ rfl _ _ _ rfl HM.out (by omega) HW.out rfl rfl rfl ?_; intro w5 hT5 hg5; have M5 := Lib.hid hT5; have B5 := Lib.hid (HB.out.trans (below_of_grown hg5 HB.out.size (fun r hr => by cases hr; exact Nat.le_refl _))); clear hT5 hg5)
      go_roundw
      case rel => exact ⟨k + 1, by go_num, by omega, by rw [HT.out]; exact M5.out, B5.out⟩
      case measure => simp [intOf]; omega
    · have hlt2 : ¬ (k : Int) < n := by omega
      obtain ⟨wv, rfl⟩ : ∃ wv, wv = wr := ⟨_, rfl⟩
      have HM2 := Lib.hid (show Mset wv w.heap.size k zs by have := HM.out; rwa [List.take_of_length_le (by rw [HL.out]; omega)] at this)
      clear HM
      go_wp2_with (at_range; refine wpList_over _ rfl _ rfl HM2.out rfl ?_; intro w6 left cnt hrg hl hg; have R6 := Lib.hid hrg; have L6 := Lib.hid hl; have B6 := Lib.hid (HB.out.trans (below_of_grown hg HB.out.size (fun r hr => by cases hr))); clear hrg hl hg)
      go_loopw [6] (fun v w7 => ∃ (left : Int → Bool) (cnt L : Nat), v = .int .i64 (L : Nat) ∧ L ≤ 1073741825 ∧ Ranges w7 w.heap.size wv.heap.size k zs left cnt ∧ Best zs left L ∧ Below w.heap.size w w7 ∧ wv.heap.size < w7.heap.size) (fun _ w7 => w7.rangeLeft w.heap.size wv.heap.size)
      case atStart => exact ⟨_, _, 0, rfl, by omega, R6.out, best_start L6.out, B6.out, R6.out.lt⟩
      case round =>
        clear R6 L6 B6
        obtain ⟨left, cnt, L, rfl, hL, hrg, hbst, hb7, hlt7⟩ := hrel
        have HRG := Lib.hid hrg
        have HBS := Lib.hid hbst
        have HB7 := Lib.hid hb7
        clear hrg hbst hb7
        go_wp2_with (at_next; refine wpList_each _ rfl _ rfl HRG.out rfl ?_ ?_)
        · intro hl0
          have HF := Lib.hid (best_end HBS.out hl0 HS.out HR.out.wf)
          go_wp2_with fail
          go_ret
          rw [HF.out]
          exact ⟨rfl, HB7.out⟩
        · intro x c w8 cnt8 hwx hxS hrg8 hlt8 hg8 hen
          have HW := Lib.hid hwx
          have HXS := Lib.hid hxS
          have HRG8 := Lib.hid hrg8
          have HB8 := Lib.hid (HB7.out.trans (below_of_grown hg8 HB7.out.size (fun r hr => by cases hr; exact HB.out.size)))
          have HC8 := Lib.hid hlt8
          have hs8 : wv.heap.size < w8.heap.size := Nat.lt_of_lt_of_le hlt7 hg8.size
          obtain ⟨px, hpx⟩ : ∃ px, nx x (-1) = px := ⟨_, rfl⟩
          have hp1 : IntKind.i64.wrap (x - 1) = px := by rw [← hpx]; exact nx_wrap x (-1)
          have hp2 : wrap64 (x - 1) = px := by rw [← hpx]; unfold wrap64 nx; omega
          have HPX := Lib.hid hpx
          have HPW := Lib.hid (show (Lit.int .i64 px).wf = true from WalkArith.wf_i64 (by rw [← hpx]; exact nx_in x (-1)))
          clear hwx hxS hrg8 hlt8 hg8 hpx HB7
          by_cases hps : px ∈ zs
          · have HPS := Lib.hid hps
            have HN := Lib.hid (best_skip HBS.out (x := x) (by rw [HPX.out]; exact hps))
            clear hps
            go_wp2_with (at_lookup; refine wpList_lookup_run _ rfl _ _ 56 false rfl (HRG8.out.set.yes HPW.out HPS.out) rfl rfl ?_)
            go_frame
            go_roundw
            case rel => exact ⟨_, _, L, rfl, by omega, HRG8.out, HN.out, HB8.out, hs8⟩
            case measure => rw [HRG8.out.left_eq, HRG.out.left_eq]; exact HC8.out
          · have HPS := Lib.hid hps
            clear hps
            go_wp2_with (at_lookup; refine wpList_lookup_run _ rfl _ _ 56 false rfl (HRG8.out.set.no HPW.out HPS.out) rfl rfl ?_)
            clear hp1 hp2 hen
            go_loopw [8] (fun l w9 => ∃ j : Nat, l = .int .i64 j ∧ 1 ≤ j ∧ j ≤ zs.length + 1 ∧ (∀ m : Nat, 1 ≤ m → m < j → nx x m ∈ zs) ∧ w8 = w9) (fun l _ => zs.length + 2 - (intOf l).toNat)
            case atStart => exact ⟨1, rfl, by omega, by omega, fun m h1 h2 => by omega, rfl⟩
            case round =>
              obtain ⟨j, rfl, hj1, hj2, hrun, rfl⟩ := hrel
              have HRUN := Lib.hid hrun
              have hj3 : j ≤ 67108865 := by rw [HL.out] at hj2; omega
              obtain ⟨y, hy⟩ : ∃ y, nx x j = y := ⟨_, rfl⟩
              have hy1 : IntKind.i64.wrap (x + j) = y := by rw [← hy]; exact nx_wrap x j
              have hy2 : wrap64 (x + j) = y := by rw [← hy]; unfold wrap64 nx; omega
              have HY := Lib.hid hy
              have HYW := Lib.hid (show (Lit.int .i64 y).wf = true from WalkArith.wf_i64 (by rw [← hy]; exact nx_in x j))
              clear hy hrun
              by_cases hys : y ∈ zs
              · have HYS := Lib.hid hys
                have HN := Lib.hid (run_more HRUN.out HY.out hys)
                have HJ := Lib.hid (show j ≤ zs.length from run_len HS.out fun m h1 h2 => HN.out m h1 (by omega))
                clear hys
                go_wp2_with (at_lookup; refine wpList_lookup_run _ rfl _ _ 56 false rfl (HRG8.out.set.yes HYW.out HYS.out) rfl rfl ?_)
                clear hy1 hy2
                go_roundw
                case rel => exact ⟨j + 1, by go_num, by omega, by have := HJ.out; omega, HN.out, (by first | rfl | trivial)⟩
                case measure => have := HJ.out; simp [intOf]; omega
              · have HYS := Lib.hid hys
                have HBL := Lib.hid (show Bl zs x j from ⟨hj1, HRUN.out, by rw [HY.out]; exact hys⟩)
                obtain ⟨M, hM⟩ : ∃ M : Nat, (M : Int) = if (L : Int) < j then (j : Int) else L := by
                  by_cases h9 : (L : Int) < j
                  · exact ⟨j, (if_pos h9).symm⟩
                  · exact ⟨L, (if_neg h9).symm⟩
                have hM2 : M ≤ 1073741825 := by split at hM <;> omega
                have HM9 := Lib.hid hM
                have HN := Lib.hid (best_more HBS.out HXS.out HBL.out hM)
                clear hys hM
                go_wp2_with (at_lookup; refine wpList_lookup_run _ rfl _ _ 56 false rfl (HRG8.out.set.no HYW.out HYS.out) rfl rfl ?_)
                clear hy1 hy2
                go_wp2_with fail
                (with_reducible refine (implMax L j M HM9.out _).mono ?_)
                rintro e w10 ⟨rfl, hb10⟩
                have HRG10 := Lib.hid (HRG8.out.kept (grown_of_below hb10) (by simp) (by simp))
                have HB10 := Lib.hid (HB8.out.trans (hb10.mono HB8.out.size))
                have hs10 : wv.heap.size < w10.heap.size := Nat.lt_of_lt_of_le hs8 hb10.size
                clear hb10
                go_wp2_with fail
                go_roundw
                case rel => exact ⟨_, _, M, rfl, by omega, HRG10.out, HN.out, HB10.out, hs10⟩
                case measure => rw [HRG10.out.left_eq, HRG.out.left_eq]; exact HC8.out
end Go.Proofs.Ytcfgjlolabnolaa.chw
