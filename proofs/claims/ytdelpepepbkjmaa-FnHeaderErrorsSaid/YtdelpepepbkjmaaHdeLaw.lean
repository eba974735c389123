/- The law function of header errors (FnHeaderErrors) returns true and leaves what was there. Condition: the argument is a slice of bytes that came in. -/
import Derived.Test.YtdelpepepbkjmaaDrawC
import Derived.Test.YtdelpepepbkjmaaPh3
import Derived.Test.YtdelpepepbkjmaaAt
namespace Go.Proofs.Ytdelpepepbkjmaa.hdeLaw
open Go.RowKit sl harn phm phs draw
set_option linter.unusedVariables false
set_option maxRecDepth 100000 in
set_option maxHeartbeats 4000000 in
theorem walk (a : Option Addr) (len cap : Nat) (z0 : List Int) (w : World) (r0 : kit.IsRow .u8 w a len cap z0) :
    Calls Try.prog 3 #[.slice a len cap] w fun e w' => e = .returned (.bool true) ∧ Below w.heap.size w w' := by
  have HC := Lib.hid (draw.code_of_row r0)
  obtain ⟨cs, hcs⟩ := Rd.of_row r0
  have HR := Lib.hid hcs
  have hlen : (len : Int) ≤ 9223372036854775807 := by have := HC.out.1; omega
  clear r0 hcs
  by_cases hbig : 1048576 < (len : Int)
  · go_enter Try.func3, Try.ntmps3
    go_wp2
    go_ret
    exact ⟨rfl, Below.refl _ _⟩
  have HLL := Lib.hid (show len ≤ 1048576 by omega)
  go_enter Try.func3, Try.ntmps3
  go_wp2_with (go_at_call 11; go_in)
  clear hbig
  go_wp2_with fail
  (with_reducible refine (draw.drawEnch _ a len cap HC.out).mono ?_)
  rintro e w1 ⟨r, l, s, rfl, hr, hl, hs, hb⟩
  have B1 := Lib.hid hb
  have HRL := Lib.hid (And.intro hr (And.intro hl hs))
  obtain ⟨b, hbb⟩ : ∃ b, b = w1.heap.size := ⟨_, rfl⟩
  obtain ⟨w2, hW⟩ : ∃ w2, w2 = w1.alloc (.cells #[.int .i64 r, .int .i64 l, .int .i64 s] 25) := ⟨_, rfl⟩
  have B2 := Lib.hid (show Below w.heap.size w w2 by rw [hW]; exact B1.out.alloc B1.out.size _)
  have X2 := Lib.hid (show Box w2 b r l s by rw [hW, hbb]; exact Box.made _ _ _ _)
  have S2 := Lib.hid (show w.heap.size ≤ b by rw [hbb]; exact B1.out.size)
  clear hb hr hl hs B1
  go_wp2_with fail
  rw [← hW, ← hbb]
  clear hW hbb HC
  (with_reducible refine (implEnc r l s _).mono ?_)
  rintro e w3 ⟨A, n, c, rfl, ho, hb⟩
  have O3 := Lib.hid ho
  have B3 := Lib.hid (B2.out.trans (hb.mono B2.out.size))
  have X3 := Lib.hid (X2.out.below hb)
  have S3 := Lib.hid (show b < w2.heap.size from X2.out.lt)
  have S32 := Lib.hid (show w2.heap.size ≤ w3.heap.size from hb.size)
  have hcap := ho.rd.cap_
  clear ho hb B2 X2
  have x0 := X3.out.c0
  have x1 := X3.out.c1
  have x2 := X3.out.c2
  by_cases hv : Hv r l s
  · have HV := Lib.hid (hv_yes hv)
    have hn : n = 54 := by rw [← O3.out.len]; exact enc_len hv
    subst hn
    have HE := Lib.hid (enc_bit r l s)
    have HVH := Lib.hid hv
    clear hv
    go_wp2_with fail
    (with_reducible refine (specHv r l s _).mono ?_)
    rw [HV.out]
    rintro e w4 ⟨rfl, hb⟩
    have B4 := Lib.hid (B3.out.trans (hb.mono B3.out.size))
    have X4 := Lib.hid (X3.out.below hb)
    have O4 := Lib.hid (O3.out.below hb)
    have R4 := Lib.hid (HR.out.below B4.out)
    clear hb x0 x1 x2
    go_wp2_with fail
    (with_reducible refine (lawAt.at_ 0 (by omega) (by omega) a len cap _ _ cs _ R4.out HLL.out).mono ?_)
    rintro e w5 ⟨x, rfl, hx0, hx1, rfl⟩
    obtain ⟨k, hk⟩ := Int.eq_ofNat_of_zero_le (show 0 ≤ x % 54 by omega)
    have hk54 : k < 54 := by omega
    have hk2 : (k : Int) < 54 := by omega
    have hkt : x.tmod 54 = k := by rw [Int.tmod_eq_emod_of_nonneg hx0]; exact hk
    obtain ⟨g, rfl, hg⟩ := own.own_some O4.out (by omega)
    obtain ⟨y, hy⟩ : ∃ y, (enc r l s).getD k 0 = y := ⟨_, rfl⟩
    have hy01 := getD_in (enc_bit r l s) k
    rw [hy] at hy01
    have hcy := own.cell_of O4.out hk54
    rw [hy] at hcy
    have hfy := O4.out.free rfl k
    obtain ⟨v, hv⟩ : ∃ v, 1 - y = v := ⟨_, rfl⟩
    have wv : wrap64 v = v := IntWalk.wrap64_in _ (by omega)
    have wv2 : IntKind.i64.wrap v = v := IntWalk.i64_in _ (by omega)
    have W1 := Lib.hid (own.ow_set O4.out k v (WalkArith.wf_i64 (by omega)))
    have D1 := Lib.hid (dh_one HVH.out hk54 (v := v) (by rw [hy]; exact hv.symm))
    have hg1 : b < g := by have := S3.out; omega
    have B5 := Lib.hid (show Below w.heap.size w (w4.setCell ⟨g, k, none⟩ (.int .i64 v)) from B4.out.setCell (p := ⟨g, k, none⟩) (show w.heap.size ≤ g by have := S2.out; omega) _)
    have X5 := Lib.hid (Box.other X4.out (q := ⟨g, k, none⟩) (show b ≠ g by omega) (.int .i64 v))
    clear hy hx0 hx1 hg1 hg
    go_wp2_with fail
    (with_reducible refine (implDec _ _ _ (some ⟨g, 0, none⟩) 54 c _ W1.out.rd).mono ?_)
    rintro e w6 hpost
    obtain ⟨rfl, hb⟩ := d_parts D1.out hpost
    have B6 := Lib.hid (B5.out.trans (hb.mono B5.out.size))
    have X6 := Lib.hid (X5.out.below hb)
    clear hb hpost hcy hfy wv wv2
    have S6 := Lib.hid X6.out.lt
    have X7 := Lib.hid (X6.out.below (below_box w6 (.cells #[.int .i64 r, .int .i64 l, .int .i64 s] 25)))
    have B7 := Lib.hid (B6.out.alloc B6.out.size (.cells #[.int .i64 r, .int .i64 l, .int .i64 s] 25))
    have x0 := X7.out.c0
    have x1 := X7.out.c1
    have x2 := X7.out.c2
    go_wp2_with fail
    (with_reducible refine (implEqh r l s r l s _).mono ?_)
    rw [eqh_yes ⟨rfl, rfl, rfl⟩]
    rintro e w8 ⟨rfl, hb⟩
    have B8 := Lib.hid (B7.out.trans (hb.mono B7.out.size))
    go_wp2_with fail
    go_ret
    exact ⟨rfl, B8.out⟩
  · have HV := Lib.hid (hv_no hv)
    have hn : n = 0 := by rw [← O3.out.len, enc_no hv]; rfl
    subst hn
    clear hv
    go_wp2_with fail
    (with_reducible refine (specHv r l s _).mono ?_)
    rw [HV.out]
    rintro e w4 ⟨rfl, hb⟩
    have B4 := Lib.hid (B3.out.trans (hb.mono B3.out.size))
    have X4 := Lib.hid (X3.out.below hb)
    clear hb x0 x1 x2
    have x0 := X4.out.c0
    have x1 := X4.out.c1
    have x2 := X4.out.c2
    go_wp2_with fail
    (with_reducible refine (implHv r l s _).mono ?_)
    rw [HV.out]
    rintro e w5 ⟨rfl, hb⟩
    have B5 := Lib.hid (B4.out.trans (hb.mono B4.out.size))
    clear hb x0 x1 x2
    go_wp2_with fail
    go_ret
    exact ⟨rfl, B5.out⟩
end Go.Proofs.Ytdelpepepbkjmaa.hdeLaw
