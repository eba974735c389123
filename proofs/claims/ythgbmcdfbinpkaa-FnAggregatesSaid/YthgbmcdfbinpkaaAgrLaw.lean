/- The law function of aggregates (FnAggregates) returns true and leaves what was there. Condition: the argument is a slice of bytes that came in. -/
import Derived.Test.YthgbmcdfbinpkaaAg8
namespace Go.Proofs.Ythgbmcdfbinpkaa.agrLaw
open Go.RowKit sl harn bx rng mrw drk stw ag
set_option linter.unusedVariables false
set_option linter.unusedSimpArgs false


set_option maxRecDepth 100000 in
set_option maxHeartbeats 16000000 in
theorem walk (a : Option Addr) (len cap : Nat) (zz : List Int) (w : World) (r0 : kit.IsRow .u8 w a len cap zz) :
    Calls Try.prog 3 #[.slice a len cap] w fun e w' => e = .returned (.bool true) ∧ Below w.heap.size w w' := by
  obtain ⟨k0, hk0, hx0, hx1, hx2⟩ := info_parts intInfo
  have HI8 := Lib.hid (And.intro hk0 (And.intro hx0 (And.intro hx1 hx2)))
  clear hk0 hx0 hx1 hx2
  obtain ⟨zc, hzc⟩ := sl.Rd.of_row r0
  have HC := Lib.hid (draw.code_of_row r0)
  have hlen : (len : Int) ≤ 9223372036854775807 := by have := HC.out.1; omega
  have Z0 := Lib.hid hzc
  clear r0 hzc
  by_cases hbig : 1048576 < (len : Int)
  · go_enter Try.func3, Try.ntmps3
    go_wp2
    go_ret
    exact ⟨rfl, Below.refl _ _⟩
  have HBG := Lib.hid (show len ≤ 1048576 by omega)
  go_enter Try.func3, Try.ntmps3
  go_wp2_with (go_at_call 12; go_in)
  clear hbig
  go_wp2_with fail
  (with_reducible refine (drawSf _ a len cap HC.out).mono ?_)
  rintro e w1 hp
  obtain ⟨A1, n1, c1, l, rfl, hs, ho, hb⟩ := ld_parts hp
  have HSM := Lib.hid hs
  have L1 := Lib.hid ho
  have B1 := Lib.hid hb
  have HLN := Lib.hid ho.len
  have hn5 : n1 ≤ 5 := by have h1 := hs.1; have h2 := ho.len; omega
  have hcp1 := ho.cap_
  clear hs ho hb HC
  clear hp
  have Z1 := Lib.hid (Z0.out.below B1.out)
  have HH1 := Lib.hid L1.out.hi_
  have HHW := Lib.hid B1.out.size
  go_wp2_with fail
  (with_reducible refine (implAg l _ _ A1 n1 c1 _ L1.out (by omega)).mono ?_)
  rintro e w2 ⟨A2, n2, c2, rfl, ho, hb⟩
  have SS2 := Lib.hid hb.size
  have B2 := Lib.hid (B1.out.trans (hb.mono B1.out.size))
  have Z2 := Lib.hid (Z1.out.below hb)
  have L2 := Lib.hid (L1.out.below hb)
  clear hb  B1 Z1 L1
  have G2 := Lib.hid ho
  clear ho
  have HB2 := Lib.hid (show (agg l).length = n2 from G2.out.len)
  have HBS := Lib.hid (show (n2 : Int) = sumS (lens l) by rw [← HB2.out]; exact sml_len HSM.out)
  have HB4 := Lib.hid (show n2 % 4 = 0 by rw [← HB2.out]; exact sml_four HSM.out)
  have hcp2 := G2.out.rd.cap_
  have HB16 := Lib.hid (show n2 ≤ 1632 by rw [← HB2.out]; exact agg_le l)
  go_upto_region 6 with fail
  obtain ⟨be, hbb⟩ : ∃ b, w2.heap.size = b := ⟨_, rfl⟩
  generalize hW : w2.alloc (.cells #[] 3) = w3
  have LE := Lib.hid (show w.heap.size ≤ be ∧ w.heap.size ≤ be ∧ w1.heap.size ≤ be ∧ w2.heap.size ≤ be by have h1 := B2.out.size; have h2Z := Z2.out.hi_; have h2L := L2.out.hi_; have h2G := G2.out.hi_; have h3 := hbb; omega)
  have E3 := Lib.hid (show Bx 3 w3 be #[] by rw [← hW, ← hbb]; exact Bx.made _ _ _)
  have hb : Below w2.heap.size w2 w3 := by rw [← hW]; exact below_box _ _
  (try rw [hbb])
  clear hW hbb
  have SS3 := Lib.hid hb.size
  have B3 := Lib.hid (B2.out.trans (hb.mono B2.out.size))
  have Z3 := Lib.hid (Z2.out.below hb)
  have L3 := Lib.hid (L2.out.below hb)
  have G3 := Lib.hid (G2.out.below hb)
  clear hb B2 Z2 L2 G2
  have LWE := Lib.hid E3.out.lt
  have HV0 := Lib.hid (ow_boxI E3.out)
  have HBE := Lib.hid LE.out
  have HLW := Lib.hid (fun (W : World) (hW : Below be w3 W) => Rq.upto L3.out hW (by have h1 := HBE.out; omega))
  have HZW := Lib.hid (fun (W : World) (hW : Below be w3 W) => Rd.upto Z3.out hW (by have h1 := HBE.out; omega))
  have HBW := Lib.hid (fun (W : World) (hW : Below be w3 W) => Rd.upto G3.out.rd hW (by have h1 := HBE.out; omega))
  have HBB := Lib.hid B3.out
  have hbew : w.heap.size ≤ be := by have h1 := HBE.out; omega
  clear L3 Z3 G3 E3
  go_wp2_with fail
  go_loopw [5, 6] (fun s i wr => ∃ (k : Nat) (A3 : Option Addr) (c3 : Nat), s = .slice A3 k c3 ∧ i = .int .i64 k ∧ k ≤ n1 ∧ Ow 3 .i64 wr be wr.heap.size A3 k c3 (lens (l.take k)) ∧ Below be w3 wr) (fun _ i _ => n1 - (intOf i).toNat)
  case atStart => exact ⟨0, _, _, rfl, rfl, by omega, HV0.out, Below.refl _ _⟩
  case round =>
    obtain ⟨k, A3, c3, rfl, rfl, hk, ho, hb⟩ := hrel
    have HV := Lib.hid ho
    have HB := Lib.hid hb
    have hcp3 := ho.rd.cap_
    have hbs := hb.size
    have hbe2 : be ≤ w3.heap.size := by have h1 := HV0.out.hi_; have h2 := HV0.out.2.2.2 be 0 rfl; omega
    clear ho hb
    by_cases hlt : k < n1
    · obtain ⟨b, off, y, A', n', c', hA, hy, hb1, hc, hd⟩ := atB (HLW.out _ HB.out) hlt
      subst hA
      have HY := Lib.hid (lens_snoc hy)
      have HDL := Lib.hid hd.len
      have hn8 : n' ≤ 8 := by have h1 := HSM.out.2 y (List.mem_of_getElem? hy); have h2 := hd.len; omega
      have HSL := Lib.hid (show sumS (lens (l.take k)) ≤ 204 * k ∧ 0 ≤ sumS (lens (l.take k)) by have h1 := sumS_rng (lens (l.take k)); rw [lens_len, List.length_take] at h1; omega)
      have HFT := Lib.hid (show fits (lens (l.take k)) (n' : Int) (n2 : Int) = decide (sumS (lens (l.take k)) + sub (n' : Int) ≤ (n2 : Int)) by unfold fits; rw [lens_len, List.length_take]; simp only [show (0 : Int) ≤ (n' : Int) ∧ (n' : Int) ≤ 200 from ⟨by omega, by omega⟩, show min k l.length < 8 from by omega, true_and])
      obtain ⟨s, hs⟩ : ∃ s, sumS (lens (l.take k)) = s := ⟨_, rfl⟩
      obtain ⟨u, hu⟩ : ∃ u, sub (n' : Int) = u := ⟨_, rfl⟩
      have hur : 0 ≤ u ∧ u ≤ 204 := by rw [← hu]; exact sub_rng _
      rw [hs] at HSL
      rw [hs, hu] at HFT
      have hsl := HSL.out
      have HS := Lib.hid hs
      have HU := Lib.hid hu
      have hwsu : IntKind.i64.wrap (s + u) = s + u := IntWalk.i64_in _ (by omega)
      obtain ⟨t, ht⟩ : ∃ t, decide (s + u ≤ (n2 : Int)) = t := ⟨_, rfl⟩
      have HT := Lib.hid (HFT.out.trans ht)
      have hlt2 : (k : Int) < n1 := by omega
      have mc0 := af_cell hc
      clear hy hc hd hs hu
      go_upto_region 9 with fail
      have q0 := Lib.hid (fun m => (implFa (lens (l.take k)) _ _ A3 k c3 (n' : Int) (n2 : Int) m.w (HV.out.rd.below m.below) (by omega)).mono (fun e w' h => by rw [HT.out] at h; exact bbel h) : ∀ m : Af wr, Calls Try.prog 15 #[.slice A3 k c3, .int .i64 (n' : Int), .int .i64 (n2 : Int)] m.w fun e w' => e = .returned (.bool t) ∧ Below m.w.heap.size m.w w')
      have q1 := Lib.hid (fun m => (implAs (lens (l.take k)) _ _ A3 k c3 m.w (HV.out.rd.below m.below) (by omega)).mono (fun e w' h => by rw [HS.out] at h; exact nbel h) : ∀ m : Af wr, Calls Try.prog 16 #[.slice A3 k c3] m.w fun e w' => e = .returned (.int .i64 s) ∧ Below m.w.heap.size m.w w')
      have q2 := Lib.hid (fun m => (implSs (n' : Int) m.w).mono (fun e w' h => by rw [HU.out] at h; exact nbel h) : ∀ m : Af wr, Calls Try.prog 17 #[.int .i64 (n' : Int)] m.w fun e w' => e = .returned (.int .i64 u) ∧ Below m.w.heap.size m.w w')
      refine region_after (by kernel_rfl) (by kernel_rfl) ?_
      repeat (go_big_quiet_step (first | (go_at_call 15; with_reducible exact Af.call (q0.out _)) | (go_at_call 16; with_reducible exact Af.call (q1.out _)) | (go_at_call 17; with_reducible exact Af.call (q2.out _))))
      refine wpQuiet_nil ?_
      intro _ hw'
      obtain ⟨nq, hw''⟩ := hw'
      subst hw''
      clear q0 q1 q2
      obtain ⟨w7, hw7⟩ : ∃ w7, nq.w = w7 := ⟨_, rfl⟩
      have NB := Lib.hid nq.below
      rw [hw7] at NB
      (try rw [hw7])
      clear hw7 nq mc0
      have HV7 := Lib.hid ((HV.out.below NB.out).up)
      have HB7 := Lib.hid (HB.out.trans (NB.out.mono (by omega)))
      have hbs7 := NB.out.size
      clear HV HB NB
      obtain ⟨b9, off9, y9, A9', n9', c9', hA9, hy9, hb19, hc9, hd9⟩ := atB (HLW.out _ HB7.out) hlt
      injection hA9 with hA9; injection hA9 with e1 e2; subst e1 e2
      have HY9 := Lib.hid (lens_snoc hy9)
      have HDL9 := Lib.hid hd9.len
      have hn9 : n9' ≤ 8 := by have h1 := HSM.out.2 y9 (List.mem_of_getElem? hy9); have h2 := hd9.len; omega
      have HXW := Lib.hid (show (Lit.int .i64 (n9' : Int)).wf = true from WalkArith.wf_i64 (by omega))
      clear hy9 hd9
      go_wp2_with (at_builtin; refine wpList_app _ rfl _ _ 27 rfl 3 k0 _ .i64 Try.underlying27 HI8.out.1 HI8.out.2.1 HI8.out.2.2.1 (by rw [HI8.out.2.2.2]; omega) rfl rfl rfl (HV7.out.alloc _) (Rd.one .i64 _ _ _ HXW.out) (by omega) (by simp; omega) ?_; intro A8 c8 w8 ho8 hb8; have HV8 := Lib.hid ho8; have HB8 := Lib.hid ((HB7.out.alloc (by omega) _).trans hb8); clear ho8 hb8)
      go_roundw
      case rel => exact ⟨k + 1, A8, c8, rfl, by go_num, by omega, by rw [HY9.out, HDL9.out]; exact HV8.out, HB8.out⟩
      case measure => simp [intOf]; omega
    · have hlt2 : ¬ (k : Int) < n1 := by omega
      obtain rfl : k = n1 := by omega
      have HF := Lib.hid (show l.take k = l from List.take_of_length_le (by rw [HLN.out]; exact Nat.le_refl _))
      rw [HF.out] at HV
      obtain ⟨v, hv⟩ : ∃ v, lawAt.atv zc len 0 = v := ⟨_, rfl⟩
      have HVA := Lib.hid hv
      have hvr : 0 ≤ v ∧ v ≤ 255 := by rw [← hv]; exact lawAt.atv_in Z0.out 0
      obtain ⟨x, hx⟩ : ∃ x, v % 201 = x := ⟨_, rfl⟩
      have hxt : v.tmod 201 = x := by rw [Int.tmod_eq_emod_of_nonneg (by omega)]; exact hx
      have HXR := Lib.hid (show 0 ≤ x ∧ x ≤ 200 by omega)
      have HPD := Lib.hid (pd_dlm HXR.out)
      clear hv
      go_wp2_with fail
      (with_reducible refine (lawAt.at_v 0 0 rfl (by omega) v a len cap _ _ zc _ (HZW.out _ HB.out) HBG.out HVA.out).mono ?_)
      rintro e w9 ⟨rfl, rfl⟩
      go_wp2_with fail
      (with_reducible refine (implDb x _).mono ?_)
      rintro e w9 ⟨A4, n4, c4, rfl, ho4, hb4⟩
      have HD4 := Lib.hid ho4
      have HV4 := Lib.hid (HV.out.below hb4)
      have HB4_ := Lib.hid (HB.out.trans (hb4.mono (by omega)))
      have hn4 : n4 ≤ 4 := by have h1 := ho4.len; have h2 := dlm_len x; omega
      have hs4 := hb4.size
      clear ho4 hb4 HV HB
      go_wp2_with fail
      (with_reducible refine (implPd (dlm x) _ _ A4 n4 c4 0 _ HD4.out.rd (by omega)).mono ?_)
      rintro e w10 hp
      obtain ⟨rfl, hb5⟩ := pd_parts HPD.out hp
      have HV5 := Lib.hid (HV4.out.below hb5)
      have HB5 := Lib.hid (HB4_.out.trans (hb5.mono (by omega)))
      have hs5 := hb5.size
      clear hp hb5 HV4 HB4_ HD4
      go_wp2_with fail
      (with_reducible refine (implSp (agg l) _ _ A2 n2 c2 _ (HBW.out _ HB5.out) (by have := HB16.out; omega)).mono ?_)
      rintro e w11 hp
      obtain ⟨A6, n6, c6, es6, rfl, he6, ho6, hb6⟩ := bl_parts hp
      have HS6 := Lib.hid (show Rq bsS w11 w10.heap.size w11.heap.size A6 n6 c6 l by have h1 := ho6.rq; rw [he6, sml_split HSM.out] at h1; exact h1)
      have HV6 := Lib.hid (HV5.out.below hb6)
      have HB6 := Lib.hid (HB5.out.trans (hb6.mono (by omega)))
      have hs6 := hb6.size
      clear hp ho6 hb6 HV5 HB5 he6
      go_wp2_with fail
      (with_reducible refine (sameL l _ _ _ _ A6 A1 n6 c6 k c1 _ HS6.out (HLW.out _ HB6.out)).mono ?_)
      rintro e w12 ⟨rfl, hb7⟩
      have HV7 := Lib.hid (HV6.out.below hb7)
      have HB7 := Lib.hid (HB6.out.trans (hb7.mono (by omega)))
      have hs7 := hb7.size
      clear hb7 HV6 HB6
      have hss : sumS (lens l) = (n2 : Int) := HBS.out.symm
      have HSS := Lib.hid hss
      clear hss
      have h4I : ((n2 : Nat) : Int) % 4 = 0 := by have := HB4.out; omega
      have h4T : ((n2 : Nat) : Int).tmod 4 = 0 := by rw [Int.tmod_eq_emod_of_nonneg (by omega)]; exact h4I
      go_wp2_with fail
      (with_reducible refine (implAs (lens l) _ _ A3 k c3 _ HV7.out.rd (by omega)).mono ?_)
      rw [HSS.out]
      rintro e w13 ⟨rfl, rfl⟩
      go_wp2_with fail
      (with_reducible refine (lawAt.at_v 0 0 rfl (by omega) v a len cap _ _ zc _ (HZW.out _ HB7.out) HBG.out HVA.out).mono ?_)
      rintro e w13 ⟨rfl, rfl⟩
      go_wp2_with fail
      go_ret
      exact ⟨rfl, B3.out.trans (HB7.out.mono hbew)⟩
end Go.Proofs.Ythgbmcdfbinpkaa.agrLaw
