/- The walk of FnExactAggregateFrames. Condition: none. -/
import Derived.Test.YthgbmcdfbinpkaaRcb
namespace Go.Proofs.Ythgbmcdfbinpkaa.xExactAggregateFrames
open Go.RowKit sl harn bx
set_option linter.unusedVariables false
set_option maxRecDepth 100000 in
set_option maxHeartbeats 4000000 in
theorem walk (x0 : List (List Int)) (A0 : Option Addr) (n0 c0 : Nat) (w : World) (h0 : mrw.Rq ag.bsS w 0 w.heap.size A0 n0 c0 x0) :
    Calls Try.prog 7 #[.slice A0 n0 c0] w fun e w' => e = .returned (.bool true) ∧ Below w.heap.size w w' := by
  have B1 := Lib.hid (Below.refl w.heap.size w)
  have F2 := Lib.hid (ag.row_rr h0)
  have HL0 := Lib.hid h0.len
  clear h0
  go_enter Try.func7, Try.ntmps7
  go_wp2_with fail
  (with_reducible refine (ux.szByteSS (1048576) (by omega) F2.out).mono ?_)
  rintro e w3 hp
  obtain ⟨r4, rfl, H5, hb⟩ := hp.parts
  have B6 := Lib.hid (B1.out.trans (hb.mono B1.out.size))
  have Z7 := Lib.hid hb.size
  have F8 := Lib.hid (F2.out.below hb)
  clear hb B1 F2
  rcases H5 with ⟨hr, _⟩ | ⟨hr, ht⟩
  · subst hr
    go_wp2_with fail
    go_ret
    exact ⟨rfl, B6.out⟩
  · have Q9 := Lib.hid (show 0 ≤ r4 ∧ r4 ≤ 1048576 by have := (by omega); omega)
    have S10 := Lib.hid (show ux.rowB.sz x0 ≤ 67108864 by have := (by omega); omega)
    have S11 := Lib.hid (show ux.rowB.sz x0 ≤ 1048576 by have := (by omega); omega)
    have ngr4 : ¬ r4 < 0 := by have := Q9.out; omega
    clear hr ht
    have HN0 := Lib.hid (show n0 ≤ 67108864 by have h1 := ag.rows_len S11.out; have h2 := HL0.out; omega)
    obtain ⟨l9, hl9⟩ : ∃ l, ag.agg x0 = l := ⟨_, rfl⟩
    have HX := Lib.hid hl9
    have SX := Lib.hid (show ux.bytes.sz l9 ≤ 67108864 by rw [← hl9]; have h1 := ag.agg_le x0; have h2 : ux.bytes.sz (ag.agg x0) = (ag.agg x0).length := rfl; omega)
    clear hl9
    go_wp2_with fail
    (with_reducible refine (ux.toByteSS F8.out S10.out).mono ?_)
    rintro e w12 hp
    obtain ⟨v17, fp16, rfl, ho, hb⟩ := hp.parts
    clear hp
    obtain ⟨A13, n14, c15, rfl⟩ := ux.rowB_slo ho.1
    have F18 := Lib.hid ho
    clear ho
    have B19 := Lib.hid (B6.out.trans (hb.mono B6.out.size))
    have Z20 := Lib.hid hb.size
    have F21 := Lib.hid (F8.out.below hb)
    clear hb B6 F8
    go_wp2_with fail
    (with_reducible refine (HX.out ▸ ag.specAg x0 _ _ A13 n14 c15 _ (ag.row_rq (F18.out.rd)) (by have h1 := (ag.row_rq (F18.out.rd)).len; have h2 := HL0.out; have h3 := HN0.out; omega)).mono ?_)
    rintro e w22 hp
    obtain ⟨A23, n24, c25, rfl, ho, hb⟩ := hp
    have ho2 := ux.num_of ho
    clear ho
    have F26 := Lib.hid ho2
    clear ho2
    have B27 := Lib.hid (B19.out.trans (hb.mono B19.out.size))
    have Z28 := Lib.hid hb.size
    have F29 := Lib.hid (F21.out.below hb)
    have F30 := Lib.hid (F18.out.below hb)
    clear hb B19 F21 F18
    clear F30
    go_wp2_with fail
    (with_reducible refine (ux.toByteSS F29.out S10.out).mono ?_)
    rintro e w31 hp
    obtain ⟨v36, fp35, rfl, ho, hb⟩ := hp.parts
    clear hp
    obtain ⟨A32, n33, c34, rfl⟩ := ux.rowB_slo ho.1
    have F37 := Lib.hid ho
    clear ho
    have B38 := Lib.hid (B27.out.trans (hb.mono B27.out.size))
    have Z39 := Lib.hid hb.size
    have F40 := Lib.hid (F29.out.below hb)
    have F41 := Lib.hid (F26.out.below hb)
    clear hb B27 F29 F26
    go_wp2_with fail
    (with_reducible refine (HX.out ▸ ag.implAg x0 _ _ A32 n33 c34 _ (ag.row_rq (F37.out.rd)) (by have h1 := (ag.row_rq (F37.out.rd)).len; have h2 := HL0.out; have h3 := HN0.out; omega)).mono ?_)
    rintro e w42 hp
    obtain ⟨A43, n44, c45, rfl, ho, hb⟩ := hp
    have ho2 := ux.num_of ho
    clear ho
    have F46 := Lib.hid ho2
    clear ho2
    have B47 := Lib.hid (B38.out.trans (hb.mono B38.out.size))
    have Z48 := Lib.hid hb.size
    have F49 := Lib.hid (F40.out.below hb)
    have F50 := Lib.hid (F41.out.below hb)
    have F51 := Lib.hid (F37.out.below hb)
    clear hb B38 F40 F41 F37
    go_wp2_with fail
    (with_reducible refine (ux.eqByteS F46.out.rd F50.out.rd).mono ?_)
    rintro e w52 hp
    obtain ⟨rfl, hb⟩ := bx.b_parts rfl hp
    clear hp
    have B53 := Lib.hid (B47.out.trans (hb.mono B47.out.size))
    have Z54 := Lib.hid hb.size
    have F55 := Lib.hid (F49.out.below hb)
    have F56 := Lib.hid (F50.out.below hb)
    have F57 := Lib.hid (F51.out.below hb)
    have F58 := Lib.hid (F46.out.below hb)
    clear hb B47 F49 F50 F51 F46
    go_wp2_with fail
    (with_reducible refine (ux.toByteSS F55.out S10.out).mono ?_)
    rintro e w59 hp
    obtain ⟨v64, fp63, rfl, ho, hb⟩ := hp.parts
    clear hp
    obtain ⟨A60, n61, c62, rfl⟩ := ux.rowB_slo ho.1
    have F65 := Lib.hid ho
    clear ho
    have B66 := Lib.hid (B53.out.trans (hb.mono B53.out.size))
    have Z67 := Lib.hid hb.size
    have F68 := Lib.hid (F55.out.below hb)
    have F69 := Lib.hid (F56.out.below hb)
    have F70 := Lib.hid (F57.out.below hb)
    have F71 := Lib.hid (F58.out.below hb)
    clear hb B53 F55 F56 F57 F58
    go_wp2_with fail
    (with_reducible refine (ux.eqByteSS F70.out.rd F65.out.rd).mono ?_)
    rintro e w72 hp
    obtain ⟨rfl, hb⟩ := bx.b_parts rfl hp
    clear hp
    have B73 := Lib.hid (B66.out.trans (hb.mono B66.out.size))
    have Z74 := Lib.hid hb.size
    have F75 := Lib.hid (F68.out.below hb)
    have F76 := Lib.hid (F69.out.below hb)
    have F77 := Lib.hid (F70.out.below hb)
    have F78 := Lib.hid (F71.out.below hb)
    have F79 := Lib.hid (F65.out.below hb)
    clear hb B66 F68 F69 F70 F71 F65
    clear F79
    go_wp2_with fail
    (with_reducible refine (ux.markByteSS 1 F77.out (by have h1 := ag.rowB_bd x0; have h2 := (show (0:Int) ≤ 1 ∧ (1:Int) ≤ 4294967360 by omega); have h3 := S10.out; omega) S10.out).mono ?_)
    rintro e w80 hp
    obtain ⟨rfl, ho, hb⟩ := hp.parts
    clear hp
    obtain ⟨k1, hk9⟩ : ∃ k : Int, 1 + (ux.rowB.tot x0 : Nat) = k := ⟨_, rfl⟩
    have Hk1 := Lib.hid hk9
    have Kk1 := Lib.hid (show 0 ≤ k1 ∧ k1 ≤ 1 + 4294967360 by have h1 := ag.rowB_bd x0; have h2 := (show (0:Int) ≤ 1 ∧ (1:Int) ≤ 4294967360 by omega); have h3 := S10.out; omega)
    have ngk1 : ¬ k1 < 0 := by have := Kk1.out; omega
    (first | rw [hk9] | (change Code.wp _ _ _ _ _; rw [hk9]) | skip)
    clear hk9
    have F81 := Lib.hid ho
    clear ho
    have B82 := Lib.hid (B73.out.trans (ux.ks_bel hb (fun b hb => by have z0 := Z7.out; have z1 := Z20.out; have z2 := Z28.out; have z3 := Z39.out; have z4 := Z48.out; have z5 := Z54.out; have z6 := Z67.out; have z7 := Z74.out; have zB := B73.out.size; have := F81.out.inn b hb; omega) B73.out.size))
    have Z83 := Lib.hid hb.size
    have F84 := Lib.hid (F75.out.ks hb (fun b h1 h2 h3 => by have z0 := Z7.out; have z1 := Z20.out; have z2 := Z28.out; have z3 := Z39.out; have z4 := Z48.out; have z5 := Z54.out; have z6 := Z67.out; have z7 := Z74.out; have z8 := Z83.out; have q2 := F81.out.inn b h3; omega))
    have F85 := Lib.hid (F76.out.ks hb (fun b h1 h2 => by have z0 := Z7.out; have z1 := Z20.out; have z2 := Z28.out; have z3 := Z39.out; have z4 := Z48.out; have z5 := Z54.out; have z6 := Z67.out; have z7 := Z74.out; have z8 := Z83.out; have q1 := F76.out.inn b h1; have q2 := F81.out.inn b h2; omega))
    have F86 := Lib.hid (F78.out.ks hb (fun b h1 h2 => by have z0 := Z7.out; have z1 := Z20.out; have z2 := Z28.out; have z3 := Z39.out; have z4 := Z48.out; have z5 := Z54.out; have z6 := Z67.out; have z7 := Z74.out; have z8 := Z83.out; have q1 := F78.out.inn b h1; have q2 := F81.out.inn b h2; omega))
    clear hb B73 F75 F76 F78
    clear F77
    clear F81
    go_wp2_with fail
    (with_reducible refine (ux.eqByteS F86.out.rd F85.out.rd).mono ?_)
    rintro e w87 hp
    obtain ⟨rfl, hb⟩ := bx.b_parts rfl hp
    clear hp
    have B88 := Lib.hid (B82.out.trans (hb.mono B82.out.size))
    have Z89 := Lib.hid hb.size
    have F90 := Lib.hid (F84.out.below hb)
    have F91 := Lib.hid (F85.out.below hb)
    have F92 := Lib.hid (F86.out.below hb)
    clear hb B82 F84 F85 F86
    go_wp2_with fail
    (with_reducible refine (ux.markByteS 1 F92.out (by have h1 := ag.bytes_bd l9; have h2 := (show (0:Int) ≤ 1 ∧ (1:Int) ≤ 4294967360 by omega); have h3 := SX.out; omega) SX.out).mono ?_)
    rintro e w93 hp
    obtain ⟨rfl, ho, hb⟩ := hp.parts
    clear hp
    obtain ⟨k2, hk9⟩ : ∃ k : Int, 1 + (ux.bytes.tot l9 : Nat) = k := ⟨_, rfl⟩
    have Hk2 := Lib.hid hk9
    have Kk2 := Lib.hid (show 0 ≤ k2 ∧ k2 ≤ 1 + 4294967360 by have h1 := ag.bytes_bd l9; have h2 := (show (0:Int) ≤ 1 ∧ (1:Int) ≤ 4294967360 by omega); have h3 := SX.out; omega)
    have ngk2 : ¬ k2 < 0 := by have := Kk2.out; omega
    (first | rw [hk9] | (change Code.wp _ _ _ _ _; rw [hk9]) | skip)
    clear hk9
    have F94 := Lib.hid ho
    clear ho
    have B95 := Lib.hid (B88.out.trans (ux.ks_bel hb (fun b hb => by have z0 := Z7.out; have z1 := Z20.out; have z2 := Z28.out; have z3 := Z39.out; have z4 := Z48.out; have z5 := Z54.out; have z6 := Z67.out; have z7 := Z74.out; have z8 := Z83.out; have z9 := Z89.out; have zB := B88.out.size; have := F94.out.inn b hb; omega) B88.out.size))
    have Z96 := Lib.hid hb.size
    have F97 := Lib.hid (F90.out.ks hb (fun b h1 h2 h3 => by have z0 := Z7.out; have z1 := Z20.out; have z2 := Z28.out; have z3 := Z39.out; have z4 := Z48.out; have z5 := Z54.out; have z6 := Z67.out; have z7 := Z74.out; have z8 := Z83.out; have z9 := Z89.out; have z10 := Z96.out; have q2 := F94.out.inn b h3; omega))
    have F98 := Lib.hid (F91.out.ks hb (fun b h1 h2 => by have z0 := Z7.out; have z1 := Z20.out; have z2 := Z28.out; have z3 := Z39.out; have z4 := Z48.out; have z5 := Z54.out; have z6 := Z67.out; have z7 := Z74.out; have z8 := Z83.out; have z9 := Z89.out; have z10 := Z96.out; have q1 := F91.out.inn b h1; have q2 := F94.out.inn b h2; omega))
    clear hb B88 F90 F91
    clear F92
    go_wp2_with fail
    (with_reducible refine (ux.heldByteS 1 F94.out.rd (by have h1 := ag.bytes_bd l9; have h2 := (show (0:Int) ≤ 1 ∧ (1:Int) ≤ 4294967360 by omega); have h3 := SX.out; omega) SX.out).mono ?_)
    rintro e w99 hp
    obtain ⟨rfl, hb⟩ := bx.n_parts Hk2.out hp
    clear hp
    have B100 := Lib.hid (B95.out.trans (hb.mono B95.out.size))
    have Z101 := Lib.hid hb.size
    have F102 := Lib.hid (F97.out.below hb)
    have F103 := Lib.hid (F98.out.below hb)
    have F104 := Lib.hid (F94.out.below hb)
    clear hb B95 F97 F98 F94
    go_wp2_with fail
    (with_reducible refine (ux.toByteSS F102.out S10.out).mono ?_)
    rintro e w105 hp
    obtain ⟨v110, fp109, rfl, ho, hb⟩ := hp.parts
    clear hp
    obtain ⟨A106, n107, c108, rfl⟩ := ux.rowB_slo ho.1
    have F111 := Lib.hid ho
    clear ho
    have B112 := Lib.hid (B100.out.trans (hb.mono B100.out.size))
    have Z113 := Lib.hid hb.size
    have F114 := Lib.hid (F102.out.below hb)
    have F115 := Lib.hid (F103.out.below hb)
    have F116 := Lib.hid (F104.out.below hb)
    clear hb B100 F102 F103 F104
    go_wp2_with fail
    (with_reducible refine (HX.out ▸ ag.implAg x0 _ _ A106 n107 c108 _ (ag.row_rq (F111.out.rd)) (by have h1 := (ag.row_rq (F111.out.rd)).len; have h2 := HL0.out; have h3 := HN0.out; omega)).mono ?_)
    rintro e w117 hp
    obtain ⟨A118, n119, c120, rfl, ho, hb⟩ := hp
    have ho2 := ux.num_of ho
    clear ho
    have F121 := Lib.hid ho2
    clear ho2
    have B122 := Lib.hid (B112.out.trans (hb.mono B112.out.size))
    have Z123 := Lib.hid hb.size
    have F124 := Lib.hid (F114.out.below hb)
    have F125 := Lib.hid (F115.out.below hb)
    have F126 := Lib.hid (F116.out.below hb)
    have F127 := Lib.hid (F111.out.below hb)
    clear hb B112 F114 F115 F116 F111
    clear F127
    go_wp2_with fail
    (with_reducible refine (ux.eqByteS F121.out.rd F125.out.rd).mono ?_)
    rintro e w128 hp
    obtain ⟨rfl, hb⟩ := bx.b_parts rfl hp
    clear hp
    have B129 := Lib.hid (B122.out.trans (hb.mono B122.out.size))
    have Z130 := Lib.hid hb.size
    have F131 := Lib.hid (F124.out.below hb)
    have F132 := Lib.hid (F125.out.below hb)
    have F133 := Lib.hid (F126.out.below hb)
    have F134 := Lib.hid (F121.out.below hb)
    clear hb B122 F124 F125 F126 F121
    clear F134
    clear F132
    go_wp2_with fail
    (with_reducible refine (ux.heldByteS 1 F133.out.rd (by have h1 := ag.bytes_bd l9; have h2 := (show (0:Int) ≤ 1 ∧ (1:Int) ≤ 4294967360 by omega); have h3 := SX.out; omega) SX.out).mono ?_)
    rintro e w135 hp
    obtain ⟨rfl, hb⟩ := bx.n_parts Hk2.out hp
    clear hp
    have B136 := Lib.hid (B129.out.trans (hb.mono B129.out.size))
    have Z137 := Lib.hid hb.size
    have F138 := Lib.hid (F131.out.below hb)
    have F139 := Lib.hid (F133.out.below hb)
    clear hb B129 F131 F133
    go_wp2_with fail
    go_ret
    exact ⟨rfl, B136.out⟩
end Go.Proofs.Ythgbmcdfbinpkaa.xExactAggregateFrames
