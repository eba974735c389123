/- The walk of FnExactExpireReassemblies. Condition: none. -/
import Derived.Test.YtjmenbpalihnnaaRcv
namespace Go.Proofs.Ytjmenbpalihnnaa.xExactExpireReassemblies
open Go.RowKit sl harn bx
set_option linter.unusedVariables false
set_option maxRecDepth 100000 in
set_option maxHeartbeats 4000000 in
theorem walk (x0 : List ux.Rea) (A0 : Option Addr) (n0 c0 : Nat) (now : Int) (w : World) (h0 : mrw.Rq fr.reaS w 0 w.heap.size A0 n0 c0 x0)  :
    Calls Try.prog 10 #[.slice A0 n0 c0, .int .i64 now] w fun e w' => e = .returned (.bool true) ∧ Below w.heap.size w w' := by
  have B1 := Lib.hid (Below.refl w.heap.size w)
  have F2 := Lib.hid (fr.rea_rr h0)
  clear h0
  go_enter Try.func10, Try.ntmps10
  go_wp2_with fail
  (with_reducible refine (ux.szReassemblyS (1048576) (by omega) F2.out).mono ?_)
  rintro e w3 hp
  obtain ⟨r4, rfl, H5, hb⟩ := hp.parts
  have B6 := Lib.hid (B1.out.trans (hb.mono B1.out.size))
  have Z7 := Lib.hid hb.size
  have F8 := Lib.hid (F2.out.below hb)
  clear hb B1 F2
  rcases H5 with ⟨hr, _⟩ | ⟨hr, ht⟩
  · subst hr
    go_wp2_with fail
    go_ret
    exact ⟨rfl, B6.out⟩
  · have Q9 := Lib.hid (show 0 ≤ r4 ∧ r4 ≤ 1048576 by have := (by omega); omega)
    have S10 := Lib.hid (show ux.rowRea.sz x0 ≤ 67108864 by have := (by omega); omega)
    have ngr4 : ¬ r4 < 0 := by have := Q9.out; omega
    clear hr ht
    obtain ⟨l, hl9⟩ : ∃ l, x0.filter (fr.live now) = l := ⟨_, rfl⟩
    have HL := Lib.hid hl9
    have SL := Lib.hid (show ux.rowRea.sz l ≤ 67108864 by have h1 : ux.rowRea.sz (x0.filter (fr.live now)) ≤ ux.rowRea.sz x0 := fr.row_sub List.filter_sublist; rw [hl9] at h1; have h2 := S10.out; omega)
    clear hl9
    have BD := Lib.hid (fr.list_bd S10.out)
    go_wp2_with fail
    (with_reducible refine (ux.toReassemblyS F8.out S10.out).mono ?_)
    rintro e w11 hp
    obtain ⟨v16, fp15, rfl, ho, hb⟩ := hp.parts
    clear hp
    obtain ⟨A12, n13, c14, rfl⟩ := ux.rowRea_slo ho.1
    have F17 := Lib.hid ho
    clear ho
    have B18 := Lib.hid (B6.out.trans (hb.mono B6.out.size))
    have Z19 := Lib.hid hb.size
    have F20 := Lib.hid (F8.out.below hb)
    clear hb B6 F8
    go_wp2_with fail
    (with_reducible refine (HL.out ▸ fr.specXr now x0 A12 n13 c14 _ _ (by have h1 := (fr.rea_rq F17.out.rd).len; have h2 := BD.out.1; omega) BD.out.2 _ (fr.rea_rq F17.out.rd)).mono ?_)
    rintro e w21 hp
    obtain ⟨A22, n23, c24, es25, rfl, g9, ho, hb⟩ := fr.s_parts hp
    clear hp
    obtain ⟨fp26, ho2⟩ := fr.rea_oo ho g9
    clear ho g9
    have F27 := Lib.hid ho2
    clear ho2
    have B28 := Lib.hid (B18.out.trans (hb.mono B18.out.size))
    have Z29 := Lib.hid hb.size
    have F30 := Lib.hid (F20.out.below hb)
    have F31 := Lib.hid (F17.out.below hb)
    clear hb B18 F20 F17
    clear F31
    go_wp2_with fail
    (with_reducible refine (ux.toReassemblyS F30.out S10.out).mono ?_)
    rintro e w32 hp
    obtain ⟨v37, fp36, rfl, ho, hb⟩ := hp.parts
    clear hp
    obtain ⟨A33, n34, c35, rfl⟩ := ux.rowRea_slo ho.1
    have F38 := Lib.hid ho
    clear ho
    have B39 := Lib.hid (B28.out.trans (hb.mono B28.out.size))
    have Z40 := Lib.hid hb.size
    have F41 := Lib.hid (F30.out.below hb)
    have F42 := Lib.hid (F27.out.below hb)
    clear hb B28 F30 F27
    go_wp2_with fail
    (with_reducible refine (HL.out ▸ fr.implXr now x0 A33 n34 c35 _ _ (by have h1 := (fr.rea_rq F38.out.rd).len; have h2 := BD.out.1; omega) BD.out.2 _ (fr.rea_rq F38.out.rd)).mono ?_)
    rintro e w43 hp
    obtain ⟨A44, n45, c46, es47, rfl, g9, ho, hb⟩ := fr.s_parts hp
    clear hp
    obtain ⟨fp48, ho2⟩ := fr.rea_oo ho g9
    clear ho g9
    have F49 := Lib.hid ho2
    clear ho2
    have B50 := Lib.hid (B39.out.trans (hb.mono B39.out.size))
    have Z51 := Lib.hid hb.size
    have F52 := Lib.hid (F41.out.below hb)
    have F53 := Lib.hid (F42.out.below hb)
    have F54 := Lib.hid (F38.out.below hb)
    clear hb B39 F41 F42 F38
    go_wp2_with fail
    (with_reducible refine (ux.eqReassemblyS F49.out.rd F53.out.rd).mono ?_)
    rintro e w55 hp
    obtain ⟨rfl, hb⟩ := bx.b_parts rfl hp
    clear hp
    have B56 := Lib.hid (B50.out.trans (hb.mono B50.out.size))
    have Z57 := Lib.hid hb.size
    have F58 := Lib.hid (F52.out.below hb)
    have F59 := Lib.hid (F53.out.below hb)
    have F60 := Lib.hid (F54.out.below hb)
    have F61 := Lib.hid (F49.out.below hb)
    clear hb B50 F52 F53 F54 F49
    go_wp2_with fail
    (with_reducible refine (ux.toReassemblyS F58.out S10.out).mono ?_)
    rintro e w62 hp
    obtain ⟨v67, fp66, rfl, ho, hb⟩ := hp.parts
    clear hp
    obtain ⟨A63, n64, c65, rfl⟩ := ux.rowRea_slo ho.1
    have F68 := Lib.hid ho
    clear ho
    have B69 := Lib.hid (B56.out.trans (hb.mono B56.out.size))
    have Z70 := Lib.hid hb.size
    have F71 := Lib.hid (F58.out.below hb)
    have F72 := Lib.hid (F59.out.below hb)
    have F73 := Lib.hid (F60.out.below hb)
    have F74 := Lib.hid (F61.out.below hb)
    clear hb B56 F58 F59 F60 F61
    go_wp2_with fail
    (with_reducible refine (ux.eqReassemblyS F73.out.rd F68.out.rd).mono ?_)
    rintro e w75 hp
    obtain ⟨rfl, hb⟩ := bx.b_parts rfl hp
    clear hp
    have B76 := Lib.hid (B69.out.trans (hb.mono B69.out.size))
    have Z77 := Lib.hid hb.size
    have F78 := Lib.hid (F71.out.below hb)
    have F79 := Lib.hid (F72.out.below hb)
    have F80 := Lib.hid (F73.out.below hb)
    have F81 := Lib.hid (F74.out.below hb)
    have F82 := Lib.hid (F68.out.below hb)
    clear hb B69 F71 F72 F73 F74 F68
    clear F82
    go_wp2_with fail
    (with_reducible refine (ux.markReassemblyS 1 F80.out (by have h1 := fr.rowRea_bd x0; have h2 := (show (0:Int) ≤ 1 ∧ (1:Int) ≤ 4294967360 by omega); have h3 := S10.out; omega) S10.out).mono ?_)
    rintro e w83 hp
    obtain ⟨rfl, ho, hb⟩ := hp.parts
    clear hp
    obtain ⟨k1, hk9⟩ : ∃ k : Int, 1 + (ux.rowRea.tot x0 : Nat) = k := ⟨_, rfl⟩
    have Hk1 := Lib.hid hk9
    have Kk1 := Lib.hid (show 0 ≤ k1 ∧ k1 ≤ 1 + 4294967360 by have h1 := fr.rowRea_bd x0; have h2 := (show (0:Int) ≤ 1 ∧ (1:Int) ≤ 4294967360 by omega); have h3 := S10.out; omega)
    have ngk1 : ¬ k1 < 0 := by have := Kk1.out; omega
    (first | rw [hk9] | (change Code.wp _ _ _ _ _; rw [hk9]) | skip)
    clear hk9
    have F84 := Lib.hid ho
    clear ho
    have B85 := Lib.hid (B76.out.trans (ux.ks_bel hb (fun b hb => by have z0 := Z7.out; have z1 := Z19.out; have z2 := Z29.out; have z3 := Z40.out; have z4 := Z51.out; have z5 := Z57.out; have z6 := Z70.out; have z7 := Z77.out; have zB := B76.out.size; have := F84.out.inn b hb; omega) B76.out.size))
    have Z86 := Lib.hid hb.size
    have F87 := Lib.hid (F78.out.ks hb (fun b h1 h2 h3 => by have z0 := Z7.out; have z1 := Z19.out; have z2 := Z29.out; have z3 := Z40.out; have z4 := Z51.out; have z5 := Z57.out; have z6 := Z70.out; have z7 := Z77.out; have z8 := Z86.out; have q2 := F84.out.inn b h3; omega))
    have F88 := Lib.hid (F79.out.ks hb (fun b h1 h2 => by have z0 := Z7.out; have z1 := Z19.out; have z2 := Z29.out; have z3 := Z40.out; have z4 := Z51.out; have z5 := Z57.out; have z6 := Z70.out; have z7 := Z77.out; have z8 := Z86.out; have q1 := F79.out.inn b h1; have q2 := F84.out.inn b h2; omega))
    have F89 := Lib.hid (F81.out.ks hb (fun b h1 h2 => by have z0 := Z7.out; have z1 := Z19.out; have z2 := Z29.out; have z3 := Z40.out; have z4 := Z51.out; have z5 := Z57.out; have z6 := Z70.out; have z7 := Z77.out; have z8 := Z86.out; have q1 := F81.out.inn b h1; have q2 := F84.out.inn b h2; omega))
    clear hb B76 F78 F79 F81
    clear F80
    clear F84
    go_wp2_with fail
    (with_reducible refine (ux.eqReassemblyS F89.out.rd F88.out.rd).mono ?_)
    rintro e w90 hp
    obtain ⟨rfl, hb⟩ := bx.b_parts rfl hp
    clear hp
    have B91 := Lib.hid (B85.out.trans (hb.mono B85.out.size))
    have Z92 := Lib.hid hb.size
    have F93 := Lib.hid (F87.out.below hb)
    have F94 := Lib.hid (F88.out.below hb)
    have F95 := Lib.hid (F89.out.below hb)
    clear hb B85 F87 F88 F89
    go_wp2_with fail
    (with_reducible refine (ux.markReassemblyS 1 F95.out (by have h1 := fr.rowRea_bd l; have h2 := (show (0:Int) ≤ 1 ∧ (1:Int) ≤ 4294967360 by omega); have h3 := SL.out; omega) SL.out).mono ?_)
    rintro e w96 hp
    obtain ⟨rfl, ho, hb⟩ := hp.parts
    clear hp
    obtain ⟨k2, hk9⟩ : ∃ k : Int, 1 + (ux.rowRea.tot l : Nat) = k := ⟨_, rfl⟩
    have Hk2 := Lib.hid hk9
    have Kk2 := Lib.hid (show 0 ≤ k2 ∧ k2 ≤ 1 + 4294967360 by have h1 := fr.rowRea_bd l; have h2 := (show (0:Int) ≤ 1 ∧ (1:Int) ≤ 4294967360 by omega); have h3 := SL.out; omega)
    have ngk2 : ¬ k2 < 0 := by have := Kk2.out; omega
    (first | rw [hk9] | (change Code.wp _ _ _ _ _; rw [hk9]) | skip)
    clear hk9
    have F97 := Lib.hid ho
    clear ho
    have B98 := Lib.hid (B91.out.trans (ux.ks_bel hb (fun b hb => by have z0 := Z7.out; have z1 := Z19.out; have z2 := Z29.out; have z3 := Z40.out; have z4 := Z51.out; have z5 := Z57.out; have z6 := Z70.out; have z7 := Z77.out; have z8 := Z86.out; have z9 := Z92.out; have zB := B91.out.size; have := F97.out.inn b hb; omega) B91.out.size))
    have Z99 := Lib.hid hb.size
    have F100 := Lib.hid (F93.out.ks hb (fun b h1 h2 h3 => by have z0 := Z7.out; have z1 := Z19.out; have z2 := Z29.out; have z3 := Z40.out; have z4 := Z51.out; have z5 := Z57.out; have z6 := Z70.out; have z7 := Z77.out; have z8 := Z86.out; have z9 := Z92.out; have z10 := Z99.out; have q2 := F97.out.inn b h3; omega))
    have F101 := Lib.hid (F94.out.ks hb (fun b h1 h2 => by have z0 := Z7.out; have z1 := Z19.out; have z2 := Z29.out; have z3 := Z40.out; have z4 := Z51.out; have z5 := Z57.out; have z6 := Z70.out; have z7 := Z77.out; have z8 := Z86.out; have z9 := Z92.out; have z10 := Z99.out; have q1 := F94.out.inn b h1; have q2 := F97.out.inn b h2; omega))
    clear hb B91 F93 F94
    clear F95
    go_wp2_with fail
    (with_reducible refine (ux.heldReassemblyS 1 F97.out.rd (by have h1 := fr.rowRea_bd l; have h2 := (show (0:Int) ≤ 1 ∧ (1:Int) ≤ 4294967360 by omega); have h3 := SL.out; omega) SL.out).mono ?_)
    rintro e w102 hp
    obtain ⟨rfl, hb⟩ := bx.n_parts Hk2.out hp
    clear hp
    have B103 := Lib.hid (B98.out.trans (hb.mono B98.out.size))
    have Z104 := Lib.hid hb.size
    have F105 := Lib.hid (F100.out.below hb)
    have F106 := Lib.hid (F101.out.below hb)
    have F107 := Lib.hid (F97.out.below hb)
    clear hb B98 F100 F101 F97
    go_wp2_with fail
    (with_reducible refine (ux.toReassemblyS F105.out S10.out).mono ?_)
    rintro e w108 hp
    obtain ⟨v113, fp112, rfl, ho, hb⟩ := hp.parts
    clear hp
    obtain ⟨A109, n110, c111, rfl⟩ := ux.rowRea_slo ho.1
    have F114 := Lib.hid ho
    clear ho
    have B115 := Lib.hid (B103.out.trans (hb.mono B103.out.size))
    have Z116 := Lib.hid hb.size
    have F117 := Lib.hid (F105.out.below hb)
    have F118 := Lib.hid (F106.out.below hb)
    have F119 := Lib.hid (F107.out.below hb)
    clear hb B103 F105 F106 F107
    go_wp2_with fail
    (with_reducible refine (HL.out ▸ fr.implXr now x0 A109 n110 c111 _ _ (by have h1 := (fr.rea_rq F114.out.rd).len; have h2 := BD.out.1; omega) BD.out.2 _ (fr.rea_rq F114.out.rd)).mono ?_)
    rintro e w120 hp
    obtain ⟨A121, n122, c123, es124, rfl, g9, ho, hb⟩ := fr.s_parts hp
    clear hp
    obtain ⟨fp125, ho2⟩ := fr.rea_oo ho g9
    clear ho g9
    have F126 := Lib.hid ho2
    clear ho2
    have B127 := Lib.hid (B115.out.trans (hb.mono B115.out.size))
    have Z128 := Lib.hid hb.size
    have F129 := Lib.hid (F117.out.below hb)
    have F130 := Lib.hid (F118.out.below hb)
    have F131 := Lib.hid (F119.out.below hb)
    have F132 := Lib.hid (F114.out.below hb)
    clear hb B115 F117 F118 F119 F114
    clear F132
    go_wp2_with fail
    (with_reducible refine (ux.eqReassemblyS F126.out.rd F130.out.rd).mono ?_)
    rintro e w133 hp
    obtain ⟨rfl, hb⟩ := bx.b_parts rfl hp
    clear hp
    have B134 := Lib.hid (B127.out.trans (hb.mono B127.out.size))
    have Z135 := Lib.hid hb.size
    have F136 := Lib.hid (F129.out.below hb)
    have F137 := Lib.hid (F130.out.below hb)
    have F138 := Lib.hid (F131.out.below hb)
    have F139 := Lib.hid (F126.out.below hb)
    clear hb B127 F129 F130 F131 F126
    clear F139
    clear F137
    go_wp2_with fail
    (with_reducible refine (ux.heldReassemblyS 1 F138.out.rd (by have h1 := fr.rowRea_bd l; have h2 := (show (0:Int) ≤ 1 ∧ (1:Int) ≤ 4294967360 by omega); have h3 := SL.out; omega) SL.out).mono ?_)
    rintro e w140 hp
    obtain ⟨rfl, hb⟩ := bx.n_parts Hk2.out hp
    clear hp
    have B141 := Lib.hid (B134.out.trans (hb.mono B134.out.size))
    have Z142 := Lib.hid hb.size
    have F143 := Lib.hid (F136.out.below hb)
    have F144 := Lib.hid (F138.out.below hb)
    clear hb B134 F136 F138
    go_wp2_with fail
    go_ret
    exact ⟨rfl, B141.out⟩
end Go.Proofs.Ytjmenbpalihnnaa.xExactExpireReassemblies
