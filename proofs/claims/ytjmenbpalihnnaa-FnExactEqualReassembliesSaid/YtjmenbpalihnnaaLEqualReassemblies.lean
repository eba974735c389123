/- The walk of FnExactEqualReassemblies. Condition: none. -/
import Derived.Test.YtjmenbpalihnnaaRcv
namespace Go.Proofs.Ytjmenbpalihnnaa.xExactEqualReassemblies
open Go.RowKit sl harn bx
set_option linter.unusedVariables false
set_option maxRecDepth 100000 in
set_option maxHeartbeats 4000000 in
theorem walk (x0 : List ux.Rea) (A0 : Option Addr) (n0 c0 : Nat) (x1 : List ux.Rea) (A1 : Option Addr) (n1 c1 : Nat)  (w : World) (h0 : mrw.Rq fr.reaS w 0 w.heap.size A0 n0 c0 x0) (h1 : mrw.Rq fr.reaS w 0 w.heap.size A1 n1 c1 x1)  :
    Calls Try.prog 11 #[.slice A0 n0 c0, .slice A1 n1 c1] w fun e w' => e = .returned (.bool true) ∧ Below w.heap.size w w' := by
  have B1 := Lib.hid (Below.refl w.heap.size w)
  have F2 := Lib.hid (fr.rea_rr h0)
  have F3 := Lib.hid (fr.rea_rr h1)
  clear h0 h1
  go_enter Try.func11, Try.ntmps11
  go_wp2_with fail
  (with_reducible refine (ux.szReassemblyS (1048576) (by omega) F2.out).mono ?_)
  rintro e w4 hp
  obtain ⟨r5, rfl, H6, hb⟩ := hp.parts
  have B7 := Lib.hid (B1.out.trans (hb.mono B1.out.size))
  have Z8 := Lib.hid hb.size
  have F9 := Lib.hid (F2.out.below hb)
  have F10 := Lib.hid (F3.out.below hb)
  clear hb B1 F2 F3
  rcases H6 with ⟨hr, _⟩ | ⟨hr, ht⟩
  · subst hr
    go_wp2_with fail
    go_ret
    exact ⟨rfl, B7.out⟩
  · have Q11 := Lib.hid (show 0 ≤ r5 ∧ r5 ≤ 1048576 by have := (by omega); omega)
    have S12 := Lib.hid (show ux.rowRea.sz x0 ≤ 67108864 by have := (by omega); omega)
    have ngr5 : ¬ r5 < 0 := by have := Q11.out; omega
    clear hr ht
    go_wp2_with fail
    (with_reducible refine (ux.szReassemblyS (r5) (Q11.out) F10.out).mono ?_)
    rintro e w13 hp
    obtain ⟨r14, rfl, H15, hb⟩ := hp.parts
    have B16 := Lib.hid (B7.out.trans (hb.mono B7.out.size))
    have Z17 := Lib.hid hb.size
    have F18 := Lib.hid (F9.out.below hb)
    have F19 := Lib.hid (F10.out.below hb)
    clear hb B7 F9 F10
    rcases H15 with ⟨hr, _⟩ | ⟨hr, ht⟩
    · subst hr
      go_wp2_with fail
      go_ret
      exact ⟨rfl, B16.out⟩
    · have Q20 := Lib.hid (show 0 ≤ r14 ∧ r14 ≤ 1048576 by have := (Q11.out); omega)
      have S21 := Lib.hid (show ux.rowRea.sz x1 ≤ 67108864 by have := (Q11.out); omega)
      have ngr14 : ¬ r14 < 0 := by have := Q20.out; omega
      clear hr ht
      obtain ⟨vb, hvb⟩ : ∃ vb, decide (x0 = x1) = vb := ⟨_, rfl⟩
      have VB := Lib.hid hvb
      clear hvb
      go_wp2_with fail
      (with_reducible refine (ux.toReassemblyS F18.out S12.out).mono ?_)
      rintro e w22 hp
      obtain ⟨v27, fp26, rfl, ho, hb⟩ := hp.parts
      clear hp
      obtain ⟨A23, n24, c25, rfl⟩ := ux.rowRea_slo ho.1
      have F28 := Lib.hid ho
      clear ho
      have B29 := Lib.hid (B16.out.trans (hb.mono B16.out.size))
      have Z30 := Lib.hid hb.size
      have F31 := Lib.hid (F18.out.below hb)
      have F32 := Lib.hid (F19.out.below hb)
      clear hb B16 F18 F19
      go_wp2_with fail
      (with_reducible refine (ux.toReassemblyS F32.out S21.out).mono ?_)
      rintro e w33 hp
      obtain ⟨v38, fp37, rfl, ho, hb⟩ := hp.parts
      clear hp
      obtain ⟨A34, n35, c36, rfl⟩ := ux.rowRea_slo ho.1
      have F39 := Lib.hid ho
      clear ho
      have B40 := Lib.hid (B29.out.trans (hb.mono B29.out.size))
      have Z41 := Lib.hid hb.size
      have F42 := Lib.hid (F31.out.below hb)
      have F43 := Lib.hid (F32.out.below hb)
      have F44 := Lib.hid (F28.out.below hb)
      clear hb B29 F31 F32 F28
      go_wp2_with fail
      (with_reducible refine (fr.specEr x0 x1 _ _ _ _ _ _ _ _ _ _ _ (fr.rea_rq F44.out.rd) (fr.rea_rq F39.out.rd)).mono ?_)
      rintro e w45 hp
      obtain ⟨rfl, hb⟩ := bx.b_parts VB.out hp
      clear hp
      have B46 := Lib.hid (B40.out.trans (hb.mono B40.out.size))
      have Z47 := Lib.hid hb.size
      have F48 := Lib.hid (F42.out.below hb)
      have F49 := Lib.hid (F43.out.below hb)
      have F50 := Lib.hid (F44.out.below hb)
      have F51 := Lib.hid (F39.out.below hb)
      clear hb B40 F42 F43 F44 F39
      clear F50
      clear F51
      go_wp2_with fail
      (with_reducible refine (ux.toReassemblyS F48.out S12.out).mono ?_)
      rintro e w52 hp
      obtain ⟨v57, fp56, rfl, ho, hb⟩ := hp.parts
      clear hp
      obtain ⟨A53, n54, c55, rfl⟩ := ux.rowRea_slo ho.1
      have F58 := Lib.hid ho
      clear ho
      have B59 := Lib.hid (B46.out.trans (hb.mono B46.out.size))
      have Z60 := Lib.hid hb.size
      have F61 := Lib.hid (F48.out.below hb)
      have F62 := Lib.hid (F49.out.below hb)
      clear hb B46 F48 F49
      go_wp2_with fail
      (with_reducible refine (ux.toReassemblyS F62.out S21.out).mono ?_)
      rintro e w63 hp
      obtain ⟨v68, fp67, rfl, ho, hb⟩ := hp.parts
      clear hp
      obtain ⟨A64, n65, c66, rfl⟩ := ux.rowRea_slo ho.1
      have F69 := Lib.hid ho
      clear ho
      have B70 := Lib.hid (B59.out.trans (hb.mono B59.out.size))
      have Z71 := Lib.hid hb.size
      have F72 := Lib.hid (F61.out.below hb)
      have F73 := Lib.hid (F62.out.below hb)
      have F74 := Lib.hid (F58.out.below hb)
      clear hb B59 F61 F62 F58
      go_wp2_with fail
      (with_reducible refine (fr.implEr x0 x1 _ _ _ _ _ _ _ _ _ _ _ (fr.rea_rq F74.out.rd) (fr.rea_rq F69.out.rd)).mono ?_)
      rintro e w75 hp
      obtain ⟨rfl, hb⟩ := bx.b_parts VB.out hp
      clear hp
      have B76 := Lib.hid (B70.out.trans (hb.mono B70.out.size))
      have Z77 := Lib.hid hb.size
      have F78 := Lib.hid (F72.out.below hb)
      have F79 := Lib.hid (F73.out.below hb)
      have F80 := Lib.hid (F74.out.below hb)
      have F81 := Lib.hid (F69.out.below hb)
      clear hb B70 F72 F73 F74 F69
      go_wp2_with fail
      (with_reducible refine (ux.toReassemblyS F78.out S12.out).mono ?_)
      rintro e w82 hp
      obtain ⟨v87, fp86, rfl, ho, hb⟩ := hp.parts
      clear hp
      obtain ⟨A83, n84, c85, rfl⟩ := ux.rowRea_slo ho.1
      have F88 := Lib.hid ho
      clear ho
      have B89 := Lib.hid (B76.out.trans (hb.mono B76.out.size))
      have Z90 := Lib.hid hb.size
      have F91 := Lib.hid (F78.out.below hb)
      have F92 := Lib.hid (F79.out.below hb)
      have F93 := Lib.hid (F80.out.below hb)
      have F94 := Lib.hid (F81.out.below hb)
      clear hb B76 F78 F79 F80 F81
      go_wp2_with fail
      (with_reducible refine (ux.eqReassemblyS F93.out.rd F88.out.rd).mono ?_)
      rintro e w95 hp
      obtain ⟨rfl, hb⟩ := bx.b_parts rfl hp
      clear hp
      have B96 := Lib.hid (B89.out.trans (hb.mono B89.out.size))
      have Z97 := Lib.hid hb.size
      have F98 := Lib.hid (F91.out.below hb)
      have F99 := Lib.hid (F92.out.below hb)
      have F100 := Lib.hid (F93.out.below hb)
      have F101 := Lib.hid (F94.out.below hb)
      have F102 := Lib.hid (F88.out.below hb)
      clear hb B89 F91 F92 F93 F94 F88
      clear F102
      go_wp2_with fail
      (with_reducible refine (ux.toReassemblyS F99.out S21.out).mono ?_)
      rintro e w103 hp
      obtain ⟨v108, fp107, rfl, ho, hb⟩ := hp.parts
      clear hp
      obtain ⟨A104, n105, c106, rfl⟩ := ux.rowRea_slo ho.1
      have F109 := Lib.hid ho
      clear ho
      have B110 := Lib.hid (B96.out.trans (hb.mono B96.out.size))
      have Z111 := Lib.hid hb.size
      have F112 := Lib.hid (F98.out.below hb)
      have F113 := Lib.hid (F99.out.below hb)
      have F114 := Lib.hid (F100.out.below hb)
      have F115 := Lib.hid (F101.out.below hb)
      clear hb B96 F98 F99 F100 F101
      go_wp2_with fail
      (with_reducible refine (ux.eqReassemblyS F115.out.rd F109.out.rd).mono ?_)
      rintro e w116 hp
      obtain ⟨rfl, hb⟩ := bx.b_parts rfl hp
      clear hp
      have B117 := Lib.hid (B110.out.trans (hb.mono B110.out.size))
      have Z118 := Lib.hid hb.size
      have F119 := Lib.hid (F112.out.below hb)
      have F120 := Lib.hid (F113.out.below hb)
      have F121 := Lib.hid (F114.out.below hb)
      have F122 := Lib.hid (F115.out.below hb)
      have F123 := Lib.hid (F109.out.below hb)
      clear hb B110 F112 F113 F114 F115 F109
      clear F123
      go_wp2_with fail
      go_ret
      exact ⟨rfl, B117.out⟩
end Go.Proofs.Ytjmenbpalihnnaa.xExactEqualReassemblies
