/- The walk of FnExactFragments. Condition: none. -/
import Derived.Test.YtjmenbpalihnnaaRcv
import Derived.Test.YtjmenbpalihnnaaRfr
namespace Go.Proofs.Ytjmenbpalihnnaa.xExactFragments
open Go.RowKit sl harn bx
set_option linter.unusedVariables false
set_option maxRecDepth 100000 in
set_option maxHeartbeats 4000000 in
theorem walk (f : ux.Fra) (Af : Option Addr) (nf cf : Nat) (t : Int) (w : World) (hf : sl.Rd .u8 w 0 w.heap.size Af nf cf f.Body)  :
    Calls Try.prog 6 #[ux.fraV f (.slice Af nf cf), .int .i64 t] w fun e w' => e = .returned (.bool true) ∧ Below w.heap.size w w' := by
  have B1 := Lib.hid (Below.refl w.heap.size w)
  have HLF := Lib.hid (show f.Body.length = nf from hf.len)
  have F2 := Lib.hid (fr.fra_of (f := f) hf)
  clear hf
  go_enter Try.func6, Try.ntmps6
  go_upto_region 1 with fail
  obtain ⟨we, hW⟩ : ∃ w0, w.alloc (.cells #[.int .i64 f.Kind, .int .i64 f.From, .int .i64 f.To, .int .i64 f.Seq, .int .i64 f.Fragment, .bool f.More, .bool f.Retry, .int .i64 f.Duration, .slice Af nf cf] 60) = w0 := ⟨_, rfl⟩
  rw [hW]
  have hb : Below w.heap.size w we := by rw [← hW]; exact (Below.refl _ _).alloc (by simp <;> omega) _
  have hz9 : w.heap.size + 1 ≤ we.heap.size := by rw [← hW]; simp
  have Z3 := Lib.hid hz9
  clear hz9
  have B4 := Lib.hid (B1.out.trans (hb.mono B1.out.size))
  have Z5 := Lib.hid hb.size
  have F6 := Lib.hid (F2.out.below hb)
  clear hb B1 F2
  have X7 := Lib.hid (show bx.Bx 60 we (w.heap.size) #[.int .i64 f.Kind, .int .i64 f.From, .int .i64 f.To, .int .i64 f.Seq, .int .i64 f.Fragment, .bool f.More, .bool f.Retry, .int .i64 f.Duration, .slice Af nf cf] by
      rw [← hW]
      have hh := bx.Bx.made 60 w #[.int .i64 f.Kind, .int .i64 f.From, .int .i64 f.To, .int .i64 f.Seq, .int .i64 f.Fragment, .bool f.More, .bool f.Retry, .int .i64 f.Duration, .slice Af nf cf]
      exact hh)
  clear hW
  have ck8_0 : (we).cell? ⟨w.heap.size, 0, none⟩ = some (.int .i64 f.Kind) := X7.out.cell 0
  have ck8_1 : (we).cell? ⟨w.heap.size, 1, none⟩ = some (.int .i64 f.From) := X7.out.cell 1
  have ck8_2 : (we).cell? ⟨w.heap.size, 2, none⟩ = some (.int .i64 f.To) := X7.out.cell 2
  have ck8_3 : (we).cell? ⟨w.heap.size, 3, none⟩ = some (.int .i64 f.Seq) := X7.out.cell 3
  have ck8_4 : (we).cell? ⟨w.heap.size, 4, none⟩ = some (.int .i64 f.Fragment) := X7.out.cell 4
  have ck8_5 : (we).cell? ⟨w.heap.size, 5, none⟩ = some (.bool f.More) := X7.out.cell 5
  have ck8_6 : (we).cell? ⟨w.heap.size, 6, none⟩ = some (.bool f.Retry) := X7.out.cell 6
  have ck8_7 : (we).cell? ⟨w.heap.size, 7, none⟩ = some (.int .i64 f.Duration) := X7.out.cell 7
  have ck8_8 : (we).cell? ⟨w.heap.size, 8, none⟩ = some (.slice Af nf cf) := X7.out.cell 8
  go_wp2_with fail
  clear ck8_0 ck8_1 ck8_2 ck8_3 ck8_4 ck8_5 ck8_6 ck8_7 ck8_8
  (with_reducible refine (ux.szMacFrame (1048576) (by omega) F6.out).mono ?_)
  rintro e w9 hp
  obtain ⟨r10, rfl, H11, hb⟩ := hp.parts
  have B12 := Lib.hid (B4.out.trans (hb.mono B4.out.size))
  have Z13 := Lib.hid hb.size
  have F14 := Lib.hid (F6.out.below hb)
  have F15 := Lib.hid (X7.out.below hb)
  clear hb B4 F6 X7
  rcases H11 with ⟨hr, _⟩ | ⟨hr, ht⟩
  · subst hr
    go_wp2_with fail
    go_ret
    exact ⟨rfl, B12.out⟩
  · have Q16 := Lib.hid (show 0 ≤ r10 ∧ r10 ≤ 1048576 by have := (by omega); omega)
    have S17 := Lib.hid (show ux.fra.sz f ≤ 67108864 by have := (by omega); omega)
    have S18 := Lib.hid (show ux.fra.sz f ≤ 1048576 by have := (by omega); omega)
    have ngr10 : ¬ r10 < 0 := by have := Q16.out; omega
    clear hr ht
    have HNF := Lib.hid (show nf ≤ 67108864 by have h1 := S17.out; have h2 : ux.fra.sz f = f.Body.length := rfl; have h3 := HLF.out; omega)
    obtain ⟨l9, hl9⟩ : ∃ l, fr.frs f t = l := ⟨_, rfl⟩
    have HX := Lib.hid hl9
    have SX := Lib.hid (show ux.rowFra.sz l9 ≤ 67108864 by rw [← hl9]; exact fr.frs_sz S18.out)
    clear hl9
    have ck8_0 : (w9).cell? ⟨w.heap.size, 0, none⟩ = some (.int .i64 f.Kind) := F15.out.cell 0
    have ck8_1 : (w9).cell? ⟨w.heap.size, 1, none⟩ = some (.int .i64 f.From) := F15.out.cell 1
    have ck8_2 : (w9).cell? ⟨w.heap.size, 2, none⟩ = some (.int .i64 f.To) := F15.out.cell 2
    have ck8_3 : (w9).cell? ⟨w.heap.size, 3, none⟩ = some (.int .i64 f.Seq) := F15.out.cell 3
    have ck8_4 : (w9).cell? ⟨w.heap.size, 4, none⟩ = some (.int .i64 f.Fragment) := F15.out.cell 4
    have ck8_5 : (w9).cell? ⟨w.heap.size, 5, none⟩ = some (.bool f.More) := F15.out.cell 5
    have ck8_6 : (w9).cell? ⟨w.heap.size, 6, none⟩ = some (.bool f.Retry) := F15.out.cell 6
    have ck8_7 : (w9).cell? ⟨w.heap.size, 7, none⟩ = some (.int .i64 f.Duration) := F15.out.cell 7
    have ck8_8 : (w9).cell? ⟨w.heap.size, 8, none⟩ = some (.slice Af nf cf) := F15.out.cell 8
    go_wp2_with fail
    clear ck8_0 ck8_1 ck8_2 ck8_3 ck8_4 ck8_5 ck8_6 ck8_7 ck8_8
    (with_reducible refine (ux.toMacFrame F14.out S17.out).mono ?_)
    rintro e w19 hp
    obtain ⟨v24, fp23, rfl, ho, hb⟩ := hp.parts
    clear hp
    obtain ⟨A20, n21, c22, f9, rfl, _, _, _⟩ := ux.fra_o ho
    have F25 := Lib.hid ho
    clear ho
    have B26 := Lib.hid (B12.out.trans (hb.mono B12.out.size))
    have Z27 := Lib.hid hb.size
    have F28 := Lib.hid (F14.out.below hb)
    have F29 := Lib.hid (F15.out.below hb)
    clear hb B12 F14 F15
    have ck8_0 : (w19).cell? ⟨w.heap.size, 0, none⟩ = some (.int .i64 f.Kind) := F29.out.cell 0
    have ck8_1 : (w19).cell? ⟨w.heap.size, 1, none⟩ = some (.int .i64 f.From) := F29.out.cell 1
    have ck8_2 : (w19).cell? ⟨w.heap.size, 2, none⟩ = some (.int .i64 f.To) := F29.out.cell 2
    have ck8_3 : (w19).cell? ⟨w.heap.size, 3, none⟩ = some (.int .i64 f.Seq) := F29.out.cell 3
    have ck8_4 : (w19).cell? ⟨w.heap.size, 4, none⟩ = some (.int .i64 f.Fragment) := F29.out.cell 4
    have ck8_5 : (w19).cell? ⟨w.heap.size, 5, none⟩ = some (.bool f.More) := F29.out.cell 5
    have ck8_6 : (w19).cell? ⟨w.heap.size, 6, none⟩ = some (.bool f.Retry) := F29.out.cell 6
    have ck8_7 : (w19).cell? ⟨w.heap.size, 7, none⟩ = some (.int .i64 f.Duration) := F29.out.cell 7
    have ck8_8 : (w19).cell? ⟨w.heap.size, 8, none⟩ = some (.slice Af nf cf) := F29.out.cell 8
    go_wp2_with fail
    clear ck8_0 ck8_1 ck8_2 ck8_3 ck8_4 ck8_5 ck8_6 ck8_7 ck8_8
    (with_reducible refine (HX.out ▸ fr.specFs f t A20 n21 c22 _ _ _ (fr.fra_rd F25.out.rd) (by have h1 := (fr.fra_rd F25.out.rd).len; have h2 := HLF.out; have h3 := HNF.out; omega)).mono ?_)
    rintro e w30 hp
    obtain ⟨A31, n32, c33, es34, rfl, g9, ho, hb⟩ := fr.fs_parts hp
    clear hp
    obtain ⟨fp35, ho2⟩ := fr.fra_oo ho g9
    clear ho g9
    have F36 := Lib.hid ho2
    clear ho2
    have B37 := Lib.hid (B26.out.trans (hb.mono B26.out.size))
    have Z38 := Lib.hid hb.size
    have F39 := Lib.hid (F28.out.below hb)
    have F40 := Lib.hid (F25.out.below hb)
    have F41 := Lib.hid (F29.out.below hb)
    clear hb B26 F28 F25 F29
    clear F40
    have ck8_0 : (w30).cell? ⟨w.heap.size, 0, none⟩ = some (.int .i64 f.Kind) := F41.out.cell 0
    have ck8_1 : (w30).cell? ⟨w.heap.size, 1, none⟩ = some (.int .i64 f.From) := F41.out.cell 1
    have ck8_2 : (w30).cell? ⟨w.heap.size, 2, none⟩ = some (.int .i64 f.To) := F41.out.cell 2
    have ck8_3 : (w30).cell? ⟨w.heap.size, 3, none⟩ = some (.int .i64 f.Seq) := F41.out.cell 3
    have ck8_4 : (w30).cell? ⟨w.heap.size, 4, none⟩ = some (.int .i64 f.Fragment) := F41.out.cell 4
    have ck8_5 : (w30).cell? ⟨w.heap.size, 5, none⟩ = some (.bool f.More) := F41.out.cell 5
    have ck8_6 : (w30).cell? ⟨w.heap.size, 6, none⟩ = some (.bool f.Retry) := F41.out.cell 6
    have ck8_7 : (w30).cell? ⟨w.heap.size, 7, none⟩ = some (.int .i64 f.Duration) := F41.out.cell 7
    have ck8_8 : (w30).cell? ⟨w.heap.size, 8, none⟩ = some (.slice Af nf cf) := F41.out.cell 8
    go_wp2_with fail
    clear ck8_0 ck8_1 ck8_2 ck8_3 ck8_4 ck8_5 ck8_6 ck8_7 ck8_8
    (with_reducible refine (ux.toMacFrame F39.out S17.out).mono ?_)
    rintro e w42 hp
    obtain ⟨v47, fp46, rfl, ho, hb⟩ := hp.parts
    clear hp
    obtain ⟨A43, n44, c45, f9, rfl, _, _, _⟩ := ux.fra_o ho
    have F48 := Lib.hid ho
    clear ho
    have B49 := Lib.hid (B37.out.trans (hb.mono B37.out.size))
    have Z50 := Lib.hid hb.size
    have F51 := Lib.hid (F39.out.below hb)
    have F52 := Lib.hid (F36.out.below hb)
    have F53 := Lib.hid (F41.out.below hb)
    clear hb B37 F39 F36 F41
    obtain ⟨V54, hV54⟩ : ∃ x, x = w42.alloc (.cells #[.int .i64 f.Kind, .int .i64 f.From, .int .i64 f.To, .int .i64 f.Seq, .int .i64 f.Fragment, .bool f.More, .bool f.Retry, .int .i64 f.Duration, .slice A43 n44 c45] 45) := ⟨_, rfl⟩
    have hb : Below w42.heap.size w42 V54 := by rw [hV54]; exact bx.below_box _ _
    have hz9 : w42.heap.size + 1 ≤ V54.heap.size := by rw [hV54]; simp
    have Z55 := Lib.hid hz9
    clear hz9
    have B56 := Lib.hid (B49.out.trans (hb.mono B49.out.size))
    have Z57 := Lib.hid hb.size
    have F58 := Lib.hid (F51.out.below hb)
    have F59 := Lib.hid (F52.out.below hb)
    have F60 := Lib.hid (F48.out.below hb)
    have F61 := Lib.hid (F53.out.below hb)
    clear hb B49 F51 F52 F48 F53
    have X62 := Lib.hid (show bx.Bx 45 V54 w42.heap.size #[.int .i64 f.Kind, .int .i64 f.From, .int .i64 f.To, .int .i64 f.Seq, .int .i64 f.Fragment, .bool f.More, .bool f.Retry, .int .i64 f.Duration, .slice A43 n44 c45] by rw [hV54]; exact bx.Bx.made _ _ _)
    have ck8_0 : (w42.alloc (.cells #[.int .i64 f.Kind, .int .i64 f.From, .int .i64 f.To, .int .i64 f.Seq, .int .i64 f.Fragment, .bool f.More, .bool f.Retry, .int .i64 f.Duration, .slice A43 n44 c45] 45)).cell? ⟨w.heap.size, 0, none⟩ = some (.int .i64 f.Kind) := by rw [← hV54]; exact F61.out.cell 0
    have ck8_1 : (w42.alloc (.cells #[.int .i64 f.Kind, .int .i64 f.From, .int .i64 f.To, .int .i64 f.Seq, .int .i64 f.Fragment, .bool f.More, .bool f.Retry, .int .i64 f.Duration, .slice A43 n44 c45] 45)).cell? ⟨w.heap.size, 1, none⟩ = some (.int .i64 f.From) := by rw [← hV54]; exact F61.out.cell 1
    have ck8_2 : (w42.alloc (.cells #[.int .i64 f.Kind, .int .i64 f.From, .int .i64 f.To, .int .i64 f.Seq, .int .i64 f.Fragment, .bool f.More, .bool f.Retry, .int .i64 f.Duration, .slice A43 n44 c45] 45)).cell? ⟨w.heap.size, 2, none⟩ = some (.int .i64 f.To) := by rw [← hV54]; exact F61.out.cell 2
    have ck8_3 : (w42.alloc (.cells #[.int .i64 f.Kind, .int .i64 f.From, .int .i64 f.To, .int .i64 f.Seq, .int .i64 f.Fragment, .bool f.More, .bool f.Retry, .int .i64 f.Duration, .slice A43 n44 c45] 45)).cell? ⟨w.heap.size, 3, none⟩ = some (.int .i64 f.Seq) := by rw [← hV54]; exact F61.out.cell 3
    have ck8_4 : (w42.alloc (.cells #[.int .i64 f.Kind, .int .i64 f.From, .int .i64 f.To, .int .i64 f.Seq, .int .i64 f.Fragment, .bool f.More, .bool f.Retry, .int .i64 f.Duration, .slice A43 n44 c45] 45)).cell? ⟨w.heap.size, 4, none⟩ = some (.int .i64 f.Fragment) := by rw [← hV54]; exact F61.out.cell 4
    have ck8_5 : (w42.alloc (.cells #[.int .i64 f.Kind, .int .i64 f.From, .int .i64 f.To, .int .i64 f.Seq, .int .i64 f.Fragment, .bool f.More, .bool f.Retry, .int .i64 f.Duration, .slice A43 n44 c45] 45)).cell? ⟨w.heap.size, 5, none⟩ = some (.bool f.More) := by rw [← hV54]; exact F61.out.cell 5
    have ck8_6 : (w42.alloc (.cells #[.int .i64 f.Kind, .int .i64 f.From, .int .i64 f.To, .int .i64 f.Seq, .int .i64 f.Fragment, .bool f.More, .bool f.Retry, .int .i64 f.Duration, .slice A43 n44 c45] 45)).cell? ⟨w.heap.size, 6, none⟩ = some (.bool f.Retry) := by rw [← hV54]; exact F61.out.cell 6
    have ck8_7 : (w42.alloc (.cells #[.int .i64 f.Kind, .int .i64 f.From, .int .i64 f.To, .int .i64 f.Seq, .int .i64 f.Fragment, .bool f.More, .bool f.Retry, .int .i64 f.Duration, .slice A43 n44 c45] 45)).cell? ⟨w.heap.size, 7, none⟩ = some (.int .i64 f.Duration) := by rw [← hV54]; exact F61.out.cell 7
    have ck8_8 : (w42.alloc (.cells #[.int .i64 f.Kind, .int .i64 f.From, .int .i64 f.To, .int .i64 f.Seq, .int .i64 f.Fragment, .bool f.More, .bool f.Retry, .int .i64 f.Duration, .slice A43 n44 c45] 45)).cell? ⟨w.heap.size, 8, none⟩ = some (.slice Af nf cf) := by rw [← hV54]; exact F61.out.cell 8
    have ck63_0 : (w42.alloc (.cells #[.int .i64 f.Kind, .int .i64 f.From, .int .i64 f.To, .int .i64 f.Seq, .int .i64 f.Fragment, .bool f.More, .bool f.Retry, .int .i64 f.Duration, .slice A43 n44 c45] 45)).cell? ⟨w42.heap.size, 0, none⟩ = some (.int .i64 f.Kind) := by rw [← hV54]; exact X62.out.cell 0
    have ck63_1 : (w42.alloc (.cells #[.int .i64 f.Kind, .int .i64 f.From, .int .i64 f.To, .int .i64 f.Seq, .int .i64 f.Fragment, .bool f.More, .bool f.Retry, .int .i64 f.Duration, .slice A43 n44 c45] 45)).cell? ⟨w42.heap.size, 1, none⟩ = some (.int .i64 f.From) := by rw [← hV54]; exact X62.out.cell 1
    have ck63_2 : (w42.alloc (.cells #[.int .i64 f.Kind, .int .i64 f.From, .int .i64 f.To, .int .i64 f.Seq, .int .i64 f.Fragment, .bool f.More, .bool f.Retry, .int .i64 f.Duration, .slice A43 n44 c45] 45)).cell? ⟨w42.heap.size, 2, none⟩ = some (.int .i64 f.To) := by rw [← hV54]; exact X62.out.cell 2
    have ck63_3 : (w42.alloc (.cells #[.int .i64 f.Kind, .int .i64 f.From, .int .i64 f.To, .int .i64 f.Seq, .int .i64 f.Fragment, .bool f.More, .bool f.Retry, .int .i64 f.Duration, .slice A43 n44 c45] 45)).cell? ⟨w42.heap.size, 3, none⟩ = some (.int .i64 f.Seq) := by rw [← hV54]; exact X62.out.cell 3
    have ck63_4 : (w42.alloc (.cells #[.int .i64 f.Kind, .int .i64 f.From, .int .i64 f.To, .int .i64 f.Seq, .int .i64 f.Fragment, .bool f.More, .bool f.Retry, .int .i64 f.Duration, .slice A43 n44 c45] 45)).cell? ⟨w42.heap.size, 4, none⟩ = some (.int .i64 f.Fragment) := by rw [← hV54]; exact X62.out.cell 4
    have ck63_5 : (w42.alloc (.cells #[.int .i64 f.Kind, .int .i64 f.From, .int .i64 f.To, .int .i64 f.Seq, .int .i64 f.Fragment, .bool f.More, .bool f.Retry, .int .i64 f.Duration, .slice A43 n44 c45] 45)).cell? ⟨w42.heap.size, 5, none⟩ = some (.bool f.More) := by rw [← hV54]; exact X62.out.cell 5
    have ck63_6 : (w42.alloc (.cells #[.int .i64 f.Kind, .int .i64 f.From, .int .i64 f.To, .int .i64 f.Seq, .int .i64 f.Fragment, .bool f.More, .bool f.Retry, .int .i64 f.Duration, .slice A43 n44 c45] 45)).cell? ⟨w42.heap.size, 6, none⟩ = some (.bool f.Retry) := by rw [← hV54]; exact X62.out.cell 6
    have ck63_7 : (w42.alloc (.cells #[.int .i64 f.Kind, .int .i64 f.From, .int .i64 f.To, .int .i64 f.Seq, .int .i64 f.Fragment, .bool f.More, .bool f.Retry, .int .i64 f.Duration, .slice A43 n44 c45] 45)).cell? ⟨w42.heap.size, 7, none⟩ = some (.int .i64 f.Duration) := by rw [← hV54]; exact X62.out.cell 7
    have ck63_8 : (w42.alloc (.cells #[.int .i64 f.Kind, .int .i64 f.From, .int .i64 f.To, .int .i64 f.Seq, .int .i64 f.Fragment, .bool f.More, .bool f.Retry, .int .i64 f.Duration, .slice A43 n44 c45] 45)).cell? ⟨w42.heap.size, 8, none⟩ = some (.slice A43 n44 c45) := by rw [← hV54]; exact X62.out.cell 8
    go_wp2_with fail
    rw [← hV54]
    clear hV54 ck8_0 ck8_1 ck8_2 ck8_3 ck8_4 ck8_5 ck8_6 ck8_7 ck8_8 ck63_0 ck63_1 ck63_2 ck63_3 ck63_4 ck63_5 ck63_6 ck63_7 ck63_8
    (with_reducible refine (HX.out ▸ fr.implFs f t A43 n44 c45 _ _ _ (fr.fra_rd F60.out.rd) (by have h1 := (fr.fra_rd F60.out.rd).len; have h2 := HLF.out; have h3 := HNF.out; omega)).mono ?_)
    rintro e w64 hp
    obtain ⟨A65, n66, c67, es68, rfl, g9, ho, hb⟩ := fr.fs_parts hp
    clear hp
    obtain ⟨fp69, ho2⟩ := fr.fra_oo ho g9
    clear ho g9
    have F70 := Lib.hid ho2
    clear ho2
    have B71 := Lib.hid (B56.out.trans (hb.mono B56.out.size))
    have Z72 := Lib.hid hb.size
    have F73 := Lib.hid (F58.out.below hb)
    have F74 := Lib.hid (F59.out.below hb)
    have F75 := Lib.hid (F60.out.below hb)
    have F76 := Lib.hid (F61.out.below hb)
    have F77 := Lib.hid (X62.out.below hb)
    clear hb B56 F58 F59 F60 F61 X62
    have ck8_0 : (w64).cell? ⟨w.heap.size, 0, none⟩ = some (.int .i64 f.Kind) := F76.out.cell 0
    have ck8_1 : (w64).cell? ⟨w.heap.size, 1, none⟩ = some (.int .i64 f.From) := F76.out.cell 1
    have ck8_2 : (w64).cell? ⟨w.heap.size, 2, none⟩ = some (.int .i64 f.To) := F76.out.cell 2
    have ck8_3 : (w64).cell? ⟨w.heap.size, 3, none⟩ = some (.int .i64 f.Seq) := F76.out.cell 3
    have ck8_4 : (w64).cell? ⟨w.heap.size, 4, none⟩ = some (.int .i64 f.Fragment) := F76.out.cell 4
    have ck8_5 : (w64).cell? ⟨w.heap.size, 5, none⟩ = some (.bool f.More) := F76.out.cell 5
    have ck8_6 : (w64).cell? ⟨w.heap.size, 6, none⟩ = some (.bool f.Retry) := F76.out.cell 6
    have ck8_7 : (w64).cell? ⟨w.heap.size, 7, none⟩ = some (.int .i64 f.Duration) := F76.out.cell 7
    have ck8_8 : (w64).cell? ⟨w.heap.size, 8, none⟩ = some (.slice Af nf cf) := F76.out.cell 8
    have ck63_0 : (w64).cell? ⟨w42.heap.size, 0, none⟩ = some (.int .i64 f.Kind) := F77.out.cell 0
    have ck63_1 : (w64).cell? ⟨w42.heap.size, 1, none⟩ = some (.int .i64 f.From) := F77.out.cell 1
    have ck63_2 : (w64).cell? ⟨w42.heap.size, 2, none⟩ = some (.int .i64 f.To) := F77.out.cell 2
    have ck63_3 : (w64).cell? ⟨w42.heap.size, 3, none⟩ = some (.int .i64 f.Seq) := F77.out.cell 3
    have ck63_4 : (w64).cell? ⟨w42.heap.size, 4, none⟩ = some (.int .i64 f.Fragment) := F77.out.cell 4
    have ck63_5 : (w64).cell? ⟨w42.heap.size, 5, none⟩ = some (.bool f.More) := F77.out.cell 5
    have ck63_6 : (w64).cell? ⟨w42.heap.size, 6, none⟩ = some (.bool f.Retry) := F77.out.cell 6
    have ck63_7 : (w64).cell? ⟨w42.heap.size, 7, none⟩ = some (.int .i64 f.Duration) := F77.out.cell 7
    have ck63_8 : (w64).cell? ⟨w42.heap.size, 8, none⟩ = some (.slice A43 n44 c45) := F77.out.cell 8
    go_wp2_with fail
    clear ck8_0 ck8_1 ck8_2 ck8_3 ck8_4 ck8_5 ck8_6 ck8_7 ck8_8 ck63_0 ck63_1 ck63_2 ck63_3 ck63_4 ck63_5 ck63_6 ck63_7 ck63_8
    (with_reducible refine (ux.eqMacFrameS F70.out.rd F74.out.rd).mono ?_)
    rintro e w78 hp
    obtain ⟨rfl, hb⟩ := bx.b_parts rfl hp
    clear hp
    have B79 := Lib.hid (B71.out.trans (hb.mono B71.out.size))
    have Z80 := Lib.hid hb.size
    have F81 := Lib.hid (F73.out.below hb)
    have F82 := Lib.hid (F74.out.below hb)
    have F83 := Lib.hid (F75.out.below hb)
    have F84 := Lib.hid (F70.out.below hb)
    have F85 := Lib.hid (F76.out.below hb)
    have F86 := Lib.hid (F77.out.below hb)
    clear hb B71 F73 F74 F75 F70 F76 F77
    have ck8_0 : (w78).cell? ⟨w.heap.size, 0, none⟩ = some (.int .i64 f.Kind) := F85.out.cell 0
    have ck8_1 : (w78).cell? ⟨w.heap.size, 1, none⟩ = some (.int .i64 f.From) := F85.out.cell 1
    have ck8_2 : (w78).cell? ⟨w.heap.size, 2, none⟩ = some (.int .i64 f.To) := F85.out.cell 2
    have ck8_3 : (w78).cell? ⟨w.heap.size, 3, none⟩ = some (.int .i64 f.Seq) := F85.out.cell 3
    have ck8_4 : (w78).cell? ⟨w.heap.size, 4, none⟩ = some (.int .i64 f.Fragment) := F85.out.cell 4
    have ck8_5 : (w78).cell? ⟨w.heap.size, 5, none⟩ = some (.bool f.More) := F85.out.cell 5
    have ck8_6 : (w78).cell? ⟨w.heap.size, 6, none⟩ = some (.bool f.Retry) := F85.out.cell 6
    have ck8_7 : (w78).cell? ⟨w.heap.size, 7, none⟩ = some (.int .i64 f.Duration) := F85.out.cell 7
    have ck8_8 : (w78).cell? ⟨w.heap.size, 8, none⟩ = some (.slice Af nf cf) := F85.out.cell 8
    have ck63_0 : (w78).cell? ⟨w42.heap.size, 0, none⟩ = some (.int .i64 f.Kind) := F86.out.cell 0
    have ck63_1 : (w78).cell? ⟨w42.heap.size, 1, none⟩ = some (.int .i64 f.From) := F86.out.cell 1
    have ck63_2 : (w78).cell? ⟨w42.heap.size, 2, none⟩ = some (.int .i64 f.To) := F86.out.cell 2
    have ck63_3 : (w78).cell? ⟨w42.heap.size, 3, none⟩ = some (.int .i64 f.Seq) := F86.out.cell 3
    have ck63_4 : (w78).cell? ⟨w42.heap.size, 4, none⟩ = some (.int .i64 f.Fragment) := F86.out.cell 4
    have ck63_5 : (w78).cell? ⟨w42.heap.size, 5, none⟩ = some (.bool f.More) := F86.out.cell 5
    have ck63_6 : (w78).cell? ⟨w42.heap.size, 6, none⟩ = some (.bool f.Retry) := F86.out.cell 6
    have ck63_7 : (w78).cell? ⟨w42.heap.size, 7, none⟩ = some (.int .i64 f.Duration) := F86.out.cell 7
    have ck63_8 : (w78).cell? ⟨w42.heap.size, 8, none⟩ = some (.slice A43 n44 c45) := F86.out.cell 8
    go_wp2_with fail
    clear ck8_0 ck8_1 ck8_2 ck8_3 ck8_4 ck8_5 ck8_6 ck8_7 ck8_8 ck63_0 ck63_1 ck63_2 ck63_3 ck63_4 ck63_5 ck63_6 ck63_7 ck63_8
    have hb : Below w78.heap.size w78 w78.drew := own.below_drew (Below.refl _ _)
    have B87 := Lib.hid (B79.out.trans (hb.mono B79.out.size))
    have Z88 := Lib.hid hb.size
    have F89 := Lib.hid (F81.out.below hb)
    have F90 := Lib.hid (F82.out.below hb)
    have F91 := Lib.hid (F83.out.below hb)
    have F92 := Lib.hid (F84.out.below hb)
    have F93 := Lib.hid (F85.out.below hb)
    have F94 := Lib.hid (F86.out.below hb)
    clear hb B79 F81 F82 F83 F84 F85 F86
    have cak63_0 : (w78.drew).cell? ⟨w42.heap.size, 0, none⟩ = some (.int .i64 f.Kind) := F94.out.cell 0
    have cak63_1 : (w78.drew).cell? ⟨w42.heap.size, 1, none⟩ = some (.int .i64 f.From) := F94.out.cell 1
    have cak63_2 : (w78.drew).cell? ⟨w42.heap.size, 2, none⟩ = some (.int .i64 f.To) := F94.out.cell 2
    have cak63_3 : (w78.drew).cell? ⟨w42.heap.size, 3, none⟩ = some (.int .i64 f.Seq) := F94.out.cell 3
    have cak63_4 : (w78.drew).cell? ⟨w42.heap.size, 4, none⟩ = some (.int .i64 f.Fragment) := F94.out.cell 4
    have cak63_5 : (w78.drew).cell? ⟨w42.heap.size, 5, none⟩ = some (.bool f.More) := F94.out.cell 5
    have cak63_6 : (w78.drew).cell? ⟨w42.heap.size, 6, none⟩ = some (.bool f.Retry) := F94.out.cell 6
    have cak63_7 : (w78.drew).cell? ⟨w42.heap.size, 7, none⟩ = some (.int .i64 f.Duration) := F94.out.cell 7
    have cak63_8 : (w78.drew).cell? ⟨w42.heap.size, 8, none⟩ = some (.slice A43 n44 c45) := F94.out.cell 8
    have cak8_0 : (w78.drew).cell? ⟨w.heap.size, 0, none⟩ = some (.int .i64 f.Kind) := F93.out.cell 0
    have cak8_1 : (w78.drew).cell? ⟨w.heap.size, 1, none⟩ = some (.int .i64 f.From) := F93.out.cell 1
    have cak8_2 : (w78.drew).cell? ⟨w.heap.size, 2, none⟩ = some (.int .i64 f.To) := F93.out.cell 2
    have cak8_3 : (w78.drew).cell? ⟨w.heap.size, 3, none⟩ = some (.int .i64 f.Seq) := F93.out.cell 3
    have cak8_4 : (w78.drew).cell? ⟨w.heap.size, 4, none⟩ = some (.int .i64 f.Fragment) := F93.out.cell 4
    have cak8_5 : (w78.drew).cell? ⟨w.heap.size, 5, none⟩ = some (.bool f.More) := F93.out.cell 5
    have cak8_6 : (w78.drew).cell? ⟨w.heap.size, 6, none⟩ = some (.bool f.Retry) := F93.out.cell 6
    have cak8_7 : (w78.drew).cell? ⟨w.heap.size, 7, none⟩ = some (.int .i64 f.Duration) := F93.out.cell 7
    have cak8_8 : (w78.drew).cell? ⟨w.heap.size, 8, none⟩ = some (.slice Af nf cf) := F93.out.cell 8
    go_region_held3 (fun w' => w'.cell? ⟨w42.heap.size, 0, none⟩ = some (.int .i64 f.Kind) ∧ w'.cell? ⟨w42.heap.size, 1, none⟩ = some (.int .i64 f.From) ∧ w'.cell? ⟨w42.heap.size, 2, none⟩ = some (.int .i64 f.To) ∧ w'.cell? ⟨w42.heap.size, 3, none⟩ = some (.int .i64 f.Seq) ∧ w'.cell? ⟨w42.heap.size, 4, none⟩ = some (.int .i64 f.Fragment) ∧ w'.cell? ⟨w42.heap.size, 5, none⟩ = some (.bool f.More) ∧ w'.cell? ⟨w42.heap.size, 6, none⟩ = some (.bool f.Retry) ∧ w'.cell? ⟨w42.heap.size, 7, none⟩ = some (.int .i64 f.Duration) ∧ w'.cell? ⟨w42.heap.size, 8, none⟩ = some (.slice A43 n44 c45) ∧ w'.cell? ⟨w.heap.size, 0, none⟩ = some (.int .i64 f.Kind) ∧ w'.cell? ⟨w.heap.size, 1, none⟩ = some (.int .i64 f.From) ∧ w'.cell? ⟨w.heap.size, 2, none⟩ = some (.int .i64 f.To) ∧ w'.cell? ⟨w.heap.size, 3, none⟩ = some (.int .i64 f.Seq) ∧ w'.cell? ⟨w.heap.size, 4, none⟩ = some (.int .i64 f.Fragment) ∧ w'.cell? ⟨w.heap.size, 5, none⟩ = some (.bool f.More) ∧ w'.cell? ⟨w.heap.size, 6, none⟩ = some (.bool f.Retry) ∧ w'.cell? ⟨w.heap.size, 7, none⟩ = some (.int .i64 f.Duration) ∧ w'.cell? ⟨w.heap.size, 8, none⟩ = some (.slice Af nf cf)) (first | (with_reducible exact ⟨cak63_0, cak63_1, cak63_2, cak63_3, cak63_4, cak63_5, cak63_6, cak63_7, cak63_8, cak8_0, cak8_1, cak8_2, cak8_3, cak8_4, cak8_5, cak8_6, cak8_7, cak8_8⟩) | (with_reducible exact ⟨cbk63_0, cbk63_1, cbk63_2, cbk63_3, cbk63_4, cbk63_5, cbk63_6, cbk63_7, cbk63_8, cbk8_0, cbk8_1, cbk8_2, cbk8_3, cbk8_4, cbk8_5, cbk8_6, cbk8_7, cbk8_8⟩) | (with_reducible exact ⟨cdk63_0, cdk63_1, cdk63_2, cdk63_3, cdk63_4, cdk63_5, cdk63_6, cdk63_7, cdk63_8, cdk8_0, cdk8_1, cdk8_2, cdk8_3, cdk8_4, cdk8_5, cdk8_6, cdk8_7, cdk8_8⟩))
      (first
      | (go_at_call 38; refine (ux.toMacFrame F89.out S17.out).mono ?_; rintro e w95 hp; obtain ⟨v100, fp99, rfl, ho, hb⟩ := hp.parts; clear hp; obtain ⟨A96, n97, c98, f9, rfl, _, _, _⟩ := ux.fra_o ho; have F101 := Lib.hid ho; clear ho; have B102 := Lib.hid (B87.out.trans (hb.mono B87.out.size)); have Z103 := Lib.hid hb.size; have F104 := Lib.hid (F89.out.below hb); have F105 := Lib.hid (F90.out.below hb); have F106 := Lib.hid (F91.out.below hb); have F107 := Lib.hid (F92.out.below hb); have F108 := Lib.hid (F93.out.below hb); have F109 := Lib.hid (F94.out.below hb); clear hb B87 F89 F90 F91 F92 F93 F94; have cbk63_0 : (w95).cell? ⟨w42.heap.size, 0, none⟩ = some (.int .i64 f.Kind) := F109.out.cell 0; have cbk63_1 : (w95).cell? ⟨w42.heap.size, 1, none⟩ = some (.int .i64 f.From) := F109.out.cell 1; have cbk63_2 : (w95).cell? ⟨w42.heap.size, 2, none⟩ = some (.int .i64 f.To) := F109.out.cell 2; have cbk63_3 : (w95).cell? ⟨w42.heap.size, 3, none⟩ = some (.int .i64 f.Seq) := F109.out.cell 3; have cbk63_4 : (w95).cell? ⟨w42.heap.size, 4, none⟩ = some (.int .i64 f.Fragment) := F109.out.cell 4; have cbk63_5 : (w95).cell? ⟨w42.heap.size, 5, none⟩ = some (.bool f.More) := F109.out.cell 5; have cbk63_6 : (w95).cell? ⟨w42.heap.size, 6, none⟩ = some (.bool f.Retry) := F109.out.cell 6; have cbk63_7 : (w95).cell? ⟨w42.heap.size, 7, none⟩ = some (.int .i64 f.Duration) := F109.out.cell 7; have cbk63_8 : (w95).cell? ⟨w42.heap.size, 8, none⟩ = some (.slice A43 n44 c45) := F109.out.cell 8; have cbk8_0 : (w95).cell? ⟨w.heap.size, 0, none⟩ = some (.int .i64 f.Kind) := F108.out.cell 0; have cbk8_1 : (w95).cell? ⟨w.heap.size, 1, none⟩ = some (.int .i64 f.From) := F108.out.cell 1; have cbk8_2 : (w95).cell? ⟨w.heap.size, 2, none⟩ = some (.int .i64 f.To) := F108.out.cell 2; have cbk8_3 : (w95).cell? ⟨w.heap.size, 3, none⟩ = some (.int .i64 f.Seq) := F108.out.cell 3; have cbk8_4 : (w95).cell? ⟨w.heap.size, 4, none⟩ = some (.int .i64 f.Fragment) := F108.out.cell 4; have cbk8_5 : (w95).cell? ⟨w.heap.size, 5, none⟩ = some (.bool f.More) := F108.out.cell 5; have cbk8_6 : (w95).cell? ⟨w.heap.size, 6, none⟩ = some (.bool f.Retry) := F108.out.cell 6; have cbk8_7 : (w95).cell? ⟨w.heap.size, 7, none⟩ = some (.int .i64 f.Duration) := F108.out.cell 7; have cbk8_8 : (w95).cell? ⟨w.heap.size, 8, none⟩ = some (.slice Af nf cf) := F108.out.cell 8)
      | (go_at_call 40; refine (ux.eqMacFrame F106.out.rd F101.out.rd).mono ?_; rintro e w110 hp; obtain ⟨rfl, hb⟩ := bx.b_parts rfl hp; clear hp; have B111 := Lib.hid (B102.out.trans (hb.mono B102.out.size)); have Z112 := Lib.hid hb.size; have F113 := Lib.hid (F104.out.below hb); have F114 := Lib.hid (F105.out.below hb); have F115 := Lib.hid (F106.out.below hb); have F116 := Lib.hid (F107.out.below hb); have F117 := Lib.hid (F101.out.below hb); have F118 := Lib.hid (F108.out.below hb); have F119 := Lib.hid (F109.out.below hb); clear hb B102 F104 F105 F106 F107 F101 F108 F109; have cdk63_0 : (w110).cell? ⟨w42.heap.size, 0, none⟩ = some (.int .i64 f.Kind) := F119.out.cell 0; have cdk63_1 : (w110).cell? ⟨w42.heap.size, 1, none⟩ = some (.int .i64 f.From) := F119.out.cell 1; have cdk63_2 : (w110).cell? ⟨w42.heap.size, 2, none⟩ = some (.int .i64 f.To) := F119.out.cell 2; have cdk63_3 : (w110).cell? ⟨w42.heap.size, 3, none⟩ = some (.int .i64 f.Seq) := F119.out.cell 3; have cdk63_4 : (w110).cell? ⟨w42.heap.size, 4, none⟩ = some (.int .i64 f.Fragment) := F119.out.cell 4; have cdk63_5 : (w110).cell? ⟨w42.heap.size, 5, none⟩ = some (.bool f.More) := F119.out.cell 5; have cdk63_6 : (w110).cell? ⟨w42.heap.size, 6, none⟩ = some (.bool f.Retry) := F119.out.cell 6; have cdk63_7 : (w110).cell? ⟨w42.heap.size, 7, none⟩ = some (.int .i64 f.Duration) := F119.out.cell 7; have cdk63_8 : (w110).cell? ⟨w42.heap.size, 8, none⟩ = some (.slice A43 n44 c45) := F119.out.cell 8; have cdk8_0 : (w110).cell? ⟨w.heap.size, 0, none⟩ = some (.int .i64 f.Kind) := F118.out.cell 0; have cdk8_1 : (w110).cell? ⟨w.heap.size, 1, none⟩ = some (.int .i64 f.From) := F118.out.cell 1; have cdk8_2 : (w110).cell? ⟨w.heap.size, 2, none⟩ = some (.int .i64 f.To) := F118.out.cell 2; have cdk8_3 : (w110).cell? ⟨w.heap.size, 3, none⟩ = some (.int .i64 f.Seq) := F118.out.cell 3; have cdk8_4 : (w110).cell? ⟨w.heap.size, 4, none⟩ = some (.int .i64 f.Fragment) := F118.out.cell 4; have cdk8_5 : (w110).cell? ⟨w.heap.size, 5, none⟩ = some (.bool f.More) := F118.out.cell 5; have cdk8_6 : (w110).cell? ⟨w.heap.size, 6, none⟩ = some (.bool f.Retry) := F118.out.cell 6; have cdk8_7 : (w110).cell? ⟨w.heap.size, 7, none⟩ = some (.int .i64 f.Duration) := F118.out.cell 7; have cdk8_8 : (w110).cell? ⟨w.heap.size, 8, none⟩ = some (.slice Af nf cf) := F118.out.cell 8))
    clear cak63_0 cak63_1 cak63_2 cak63_3 cak63_4 cak63_5 cak63_6 cak63_7 cak63_8 cak8_0 cak8_1 cak8_2 cak8_3 cak8_4 cak8_5 cak8_6 cak8_7 cak8_8 cbk63_0 cbk63_1 cbk63_2 cbk63_3 cbk63_4 cbk63_5 cbk63_6 cbk63_7 cbk63_8 cbk8_0 cbk8_1 cbk8_2 cbk8_3 cbk8_4 cbk8_5 cbk8_6 cbk8_7 cbk8_8 cdk63_0 cdk63_1 cdk63_2 cdk63_3 cdk63_4 cdk63_5 cdk63_6 cdk63_7 cdk63_8 cdk8_0 cdk8_1 cdk8_2 cdk8_3 cdk8_4 cdk8_5 cdk8_6 cdk8_7 cdk8_8
    clear F117
    have ck8_0 : (w110).cell? ⟨w.heap.size, 0, none⟩ = some (.int .i64 f.Kind) := F118.out.cell 0
    have ck8_1 : (w110).cell? ⟨w.heap.size, 1, none⟩ = some (.int .i64 f.From) := F118.out.cell 1
    have ck8_2 : (w110).cell? ⟨w.heap.size, 2, none⟩ = some (.int .i64 f.To) := F118.out.cell 2
    have ck8_3 : (w110).cell? ⟨w.heap.size, 3, none⟩ = some (.int .i64 f.Seq) := F118.out.cell 3
    have ck8_4 : (w110).cell? ⟨w.heap.size, 4, none⟩ = some (.int .i64 f.Fragment) := F118.out.cell 4
    have ck8_5 : (w110).cell? ⟨w.heap.size, 5, none⟩ = some (.bool f.More) := F118.out.cell 5
    have ck8_6 : (w110).cell? ⟨w.heap.size, 6, none⟩ = some (.bool f.Retry) := F118.out.cell 6
    have ck8_7 : (w110).cell? ⟨w.heap.size, 7, none⟩ = some (.int .i64 f.Duration) := F118.out.cell 7
    have ck8_8 : (w110).cell? ⟨w.heap.size, 8, none⟩ = some (.slice Af nf cf) := F118.out.cell 8
    have ck63_0 : (w110).cell? ⟨w42.heap.size, 0, none⟩ = some (.int .i64 f.Kind) := F119.out.cell 0
    have ck63_1 : (w110).cell? ⟨w42.heap.size, 1, none⟩ = some (.int .i64 f.From) := F119.out.cell 1
    have ck63_2 : (w110).cell? ⟨w42.heap.size, 2, none⟩ = some (.int .i64 f.To) := F119.out.cell 2
    have ck63_3 : (w110).cell? ⟨w42.heap.size, 3, none⟩ = some (.int .i64 f.Seq) := F119.out.cell 3
    have ck63_4 : (w110).cell? ⟨w42.heap.size, 4, none⟩ = some (.int .i64 f.Fragment) := F119.out.cell 4
    have ck63_5 : (w110).cell? ⟨w42.heap.size, 5, none⟩ = some (.bool f.More) := F119.out.cell 5
    have ck63_6 : (w110).cell? ⟨w42.heap.size, 6, none⟩ = some (.bool f.Retry) := F119.out.cell 6
    have ck63_7 : (w110).cell? ⟨w42.heap.size, 7, none⟩ = some (.int .i64 f.Duration) := F119.out.cell 7
    have ck63_8 : (w110).cell? ⟨w42.heap.size, 8, none⟩ = some (.slice A43 n44 c45) := F119.out.cell 8
    go_wp2_with fail
    clear ck8_0 ck8_1 ck8_2 ck8_3 ck8_4 ck8_5 ck8_6 ck8_7 ck8_8 ck63_0 ck63_1 ck63_2 ck63_3 ck63_4 ck63_5 ck63_6 ck63_7 ck63_8
    (with_reducible refine (ux.markMacFrame 1 F115.out (by have h1 := fr.fra_bd f; have h2 := (show (0:Int) ≤ 1 ∧ (1:Int) ≤ 4294967360 by omega); have h3 := S17.out; omega) S17.out).mono ?_)
    rintro e w120 hp
    obtain ⟨rfl, ho, hb⟩ := hp.parts
    clear hp
    obtain ⟨k1, hk9⟩ : ∃ k : Int, 1 + (ux.fra_tv f : Nat) = k := ⟨_, rfl⟩
    have Hk1 := Lib.hid hk9
    have Kk1 := Lib.hid (show 0 ≤ k1 ∧ k1 ≤ 1 + 4294967360 by have h1 := fr.fra_bd f; have h2 := (show (0:Int) ≤ 1 ∧ (1:Int) ≤ 4294967360 by omega); have h3 := S17.out; omega)
    have ngk1 : ¬ k1 < 0 := by have := Kk1.out; omega
    (first | rw [hk9] | (change Code.wp _ _ _ _ _; rw [hk9]) | skip)
    clear hk9
    have F121 := Lib.hid ho
    clear ho
    have B122 := Lib.hid (B111.out.trans (ux.ks_bel hb (fun b hb => by have z0 := Z3.out; have z1 := Z5.out; have z2 := Z13.out; have z3 := Z27.out; have z4 := Z38.out; have z5 := Z50.out; have z6 := Z55.out; have z7 := Z57.out; have z8 := Z72.out; have z9 := Z80.out; have z10 := Z88.out; have z11 := Z103.out; have z12 := Z112.out; have zB := B111.out.size; have := F121.out.inn b hb; omega) B111.out.size))
    have Z123 := Lib.hid hb.size
    have F124 := Lib.hid (F113.out.ks hb (fun b h1 h2 h3 => by have z0 := Z3.out; have z1 := Z5.out; have z2 := Z13.out; have z3 := Z27.out; have z4 := Z38.out; have z5 := Z50.out; have z6 := Z55.out; have z7 := Z57.out; have z8 := Z72.out; have z9 := Z80.out; have z10 := Z88.out; have z11 := Z103.out; have z12 := Z112.out; have z13 := Z123.out; have q2 := F121.out.inn b h3; omega))
    have F125 := Lib.hid (F114.out.ks hb (fun b h1 h2 => by have z0 := Z3.out; have z1 := Z5.out; have z2 := Z13.out; have z3 := Z27.out; have z4 := Z38.out; have z5 := Z50.out; have z6 := Z55.out; have z7 := Z57.out; have z8 := Z72.out; have z9 := Z80.out; have z10 := Z88.out; have z11 := Z103.out; have z12 := Z112.out; have z13 := Z123.out; have q1 := F114.out.inn b h1; have q2 := F121.out.inn b h2; omega))
    have F126 := Lib.hid (F116.out.ks hb (fun b h1 h2 => by have z0 := Z3.out; have z1 := Z5.out; have z2 := Z13.out; have z3 := Z27.out; have z4 := Z38.out; have z5 := Z50.out; have z6 := Z55.out; have z7 := Z57.out; have z8 := Z72.out; have z9 := Z80.out; have z10 := Z88.out; have z11 := Z103.out; have z12 := Z112.out; have z13 := Z123.out; have q1 := F116.out.inn b h1; have q2 := F121.out.inn b h2; omega))
    have F127 := Lib.hid (fr.bx_ks F118.out hb (fun h3 => by have z0 := Z3.out; have z1 := Z5.out; have z2 := Z13.out; have z3 := Z27.out; have z4 := Z38.out; have z5 := Z50.out; have z6 := Z55.out; have z7 := Z57.out; have z8 := Z72.out; have z9 := Z80.out; have z10 := Z88.out; have z11 := Z103.out; have z12 := Z112.out; have z13 := Z123.out; have q2 := F121.out.inn _ h3; omega))
    have F128 := Lib.hid (fr.bx_ks F119.out hb (fun h3 => by have z0 := Z3.out; have z1 := Z5.out; have z2 := Z13.out; have z3 := Z27.out; have z4 := Z38.out; have z5 := Z50.out; have z6 := Z55.out; have z7 := Z57.out; have z8 := Z72.out; have z9 := Z80.out; have z10 := Z88.out; have z11 := Z103.out; have z12 := Z112.out; have z13 := Z123.out; have q2 := F121.out.inn _ h3; omega))
    clear hb B111 F113 F114 F116 F118 F119
    clear F115
    clear F128
    clear F121
    have ck8_0 : (w120).cell? ⟨w.heap.size, 0, none⟩ = some (.int .i64 f.Kind) := F127.out.cell 0
    have ck8_1 : (w120).cell? ⟨w.heap.size, 1, none⟩ = some (.int .i64 f.From) := F127.out.cell 1
    have ck8_2 : (w120).cell? ⟨w.heap.size, 2, none⟩ = some (.int .i64 f.To) := F127.out.cell 2
    have ck8_3 : (w120).cell? ⟨w.heap.size, 3, none⟩ = some (.int .i64 f.Seq) := F127.out.cell 3
    have ck8_4 : (w120).cell? ⟨w.heap.size, 4, none⟩ = some (.int .i64 f.Fragment) := F127.out.cell 4
    have ck8_5 : (w120).cell? ⟨w.heap.size, 5, none⟩ = some (.bool f.More) := F127.out.cell 5
    have ck8_6 : (w120).cell? ⟨w.heap.size, 6, none⟩ = some (.bool f.Retry) := F127.out.cell 6
    have ck8_7 : (w120).cell? ⟨w.heap.size, 7, none⟩ = some (.int .i64 f.Duration) := F127.out.cell 7
    have ck8_8 : (w120).cell? ⟨w.heap.size, 8, none⟩ = some (.slice Af nf cf) := F127.out.cell 8
    go_wp2_with fail
    clear ck8_0 ck8_1 ck8_2 ck8_3 ck8_4 ck8_5 ck8_6 ck8_7 ck8_8
    (with_reducible refine (ux.eqMacFrameS F126.out.rd F125.out.rd).mono ?_)
    rintro e w129 hp
    obtain ⟨rfl, hb⟩ := bx.b_parts rfl hp
    clear hp
    have B130 := Lib.hid (B122.out.trans (hb.mono B122.out.size))
    have Z131 := Lib.hid hb.size
    have F132 := Lib.hid (F124.out.below hb)
    have F133 := Lib.hid (F125.out.below hb)
    have F134 := Lib.hid (F126.out.below hb)
    have F135 := Lib.hid (F127.out.below hb)
    clear hb B122 F124 F125 F126 F127
    have ck8_0 : (w129).cell? ⟨w.heap.size, 0, none⟩ = some (.int .i64 f.Kind) := F135.out.cell 0
    have ck8_1 : (w129).cell? ⟨w.heap.size, 1, none⟩ = some (.int .i64 f.From) := F135.out.cell 1
    have ck8_2 : (w129).cell? ⟨w.heap.size, 2, none⟩ = some (.int .i64 f.To) := F135.out.cell 2
    have ck8_3 : (w129).cell? ⟨w.heap.size, 3, none⟩ = some (.int .i64 f.Seq) := F135.out.cell 3
    have ck8_4 : (w129).cell? ⟨w.heap.size, 4, none⟩ = some (.int .i64 f.Fragment) := F135.out.cell 4
    have ck8_5 : (w129).cell? ⟨w.heap.size, 5, none⟩ = some (.bool f.More) := F135.out.cell 5
    have ck8_6 : (w129).cell? ⟨w.heap.size, 6, none⟩ = some (.bool f.Retry) := F135.out.cell 6
    have ck8_7 : (w129).cell? ⟨w.heap.size, 7, none⟩ = some (.int .i64 f.Duration) := F135.out.cell 7
    have ck8_8 : (w129).cell? ⟨w.heap.size, 8, none⟩ = some (.slice Af nf cf) := F135.out.cell 8
    go_wp2_with fail
    clear ck8_0 ck8_1 ck8_2 ck8_3 ck8_4 ck8_5 ck8_6 ck8_7 ck8_8
    (with_reducible refine (ux.markMacFrameS 1 F134.out (by have h1 := fr.rowFra_bd l9; have h2 := (show (0:Int) ≤ 1 ∧ (1:Int) ≤ 4294967360 by omega); have h3 := SX.out; omega) SX.out).mono ?_)
    rintro e w136 hp
    obtain ⟨rfl, ho, hb⟩ := hp.parts
    clear hp
    obtain ⟨k2, hk9⟩ : ∃ k : Int, 1 + (ux.rowFra.tot l9 : Nat) = k := ⟨_, rfl⟩
    have Hk2 := Lib.hid hk9
    have Kk2 := Lib.hid (show 0 ≤ k2 ∧ k2 ≤ 1 + 4294967360 by have h1 := fr.rowFra_bd l9; have h2 := (show (0:Int) ≤ 1 ∧ (1:Int) ≤ 4294967360 by omega); have h3 := SX.out; omega)
    have ngk2 : ¬ k2 < 0 := by have := Kk2.out; omega
    (first | rw [hk9] | (change Code.wp _ _ _ _ _; rw [hk9]) | skip)
    clear hk9
    have F137 := Lib.hid ho
    clear ho
    have B138 := Lib.hid (B130.out.trans (ux.ks_bel hb (fun b hb => by have z0 := Z3.out; have z1 := Z5.out; have z2 := Z13.out; have z3 := Z27.out; have z4 := Z38.out; have z5 := Z50.out; have z6 := Z55.out; have z7 := Z57.out; have z8 := Z72.out; have z9 := Z80.out; have z10 := Z88.out; have z11 := Z103.out; have z12 := Z112.out; have z13 := Z123.out; have z14 := Z131.out; have zB := B130.out.size; have := F137.out.inn b hb; omega) B130.out.size))
    have Z139 := Lib.hid hb.size
    have F140 := Lib.hid (F132.out.ks hb (fun b h1 h2 h3 => by have z0 := Z3.out; have z1 := Z5.out; have z2 := Z13.out; have z3 := Z27.out; have z4 := Z38.out; have z5 := Z50.out; have z6 := Z55.out; have z7 := Z57.out; have z8 := Z72.out; have z9 := Z80.out; have z10 := Z88.out; have z11 := Z103.out; have z12 := Z112.out; have z13 := Z123.out; have z14 := Z131.out; have z15 := Z139.out; have q2 := F137.out.inn b h3; omega))
    have F141 := Lib.hid (F133.out.ks hb (fun b h1 h2 => by have z0 := Z3.out; have z1 := Z5.out; have z2 := Z13.out; have z3 := Z27.out; have z4 := Z38.out; have z5 := Z50.out; have z6 := Z55.out; have z7 := Z57.out; have z8 := Z72.out; have z9 := Z80.out; have z10 := Z88.out; have z11 := Z103.out; have z12 := Z112.out; have z13 := Z123.out; have z14 := Z131.out; have z15 := Z139.out; have q1 := F133.out.inn b h1; have q2 := F137.out.inn b h2; omega))
    have F142 := Lib.hid (fr.bx_ks F135.out hb (fun h3 => by have z0 := Z3.out; have z1 := Z5.out; have z2 := Z13.out; have z3 := Z27.out; have z4 := Z38.out; have z5 := Z50.out; have z6 := Z55.out; have z7 := Z57.out; have z8 := Z72.out; have z9 := Z80.out; have z10 := Z88.out; have z11 := Z103.out; have z12 := Z112.out; have z13 := Z123.out; have z14 := Z131.out; have z15 := Z139.out; have q2 := F137.out.inn _ h3; omega))
    clear hb B130 F132 F133 F135
    clear F134
    have ck8_0 : (w136).cell? ⟨w.heap.size, 0, none⟩ = some (.int .i64 f.Kind) := F142.out.cell 0
    have ck8_1 : (w136).cell? ⟨w.heap.size, 1, none⟩ = some (.int .i64 f.From) := F142.out.cell 1
    have ck8_2 : (w136).cell? ⟨w.heap.size, 2, none⟩ = some (.int .i64 f.To) := F142.out.cell 2
    have ck8_3 : (w136).cell? ⟨w.heap.size, 3, none⟩ = some (.int .i64 f.Seq) := F142.out.cell 3
    have ck8_4 : (w136).cell? ⟨w.heap.size, 4, none⟩ = some (.int .i64 f.Fragment) := F142.out.cell 4
    have ck8_5 : (w136).cell? ⟨w.heap.size, 5, none⟩ = some (.bool f.More) := F142.out.cell 5
    have ck8_6 : (w136).cell? ⟨w.heap.size, 6, none⟩ = some (.bool f.Retry) := F142.out.cell 6
    have ck8_7 : (w136).cell? ⟨w.heap.size, 7, none⟩ = some (.int .i64 f.Duration) := F142.out.cell 7
    have ck8_8 : (w136).cell? ⟨w.heap.size, 8, none⟩ = some (.slice Af nf cf) := F142.out.cell 8
    go_wp2_with fail
    clear ck8_0 ck8_1 ck8_2 ck8_3 ck8_4 ck8_5 ck8_6 ck8_7 ck8_8
    (with_reducible refine (ux.heldMacFrameS 1 F137.out.rd (by have h1 := fr.rowFra_bd l9; have h2 := (show (0:Int) ≤ 1 ∧ (1:Int) ≤ 4294967360 by omega); have h3 := SX.out; omega) SX.out).mono ?_)
    rintro e w143 hp
    obtain ⟨rfl, hb⟩ := bx.n_parts Hk2.out hp
    clear hp
    have B144 := Lib.hid (B138.out.trans (hb.mono B138.out.size))
    have Z145 := Lib.hid hb.size
    have F146 := Lib.hid (F140.out.below hb)
    have F147 := Lib.hid (F141.out.below hb)
    have F148 := Lib.hid (F137.out.below hb)
    have F149 := Lib.hid (F142.out.below hb)
    clear hb B138 F140 F141 F137 F142
    have ck8_0 : (w143).cell? ⟨w.heap.size, 0, none⟩ = some (.int .i64 f.Kind) := F149.out.cell 0
    have ck8_1 : (w143).cell? ⟨w.heap.size, 1, none⟩ = some (.int .i64 f.From) := F149.out.cell 1
    have ck8_2 : (w143).cell? ⟨w.heap.size, 2, none⟩ = some (.int .i64 f.To) := F149.out.cell 2
    have ck8_3 : (w143).cell? ⟨w.heap.size, 3, none⟩ = some (.int .i64 f.Seq) := F149.out.cell 3
    have ck8_4 : (w143).cell? ⟨w.heap.size, 4, none⟩ = some (.int .i64 f.Fragment) := F149.out.cell 4
    have ck8_5 : (w143).cell? ⟨w.heap.size, 5, none⟩ = some (.bool f.More) := F149.out.cell 5
    have ck8_6 : (w143).cell? ⟨w.heap.size, 6, none⟩ = some (.bool f.Retry) := F149.out.cell 6
    have ck8_7 : (w143).cell? ⟨w.heap.size, 7, none⟩ = some (.int .i64 f.Duration) := F149.out.cell 7
    have ck8_8 : (w143).cell? ⟨w.heap.size, 8, none⟩ = some (.slice Af nf cf) := F149.out.cell 8
    go_wp2_with fail
    clear ck8_0 ck8_1 ck8_2 ck8_3 ck8_4 ck8_5 ck8_6 ck8_7 ck8_8
    (with_reducible refine (ux.toMacFrame F146.out S17.out).mono ?_)
    rintro e w150 hp
    obtain ⟨v155, fp154, rfl, ho, hb⟩ := hp.parts
    clear hp
    obtain ⟨A151, n152, c153, f9, rfl, _, _, _⟩ := ux.fra_o ho
    have F156 := Lib.hid ho
    clear ho
    have B157 := Lib.hid (B144.out.trans (hb.mono B144.out.size))
    have Z158 := Lib.hid hb.size
    have F159 := Lib.hid (F146.out.below hb)
    have F160 := Lib.hid (F147.out.below hb)
    have F161 := Lib.hid (F148.out.below hb)
    have F162 := Lib.hid (F149.out.below hb)
    clear hb B144 F146 F147 F148 F149
    have ck8_0 : (w150).cell? ⟨w.heap.size, 0, none⟩ = some (.int .i64 f.Kind) := F162.out.cell 0
    have ck8_1 : (w150).cell? ⟨w.heap.size, 1, none⟩ = some (.int .i64 f.From) := F162.out.cell 1
    have ck8_2 : (w150).cell? ⟨w.heap.size, 2, none⟩ = some (.int .i64 f.To) := F162.out.cell 2
    have ck8_3 : (w150).cell? ⟨w.heap.size, 3, none⟩ = some (.int .i64 f.Seq) := F162.out.cell 3
    have ck8_4 : (w150).cell? ⟨w.heap.size, 4, none⟩ = some (.int .i64 f.Fragment) := F162.out.cell 4
    have ck8_5 : (w150).cell? ⟨w.heap.size, 5, none⟩ = some (.bool f.More) := F162.out.cell 5
    have ck8_6 : (w150).cell? ⟨w.heap.size, 6, none⟩ = some (.bool f.Retry) := F162.out.cell 6
    have ck8_7 : (w150).cell? ⟨w.heap.size, 7, none⟩ = some (.int .i64 f.Duration) := F162.out.cell 7
    have ck8_8 : (w150).cell? ⟨w.heap.size, 8, none⟩ = some (.slice Af nf cf) := F162.out.cell 8
    go_wp2_with fail
    clear ck8_0 ck8_1 ck8_2 ck8_3 ck8_4 ck8_5 ck8_6 ck8_7 ck8_8
    (with_reducible refine (HX.out ▸ fr.implFs f t A151 n152 c153 _ _ _ (fr.fra_rd F156.out.rd) (by have h1 := (fr.fra_rd F156.out.rd).len; have h2 := HLF.out; have h3 := HNF.out; omega)).mono ?_)
    rintro e w163 hp
    obtain ⟨A164, n165, c166, es167, rfl, g9, ho, hb⟩ := fr.fs_parts hp
    clear hp
    obtain ⟨fp168, ho2⟩ := fr.fra_oo ho g9
    clear ho g9
    have F169 := Lib.hid ho2
    clear ho2
    have B170 := Lib.hid (B157.out.trans (hb.mono B157.out.size))
    have Z171 := Lib.hid hb.size
    have F172 := Lib.hid (F159.out.below hb)
    have F173 := Lib.hid (F160.out.below hb)
    have F174 := Lib.hid (F161.out.below hb)
    have F175 := Lib.hid (F156.out.below hb)
    have F176 := Lib.hid (F162.out.below hb)
    clear hb B157 F159 F160 F161 F156 F162
    clear F175
    have ck8_0 : (w163).cell? ⟨w.heap.size, 0, none⟩ = some (.int .i64 f.Kind) := F176.out.cell 0
    have ck8_1 : (w163).cell? ⟨w.heap.size, 1, none⟩ = some (.int .i64 f.From) := F176.out.cell 1
    have ck8_2 : (w163).cell? ⟨w.heap.size, 2, none⟩ = some (.int .i64 f.To) := F176.out.cell 2
    have ck8_3 : (w163).cell? ⟨w.heap.size, 3, none⟩ = some (.int .i64 f.Seq) := F176.out.cell 3
    have ck8_4 : (w163).cell? ⟨w.heap.size, 4, none⟩ = some (.int .i64 f.Fragment) := F176.out.cell 4
    have ck8_5 : (w163).cell? ⟨w.heap.size, 5, none⟩ = some (.bool f.More) := F176.out.cell 5
    have ck8_6 : (w163).cell? ⟨w.heap.size, 6, none⟩ = some (.bool f.Retry) := F176.out.cell 6
    have ck8_7 : (w163).cell? ⟨w.heap.size, 7, none⟩ = some (.int .i64 f.Duration) := F176.out.cell 7
    have ck8_8 : (w163).cell? ⟨w.heap.size, 8, none⟩ = some (.slice Af nf cf) := F176.out.cell 8
    go_wp2_with fail
    clear ck8_0 ck8_1 ck8_2 ck8_3 ck8_4 ck8_5 ck8_6 ck8_7 ck8_8
    (with_reducible refine (ux.eqMacFrameS F169.out.rd F173.out.rd).mono ?_)
    rintro e w177 hp
    obtain ⟨rfl, hb⟩ := bx.b_parts rfl hp
    clear hp
    have B178 := Lib.hid (B170.out.trans (hb.mono B170.out.size))
    have Z179 := Lib.hid hb.size
    have F180 := Lib.hid (F172.out.below hb)
    have F181 := Lib.hid (F173.out.below hb)
    have F182 := Lib.hid (F174.out.below hb)
    have F183 := Lib.hid (F169.out.below hb)
    have F184 := Lib.hid (F176.out.below hb)
    clear hb B170 F172 F173 F174 F169 F176
    clear F183
    clear F181
    have ck8_0 : (w177).cell? ⟨w.heap.size, 0, none⟩ = some (.int .i64 f.Kind) := F184.out.cell 0
    have ck8_1 : (w177).cell? ⟨w.heap.size, 1, none⟩ = some (.int .i64 f.From) := F184.out.cell 1
    have ck8_2 : (w177).cell? ⟨w.heap.size, 2, none⟩ = some (.int .i64 f.To) := F184.out.cell 2
    have ck8_3 : (w177).cell? ⟨w.heap.size, 3, none⟩ = some (.int .i64 f.Seq) := F184.out.cell 3
    have ck8_4 : (w177).cell? ⟨w.heap.size, 4, none⟩ = some (.int .i64 f.Fragment) := F184.out.cell 4
    have ck8_5 : (w177).cell? ⟨w.heap.size, 5, none⟩ = some (.bool f.More) := F184.out.cell 5
    have ck8_6 : (w177).cell? ⟨w.heap.size, 6, none⟩ = some (.bool f.Retry) := F184.out.cell 6
    have ck8_7 : (w177).cell? ⟨w.heap.size, 7, none⟩ = some (.int .i64 f.Duration) := F184.out.cell 7
    have ck8_8 : (w177).cell? ⟨w.heap.size, 8, none⟩ = some (.slice Af nf cf) := F184.out.cell 8
    go_wp2_with fail
    clear ck8_0 ck8_1 ck8_2 ck8_3 ck8_4 ck8_5 ck8_6 ck8_7 ck8_8
    (with_reducible refine (ux.heldMacFrameS 1 F182.out.rd (by have h1 := fr.rowFra_bd l9; have h2 := (show (0:Int) ≤ 1 ∧ (1:Int) ≤ 4294967360 by omega); have h3 := SX.out; omega) SX.out).mono ?_)
    rintro e w185 hp
    obtain ⟨rfl, hb⟩ := bx.n_parts Hk2.out hp
    clear hp
    have B186 := Lib.hid (B178.out.trans (hb.mono B178.out.size))
    have Z187 := Lib.hid hb.size
    have F188 := Lib.hid (F180.out.below hb)
    have F189 := Lib.hid (F182.out.below hb)
    have F190 := Lib.hid (F184.out.below hb)
    clear hb B178 F180 F182 F184
    have ck8_0 : (w185).cell? ⟨w.heap.size, 0, none⟩ = some (.int .i64 f.Kind) := F190.out.cell 0
    have ck8_1 : (w185).cell? ⟨w.heap.size, 1, none⟩ = some (.int .i64 f.From) := F190.out.cell 1
    have ck8_2 : (w185).cell? ⟨w.heap.size, 2, none⟩ = some (.int .i64 f.To) := F190.out.cell 2
    have ck8_3 : (w185).cell? ⟨w.heap.size, 3, none⟩ = some (.int .i64 f.Seq) := F190.out.cell 3
    have ck8_4 : (w185).cell? ⟨w.heap.size, 4, none⟩ = some (.int .i64 f.Fragment) := F190.out.cell 4
    have ck8_5 : (w185).cell? ⟨w.heap.size, 5, none⟩ = some (.bool f.More) := F190.out.cell 5
    have ck8_6 : (w185).cell? ⟨w.heap.size, 6, none⟩ = some (.bool f.Retry) := F190.out.cell 6
    have ck8_7 : (w185).cell? ⟨w.heap.size, 7, none⟩ = some (.int .i64 f.Duration) := F190.out.cell 7
    have ck8_8 : (w185).cell? ⟨w.heap.size, 8, none⟩ = some (.slice Af nf cf) := F190.out.cell 8
    go_wp2_with fail
    clear ck8_0 ck8_1 ck8_2 ck8_3 ck8_4 ck8_5 ck8_6 ck8_7 ck8_8
    go_ret
    exact ⟨rfl, B186.out⟩
theorem walkA (f0 f1 f2 f3 f4 : Int) (f5 f6 : Bool) (f7 : Int) (Af : Option Addr) (nf cf : Nat) (zf : List Int) (t : Int) (w : World) (rowf : kit.IsRow .u8 w Af nf cf zf)  :
    Calls Try.prog 6 #[.agg #[.int .i64 f0, .int .i64 f1, .int .i64 f2, .int .i64 f3, .int .i64 f4, .bool f5, .bool f6, .int .i64 f7, .slice Af nf cf], .int .i64 t] w fun e w' => e = .returned (.bool true) ∧ Below w.heap.size w w' := by
  obtain ⟨y, hr⟩ := sl.Rd.of_row rowf
  exact walk ⟨f0, f1, f2, f3, f4, f5, f6, f7, y⟩ Af nf cf t w hr
end Go.Proofs.Ytjmenbpalihnnaa.xExactFragments
