/- The walk of FnExactStartReassembly. Condition: none. -/
import Derived.Test.YtjmenbpalihnnaaRcv
namespace Go.Proofs.Ytjmenbpalihnnaa.xExactStartReassembly
open Go.RowKit sl harn bx
set_option linter.unusedVariables false
set_option maxRecDepth 100000 in
set_option maxHeartbeats 4000000 in
theorem walk (f : ux.Fra) (Af : Option Addr) (nf cf : Nat) (now : Int) (w : World) (hf : sl.Rd .u8 w 0 w.heap.size Af nf cf f.Body)  :
    Calls Try.prog 8 #[ux.fraV f (.slice Af nf cf), .int .i64 now] w fun e w' => e = .returned (.bool true) ∧ Below w.heap.size w w' := by
  have B1 := Lib.hid (Below.refl w.heap.size w)
  have HLF := Lib.hid (show f.Body.length = nf from hf.len)
  have F2 := Lib.hid (fr.fra_of (f := f) hf)
  clear hf
  go_enter Try.func8, Try.ntmps8
  go_upto_region 1 with fail
  obtain ⟨we, hW⟩ : ∃ w0, w.alloc (.cells #[.int .i64 f.Kind, .int .i64 f.From, .int .i64 f.To, .int .i64 f.Seq, .int .i64 f.Fragment, .bool f.More, .bool f.Retry, .int .i64 f.Duration, .slice Af nf cf] 60) = w0 := ⟨_, rfl⟩
  rw [hW]
  have hb : Below w.heap.size w we := by rw [← hW]; exact (Below.refl _ _).alloc (by simp <;> omega) _
  have hz9 : w.heap.size + 1 ≤ we.heap.size := by rw [← hW]; simp
  have Z3 := Lib.hid hz9
  clear hz9
  have B4 := Lib.hid (B1.out.trans (hb.mono B1.out.size))
  have Z5 := Lib.hid hb.size
  have F6 := Lib.hid (F2.out.below hb)
  clear hb B1 F2
  have X7 := Lib.hid (show bx.Bx 60 we (w.heap.size) #[.int .i64 f.Kind, .int .i64 f.From, .int .i64 f.To, .int .i64 f.Seq, .int .i64 f.Fragment, .bool f.More, .bool f.Retry, .int .i64 f.Duration, .slice Af nf cf] by
      rw [← hW]
      have hh := bx.Bx.made 60 w #[.int .i64 f.Kind, .int .i64 f.From, .int .i64 f.To, .int .i64 f.Seq, .int .i64 f.Fragment, .bool f.More, .bool f.Retry, .int .i64 f.Duration, .slice Af nf cf]
      exact hh)
  clear hW
  have ck8_0 : (we).cell? ⟨w.heap.size, 0, none⟩ = some (.int .i64 f.Kind) := X7.out.cell 0
  have ck8_1 : (we).cell? ⟨w.heap.size, 1, none⟩ = some (.int .i64 f.From) := X7.out.cell 1
  have ck8_2 : (we).cell? ⟨w.heap.size, 2, none⟩ = some (.int .i64 f.To) := X7.out.cell 2
  have ck8_3 : (we).cell? ⟨w.heap.size, 3, none⟩ = some (.int .i64 f.Seq) := X7.out.cell 3
  have ck8_4 : (we).cell? ⟨w.heap.size, 4, none⟩ = some (.int .i64 f.Fragment) := X7.out.cell 4
  have ck8_5 : (we).cell? ⟨w.heap.size, 5, none⟩ = some (.bool f.More) := X7.out.cell 5
  have ck8_6 : (we).cell? ⟨w.heap.size, 6, none⟩ = some (.bool f.Retry) := X7.out.cell 6
  have ck8_7 : (we).cell? ⟨w.heap.size, 7, none⟩ = some (.int .i64 f.Duration) := X7.out.cell 7
  have ck8_8 : (we).cell? ⟨w.heap.size, 8, none⟩ = some (.slice Af nf cf) := X7.out.cell 8
  go_wp2_with fail
  clear ck8_0 ck8_1 ck8_2 ck8_3 ck8_4 ck8_5 ck8_6 ck8_7 ck8_8
  (with_reducible refine (ux.szMacFrame (1048576) (by omega) F6.out).mono ?_)
  rintro e w9 hp
  obtain ⟨r10, rfl, H11, hb⟩ := hp.parts
  have B12 := Lib.hid (B4.out.trans (hb.mono B4.out.size))
  have Z13 := Lib.hid hb.size
  have F14 := Lib.hid (F6.out.below hb)
  have F15 := Lib.hid (X7.out.below hb)
  clear hb B4 F6 X7
  rcases H11 with ⟨hr, _⟩ | ⟨hr, ht⟩
  · subst hr
    go_wp2_with fail
    go_ret
    exact ⟨rfl, B12.out⟩
  · have Q16 := Lib.hid (show 0 ≤ r10 ∧ r10 ≤ 1048576 by have := (by omega); omega)
    have S17 := Lib.hid (show ux.fra.sz f ≤ 67108864 by have := (by omega); omega)
    have ngr10 : ¬ r10 < 0 := by have := Q16.out; omega
    clear hr ht
    have HNF := Lib.hid (show nf ≤ 67108864 by have h1 := S17.out; have h2 : ux.fra.sz f = f.Body.length := rfl; have h3 := HLF.out; omega)
    obtain ⟨x9, hx9⟩ : ∃ x, fr.start f now = x := ⟨_, rfl⟩
    have HX := Lib.hid hx9
    have SX := Lib.hid (show ux.rea.sz x9 ≤ 67108864 by rw [← hx9]; exact S17.out)
    clear hx9
    have ck8_0 : (w9).cell? ⟨w.heap.size, 0, none⟩ = some (.int .i64 f.Kind) := F15.out.cell 0
    have ck8_1 : (w9).cell? ⟨w.heap.size, 1, none⟩ = some (.int .i64 f.From) := F15.out.cell 1
    have ck8_2 : (w9).cell? ⟨w.heap.size, 2, none⟩ = some (.int .i64 f.To) := F15.out.cell 2
    have ck8_3 : (w9).cell? ⟨w.heap.size, 3, none⟩ = some (.int .i64 f.Seq) := F15.out.cell 3
    have ck8_4 : (w9).cell? ⟨w.heap.size, 4, none⟩ = some (.int .i64 f.Fragment) := F15.out.cell 4
    have ck8_5 : (w9).cell? ⟨w.heap.size, 5, none⟩ = some (.bool f.More) := F15.out.cell 5
    have ck8_6 : (w9).cell? ⟨w.heap.size, 6, none⟩ = some (.bool f.Retry) := F15.out.cell 6
    have ck8_7 : (w9).cell? ⟨w.heap.size, 7, none⟩ = some (.int .i64 f.Duration) := F15.out.cell 7
    have ck8_8 : (w9).cell? ⟨w.heap.size, 8, none⟩ = some (.slice Af nf cf) := F15.out.cell 8
    go_wp2_with fail
    clear ck8_0 ck8_1 ck8_2 ck8_3 ck8_4 ck8_5 ck8_6 ck8_7 ck8_8
    (with_reducible refine (ux.toMacFrame F14.out S17.out).mono ?_)
    rintro e w18 hp
    obtain ⟨v23, fp22, rfl, ho, hb⟩ := hp.parts
    clear hp
    obtain ⟨A19, n20, c21, f9, rfl, _, _, _⟩ := ux.fra_o ho
    have F24 := Lib.hid ho
    clear ho
    have B25 := Lib.hid (B12.out.trans (hb.mono B12.out.size))
    have Z26 := Lib.hid hb.size
    have F27 := Lib.hid (F14.out.below hb)
    have F28 := Lib.hid (F15.out.below hb)
    clear hb B12 F14 F15
    have ck8_0 : (w18).cell? ⟨w.heap.size, 0, none⟩ = some (.int .i64 f.Kind) := F28.out.cell 0
    have ck8_1 : (w18).cell? ⟨w.heap.size, 1, none⟩ = some (.int .i64 f.From) := F28.out.cell 1
    have ck8_2 : (w18).cell? ⟨w.heap.size, 2, none⟩ = some (.int .i64 f.To) := F28.out.cell 2
    have ck8_3 : (w18).cell? ⟨w.heap.size, 3, none⟩ = some (.int .i64 f.Seq) := F28.out.cell 3
    have ck8_4 : (w18).cell? ⟨w.heap.size, 4, none⟩ = some (.int .i64 f.Fragment) := F28.out.cell 4
    have ck8_5 : (w18).cell? ⟨w.heap.size, 5, none⟩ = some (.bool f.More) := F28.out.cell 5
    have ck8_6 : (w18).cell? ⟨w.heap.size, 6, none⟩ = some (.bool f.Retry) := F28.out.cell 6
    have ck8_7 : (w18).cell? ⟨w.heap.size, 7, none⟩ = some (.int .i64 f.Duration) := F28.out.cell 7
    have ck8_8 : (w18).cell? ⟨w.heap.size, 8, none⟩ = some (.slice Af nf cf) := F28.out.cell 8
    go_wp2_with fail
    clear ck8_0 ck8_1 ck8_2 ck8_3 ck8_4 ck8_5 ck8_6 ck8_7 ck8_8
    (with_reducible refine (HX.out ▸ fr.specSr f now A19 n20 c21 _ _ _ (fr.fra_rd F24.out.rd) (by have h1 := (fr.fra_rd F24.out.rd).len; have h2 := HLF.out; have h3 := HNF.out; omega)).mono ?_)
    rintro e w29 hp
    obtain ⟨A30, n31, c32, rfl, ho, hb⟩ := fr.x_parts hp
    clear hp
    have ho2 := ux.rea_mk (x := x9) (ux.num_of ho) fr.blks_two
    clear ho
    have F33 := Lib.hid ho2
    clear ho2
    have B34 := Lib.hid (B25.out.trans (hb.mono B25.out.size))
    have Z35 := Lib.hid hb.size
    have F36 := Lib.hid (F27.out.below hb)
    have F37 := Lib.hid (F24.out.below hb)
    have F38 := Lib.hid (F28.out.below hb)
    clear hb B25 F27 F24 F28
    clear F37
    obtain ⟨V39, hV39⟩ : ∃ x, x = w29.alloc (.cells #[.int .i64 x9.From, .int .i64 x9.Seq, .int .i64 x9.Next, .slice A30 n31 c32, .int .i64 x9.Started] 58) := ⟨_, rfl⟩
    have hb : Below w29.heap.size w29 V39 := by rw [hV39]; exact bx.below_box _ _
    have hz9 : w29.heap.size + 1 ≤ V39.heap.size := by rw [hV39]; simp
    have Z40 := Lib.hid hz9
    clear hz9
    have B41 := Lib.hid (B34.out.trans (hb.mono B34.out.size))
    have Z42 := Lib.hid hb.size
    have F43 := Lib.hid (F36.out.below hb)
    have F44 := Lib.hid (F33.out.below hb)
    have F45 := Lib.hid (F38.out.below hb)
    clear hb B34 F36 F33 F38
    have X46 := Lib.hid (show bx.Bx 58 V39 w29.heap.size #[.int .i64 x9.From, .int .i64 x9.Seq, .int .i64 x9.Next, .slice A30 n31 c32, .int .i64 x9.Started] by rw [hV39]; exact bx.Bx.made _ _ _)
    have ck8_0 : (w29.alloc (.cells #[.int .i64 x9.From, .int .i64 x9.Seq, .int .i64 x9.Next, .slice A30 n31 c32, .int .i64 x9.Started] 58)).cell? ⟨w.heap.size, 0, none⟩ = some (.int .i64 f.Kind) := by rw [← hV39]; exact F45.out.cell 0
    have ck8_1 : (w29.alloc (.cells #[.int .i64 x9.From, .int .i64 x9.Seq, .int .i64 x9.Next, .slice A30 n31 c32, .int .i64 x9.Started] 58)).cell? ⟨w.heap.size, 1, none⟩ = some (.int .i64 f.From) := by rw [← hV39]; exact F45.out.cell 1
    have ck8_2 : (w29.alloc (.cells #[.int .i64 x9.From, .int .i64 x9.Seq, .int .i64 x9.Next, .slice A30 n31 c32, .int .i64 x9.Started] 58)).cell? ⟨w.heap.size, 2, none⟩ = some (.int .i64 f.To) := by rw [← hV39]; exact F45.out.cell 2
    have ck8_3 : (w29.alloc (.cells #[.int .i64 x9.From, .int .i64 x9.Seq, .int .i64 x9.Next, .slice A30 n31 c32, .int .i64 x9.Started] 58)).cell? ⟨w.heap.size, 3, none⟩ = some (.int .i64 f.Seq) := by rw [← hV39]; exact F45.out.cell 3
    have ck8_4 : (w29.alloc (.cells #[.int .i64 x9.From, .int .i64 x9.Seq, .int .i64 x9.Next, .slice A30 n31 c32, .int .i64 x9.Started] 58)).cell? ⟨w.heap.size, 4, none⟩ = some (.int .i64 f.Fragment) := by rw [← hV39]; exact F45.out.cell 4
    have ck8_5 : (w29.alloc (.cells #[.int .i64 x9.From, .int .i64 x9.Seq, .int .i64 x9.Next, .slice A30 n31 c32, .int .i64 x9.Started] 58)).cell? ⟨w.heap.size, 5, none⟩ = some (.bool f.More) := by rw [← hV39]; exact F45.out.cell 5
    have ck8_6 : (w29.alloc (.cells #[.int .i64 x9.From, .int .i64 x9.Seq, .int .i64 x9.Next, .slice A30 n31 c32, .int .i64 x9.Started] 58)).cell? ⟨w.heap.size, 6, none⟩ = some (.bool f.Retry) := by rw [← hV39]; exact F45.out.cell 6
    have ck8_7 : (w29.alloc (.cells #[.int .i64 x9.From, .int .i64 x9.Seq, .int .i64 x9.Next, .slice A30 n31 c32, .int .i64 x9.Started] 58)).cell? ⟨w.heap.size, 7, none⟩ = some (.int .i64 f.Duration) := by rw [← hV39]; exact F45.out.cell 7
    have ck8_8 : (w29.alloc (.cells #[.int .i64 x9.From, .int .i64 x9.Seq, .int .i64 x9.Next, .slice A30 n31 c32, .int .i64 x9.Started] 58)).cell? ⟨w.heap.size, 8, none⟩ = some (.slice Af nf cf) := by rw [← hV39]; exact F45.out.cell 8
    have ck47_0 : (w29.alloc (.cells #[.int .i64 x9.From, .int .i64 x9.Seq, .int .i64 x9.Next, .slice A30 n31 c32, .int .i64 x9.Started] 58)).cell? ⟨w29.heap.size, 0, none⟩ = some (.int .i64 x9.From) := by rw [← hV39]; exact X46.out.cell 0
    have ck47_1 : (w29.alloc (.cells #[.int .i64 x9.From, .int .i64 x9.Seq, .int .i64 x9.Next, .slice A30 n31 c32, .int .i64 x9.Started] 58)).cell? ⟨w29.heap.size, 1, none⟩ = some (.int .i64 x9.Seq) := by rw [← hV39]; exact X46.out.cell 1
    have ck47_2 : (w29.alloc (.cells #[.int .i64 x9.From, .int .i64 x9.Seq, .int .i64 x9.Next, .slice A30 n31 c32, .int .i64 x9.Started] 58)).cell? ⟨w29.heap.size, 2, none⟩ = some (.int .i64 x9.Next) := by rw [← hV39]; exact X46.out.cell 2
    have ck47_3 : (w29.alloc (.cells #[.int .i64 x9.From, .int .i64 x9.Seq, .int .i64 x9.Next, .slice A30 n31 c32, .int .i64 x9.Started] 58)).cell? ⟨w29.heap.size, 3, none⟩ = some (.slice A30 n31 c32) := by rw [← hV39]; exact X46.out.cell 3
    have ck47_4 : (w29.alloc (.cells #[.int .i64 x9.From, .int .i64 x9.Seq, .int .i64 x9.Next, .slice A30 n31 c32, .int .i64 x9.Started] 58)).cell? ⟨w29.heap.size, 4, none⟩ = some (.int .i64 x9.Started) := by rw [← hV39]; exact X46.out.cell 4
    go_wp2_with fail
    rw [← hV39]
    clear hV39 ck8_0 ck8_1 ck8_2 ck8_3 ck8_4 ck8_5 ck8_6 ck8_7 ck8_8 ck47_0 ck47_1 ck47_2 ck47_3 ck47_4
    (with_reducible refine (ux.toMacFrame F43.out S17.out).mono ?_)
    rintro e w48 hp
    obtain ⟨v53, fp52, rfl, ho, hb⟩ := hp.parts
    clear hp
    obtain ⟨A49, n50, c51, f9, rfl, _, _, _⟩ := ux.fra_o ho
    have F54 := Lib.hid ho
    clear ho
    have B55 := Lib.hid (B41.out.trans (hb.mono B41.out.size))
    have Z56 := Lib.hid hb.size
    have F57 := Lib.hid (F43.out.below hb)
    have F58 := Lib.hid (F44.out.below hb)
    have F59 := Lib.hid (F45.out.below hb)
    have F60 := Lib.hid (X46.out.below hb)
    clear hb B41 F43 F44 F45 X46
    obtain ⟨V61, hV61⟩ : ∃ x, x = w48.alloc (.cells #[.int .i64 f.Kind, .int .i64 f.From, .int .i64 f.To, .int .i64 f.Seq, .int .i64 f.Fragment, .bool f.More, .bool f.Retry, .int .i64 f.Duration, .slice A49 n50 c51] 45) := ⟨_, rfl⟩
    have hb : Below w48.heap.size w48 V61 := by rw [hV61]; exact bx.below_box _ _
    have hz9 : w48.heap.size + 1 ≤ V61.heap.size := by rw [hV61]; simp
    have Z62 := Lib.hid hz9
    clear hz9
    have B63 := Lib.hid (B55.out.trans (hb.mono B55.out.size))
    have Z64 := Lib.hid hb.size
    have F65 := Lib.hid (F57.out.below hb)
    have F66 := Lib.hid (F58.out.below hb)
    have F67 := Lib.hid (F54.out.below hb)
    have F68 := Lib.hid (F59.out.below hb)
    have F69 := Lib.hid (F60.out.below hb)
    clear hb B55 F57 F58 F54 F59 F60
    have X70 := Lib.hid (show bx.Bx 45 V61 w48.heap.size #[.int .i64 f.Kind, .int .i64 f.From, .int .i64 f.To, .int .i64 f.Seq, .int .i64 f.Fragment, .bool f.More, .bool f.Retry, .int .i64 f.Duration, .slice A49 n50 c51] by rw [hV61]; exact bx.Bx.made _ _ _)
    have ck8_0 : (w48.alloc (.cells #[.int .i64 f.Kind, .int .i64 f.From, .int .i64 f.To, .int .i64 f.Seq, .int .i64 f.Fragment, .bool f.More, .bool f.Retry, .int .i64 f.Duration, .slice A49 n50 c51] 45)).cell? ⟨w.heap.size, 0, none⟩ = some (.int .i64 f.Kind) := by rw [← hV61]; exact F68.out.cell 0
    have ck8_1 : (w48.alloc (.cells #[.int .i64 f.Kind, .int .i64 f.From, .int .i64 f.To, .int .i64 f.Seq, .int .i64 f.Fragment, .bool f.More, .bool f.Retry, .int .i64 f.Duration, .slice A49 n50 c51] 45)).cell? ⟨w.heap.size, 1, none⟩ = some (.int .i64 f.From) := by rw [← hV61]; exact F68.out.cell 1
    have ck8_2 : (w48.alloc (.cells #[.int .i64 f.Kind, .int .i64 f.From, .int .i64 f.To, .int .i64 f.Seq, .int .i64 f.Fragment, .bool f.More, .bool f.Retry, .int .i64 f.Duration, .slice A49 n50 c51] 45)).cell? ⟨w.heap.size, 2, none⟩ = some (.int .i64 f.To) := by rw [← hV61]; exact F68.out.cell 2
    have ck8_3 : (w48.alloc (.cells #[.int .i64 f.Kind, .int .i64 f.From, .int .i64 f.To, .int .i64 f.Seq, .int .i64 f.Fragment, .bool f.More, .bool f.Retry, .int .i64 f.Duration, .slice A49 n50 c51] 45)).cell? ⟨w.heap.size, 3, none⟩ = some (.int .i64 f.Seq) := by rw [← hV61]; exact F68.out.cell 3
    have ck8_4 : (w48.alloc (.cells #[.int .i64 f.Kind, .int .i64 f.From, .int .i64 f.To, .int .i64 f.Seq, .int .i64 f.Fragment, .bool f.More, .bool f.Retry, .int .i64 f.Duration, .slice A49 n50 c51] 45)).cell? ⟨w.heap.size, 4, none⟩ = some (.int .i64 f.Fragment) := by rw [← hV61]; exact F68.out.cell 4
    have ck8_5 : (w48.alloc (.cells #[.int .i64 f.Kind, .int .i64 f.From, .int .i64 f.To, .int .i64 f.Seq, .int .i64 f.Fragment, .bool f.More, .bool f.Retry, .int .i64 f.Duration, .slice A49 n50 c51] 45)).cell? ⟨w.heap.size, 5, none⟩ = some (.bool f.More) := by rw [← hV61]; exact F68.out.cell 5
    have ck8_6 : (w48.alloc (.cells #[.int .i64 f.Kind, .int .i64 f.From, .int .i64 f.To, .int .i64 f.Seq, .int .i64 f.Fragment, .bool f.More, .bool f.Retry, .int .i64 f.Duration, .slice A49 n50 c51] 45)).cell? ⟨w.heap.size, 6, none⟩ = some (.bool f.Retry) := by rw [← hV61]; exact F68.out.cell 6
    have ck8_7 : (w48.alloc (.cells #[.int .i64 f.Kind, .int .i64 f.From, .int .i64 f.To, .int .i64 f.Seq, .int .i64 f.Fragment, .bool f.More, .bool f.Retry, .int .i64 f.Duration, .slice A49 n50 c51] 45)).cell? ⟨w.heap.size, 7, none⟩ = some (.int .i64 f.Duration) := by rw [← hV61]; exact F68.out.cell 7
    have ck8_8 : (w48.alloc (.cells #[.int .i64 f.Kind, .int .i64 f.From, .int .i64 f.To, .int .i64 f.Seq, .int .i64 f.Fragment, .bool f.More, .bool f.Retry, .int .i64 f.Duration, .slice A49 n50 c51] 45)).cell? ⟨w.heap.size, 8, none⟩ = some (.slice Af nf cf) := by rw [← hV61]; exact F68.out.cell 8
    have ck47_0 : (w48.alloc (.cells #[.int .i64 f.Kind, .int .i64 f.From, .int .i64 f.To, .int .i64 f.Seq, .int .i64 f.Fragment, .bool f.More, .bool f.Retry, .int .i64 f.Duration, .slice A49 n50 c51] 45)).cell? ⟨w29.heap.size, 0, none⟩ = some (.int .i64 x9.From) := by rw [← hV61]; exact F69.out.cell 0
    have ck47_1 : (w48.alloc (.cells #[.int .i64 f.Kind, .int .i64 f.From, .int .i64 f.To, .int .i64 f.Seq, .int .i64 f.Fragment, .bool f.More, .bool f.Retry, .int .i64 f.Duration, .slice A49 n50 c51] 45)).cell? ⟨w29.heap.size, 1, none⟩ = some (.int .i64 x9.Seq) := by rw [← hV61]; exact F69.out.cell 1
    have ck47_2 : (w48.alloc (.cells #[.int .i64 f.Kind, .int .i64 f.From, .int .i64 f.To, .int .i64 f.Seq, .int .i64 f.Fragment, .bool f.More, .bool f.Retry, .int .i64 f.Duration, .slice A49 n50 c51] 45)).cell? ⟨w29.heap.size, 2, none⟩ = some (.int .i64 x9.Next) := by rw [← hV61]; exact F69.out.cell 2
    have ck47_3 : (w48.alloc (.cells #[.int .i64 f.Kind, .int .i64 f.From, .int .i64 f.To, .int .i64 f.Seq, .int .i64 f.Fragment, .bool f.More, .bool f.Retry, .int .i64 f.Duration, .slice A49 n50 c51] 45)).cell? ⟨w29.heap.size, 3, none⟩ = some (.slice A30 n31 c32) := by rw [← hV61]; exact F69.out.cell 3
    have ck47_4 : (w48.alloc (.cells #[.int .i64 f.Kind, .int .i64 f.From, .int .i64 f.To, .int .i64 f.Seq, .int .i64 f.Fragment, .bool f.More, .bool f.Retry, .int .i64 f.Duration, .slice A49 n50 c51] 45)).cell? ⟨w29.heap.size, 4, none⟩ = some (.int .i64 x9.Started) := by rw [← hV61]; exact F69.out.cell 4
    have ck71_0 : (w48.alloc (.cells #[.int .i64 f.Kind, .int .i64 f.From, .int .i64 f.To, .int .i64 f.Seq, .int .i64 f.Fragment, .bool f.More, .bool f.Retry, .int .i64 f.Duration, .slice A49 n50 c51] 45)).cell? ⟨w48.heap.size, 0, none⟩ = some (.int .i64 f.Kind) := by rw [← hV61]; exact X70.out.cell 0
    have ck71_1 : (w48.alloc (.cells #[.int .i64 f.Kind, .int .i64 f.From, .int .i64 f.To, .int .i64 f.Seq, .int .i64 f.Fragment, .bool f.More, .bool f.Retry, .int .i64 f.Duration, .slice A49 n50 c51] 45)).cell? ⟨w48.heap.size, 1, none⟩ = some (.int .i64 f.From) := by rw [← hV61]; exact X70.out.cell 1
    have ck71_2 : (w48.alloc (.cells #[.int .i64 f.Kind, .int .i64 f.From, .int .i64 f.To, .int .i64 f.Seq, .int .i64 f.Fragment, .bool f.More, .bool f.Retry, .int .i64 f.Duration, .slice A49 n50 c51] 45)).cell? ⟨w48.heap.size, 2, none⟩ = some (.int .i64 f.To) := by rw [← hV61]; exact X70.out.cell 2
    have ck71_3 : (w48.alloc (.cells #[.int .i64 f.Kind, .int .i64 f.From, .int .i64 f.To, .int .i64 f.Seq, .int .i64 f.Fragment, .bool f.More, .bool f.Retry, .int .i64 f.Duration, .slice A49 n50 c51] 45)).cell? ⟨w48.heap.size, 3, none⟩ = some (.int .i64 f.Seq) := by rw [← hV61]; exact X70.out.cell 3
    have ck71_4 : (w48.alloc (.cells #[.int .i64 f.Kind, .int .i64 f.From, .int .i64 f.To, .int .i64 f.Seq, .int .i64 f.Fragment, .bool f.More, .bool f.Retry, .int .i64 f.Duration, .slice A49 n50 c51] 45)).cell? ⟨w48.heap.size, 4, none⟩ = some (.int .i64 f.Fragment) := by rw [← hV61]; exact X70.out.cell 4
    have ck71_5 : (w48.alloc (.cells #[.int .i64 f.Kind, .int .i64 f.From, .int .i64 f.To, .int .i64 f.Seq, .int .i64 f.Fragment, .bool f.More, .bool f.Retry, .int .i64 f.Duration, .slice A49 n50 c51] 45)).cell? ⟨w48.heap.size, 5, none⟩ = some (.bool f.More) := by rw [← hV61]; exact X70.out.cell 5
    have ck71_6 : (w48.alloc (.cells #[.int .i64 f.Kind, .int .i64 f.From, .int .i64 f.To, .int .i64 f.Seq, .int .i64 f.Fragment, .bool f.More, .bool f.Retry, .int .i64 f.Duration, .slice A49 n50 c51] 45)).cell? ⟨w48.heap.size, 6, none⟩ = some (.bool f.Retry) := by rw [← hV61]; exact X70.out.cell 6
    have ck71_7 : (w48.alloc (.cells #[.int .i64 f.Kind, .int .i64 f.From, .int .i64 f.To, .int .i64 f.Seq, .int .i64 f.Fragment, .bool f.More, .bool f.Retry, .int .i64 f.Duration, .slice A49 n50 c51] 45)).cell? ⟨w48.heap.size, 7, none⟩ = some (.int .i64 f.Duration) := by rw [← hV61]; exact X70.out.cell 7
    have ck71_8 : (w48.alloc (.cells #[.int .i64 f.Kind, .int .i64 f.From, .int .i64 f.To, .int .i64 f.Seq, .int .i64 f.Fragment, .bool f.More, .bool f.Retry, .int .i64 f.Duration, .slice A49 n50 c51] 45)).cell? ⟨w48.heap.size, 8, none⟩ = some (.slice A49 n50 c51) := by rw [← hV61]; exact X70.out.cell 8
    go_wp2_with fail
    rw [← hV61]
    clear hV61 ck8_0 ck8_1 ck8_2 ck8_3 ck8_4 ck8_5 ck8_6 ck8_7 ck8_8 ck47_0 ck47_1 ck47_2 ck47_3 ck47_4 ck71_0 ck71_1 ck71_2 ck71_3 ck71_4 ck71_5 ck71_6 ck71_7 ck71_8
    (with_reducible refine (HX.out ▸ fr.implSr f now A49 n50 c51 _ _ _ (fr.fra_rd F67.out.rd) (by have h1 := (fr.fra_rd F67.out.rd).len; have h2 := HLF.out; have h3 := HNF.out; omega)).mono ?_)
    rintro e w72 hp
    obtain ⟨A73, n74, c75, rfl, ho, hb⟩ := fr.x_parts hp
    clear hp
    have ho2 := ux.rea_mk (x := x9) (ux.num_of ho) fr.blks_two
    clear ho
    have F76 := Lib.hid ho2
    clear ho2
    have B77 := Lib.hid (B63.out.trans (hb.mono B63.out.size))
    have Z78 := Lib.hid hb.size
    have F79 := Lib.hid (F65.out.below hb)
    have F80 := Lib.hid (F66.out.below hb)
    have F81 := Lib.hid (F67.out.below hb)
    have F82 := Lib.hid (F68.out.below hb)
    have F83 := Lib.hid (F69.out.below hb)
    have F84 := Lib.hid (X70.out.below hb)
    clear hb B63 F65 F66 F67 F68 F69 X70
    obtain ⟨V85, hV85⟩ : ∃ x, x = w72.alloc (.cells #[.int .i64 x9.From, .int .i64 x9.Seq, .int .i64 x9.Next, .slice A73 n74 c75, .int .i64 x9.Started] 58) := ⟨_, rfl⟩
    have hb : Below w72.heap.size w72 V85 := by rw [hV85]; exact bx.below_box _ _
    have hz9 : w72.heap.size + 1 ≤ V85.heap.size := by rw [hV85]; simp
    have Z86 := Lib.hid hz9
    clear hz9
    have B87 := Lib.hid (B77.out.trans (hb.mono B77.out.size))
    have Z88 := Lib.hid hb.size
    have F89 := Lib.hid (F79.out.below hb)
    have F90 := Lib.hid (F80.out.below hb)
    have F91 := Lib.hid (F81.out.below hb)
    have F92 := Lib.hid (F76.out.below hb)
    have F93 := Lib.hid (F82.out.below hb)
    have F94 := Lib.hid (F83.out.below hb)
    have F95 := Lib.hid (F84.out.below hb)
    clear hb B77 F79 F80 F81 F76 F82 F83 F84
    have X96 := Lib.hid (show bx.Bx 58 V85 w72.heap.size #[.int .i64 x9.From, .int .i64 x9.Seq, .int .i64 x9.Next, .slice A73 n74 c75, .int .i64 x9.Started] by rw [hV85]; exact bx.Bx.made _ _ _)
    have ck8_0 : (w72.alloc (.cells #[.int .i64 x9.From, .int .i64 x9.Seq, .int .i64 x9.Next, .slice A73 n74 c75, .int .i64 x9.Started] 58)).cell? ⟨w.heap.size, 0, none⟩ = some (.int .i64 f.Kind) := by rw [← hV85]; exact F93.out.cell 0
    have ck8_1 : (w72.alloc (.cells #[.int .i64 x9.From, .int .i64 x9.Seq, .int .i64 x9.Next, .slice A73 n74 c75, .int .i64 x9.Started] 58)).cell? ⟨w.heap.size, 1, none⟩ = some (.int .i64 f.From) := by rw [← hV85]; exact F93.out.cell 1
    have ck8_2 : (w72.alloc (.cells #[.int .i64 x9.From, .int .i64 x9.Seq, .int .i64 x9.Next, .slice A73 n74 c75, .int .i64 x9.Started] 58)).cell? ⟨w.heap.size, 2, none⟩ = some (.int .i64 f.To) := by rw [← hV85]; exact F93.out.cell 2
    have ck8_3 : (w72.alloc (.cells #[.int .i64 x9.From, .int .i64 x9.Seq, .int .i64 x9.Next, .slice A73 n74 c75, .int .i64 x9.Started] 58)).cell? ⟨w.heap.size, 3, none⟩ = some (.int .i64 f.Seq) := by rw [← hV85]; exact F93.out.cell 3
    have ck8_4 : (w72.alloc (.cells #[.int .i64 x9.From, .int .i64 x9.Seq, .int .i64 x9.Next, .slice A73 n74 c75, .int .i64 x9.Started] 58)).cell? ⟨w.heap.size, 4, none⟩ = some (.int .i64 f.Fragment) := by rw [← hV85]; exact F93.out.cell 4
    have ck8_5 : (w72.alloc (.cells #[.int .i64 x9.From, .int .i64 x9.Seq, .int .i64 x9.Next, .slice A73 n74 c75, .int .i64 x9.Started] 58)).cell? ⟨w.heap.size, 5, none⟩ = some (.bool f.More) := by rw [← hV85]; exact F93.out.cell 5
    have ck8_6 : (w72.alloc (.cells #[.int .i64 x9.From, .int .i64 x9.Seq, .int .i64 x9.Next, .slice A73 n74 c75, .int .i64 x9.Started] 58)).cell? ⟨w.heap.size, 6, none⟩ = some (.bool f.Retry) := by rw [← hV85]; exact F93.out.cell 6
    have ck8_7 : (w72.alloc (.cells #[.int .i64 x9.From, .int .i64 x9.Seq, .int .i64 x9.Next, .slice A73 n74 c75, .int .i64 x9.Started] 58)).cell? ⟨w.heap.size, 7, none⟩ = some (.int .i64 f.Duration) := by rw [← hV85]; exact F93.out.cell 7
    have ck8_8 : (w72.alloc (.cells #[.int .i64 x9.From, .int .i64 x9.Seq, .int .i64 x9.Next, .slice A73 n74 c75, .int .i64 x9.Started] 58)).cell? ⟨w.heap.size, 8, none⟩ = some (.slice Af nf cf) := by rw [← hV85]; exact F93.out.cell 8
    have ck47_0 : (w72.alloc (.cells #[.int .i64 x9.From, .int .i64 x9.Seq, .int .i64 x9.Next, .slice A73 n74 c75, .int .i64 x9.Started] 58)).cell? ⟨w29.heap.size, 0, none⟩ = some (.int .i64 x9.From) := by rw [← hV85]; exact F94.out.cell 0
    have ck47_1 : (w72.alloc (.cells #[.int .i64 x9.From, .int .i64 x9.Seq, .int .i64 x9.Next, .slice A73 n74 c75, .int .i64 x9.Started] 58)).cell? ⟨w29.heap.size, 1, none⟩ = some (.int .i64 x9.Seq) := by rw [← hV85]; exact F94.out.cell 1
    have ck47_2 : (w72.alloc (.cells #[.int .i64 x9.From, .int .i64 x9.Seq, .int .i64 x9.Next, .slice A73 n74 c75, .int .i64 x9.Started] 58)).cell? ⟨w29.heap.size, 2, none⟩ = some (.int .i64 x9.Next) := by rw [← hV85]; exact F94.out.cell 2
    have ck47_3 : (w72.alloc (.cells #[.int .i64 x9.From, .int .i64 x9.Seq, .int .i64 x9.Next, .slice A73 n74 c75, .int .i64 x9.Started] 58)).cell? ⟨w29.heap.size, 3, none⟩ = some (.slice A30 n31 c32) := by rw [← hV85]; exact F94.out.cell 3
    have ck47_4 : (w72.alloc (.cells #[.int .i64 x9.From, .int .i64 x9.Seq, .int .i64 x9.Next, .slice A73 n74 c75, .int .i64 x9.Started] 58)).cell? ⟨w29.heap.size, 4, none⟩ = some (.int .i64 x9.Started) := by rw [← hV85]; exact F94.out.cell 4
    have ck71_0 : (w72.alloc (.cells #[.int .i64 x9.From, .int .i64 x9.Seq, .int .i64 x9.Next, .slice A73 n74 c75, .int .i64 x9.Started] 58)).cell? ⟨w48.heap.size, 0, none⟩ = some (.int .i64 f.Kind) := by rw [← hV85]; exact F95.out.cell 0
    have ck71_1 : (w72.alloc (.cells #[.int .i64 x9.From, .int .i64 x9.Seq, .int .i64 x9.Next, .slice A73 n74 c75, .int .i64 x9.Started] 58)).cell? ⟨w48.heap.size, 1, none⟩ = some (.int .i64 f.From) := by rw [← hV85]; exact F95.out.cell 1
    have ck71_2 : (w72.alloc (.cells #[.int .i64 x9.From, .int .i64 x9.Seq, .int .i64 x9.Next, .slice A73 n74 c75, .int .i64 x9.Started] 58)).cell? ⟨w48.heap.size, 2, none⟩ = some (.int .i64 f.To) := by rw [← hV85]; exact F95.out.cell 2
    have ck71_3 : (w72.alloc (.cells #[.int .i64 x9.From, .int .i64 x9.Seq, .int .i64 x9.Next, .slice A73 n74 c75, .int .i64 x9.Started] 58)).cell? ⟨w48.heap.size, 3, none⟩ = some (.int .i64 f.Seq) := by rw [← hV85]; exact F95.out.cell 3
    have ck71_4 : (w72.alloc (.cells #[.int .i64 x9.From, .int .i64 x9.Seq, .int .i64 x9.Next, .slice A73 n74 c75, .int .i64 x9.Started] 58)).cell? ⟨w48.heap.size, 4, none⟩ = some (.int .i64 f.Fragment) := by rw [← hV85]; exact F95.out.cell 4
    have ck71_5 : (w72.alloc (.cells #[.int .i64 x9.From, .int .i64 x9.Seq, .int .i64 x9.Next, .slice A73 n74 c75, .int .i64 x9.Started] 58)).cell? ⟨w48.heap.size, 5, none⟩ = some (.bool f.More) := by rw [← hV85]; exact F95.out.cell 5
    have ck71_6 : (w72.alloc (.cells #[.int .i64 x9.From, .int .i64 x9.Seq, .int .i64 x9.Next, .slice A73 n74 c75, .int .i64 x9.Started] 58)).cell? ⟨w48.heap.size, 6, none⟩ = some (.bool f.Retry) := by rw [← hV85]; exact F95.out.cell 6
    have ck71_7 : (w72.alloc (.cells #[.int .i64 x9.From, .int .i64 x9.Seq, .int .i64 x9.Next, .slice A73 n74 c75, .int .i64 x9.Started] 58)).cell? ⟨w48.heap.size, 7, none⟩ = some (.int .i64 f.Duration) := by rw [← hV85]; exact F95.out.cell 7
    have ck71_8 : (w72.alloc (.cells #[.int .i64 x9.From, .int .i64 x9.Seq, .int .i64 x9.Next, .slice A73 n74 c75, .int .i64 x9.Started] 58)).cell? ⟨w48.heap.size, 8, none⟩ = some (.slice A49 n50 c51) := by rw [← hV85]; exact F95.out.cell 8
    have ck97_0 : (w72.alloc (.cells #[.int .i64 x9.From, .int .i64 x9.Seq, .int .i64 x9.Next, .slice A73 n74 c75, .int .i64 x9.Started] 58)).cell? ⟨w72.heap.size, 0, none⟩ = some (.int .i64 x9.From) := by rw [← hV85]; exact X96.out.cell 0
    have ck97_1 : (w72.alloc (.cells #[.int .i64 x9.From, .int .i64 x9.Seq, .int .i64 x9.Next, .slice A73 n74 c75, .int .i64 x9.Started] 58)).cell? ⟨w72.heap.size, 1, none⟩ = some (.int .i64 x9.Seq) := by rw [← hV85]; exact X96.out.cell 1
    have ck97_2 : (w72.alloc (.cells #[.int .i64 x9.From, .int .i64 x9.Seq, .int .i64 x9.Next, .slice A73 n74 c75, .int .i64 x9.Started] 58)).cell? ⟨w72.heap.size, 2, none⟩ = some (.int .i64 x9.Next) := by rw [← hV85]; exact X96.out.cell 2
    have ck97_3 : (w72.alloc (.cells #[.int .i64 x9.From, .int .i64 x9.Seq, .int .i64 x9.Next, .slice A73 n74 c75, .int .i64 x9.Started] 58)).cell? ⟨w72.heap.size, 3, none⟩ = some (.slice A73 n74 c75) := by rw [← hV85]; exact X96.out.cell 3
    have ck97_4 : (w72.alloc (.cells #[.int .i64 x9.From, .int .i64 x9.Seq, .int .i64 x9.Next, .slice A73 n74 c75, .int .i64 x9.Started] 58)).cell? ⟨w72.heap.size, 4, none⟩ = some (.int .i64 x9.Started) := by rw [← hV85]; exact X96.out.cell 4
    go_wp2_with fail
    rw [← hV85]
    clear hV85 ck8_0 ck8_1 ck8_2 ck8_3 ck8_4 ck8_5 ck8_6 ck8_7 ck8_8 ck47_0 ck47_1 ck47_2 ck47_3 ck47_4 ck71_0 ck71_1 ck71_2 ck71_3 ck71_4 ck71_5 ck71_6 ck71_7 ck71_8 ck97_0 ck97_1 ck97_2 ck97_3 ck97_4
    (with_reducible refine (ux.eqReassembly F92.out.rd F90.out.rd).mono ?_)
    rintro e w98 hp
    obtain ⟨rfl, hb⟩ := bx.b_parts rfl hp
    clear hp
    have B99 := Lib.hid (B87.out.trans (hb.mono B87.out.size))
    have Z100 := Lib.hid hb.size
    have F101 := Lib.hid (F89.out.below hb)
    have F102 := Lib.hid (F90.out.below hb)
    have F103 := Lib.hid (F91.out.below hb)
    have F104 := Lib.hid (F92.out.below hb)
    have F105 := Lib.hid (F93.out.below hb)
    have F106 := Lib.hid (F94.out.below hb)
    have F107 := Lib.hid (F95.out.below hb)
    have F108 := Lib.hid (X96.out.below hb)
    clear hb B87 F89 F90 F91 F92 F93 F94 F95 X96
    have ck8_0 : (w98).cell? ⟨w.heap.size, 0, none⟩ = some (.int .i64 f.Kind) := F105.out.cell 0
    have ck8_1 : (w98).cell? ⟨w.heap.size, 1, none⟩ = some (.int .i64 f.From) := F105.out.cell 1
    have ck8_2 : (w98).cell? ⟨w.heap.size, 2, none⟩ = some (.int .i64 f.To) := F105.out.cell 2
    have ck8_3 : (w98).cell? ⟨w.heap.size, 3, none⟩ = some (.int .i64 f.Seq) := F105.out.cell 3
    have ck8_4 : (w98).cell? ⟨w.heap.size, 4, none⟩ = some (.int .i64 f.Fragment) := F105.out.cell 4
    have ck8_5 : (w98).cell? ⟨w.heap.size, 5, none⟩ = some (.bool f.More) := F105.out.cell 5
    have ck8_6 : (w98).cell? ⟨w.heap.size, 6, none⟩ = some (.bool f.Retry) := F105.out.cell 6
    have ck8_7 : (w98).cell? ⟨w.heap.size, 7, none⟩ = some (.int .i64 f.Duration) := F105.out.cell 7
    have ck8_8 : (w98).cell? ⟨w.heap.size, 8, none⟩ = some (.slice Af nf cf) := F105.out.cell 8
    have ck47_0 : (w98).cell? ⟨w29.heap.size, 0, none⟩ = some (.int .i64 x9.From) := F106.out.cell 0
    have ck47_1 : (w98).cell? ⟨w29.heap.size, 1, none⟩ = some (.int .i64 x9.Seq) := F106.out.cell 1
    have ck47_2 : (w98).cell? ⟨w29.heap.size, 2, none⟩ = some (.int .i64 x9.Next) := F106.out.cell 2
    have ck47_3 : (w98).cell? ⟨w29.heap.size, 3, none⟩ = some (.slice A30 n31 c32) := F106.out.cell 3
    have ck47_4 : (w98).cell? ⟨w29.heap.size, 4, none⟩ = some (.int .i64 x9.Started) := F106.out.cell 4
    have ck71_0 : (w98).cell? ⟨w48.heap.size, 0, none⟩ = some (.int .i64 f.Kind) := F107.out.cell 0
    have ck71_1 : (w98).cell? ⟨w48.heap.size, 1, none⟩ = some (.int .i64 f.From) := F107.out.cell 1
    have ck71_2 : (w98).cell? ⟨w48.heap.size, 2, none⟩ = some (.int .i64 f.To) := F107.out.cell 2
    have ck71_3 : (w98).cell? ⟨w48.heap.size, 3, none⟩ = some (.int .i64 f.Seq) := F107.out.cell 3
    have ck71_4 : (w98).cell? ⟨w48.heap.size, 4, none⟩ = some (.int .i64 f.Fragment) := F107.out.cell 4
    have ck71_5 : (w98).cell? ⟨w48.heap.size, 5, none⟩ = some (.bool f.More) := F107.out.cell 5
    have ck71_6 : (w98).cell? ⟨w48.heap.size, 6, none⟩ = some (.bool f.Retry) := F107.out.cell 6
    have ck71_7 : (w98).cell? ⟨w48.heap.size, 7, none⟩ = some (.int .i64 f.Duration) := F107.out.cell 7
    have ck71_8 : (w98).cell? ⟨w48.heap.size, 8, none⟩ = some (.slice A49 n50 c51) := F107.out.cell 8
    have ck97_0 : (w98).cell? ⟨w72.heap.size, 0, none⟩ = some (.int .i64 x9.From) := F108.out.cell 0
    have ck97_1 : (w98).cell? ⟨w72.heap.size, 1, none⟩ = some (.int .i64 x9.Seq) := F108.out.cell 1
    have ck97_2 : (w98).cell? ⟨w72.heap.size, 2, none⟩ = some (.int .i64 x9.Next) := F108.out.cell 2
    have ck97_3 : (w98).cell? ⟨w72.heap.size, 3, none⟩ = some (.slice A73 n74 c75) := F108.out.cell 3
    have ck97_4 : (w98).cell? ⟨w72.heap.size, 4, none⟩ = some (.int .i64 x9.Started) := F108.out.cell 4
    go_wp2_with fail
    clear ck8_0 ck8_1 ck8_2 ck8_3 ck8_4 ck8_5 ck8_6 ck8_7 ck8_8 ck47_0 ck47_1 ck47_2 ck47_3 ck47_4 ck71_0 ck71_1 ck71_2 ck71_3 ck71_4 ck71_5 ck71_6 ck71_7 ck71_8 ck97_0 ck97_1 ck97_2 ck97_3 ck97_4
    have hb : Below w98.heap.size w98 w98.drew := own.below_drew (Below.refl _ _)
    have B109 := Lib.hid (B99.out.trans (hb.mono B99.out.size))
    have Z110 := Lib.hid hb.size
    have F111 := Lib.hid (F101.out.below hb)
    have F112 := Lib.hid (F102.out.below hb)
    have F113 := Lib.hid (F103.out.below hb)
    have F114 := Lib.hid (F104.out.below hb)
    have F115 := Lib.hid (F105.out.below hb)
    have F116 := Lib.hid (F106.out.below hb)
    have F117 := Lib.hid (F107.out.below hb)
    have F118 := Lib.hid (F108.out.below hb)
    clear hb B99 F101 F102 F103 F104 F105 F106 F107 F108
    have cak71_0 : (w98.drew).cell? ⟨w48.heap.size, 0, none⟩ = some (.int .i64 f.Kind) := F117.out.cell 0
    have cak71_1 : (w98.drew).cell? ⟨w48.heap.size, 1, none⟩ = some (.int .i64 f.From) := F117.out.cell 1
    have cak71_2 : (w98.drew).cell? ⟨w48.heap.size, 2, none⟩ = some (.int .i64 f.To) := F117.out.cell 2
    have cak71_3 : (w98.drew).cell? ⟨w48.heap.size, 3, none⟩ = some (.int .i64 f.Seq) := F117.out.cell 3
    have cak71_4 : (w98.drew).cell? ⟨w48.heap.size, 4, none⟩ = some (.int .i64 f.Fragment) := F117.out.cell 4
    have cak71_5 : (w98.drew).cell? ⟨w48.heap.size, 5, none⟩ = some (.bool f.More) := F117.out.cell 5
    have cak71_6 : (w98.drew).cell? ⟨w48.heap.size, 6, none⟩ = some (.bool f.Retry) := F117.out.cell 6
    have cak71_7 : (w98.drew).cell? ⟨w48.heap.size, 7, none⟩ = some (.int .i64 f.Duration) := F117.out.cell 7
    have cak71_8 : (w98.drew).cell? ⟨w48.heap.size, 8, none⟩ = some (.slice A49 n50 c51) := F117.out.cell 8
    have cak8_0 : (w98.drew).cell? ⟨w.heap.size, 0, none⟩ = some (.int .i64 f.Kind) := F115.out.cell 0
    have cak8_1 : (w98.drew).cell? ⟨w.heap.size, 1, none⟩ = some (.int .i64 f.From) := F115.out.cell 1
    have cak8_2 : (w98.drew).cell? ⟨w.heap.size, 2, none⟩ = some (.int .i64 f.To) := F115.out.cell 2
    have cak8_3 : (w98.drew).cell? ⟨w.heap.size, 3, none⟩ = some (.int .i64 f.Seq) := F115.out.cell 3
    have cak8_4 : (w98.drew).cell? ⟨w.heap.size, 4, none⟩ = some (.int .i64 f.Fragment) := F115.out.cell 4
    have cak8_5 : (w98.drew).cell? ⟨w.heap.size, 5, none⟩ = some (.bool f.More) := F115.out.cell 5
    have cak8_6 : (w98.drew).cell? ⟨w.heap.size, 6, none⟩ = some (.bool f.Retry) := F115.out.cell 6
    have cak8_7 : (w98.drew).cell? ⟨w.heap.size, 7, none⟩ = some (.int .i64 f.Duration) := F115.out.cell 7
    have cak8_8 : (w98.drew).cell? ⟨w.heap.size, 8, none⟩ = some (.slice Af nf cf) := F115.out.cell 8
    go_region_held3 (fun w' => w'.cell? ⟨w48.heap.size, 0, none⟩ = some (.int .i64 f.Kind) ∧ w'.cell? ⟨w48.heap.size, 1, none⟩ = some (.int .i64 f.From) ∧ w'.cell? ⟨w48.heap.size, 2, none⟩ = some (.int .i64 f.To) ∧ w'.cell? ⟨w48.heap.size, 3, none⟩ = some (.int .i64 f.Seq) ∧ w'.cell? ⟨w48.heap.size, 4, none⟩ = some (.int .i64 f.Fragment) ∧ w'.cell? ⟨w48.heap.size, 5, none⟩ = some (.bool f.More) ∧ w'.cell? ⟨w48.heap.size, 6, none⟩ = some (.bool f.Retry) ∧ w'.cell? ⟨w48.heap.size, 7, none⟩ = some (.int .i64 f.Duration) ∧ w'.cell? ⟨w48.heap.size, 8, none⟩ = some (.slice A49 n50 c51) ∧ w'.cell? ⟨w.heap.size, 0, none⟩ = some (.int .i64 f.Kind) ∧ w'.cell? ⟨w.heap.size, 1, none⟩ = some (.int .i64 f.From) ∧ w'.cell? ⟨w.heap.size, 2, none⟩ = some (.int .i64 f.To) ∧ w'.cell? ⟨w.heap.size, 3, none⟩ = some (.int .i64 f.Seq) ∧ w'.cell? ⟨w.heap.size, 4, none⟩ = some (.int .i64 f.Fragment) ∧ w'.cell? ⟨w.heap.size, 5, none⟩ = some (.bool f.More) ∧ w'.cell? ⟨w.heap.size, 6, none⟩ = some (.bool f.Retry) ∧ w'.cell? ⟨w.heap.size, 7, none⟩ = some (.int .i64 f.Duration) ∧ w'.cell? ⟨w.heap.size, 8, none⟩ = some (.slice Af nf cf)) (first | (with_reducible exact ⟨cak71_0, cak71_1, cak71_2, cak71_3, cak71_4, cak71_5, cak71_6, cak71_7, cak71_8, cak8_0, cak8_1, cak8_2, cak8_3, cak8_4, cak8_5, cak8_6, cak8_7, cak8_8⟩) | (with_reducible exact ⟨cbk71_0, cbk71_1, cbk71_2, cbk71_3, cbk71_4, cbk71_5, cbk71_6, cbk71_7, cbk71_8, cbk8_0, cbk8_1, cbk8_2, cbk8_3, cbk8_4, cbk8_5, cbk8_6, cbk8_7, cbk8_8⟩) | (with_reducible exact ⟨cdk71_0, cdk71_1, cdk71_2, cdk71_3, cdk71_4, cdk71_5, cdk71_6, cdk71_7, cdk71_8, cdk8_0, cdk8_1, cdk8_2, cdk8_3, cdk8_4, cdk8_5, cdk8_6, cdk8_7, cdk8_8⟩))
      (first
      | (go_at_call 38; refine (ux.toMacFrame F111.out S17.out).mono ?_; rintro e w119 hp; obtain ⟨v124, fp123, rfl, ho, hb⟩ := hp.parts; clear hp; obtain ⟨A120, n121, c122, f9, rfl, _, _, _⟩ := ux.fra_o ho; have F125 := Lib.hid ho; clear ho; have B126 := Lib.hid (B109.out.trans (hb.mono B109.out.size)); have Z127 := Lib.hid hb.size; have F128 := Lib.hid (F111.out.below hb); have F129 := Lib.hid (F112.out.below hb); have F130 := Lib.hid (F113.out.below hb); have F131 := Lib.hid (F114.out.below hb); have F132 := Lib.hid (F115.out.below hb); have F133 := Lib.hid (F116.out.below hb); have F134 := Lib.hid (F117.out.below hb); have F135 := Lib.hid (F118.out.below hb); clear hb B109 F111 F112 F113 F114 F115 F116 F117 F118; have cbk71_0 : (w119).cell? ⟨w48.heap.size, 0, none⟩ = some (.int .i64 f.Kind) := F134.out.cell 0; have cbk71_1 : (w119).cell? ⟨w48.heap.size, 1, none⟩ = some (.int .i64 f.From) := F134.out.cell 1; have cbk71_2 : (w119).cell? ⟨w48.heap.size, 2, none⟩ = some (.int .i64 f.To) := F134.out.cell 2; have cbk71_3 : (w119).cell? ⟨w48.heap.size, 3, none⟩ = some (.int .i64 f.Seq) := F134.out.cell 3; have cbk71_4 : (w119).cell? ⟨w48.heap.size, 4, none⟩ = some (.int .i64 f.Fragment) := F134.out.cell 4; have cbk71_5 : (w119).cell? ⟨w48.heap.size, 5, none⟩ = some (.bool f.More) := F134.out.cell 5; have cbk71_6 : (w119).cell? ⟨w48.heap.size, 6, none⟩ = some (.bool f.Retry) := F134.out.cell 6; have cbk71_7 : (w119).cell? ⟨w48.heap.size, 7, none⟩ = some (.int .i64 f.Duration) := F134.out.cell 7; have cbk71_8 : (w119).cell? ⟨w48.heap.size, 8, none⟩ = some (.slice A49 n50 c51) := F134.out.cell 8; have cbk8_0 : (w119).cell? ⟨w.heap.size, 0, none⟩ = some (.int .i64 f.Kind) := F132.out.cell 0; have cbk8_1 : (w119).cell? ⟨w.heap.size, 1, none⟩ = some (.int .i64 f.From) := F132.out.cell 1; have cbk8_2 : (w119).cell? ⟨w.heap.size, 2, none⟩ = some (.int .i64 f.To) := F132.out.cell 2; have cbk8_3 : (w119).cell? ⟨w.heap.size, 3, none⟩ = some (.int .i64 f.Seq) := F132.out.cell 3; have cbk8_4 : (w119).cell? ⟨w.heap.size, 4, none⟩ = some (.int .i64 f.Fragment) := F132.out.cell 4; have cbk8_5 : (w119).cell? ⟨w.heap.size, 5, none⟩ = some (.bool f.More) := F132.out.cell 5; have cbk8_6 : (w119).cell? ⟨w.heap.size, 6, none⟩ = some (.bool f.Retry) := F132.out.cell 6; have cbk8_7 : (w119).cell? ⟨w.heap.size, 7, none⟩ = some (.int .i64 f.Duration) := F132.out.cell 7; have cbk8_8 : (w119).cell? ⟨w.heap.size, 8, none⟩ = some (.slice Af nf cf) := F132.out.cell 8)
      | (go_at_call 40; refine (ux.eqMacFrame F130.out.rd F125.out.rd).mono ?_; rintro e w136 hp; obtain ⟨rfl, hb⟩ := bx.b_parts rfl hp; clear hp; have B137 := Lib.hid (B126.out.trans (hb.mono B126.out.size)); have Z138 := Lib.hid hb.size; have F139 := Lib.hid (F128.out.below hb); have F140 := Lib.hid (F129.out.below hb); have F141 := Lib.hid (F130.out.below hb); have F142 := Lib.hid (F131.out.below hb); have F143 := Lib.hid (F125.out.below hb); have F144 := Lib.hid (F132.out.below hb); have F145 := Lib.hid (F133.out.below hb); have F146 := Lib.hid (F134.out.below hb); have F147 := Lib.hid (F135.out.below hb); clear hb B126 F128 F129 F130 F131 F125 F132 F133 F134 F135; have cdk71_0 : (w136).cell? ⟨w48.heap.size, 0, none⟩ = some (.int .i64 f.Kind) := F146.out.cell 0; have cdk71_1 : (w136).cell? ⟨w48.heap.size, 1, none⟩ = some (.int .i64 f.From) := F146.out.cell 1; have cdk71_2 : (w136).cell? ⟨w48.heap.size, 2, none⟩ = some (.int .i64 f.To) := F146.out.cell 2; have cdk71_3 : (w136).cell? ⟨w48.heap.size, 3, none⟩ = some (.int .i64 f.Seq) := F146.out.cell 3; have cdk71_4 : (w136).cell? ⟨w48.heap.size, 4, none⟩ = some (.int .i64 f.Fragment) := F146.out.cell 4; have cdk71_5 : (w136).cell? ⟨w48.heap.size, 5, none⟩ = some (.bool f.More) := F146.out.cell 5; have cdk71_6 : (w136).cell? ⟨w48.heap.size, 6, none⟩ = some (.bool f.Retry) := F146.out.cell 6; have cdk71_7 : (w136).cell? ⟨w48.heap.size, 7, none⟩ = some (.int .i64 f.Duration) := F146.out.cell 7; have cdk71_8 : (w136).cell? ⟨w48.heap.size, 8, none⟩ = some (.slice A49 n50 c51) := F146.out.cell 8; have cdk8_0 : (w136).cell? ⟨w.heap.size, 0, none⟩ = some (.int .i64 f.Kind) := F144.out.cell 0; have cdk8_1 : (w136).cell? ⟨w.heap.size, 1, none⟩ = some (.int .i64 f.From) := F144.out.cell 1; have cdk8_2 : (w136).cell? ⟨w.heap.size, 2, none⟩ = some (.int .i64 f.To) := F144.out.cell 2; have cdk8_3 : (w136).cell? ⟨w.heap.size, 3, none⟩ = some (.int .i64 f.Seq) := F144.out.cell 3; have cdk8_4 : (w136).cell? ⟨w.heap.size, 4, none⟩ = some (.int .i64 f.Fragment) := F144.out.cell 4; have cdk8_5 : (w136).cell? ⟨w.heap.size, 5, none⟩ = some (.bool f.More) := F144.out.cell 5; have cdk8_6 : (w136).cell? ⟨w.heap.size, 6, none⟩ = some (.bool f.Retry) := F144.out.cell 6; have cdk8_7 : (w136).cell? ⟨w.heap.size, 7, none⟩ = some (.int .i64 f.Duration) := F144.out.cell 7; have cdk8_8 : (w136).cell? ⟨w.heap.size, 8, none⟩ = some (.slice Af nf cf) := F144.out.cell 8))
    clear cak71_0 cak71_1 cak71_2 cak71_3 cak71_4 cak71_5 cak71_6 cak71_7 cak71_8 cak8_0 cak8_1 cak8_2 cak8_3 cak8_4 cak8_5 cak8_6 cak8_7 cak8_8 cbk71_0 cbk71_1 cbk71_2 cbk71_3 cbk71_4 cbk71_5 cbk71_6 cbk71_7 cbk71_8 cbk8_0 cbk8_1 cbk8_2 cbk8_3 cbk8_4 cbk8_5 cbk8_6 cbk8_7 cbk8_8 cdk71_0 cdk71_1 cdk71_2 cdk71_3 cdk71_4 cdk71_5 cdk71_6 cdk71_7 cdk71_8 cdk8_0 cdk8_1 cdk8_2 cdk8_3 cdk8_4 cdk8_5 cdk8_6 cdk8_7 cdk8_8
    clear F143
    have ck8_0 : (w136).cell? ⟨w.heap.size, 0, none⟩ = some (.int .i64 f.Kind) := F144.out.cell 0
    have ck8_1 : (w136).cell? ⟨w.heap.size, 1, none⟩ = some (.int .i64 f.From) := F144.out.cell 1
    have ck8_2 : (w136).cell? ⟨w.heap.size, 2, none⟩ = some (.int .i64 f.To) := F144.out.cell 2
    have ck8_3 : (w136).cell? ⟨w.heap.size, 3, none⟩ = some (.int .i64 f.Seq) := F144.out.cell 3
    have ck8_4 : (w136).cell? ⟨w.heap.size, 4, none⟩ = some (.int .i64 f.Fragment) := F144.out.cell 4
    have ck8_5 : (w136).cell? ⟨w.heap.size, 5, none⟩ = some (.bool f.More) := F144.out.cell 5
    have ck8_6 : (w136).cell? ⟨w.heap.size, 6, none⟩ = some (.bool f.Retry) := F144.out.cell 6
    have ck8_7 : (w136).cell? ⟨w.heap.size, 7, none⟩ = some (.int .i64 f.Duration) := F144.out.cell 7
    have ck8_8 : (w136).cell? ⟨w.heap.size, 8, none⟩ = some (.slice Af nf cf) := F144.out.cell 8
    have ck47_0 : (w136).cell? ⟨w29.heap.size, 0, none⟩ = some (.int .i64 x9.From) := F145.out.cell 0
    have ck47_1 : (w136).cell? ⟨w29.heap.size, 1, none⟩ = some (.int .i64 x9.Seq) := F145.out.cell 1
    have ck47_2 : (w136).cell? ⟨w29.heap.size, 2, none⟩ = some (.int .i64 x9.Next) := F145.out.cell 2
    have ck47_3 : (w136).cell? ⟨w29.heap.size, 3, none⟩ = some (.slice A30 n31 c32) := F145.out.cell 3
    have ck47_4 : (w136).cell? ⟨w29.heap.size, 4, none⟩ = some (.int .i64 x9.Started) := F145.out.cell 4
    have ck71_0 : (w136).cell? ⟨w48.heap.size, 0, none⟩ = some (.int .i64 f.Kind) := F146.out.cell 0
    have ck71_1 : (w136).cell? ⟨w48.heap.size, 1, none⟩ = some (.int .i64 f.From) := F146.out.cell 1
    have ck71_2 : (w136).cell? ⟨w48.heap.size, 2, none⟩ = some (.int .i64 f.To) := F146.out.cell 2
    have ck71_3 : (w136).cell? ⟨w48.heap.size, 3, none⟩ = some (.int .i64 f.Seq) := F146.out.cell 3
    have ck71_4 : (w136).cell? ⟨w48.heap.size, 4, none⟩ = some (.int .i64 f.Fragment) := F146.out.cell 4
    have ck71_5 : (w136).cell? ⟨w48.heap.size, 5, none⟩ = some (.bool f.More) := F146.out.cell 5
    have ck71_6 : (w136).cell? ⟨w48.heap.size, 6, none⟩ = some (.bool f.Retry) := F146.out.cell 6
    have ck71_7 : (w136).cell? ⟨w48.heap.size, 7, none⟩ = some (.int .i64 f.Duration) := F146.out.cell 7
    have ck71_8 : (w136).cell? ⟨w48.heap.size, 8, none⟩ = some (.slice A49 n50 c51) := F146.out.cell 8
    have ck97_0 : (w136).cell? ⟨w72.heap.size, 0, none⟩ = some (.int .i64 x9.From) := F147.out.cell 0
    have ck97_1 : (w136).cell? ⟨w72.heap.size, 1, none⟩ = some (.int .i64 x9.Seq) := F147.out.cell 1
    have ck97_2 : (w136).cell? ⟨w72.heap.size, 2, none⟩ = some (.int .i64 x9.Next) := F147.out.cell 2
    have ck97_3 : (w136).cell? ⟨w72.heap.size, 3, none⟩ = some (.slice A73 n74 c75) := F147.out.cell 3
    have ck97_4 : (w136).cell? ⟨w72.heap.size, 4, none⟩ = some (.int .i64 x9.Started) := F147.out.cell 4
    go_wp2_with fail
    clear ck8_0 ck8_1 ck8_2 ck8_3 ck8_4 ck8_5 ck8_6 ck8_7 ck8_8 ck47_0 ck47_1 ck47_2 ck47_3 ck47_4 ck71_0 ck71_1 ck71_2 ck71_3 ck71_4 ck71_5 ck71_6 ck71_7 ck71_8 ck97_0 ck97_1 ck97_2 ck97_3 ck97_4
    (with_reducible refine (ux.markMacFrame 1 F141.out (by have h1 := fr.fra_bd f; have h2 := (show (0:Int) ≤ 1 ∧ (1:Int) ≤ 4294967360 by omega); have h3 := S17.out; omega) S17.out).mono ?_)
    rintro e w148 hp
    obtain ⟨rfl, ho, hb⟩ := hp.parts
    clear hp
    obtain ⟨k1, hk9⟩ : ∃ k : Int, 1 + (ux.fra_tv f : Nat) = k := ⟨_, rfl⟩
    have Hk1 := Lib.hid hk9
    have Kk1 := Lib.hid (show 0 ≤ k1 ∧ k1 ≤ 1 + 4294967360 by have h1 := fr.fra_bd f; have h2 := (show (0:Int) ≤ 1 ∧ (1:Int) ≤ 4294967360 by omega); have h3 := S17.out; omega)
    have ngk1 : ¬ k1 < 0 := by have := Kk1.out; omega
    (first | rw [hk9] | (change Code.wp _ _ _ _ _; rw [hk9]) | skip)
    clear hk9
    have F149 := Lib.hid ho
    clear ho
    have B150 := Lib.hid (B137.out.trans (ux.ks_bel hb (fun b hb => by have z0 := Z3.out; have z1 := Z5.out; have z2 := Z13.out; have z3 := Z26.out; have z4 := Z35.out; have z5 := Z40.out; have z6 := Z42.out; have z7 := Z56.out; have z8 := Z62.out; have z9 := Z64.out; have z10 := Z78.out; have z11 := Z86.out; have z12 := Z88.out; have z13 := Z100.out; have z14 := Z110.out; have z15 := Z127.out; have z16 := Z138.out; have zB := B137.out.size; have := F149.out.inn b hb; omega) B137.out.size))
    have Z151 := Lib.hid hb.size
    have F152 := Lib.hid (F139.out.ks hb (fun b h1 h2 h3 => by have z0 := Z3.out; have z1 := Z5.out; have z2 := Z13.out; have z3 := Z26.out; have z4 := Z35.out; have z5 := Z40.out; have z6 := Z42.out; have z7 := Z56.out; have z8 := Z62.out; have z9 := Z64.out; have z10 := Z78.out; have z11 := Z86.out; have z12 := Z88.out; have z13 := Z100.out; have z14 := Z110.out; have z15 := Z127.out; have z16 := Z138.out; have z17 := Z151.out; have q2 := F149.out.inn b h3; omega))
    have F153 := Lib.hid (F140.out.ks hb (fun b h1 h2 => by have z0 := Z3.out; have z1 := Z5.out; have z2 := Z13.out; have z3 := Z26.out; have z4 := Z35.out; have z5 := Z40.out; have z6 := Z42.out; have z7 := Z56.out; have z8 := Z62.out; have z9 := Z64.out; have z10 := Z78.out; have z11 := Z86.out; have z12 := Z88.out; have z13 := Z100.out; have z14 := Z110.out; have z15 := Z127.out; have z16 := Z138.out; have z17 := Z151.out; have q1 := F140.out.inn b h1; have q2 := F149.out.inn b h2; omega))
    have F154 := Lib.hid (F142.out.ks hb (fun b h1 h2 => by have z0 := Z3.out; have z1 := Z5.out; have z2 := Z13.out; have z3 := Z26.out; have z4 := Z35.out; have z5 := Z40.out; have z6 := Z42.out; have z7 := Z56.out; have z8 := Z62.out; have z9 := Z64.out; have z10 := Z78.out; have z11 := Z86.out; have z12 := Z88.out; have z13 := Z100.out; have z14 := Z110.out; have z15 := Z127.out; have z16 := Z138.out; have z17 := Z151.out; have q1 := F142.out.inn b h1; have q2 := F149.out.inn b h2; omega))
    have F155 := Lib.hid (fr.bx_ks F144.out hb (fun h3 => by have z0 := Z3.out; have z1 := Z5.out; have z2 := Z13.out; have z3 := Z26.out; have z4 := Z35.out; have z5 := Z40.out; have z6 := Z42.out; have z7 := Z56.out; have z8 := Z62.out; have z9 := Z64.out; have z10 := Z78.out; have z11 := Z86.out; have z12 := Z88.out; have z13 := Z100.out; have z14 := Z110.out; have z15 := Z127.out; have z16 := Z138.out; have z17 := Z151.out; have q2 := F149.out.inn _ h3; omega))
    have F156 := Lib.hid (fr.bx_ks F145.out hb (fun h3 => by have z0 := Z3.out; have z1 := Z5.out; have z2 := Z13.out; have z3 := Z26.out; have z4 := Z35.out; have z5 := Z40.out; have z6 := Z42.out; have z7 := Z56.out; have z8 := Z62.out; have z9 := Z64.out; have z10 := Z78.out; have z11 := Z86.out; have z12 := Z88.out; have z13 := Z100.out; have z14 := Z110.out; have z15 := Z127.out; have z16 := Z138.out; have z17 := Z151.out; have q2 := F149.out.inn _ h3; omega))
    have F157 := Lib.hid (fr.bx_ks F146.out hb (fun h3 => by have z0 := Z3.out; have z1 := Z5.out; have z2 := Z13.out; have z3 := Z26.out; have z4 := Z35.out; have z5 := Z40.out; have z6 := Z42.out; have z7 := Z56.out; have z8 := Z62.out; have z9 := Z64.out; have z10 := Z78.out; have z11 := Z86.out; have z12 := Z88.out; have z13 := Z100.out; have z14 := Z110.out; have z15 := Z127.out; have z16 := Z138.out; have z17 := Z151.out; have q2 := F149.out.inn _ h3; omega))
    have F158 := Lib.hid (fr.bx_ks F147.out hb (fun h3 => by have z0 := Z3.out; have z1 := Z5.out; have z2 := Z13.out; have z3 := Z26.out; have z4 := Z35.out; have z5 := Z40.out; have z6 := Z42.out; have z7 := Z56.out; have z8 := Z62.out; have z9 := Z64.out; have z10 := Z78.out; have z11 := Z86.out; have z12 := Z88.out; have z13 := Z100.out; have z14 := Z110.out; have z15 := Z127.out; have z16 := Z138.out; have z17 := Z151.out; have q2 := F149.out.inn _ h3; omega))
    clear hb B137 F139 F140 F142 F144 F145 F146 F147
    clear F141
    clear F157
    clear F149
    have ck8_0 : (w148).cell? ⟨w.heap.size, 0, none⟩ = some (.int .i64 f.Kind) := F155.out.cell 0
    have ck8_1 : (w148).cell? ⟨w.heap.size, 1, none⟩ = some (.int .i64 f.From) := F155.out.cell 1
    have ck8_2 : (w148).cell? ⟨w.heap.size, 2, none⟩ = some (.int .i64 f.To) := F155.out.cell 2
    have ck8_3 : (w148).cell? ⟨w.heap.size, 3, none⟩ = some (.int .i64 f.Seq) := F155.out.cell 3
    have ck8_4 : (w148).cell? ⟨w.heap.size, 4, none⟩ = some (.int .i64 f.Fragment) := F155.out.cell 4
    have ck8_5 : (w148).cell? ⟨w.heap.size, 5, none⟩ = some (.bool f.More) := F155.out.cell 5
    have ck8_6 : (w148).cell? ⟨w.heap.size, 6, none⟩ = some (.bool f.Retry) := F155.out.cell 6
    have ck8_7 : (w148).cell? ⟨w.heap.size, 7, none⟩ = some (.int .i64 f.Duration) := F155.out.cell 7
    have ck8_8 : (w148).cell? ⟨w.heap.size, 8, none⟩ = some (.slice Af nf cf) := F155.out.cell 8
    have ck47_0 : (w148).cell? ⟨w29.heap.size, 0, none⟩ = some (.int .i64 x9.From) := F156.out.cell 0
    have ck47_1 : (w148).cell? ⟨w29.heap.size, 1, none⟩ = some (.int .i64 x9.Seq) := F156.out.cell 1
    have ck47_2 : (w148).cell? ⟨w29.heap.size, 2, none⟩ = some (.int .i64 x9.Next) := F156.out.cell 2
    have ck47_3 : (w148).cell? ⟨w29.heap.size, 3, none⟩ = some (.slice A30 n31 c32) := F156.out.cell 3
    have ck47_4 : (w148).cell? ⟨w29.heap.size, 4, none⟩ = some (.int .i64 x9.Started) := F156.out.cell 4
    have ck97_0 : (w148).cell? ⟨w72.heap.size, 0, none⟩ = some (.int .i64 x9.From) := F158.out.cell 0
    have ck97_1 : (w148).cell? ⟨w72.heap.size, 1, none⟩ = some (.int .i64 x9.Seq) := F158.out.cell 1
    have ck97_2 : (w148).cell? ⟨w72.heap.size, 2, none⟩ = some (.int .i64 x9.Next) := F158.out.cell 2
    have ck97_3 : (w148).cell? ⟨w72.heap.size, 3, none⟩ = some (.slice A73 n74 c75) := F158.out.cell 3
    have ck97_4 : (w148).cell? ⟨w72.heap.size, 4, none⟩ = some (.int .i64 x9.Started) := F158.out.cell 4
    go_wp2_with fail
    clear ck8_0 ck8_1 ck8_2 ck8_3 ck8_4 ck8_5 ck8_6 ck8_7 ck8_8 ck47_0 ck47_1 ck47_2 ck47_3 ck47_4 ck97_0 ck97_1 ck97_2 ck97_3 ck97_4
    (with_reducible refine (ux.eqReassembly F154.out.rd F153.out.rd).mono ?_)
    rintro e w159 hp
    obtain ⟨rfl, hb⟩ := bx.b_parts rfl hp
    clear hp
    have B160 := Lib.hid (B150.out.trans (hb.mono B150.out.size))
    have Z161 := Lib.hid hb.size
    have F162 := Lib.hid (F152.out.below hb)
    have F163 := Lib.hid (F153.out.below hb)
    have F164 := Lib.hid (F154.out.below hb)
    have F165 := Lib.hid (F155.out.below hb)
    have F166 := Lib.hid (F156.out.below hb)
    have F167 := Lib.hid (F158.out.below hb)
    clear hb B150 F152 F153 F154 F155 F156 F158
    have ck8_0 : (w159).cell? ⟨w.heap.size, 0, none⟩ = some (.int .i64 f.Kind) := F165.out.cell 0
    have ck8_1 : (w159).cell? ⟨w.heap.size, 1, none⟩ = some (.int .i64 f.From) := F165.out.cell 1
    have ck8_2 : (w159).cell? ⟨w.heap.size, 2, none⟩ = some (.int .i64 f.To) := F165.out.cell 2
    have ck8_3 : (w159).cell? ⟨w.heap.size, 3, none⟩ = some (.int .i64 f.Seq) := F165.out.cell 3
    have ck8_4 : (w159).cell? ⟨w.heap.size, 4, none⟩ = some (.int .i64 f.Fragment) := F165.out.cell 4
    have ck8_5 : (w159).cell? ⟨w.heap.size, 5, none⟩ = some (.bool f.More) := F165.out.cell 5
    have ck8_6 : (w159).cell? ⟨w.heap.size, 6, none⟩ = some (.bool f.Retry) := F165.out.cell 6
    have ck8_7 : (w159).cell? ⟨w.heap.size, 7, none⟩ = some (.int .i64 f.Duration) := F165.out.cell 7
    have ck8_8 : (w159).cell? ⟨w.heap.size, 8, none⟩ = some (.slice Af nf cf) := F165.out.cell 8
    have ck47_0 : (w159).cell? ⟨w29.heap.size, 0, none⟩ = some (.int .i64 x9.From) := F166.out.cell 0
    have ck47_1 : (w159).cell? ⟨w29.heap.size, 1, none⟩ = some (.int .i64 x9.Seq) := F166.out.cell 1
    have ck47_2 : (w159).cell? ⟨w29.heap.size, 2, none⟩ = some (.int .i64 x9.Next) := F166.out.cell 2
    have ck47_3 : (w159).cell? ⟨w29.heap.size, 3, none⟩ = some (.slice A30 n31 c32) := F166.out.cell 3
    have ck47_4 : (w159).cell? ⟨w29.heap.size, 4, none⟩ = some (.int .i64 x9.Started) := F166.out.cell 4
    have ck97_0 : (w159).cell? ⟨w72.heap.size, 0, none⟩ = some (.int .i64 x9.From) := F167.out.cell 0
    have ck97_1 : (w159).cell? ⟨w72.heap.size, 1, none⟩ = some (.int .i64 x9.Seq) := F167.out.cell 1
    have ck97_2 : (w159).cell? ⟨w72.heap.size, 2, none⟩ = some (.int .i64 x9.Next) := F167.out.cell 2
    have ck97_3 : (w159).cell? ⟨w72.heap.size, 3, none⟩ = some (.slice A73 n74 c75) := F167.out.cell 3
    have ck97_4 : (w159).cell? ⟨w72.heap.size, 4, none⟩ = some (.int .i64 x9.Started) := F167.out.cell 4
    go_wp2_with fail
    clear ck8_0 ck8_1 ck8_2 ck8_3 ck8_4 ck8_5 ck8_6 ck8_7 ck8_8 ck47_0 ck47_1 ck47_2 ck47_3 ck47_4 ck97_0 ck97_1 ck97_2 ck97_3 ck97_4
    (with_reducible refine (ux.markReassembly 1 F164.out (by have h1 := fr.rea_bd x9; have h2 := (show (0:Int) ≤ 1 ∧ (1:Int) ≤ 4294967360 by omega); have h3 := SX.out; omega) SX.out).mono ?_)
    rintro e w168 hp
    obtain ⟨rfl, ho, hb⟩ := hp.parts
    clear hp
    obtain ⟨k2, hk9⟩ : ∃ k : Int, 1 + (ux.rea_tv x9 : Nat) = k := ⟨_, rfl⟩
    have Hk2 := Lib.hid hk9
    have Kk2 := Lib.hid (show 0 ≤ k2 ∧ k2 ≤ 1 + 4294967360 by have h1 := fr.rea_bd x9; have h2 := (show (0:Int) ≤ 1 ∧ (1:Int) ≤ 4294967360 by omega); have h3 := SX.out; omega)
    have ngk2 : ¬ k2 < 0 := by have := Kk2.out; omega
    (first | rw [hk9] | (change Code.wp _ _ _ _ _; rw [hk9]) | skip)
    clear hk9
    have F169 := Lib.hid ho
    clear ho
    have B170 := Lib.hid (B160.out.trans (ux.ks_bel hb (fun b hb => by have z0 := Z3.out; have z1 := Z5.out; have z2 := Z13.out; have z3 := Z26.out; have z4 := Z35.out; have z5 := Z40.out; have z6 := Z42.out; have z7 := Z56.out; have z8 := Z62.out; have z9 := Z64.out; have z10 := Z78.out; have z11 := Z86.out; have z12 := Z88.out; have z13 := Z100.out; have z14 := Z110.out; have z15 := Z127.out; have z16 := Z138.out; have z17 := Z151.out; have z18 := Z161.out; have zB := B160.out.size; have := F169.out.inn b hb; omega) B160.out.size))
    have Z171 := Lib.hid hb.size
    have F172 := Lib.hid (F162.out.ks hb (fun b h1 h2 h3 => by have z0 := Z3.out; have z1 := Z5.out; have z2 := Z13.out; have z3 := Z26.out; have z4 := Z35.out; have z5 := Z40.out; have z6 := Z42.out; have z7 := Z56.out; have z8 := Z62.out; have z9 := Z64.out; have z10 := Z78.out; have z11 := Z86.out; have z12 := Z88.out; have z13 := Z100.out; have z14 := Z110.out; have z15 := Z127.out; have z16 := Z138.out; have z17 := Z151.out; have z18 := Z161.out; have z19 := Z171.out; have q2 := F169.out.inn b h3; omega))
    have F173 := Lib.hid (F163.out.ks hb (fun b h1 h2 => by have z0 := Z3.out; have z1 := Z5.out; have z2 := Z13.out; have z3 := Z26.out; have z4 := Z35.out; have z5 := Z40.out; have z6 := Z42.out; have z7 := Z56.out; have z8 := Z62.out; have z9 := Z64.out; have z10 := Z78.out; have z11 := Z86.out; have z12 := Z88.out; have z13 := Z100.out; have z14 := Z110.out; have z15 := Z127.out; have z16 := Z138.out; have z17 := Z151.out; have z18 := Z161.out; have z19 := Z171.out; have q1 := F163.out.inn b h1; have q2 := F169.out.inn b h2; omega))
    have F174 := Lib.hid (fr.bx_ks F165.out hb (fun h3 => by have z0 := Z3.out; have z1 := Z5.out; have z2 := Z13.out; have z3 := Z26.out; have z4 := Z35.out; have z5 := Z40.out; have z6 := Z42.out; have z7 := Z56.out; have z8 := Z62.out; have z9 := Z64.out; have z10 := Z78.out; have z11 := Z86.out; have z12 := Z88.out; have z13 := Z100.out; have z14 := Z110.out; have z15 := Z127.out; have z16 := Z138.out; have z17 := Z151.out; have z18 := Z161.out; have z19 := Z171.out; have q2 := F169.out.inn _ h3; omega))
    have F175 := Lib.hid (fr.bx_ks F166.out hb (fun h3 => by have z0 := Z3.out; have z1 := Z5.out; have z2 := Z13.out; have z3 := Z26.out; have z4 := Z35.out; have z5 := Z40.out; have z6 := Z42.out; have z7 := Z56.out; have z8 := Z62.out; have z9 := Z64.out; have z10 := Z78.out; have z11 := Z86.out; have z12 := Z88.out; have z13 := Z100.out; have z14 := Z110.out; have z15 := Z127.out; have z16 := Z138.out; have z17 := Z151.out; have z18 := Z161.out; have z19 := Z171.out; have q2 := F169.out.inn _ h3; omega))
    have F176 := Lib.hid (fr.bx_ks F167.out hb (fun h3 => by have z0 := Z3.out; have z1 := Z5.out; have z2 := Z13.out; have z3 := Z26.out; have z4 := Z35.out; have z5 := Z40.out; have z6 := Z42.out; have z7 := Z56.out; have z8 := Z62.out; have z9 := Z64.out; have z10 := Z78.out; have z11 := Z86.out; have z12 := Z88.out; have z13 := Z100.out; have z14 := Z110.out; have z15 := Z127.out; have z16 := Z138.out; have z17 := Z151.out; have z18 := Z161.out; have z19 := Z171.out; have q2 := F169.out.inn _ h3; omega))
    clear hb B160 F162 F163 F165 F166 F167
    clear F164
    have ck8_0 : (w168).cell? ⟨w.heap.size, 0, none⟩ = some (.int .i64 f.Kind) := F174.out.cell 0
    have ck8_1 : (w168).cell? ⟨w.heap.size, 1, none⟩ = some (.int .i64 f.From) := F174.out.cell 1
    have ck8_2 : (w168).cell? ⟨w.heap.size, 2, none⟩ = some (.int .i64 f.To) := F174.out.cell 2
    have ck8_3 : (w168).cell? ⟨w.heap.size, 3, none⟩ = some (.int .i64 f.Seq) := F174.out.cell 3
    have ck8_4 : (w168).cell? ⟨w.heap.size, 4, none⟩ = some (.int .i64 f.Fragment) := F174.out.cell 4
    have ck8_5 : (w168).cell? ⟨w.heap.size, 5, none⟩ = some (.bool f.More) := F174.out.cell 5
    have ck8_6 : (w168).cell? ⟨w.heap.size, 6, none⟩ = some (.bool f.Retry) := F174.out.cell 6
    have ck8_7 : (w168).cell? ⟨w.heap.size, 7, none⟩ = some (.int .i64 f.Duration) := F174.out.cell 7
    have ck8_8 : (w168).cell? ⟨w.heap.size, 8, none⟩ = some (.slice Af nf cf) := F174.out.cell 8
    have ck47_0 : (w168).cell? ⟨w29.heap.size, 0, none⟩ = some (.int .i64 x9.From) := F175.out.cell 0
    have ck47_1 : (w168).cell? ⟨w29.heap.size, 1, none⟩ = some (.int .i64 x9.Seq) := F175.out.cell 1
    have ck47_2 : (w168).cell? ⟨w29.heap.size, 2, none⟩ = some (.int .i64 x9.Next) := F175.out.cell 2
    have ck47_3 : (w168).cell? ⟨w29.heap.size, 3, none⟩ = some (.slice A30 n31 c32) := F175.out.cell 3
    have ck47_4 : (w168).cell? ⟨w29.heap.size, 4, none⟩ = some (.int .i64 x9.Started) := F175.out.cell 4
    have ck97_0 : (w168).cell? ⟨w72.heap.size, 0, none⟩ = some (.int .i64 x9.From) := F176.out.cell 0
    have ck97_1 : (w168).cell? ⟨w72.heap.size, 1, none⟩ = some (.int .i64 x9.Seq) := F176.out.cell 1
    have ck97_2 : (w168).cell? ⟨w72.heap.size, 2, none⟩ = some (.int .i64 x9.Next) := F176.out.cell 2
    have ck97_3 : (w168).cell? ⟨w72.heap.size, 3, none⟩ = some (.slice A73 n74 c75) := F176.out.cell 3
    have ck97_4 : (w168).cell? ⟨w72.heap.size, 4, none⟩ = some (.int .i64 x9.Started) := F176.out.cell 4
    go_wp2_with fail
    clear ck8_0 ck8_1 ck8_2 ck8_3 ck8_4 ck8_5 ck8_6 ck8_7 ck8_8 ck47_0 ck47_1 ck47_2 ck47_3 ck47_4 ck97_0 ck97_1 ck97_2 ck97_3 ck97_4
    (with_reducible refine (ux.heldReassembly 1 F169.out.rd (by have h1 := fr.rea_bd x9; have h2 := (show (0:Int) ≤ 1 ∧ (1:Int) ≤ 4294967360 by omega); have h3 := SX.out; omega) SX.out).mono ?_)
    rintro e w177 hp
    obtain ⟨rfl, hb⟩ := bx.n_parts Hk2.out hp
    clear hp
    have B178 := Lib.hid (B170.out.trans (hb.mono B170.out.size))
    have Z179 := Lib.hid hb.size
    have F180 := Lib.hid (F172.out.below hb)
    have F181 := Lib.hid (F173.out.below hb)
    have F182 := Lib.hid (F169.out.below hb)
    have F183 := Lib.hid (F174.out.below hb)
    have F184 := Lib.hid (F175.out.below hb)
    have F185 := Lib.hid (F176.out.below hb)
    clear hb B170 F172 F173 F169 F174 F175 F176
    have ck8_0 : (w177).cell? ⟨w.heap.size, 0, none⟩ = some (.int .i64 f.Kind) := F183.out.cell 0
    have ck8_1 : (w177).cell? ⟨w.heap.size, 1, none⟩ = some (.int .i64 f.From) := F183.out.cell 1
    have ck8_2 : (w177).cell? ⟨w.heap.size, 2, none⟩ = some (.int .i64 f.To) := F183.out.cell 2
    have ck8_3 : (w177).cell? ⟨w.heap.size, 3, none⟩ = some (.int .i64 f.Seq) := F183.out.cell 3
    have ck8_4 : (w177).cell? ⟨w.heap.size, 4, none⟩ = some (.int .i64 f.Fragment) := F183.out.cell 4
    have ck8_5 : (w177).cell? ⟨w.heap.size, 5, none⟩ = some (.bool f.More) := F183.out.cell 5
    have ck8_6 : (w177).cell? ⟨w.heap.size, 6, none⟩ = some (.bool f.Retry) := F183.out.cell 6
    have ck8_7 : (w177).cell? ⟨w.heap.size, 7, none⟩ = some (.int .i64 f.Duration) := F183.out.cell 7
    have ck8_8 : (w177).cell? ⟨w.heap.size, 8, none⟩ = some (.slice Af nf cf) := F183.out.cell 8
    have ck47_0 : (w177).cell? ⟨w29.heap.size, 0, none⟩ = some (.int .i64 x9.From) := F184.out.cell 0
    have ck47_1 : (w177).cell? ⟨w29.heap.size, 1, none⟩ = some (.int .i64 x9.Seq) := F184.out.cell 1
    have ck47_2 : (w177).cell? ⟨w29.heap.size, 2, none⟩ = some (.int .i64 x9.Next) := F184.out.cell 2
    have ck47_3 : (w177).cell? ⟨w29.heap.size, 3, none⟩ = some (.slice A30 n31 c32) := F184.out.cell 3
    have ck47_4 : (w177).cell? ⟨w29.heap.size, 4, none⟩ = some (.int .i64 x9.Started) := F184.out.cell 4
    have ck97_0 : (w177).cell? ⟨w72.heap.size, 0, none⟩ = some (.int .i64 x9.From) := F185.out.cell 0
    have ck97_1 : (w177).cell? ⟨w72.heap.size, 1, none⟩ = some (.int .i64 x9.Seq) := F185.out.cell 1
    have ck97_2 : (w177).cell? ⟨w72.heap.size, 2, none⟩ = some (.int .i64 x9.Next) := F185.out.cell 2
    have ck97_3 : (w177).cell? ⟨w72.heap.size, 3, none⟩ = some (.slice A73 n74 c75) := F185.out.cell 3
    have ck97_4 : (w177).cell? ⟨w72.heap.size, 4, none⟩ = some (.int .i64 x9.Started) := F185.out.cell 4
    go_wp2_with fail
    clear ck8_0 ck8_1 ck8_2 ck8_3 ck8_4 ck8_5 ck8_6 ck8_7 ck8_8 ck47_0 ck47_1 ck47_2 ck47_3 ck47_4 ck97_0 ck97_1 ck97_2 ck97_3 ck97_4
    (with_reducible refine (ux.toMacFrame F180.out S17.out).mono ?_)
    rintro e w186 hp
    obtain ⟨v191, fp190, rfl, ho, hb⟩ := hp.parts
    clear hp
    obtain ⟨A187, n188, c189, f9, rfl, _, _, _⟩ := ux.fra_o ho
    have F192 := Lib.hid ho
    clear ho
    have B193 := Lib.hid (B178.out.trans (hb.mono B178.out.size))
    have Z194 := Lib.hid hb.size
    have F195 := Lib.hid (F180.out.below hb)
    have F196 := Lib.hid (F181.out.below hb)
    have F197 := Lib.hid (F182.out.below hb)
    have F198 := Lib.hid (F183.out.below hb)
    have F199 := Lib.hid (F184.out.below hb)
    have F200 := Lib.hid (F185.out.below hb)
    clear hb B178 F180 F181 F182 F183 F184 F185
    have ck8_0 : (w186).cell? ⟨w.heap.size, 0, none⟩ = some (.int .i64 f.Kind) := F198.out.cell 0
    have ck8_1 : (w186).cell? ⟨w.heap.size, 1, none⟩ = some (.int .i64 f.From) := F198.out.cell 1
    have ck8_2 : (w186).cell? ⟨w.heap.size, 2, none⟩ = some (.int .i64 f.To) := F198.out.cell 2
    have ck8_3 : (w186).cell? ⟨w.heap.size, 3, none⟩ = some (.int .i64 f.Seq) := F198.out.cell 3
    have ck8_4 : (w186).cell? ⟨w.heap.size, 4, none⟩ = some (.int .i64 f.Fragment) := F198.out.cell 4
    have ck8_5 : (w186).cell? ⟨w.heap.size, 5, none⟩ = some (.bool f.More) := F198.out.cell 5
    have ck8_6 : (w186).cell? ⟨w.heap.size, 6, none⟩ = some (.bool f.Retry) := F198.out.cell 6
    have ck8_7 : (w186).cell? ⟨w.heap.size, 7, none⟩ = some (.int .i64 f.Duration) := F198.out.cell 7
    have ck8_8 : (w186).cell? ⟨w.heap.size, 8, none⟩ = some (.slice Af nf cf) := F198.out.cell 8
    have ck47_0 : (w186).cell? ⟨w29.heap.size, 0, none⟩ = some (.int .i64 x9.From) := F199.out.cell 0
    have ck47_1 : (w186).cell? ⟨w29.heap.size, 1, none⟩ = some (.int .i64 x9.Seq) := F199.out.cell 1
    have ck47_2 : (w186).cell? ⟨w29.heap.size, 2, none⟩ = some (.int .i64 x9.Next) := F199.out.cell 2
    have ck47_3 : (w186).cell? ⟨w29.heap.size, 3, none⟩ = some (.slice A30 n31 c32) := F199.out.cell 3
    have ck47_4 : (w186).cell? ⟨w29.heap.size, 4, none⟩ = some (.int .i64 x9.Started) := F199.out.cell 4
    have ck97_0 : (w186).cell? ⟨w72.heap.size, 0, none⟩ = some (.int .i64 x9.From) := F200.out.cell 0
    have ck97_1 : (w186).cell? ⟨w72.heap.size, 1, none⟩ = some (.int .i64 x9.Seq) := F200.out.cell 1
    have ck97_2 : (w186).cell? ⟨w72.heap.size, 2, none⟩ = some (.int .i64 x9.Next) := F200.out.cell 2
    have ck97_3 : (w186).cell? ⟨w72.heap.size, 3, none⟩ = some (.slice A73 n74 c75) := F200.out.cell 3
    have ck97_4 : (w186).cell? ⟨w72.heap.size, 4, none⟩ = some (.int .i64 x9.Started) := F200.out.cell 4
    go_wp2_with fail
    clear ck8_0 ck8_1 ck8_2 ck8_3 ck8_4 ck8_5 ck8_6 ck8_7 ck8_8 ck47_0 ck47_1 ck47_2 ck47_3 ck47_4 ck97_0 ck97_1 ck97_2 ck97_3 ck97_4
    (with_reducible refine (HX.out ▸ fr.implSr f now A187 n188 c189 _ _ _ (fr.fra_rd F192.out.rd) (by have h1 := (fr.fra_rd F192.out.rd).len; have h2 := HLF.out; have h3 := HNF.out; omega)).mono ?_)
    rintro e w201 hp
    obtain ⟨A202, n203, c204, rfl, ho, hb⟩ := fr.x_parts hp
    clear hp
    have ho2 := ux.rea_mk (x := x9) (ux.num_of ho) fr.blks_two
    clear ho
    have F205 := Lib.hid ho2
    clear ho2
    have B206 := Lib.hid (B193.out.trans (hb.mono B193.out.size))
    have Z207 := Lib.hid hb.size
    have F208 := Lib.hid (F195.out.below hb)
    have F209 := Lib.hid (F196.out.below hb)
    have F210 := Lib.hid (F197.out.below hb)
    have F211 := Lib.hid (F192.out.below hb)
    have F212 := Lib.hid (F198.out.below hb)
    have F213 := Lib.hid (F199.out.below hb)
    have F214 := Lib.hid (F200.out.below hb)
    clear hb B193 F195 F196 F197 F192 F198 F199 F200
    clear F211
    obtain ⟨V215, hV215⟩ : ∃ x, x = w201.alloc (.cells #[.int .i64 x9.From, .int .i64 x9.Seq, .int .i64 x9.Next, .slice A202 n203 c204, .int .i64 x9.Started] 58) := ⟨_, rfl⟩
    have hb : Below w201.heap.size w201 V215 := by rw [hV215]; exact bx.below_box _ _
    have hz9 : w201.heap.size + 1 ≤ V215.heap.size := by rw [hV215]; simp
    have Z216 := Lib.hid hz9
    clear hz9
    have B217 := Lib.hid (B206.out.trans (hb.mono B206.out.size))
    have Z218 := Lib.hid hb.size
    have F219 := Lib.hid (F208.out.below hb)
    have F220 := Lib.hid (F209.out.below hb)
    have F221 := Lib.hid (F210.out.below hb)
    have F222 := Lib.hid (F205.out.below hb)
    have F223 := Lib.hid (F212.out.below hb)
    have F224 := Lib.hid (F213.out.below hb)
    have F225 := Lib.hid (F214.out.below hb)
    clear hb B206 F208 F209 F210 F205 F212 F213 F214
    have X226 := Lib.hid (show bx.Bx 58 V215 w201.heap.size #[.int .i64 x9.From, .int .i64 x9.Seq, .int .i64 x9.Next, .slice A202 n203 c204, .int .i64 x9.Started] by rw [hV215]; exact bx.Bx.made _ _ _)
    have ck8_0 : (w201.alloc (.cells #[.int .i64 x9.From, .int .i64 x9.Seq, .int .i64 x9.Next, .slice A202 n203 c204, .int .i64 x9.Started] 58)).cell? ⟨w.heap.size, 0, none⟩ = some (.int .i64 f.Kind) := by rw [← hV215]; exact F223.out.cell 0
    have ck8_1 : (w201.alloc (.cells #[.int .i64 x9.From, .int .i64 x9.Seq, .int .i64 x9.Next, .slice A202 n203 c204, .int .i64 x9.Started] 58)).cell? ⟨w.heap.size, 1, none⟩ = some (.int .i64 f.From) := by rw [← hV215]; exact F223.out.cell 1
    have ck8_2 : (w201.alloc (.cells #[.int .i64 x9.From, .int .i64 x9.Seq, .int .i64 x9.Next, .slice A202 n203 c204, .int .i64 x9.Started] 58)).cell? ⟨w.heap.size, 2, none⟩ = some (.int .i64 f.To) := by rw [← hV215]; exact F223.out.cell 2
    have ck8_3 : (w201.alloc (.cells #[.int .i64 x9.From, .int .i64 x9.Seq, .int .i64 x9.Next, .slice A202 n203 c204, .int .i64 x9.Started] 58)).cell? ⟨w.heap.size, 3, none⟩ = some (.int .i64 f.Seq) := by rw [← hV215]; exact F223.out.cell 3
    have ck8_4 : (w201.alloc (.cells #[.int .i64 x9.From, .int .i64 x9.Seq, .int .i64 x9.Next, .slice A202 n203 c204, .int .i64 x9.Started] 58)).cell? ⟨w.heap.size, 4, none⟩ = some (.int .i64 f.Fragment) := by rw [← hV215]; exact F223.out.cell 4
    have ck8_5 : (w201.alloc (.cells #[.int .i64 x9.From, .int .i64 x9.Seq, .int .i64 x9.Next, .slice A202 n203 c204, .int .i64 x9.Started] 58)).cell? ⟨w.heap.size, 5, none⟩ = some (.bool f.More) := by rw [← hV215]; exact F223.out.cell 5
    have ck8_6 : (w201.alloc (.cells #[.int .i64 x9.From, .int .i64 x9.Seq, .int .i64 x9.Next, .slice A202 n203 c204, .int .i64 x9.Started] 58)).cell? ⟨w.heap.size, 6, none⟩ = some (.bool f.Retry) := by rw [← hV215]; exact F223.out.cell 6
    have ck8_7 : (w201.alloc (.cells #[.int .i64 x9.From, .int .i64 x9.Seq, .int .i64 x9.Next, .slice A202 n203 c204, .int .i64 x9.Started] 58)).cell? ⟨w.heap.size, 7, none⟩ = some (.int .i64 f.Duration) := by rw [← hV215]; exact F223.out.cell 7
    have ck8_8 : (w201.alloc (.cells #[.int .i64 x9.From, .int .i64 x9.Seq, .int .i64 x9.Next, .slice A202 n203 c204, .int .i64 x9.Started] 58)).cell? ⟨w.heap.size, 8, none⟩ = some (.slice Af nf cf) := by rw [← hV215]; exact F223.out.cell 8
    have ck47_0 : (w201.alloc (.cells #[.int .i64 x9.From, .int .i64 x9.Seq, .int .i64 x9.Next, .slice A202 n203 c204, .int .i64 x9.Started] 58)).cell? ⟨w29.heap.size, 0, none⟩ = some (.int .i64 x9.From) := by rw [← hV215]; exact F224.out.cell 0
    have ck47_1 : (w201.alloc (.cells #[.int .i64 x9.From, .int .i64 x9.Seq, .int .i64 x9.Next, .slice A202 n203 c204, .int .i64 x9.Started] 58)).cell? ⟨w29.heap.size, 1, none⟩ = some (.int .i64 x9.Seq) := by rw [← hV215]; exact F224.out.cell 1
    have ck47_2 : (w201.alloc (.cells #[.int .i64 x9.From, .int .i64 x9.Seq, .int .i64 x9.Next, .slice A202 n203 c204, .int .i64 x9.Started] 58)).cell? ⟨w29.heap.size, 2, none⟩ = some (.int .i64 x9.Next) := by rw [← hV215]; exact F224.out.cell 2
    have ck47_3 : (w201.alloc (.cells #[.int .i64 x9.From, .int .i64 x9.Seq, .int .i64 x9.Next, .slice A202 n203 c204, .int .i64 x9.Started] 58)).cell? ⟨w29.heap.size, 3, none⟩ = some (.slice A30 n31 c32) := by rw [← hV215]; exact F224.out.cell 3
    have ck47_4 : (w201.alloc (.cells #[.int .i64 x9.From, .int .i64 x9.Seq, .int .i64 x9.Next, .slice A202 n203 c204, .int .i64 x9.Started] 58)).cell? ⟨w29.heap.size, 4, none⟩ = some (.int .i64 x9.Started) := by rw [← hV215]; exact F224.out.cell 4
    have ck97_0 : (w201.alloc (.cells #[.int .i64 x9.From, .int .i64 x9.Seq, .int .i64 x9.Next, .slice A202 n203 c204, .int .i64 x9.Started] 58)).cell? ⟨w72.heap.size, 0, none⟩ = some (.int .i64 x9.From) := by rw [← hV215]; exact F225.out.cell 0
    have ck97_1 : (w201.alloc (.cells #[.int .i64 x9.From, .int .i64 x9.Seq, .int .i64 x9.Next, .slice A202 n203 c204, .int .i64 x9.Started] 58)).cell? ⟨w72.heap.size, 1, none⟩ = some (.int .i64 x9.Seq) := by rw [← hV215]; exact F225.out.cell 1
    have ck97_2 : (w201.alloc (.cells #[.int .i64 x9.From, .int .i64 x9.Seq, .int .i64 x9.Next, .slice A202 n203 c204, .int .i64 x9.Started] 58)).cell? ⟨w72.heap.size, 2, none⟩ = some (.int .i64 x9.Next) := by rw [← hV215]; exact F225.out.cell 2
    have ck97_3 : (w201.alloc (.cells #[.int .i64 x9.From, .int .i64 x9.Seq, .int .i64 x9.Next, .slice A202 n203 c204, .int .i64 x9.Started] 58)).cell? ⟨w72.heap.size, 3, none⟩ = some (.slice A73 n74 c75) := by rw [← hV215]; exact F225.out.cell 3
    have ck97_4 : (w201.alloc (.cells #[.int .i64 x9.From, .int .i64 x9.Seq, .int .i64 x9.Next, .slice A202 n203 c204, .int .i64 x9.Started] 58)).cell? ⟨w72.heap.size, 4, none⟩ = some (.int .i64 x9.Started) := by rw [← hV215]; exact F225.out.cell 4
    have ck227_0 : (w201.alloc (.cells #[.int .i64 x9.From, .int .i64 x9.Seq, .int .i64 x9.Next, .slice A202 n203 c204, .int .i64 x9.Started] 58)).cell? ⟨w201.heap.size, 0, none⟩ = some (.int .i64 x9.From) := by rw [← hV215]; exact X226.out.cell 0
    have ck227_1 : (w201.alloc (.cells #[.int .i64 x9.From, .int .i64 x9.Seq, .int .i64 x9.Next, .slice A202 n203 c204, .int .i64 x9.Started] 58)).cell? ⟨w201.heap.size, 1, none⟩ = some (.int .i64 x9.Seq) := by rw [← hV215]; exact X226.out.cell 1
    have ck227_2 : (w201.alloc (.cells #[.int .i64 x9.From, .int .i64 x9.Seq, .int .i64 x9.Next, .slice A202 n203 c204, .int .i64 x9.Started] 58)).cell? ⟨w201.heap.size, 2, none⟩ = some (.int .i64 x9.Next) := by rw [← hV215]; exact X226.out.cell 2
    have ck227_3 : (w201.alloc (.cells #[.int .i64 x9.From, .int .i64 x9.Seq, .int .i64 x9.Next, .slice A202 n203 c204, .int .i64 x9.Started] 58)).cell? ⟨w201.heap.size, 3, none⟩ = some (.slice A202 n203 c204) := by rw [← hV215]; exact X226.out.cell 3
    have ck227_4 : (w201.alloc (.cells #[.int .i64 x9.From, .int .i64 x9.Seq, .int .i64 x9.Next, .slice A202 n203 c204, .int .i64 x9.Started] 58)).cell? ⟨w201.heap.size, 4, none⟩ = some (.int .i64 x9.Started) := by rw [← hV215]; exact X226.out.cell 4
    go_wp2_with fail
    rw [← hV215]
    clear hV215 ck8_0 ck8_1 ck8_2 ck8_3 ck8_4 ck8_5 ck8_6 ck8_7 ck8_8 ck47_0 ck47_1 ck47_2 ck47_3 ck47_4 ck97_0 ck97_1 ck97_2 ck97_3 ck97_4 ck227_0 ck227_1 ck227_2 ck227_3 ck227_4
    (with_reducible refine (ux.eqReassembly F222.out.rd F220.out.rd).mono ?_)
    rintro e w228 hp
    obtain ⟨rfl, hb⟩ := bx.b_parts rfl hp
    clear hp
    have B229 := Lib.hid (B217.out.trans (hb.mono B217.out.size))
    have Z230 := Lib.hid hb.size
    have F231 := Lib.hid (F219.out.below hb)
    have F232 := Lib.hid (F220.out.below hb)
    have F233 := Lib.hid (F221.out.below hb)
    have F234 := Lib.hid (F222.out.below hb)
    have F235 := Lib.hid (F223.out.below hb)
    have F236 := Lib.hid (F224.out.below hb)
    have F237 := Lib.hid (F225.out.below hb)
    have F238 := Lib.hid (X226.out.below hb)
    clear hb B217 F219 F220 F221 F222 F223 F224 F225 X226
    clear F238
    clear F236
    clear F234
    clear F232
    have ck8_0 : (w228).cell? ⟨w.heap.size, 0, none⟩ = some (.int .i64 f.Kind) := F235.out.cell 0
    have ck8_1 : (w228).cell? ⟨w.heap.size, 1, none⟩ = some (.int .i64 f.From) := F235.out.cell 1
    have ck8_2 : (w228).cell? ⟨w.heap.size, 2, none⟩ = some (.int .i64 f.To) := F235.out.cell 2
    have ck8_3 : (w228).cell? ⟨w.heap.size, 3, none⟩ = some (.int .i64 f.Seq) := F235.out.cell 3
    have ck8_4 : (w228).cell? ⟨w.heap.size, 4, none⟩ = some (.int .i64 f.Fragment) := F235.out.cell 4
    have ck8_5 : (w228).cell? ⟨w.heap.size, 5, none⟩ = some (.bool f.More) := F235.out.cell 5
    have ck8_6 : (w228).cell? ⟨w.heap.size, 6, none⟩ = some (.bool f.Retry) := F235.out.cell 6
    have ck8_7 : (w228).cell? ⟨w.heap.size, 7, none⟩ = some (.int .i64 f.Duration) := F235.out.cell 7
    have ck8_8 : (w228).cell? ⟨w.heap.size, 8, none⟩ = some (.slice Af nf cf) := F235.out.cell 8
    have ck97_0 : (w228).cell? ⟨w72.heap.size, 0, none⟩ = some (.int .i64 x9.From) := F237.out.cell 0
    have ck97_1 : (w228).cell? ⟨w72.heap.size, 1, none⟩ = some (.int .i64 x9.Seq) := F237.out.cell 1
    have ck97_2 : (w228).cell? ⟨w72.heap.size, 2, none⟩ = some (.int .i64 x9.Next) := F237.out.cell 2
    have ck97_3 : (w228).cell? ⟨w72.heap.size, 3, none⟩ = some (.slice A73 n74 c75) := F237.out.cell 3
    have ck97_4 : (w228).cell? ⟨w72.heap.size, 4, none⟩ = some (.int .i64 x9.Started) := F237.out.cell 4
    go_wp2_with fail
    clear ck8_0 ck8_1 ck8_2 ck8_3 ck8_4 ck8_5 ck8_6 ck8_7 ck8_8 ck97_0 ck97_1 ck97_2 ck97_3 ck97_4
    (with_reducible refine (ux.heldReassembly 1 F233.out.rd (by have h1 := fr.rea_bd x9; have h2 := (show (0:Int) ≤ 1 ∧ (1:Int) ≤ 4294967360 by omega); have h3 := SX.out; omega) SX.out).mono ?_)
    rintro e w239 hp
    obtain ⟨rfl, hb⟩ := bx.n_parts Hk2.out hp
    clear hp
    have B240 := Lib.hid (B229.out.trans (hb.mono B229.out.size))
    have Z241 := Lib.hid hb.size
    have F242 := Lib.hid (F231.out.below hb)
    have F243 := Lib.hid (F233.out.below hb)
    have F244 := Lib.hid (F235.out.below hb)
    have F245 := Lib.hid (F237.out.below hb)
    clear hb B229 F231 F233 F235 F237
    have ck8_0 : (w239).cell? ⟨w.heap.size, 0, none⟩ = some (.int .i64 f.Kind) := F244.out.cell 0
    have ck8_1 : (w239).cell? ⟨w.heap.size, 1, none⟩ = some (.int .i64 f.From) := F244.out.cell 1
    have ck8_2 : (w239).cell? ⟨w.heap.size, 2, none⟩ = some (.int .i64 f.To) := F244.out.cell 2
    have ck8_3 : (w239).cell? ⟨w.heap.size, 3, none⟩ = some (.int .i64 f.Seq) := F244.out.cell 3
    have ck8_4 : (w239).cell? ⟨w.heap.size, 4, none⟩ = some (.int .i64 f.Fragment) := F244.out.cell 4
    have ck8_5 : (w239).cell? ⟨w.heap.size, 5, none⟩ = some (.bool f.More) := F244.out.cell 5
    have ck8_6 : (w239).cell? ⟨w.heap.size, 6, none⟩ = some (.bool f.Retry) := F244.out.cell 6
    have ck8_7 : (w239).cell? ⟨w.heap.size, 7, none⟩ = some (.int .i64 f.Duration) := F244.out.cell 7
    have ck8_8 : (w239).cell? ⟨w.heap.size, 8, none⟩ = some (.slice Af nf cf) := F244.out.cell 8
    have ck97_0 : (w239).cell? ⟨w72.heap.size, 0, none⟩ = some (.int .i64 x9.From) := F245.out.cell 0
    have ck97_1 : (w239).cell? ⟨w72.heap.size, 1, none⟩ = some (.int .i64 x9.Seq) := F245.out.cell 1
    have ck97_2 : (w239).cell? ⟨w72.heap.size, 2, none⟩ = some (.int .i64 x9.Next) := F245.out.cell 2
    have ck97_3 : (w239).cell? ⟨w72.heap.size, 3, none⟩ = some (.slice A73 n74 c75) := F245.out.cell 3
    have ck97_4 : (w239).cell? ⟨w72.heap.size, 4, none⟩ = some (.int .i64 x9.Started) := F245.out.cell 4
    go_wp2_with fail
    clear ck8_0 ck8_1 ck8_2 ck8_3 ck8_4 ck8_5 ck8_6 ck8_7 ck8_8 ck97_0 ck97_1 ck97_2 ck97_3 ck97_4
    go_ret
    exact ⟨rfl, B240.out⟩
theorem walkA (f0 f1 f2 f3 f4 : Int) (f5 f6 : Bool) (f7 : Int) (Af : Option Addr) (nf cf : Nat) (zf : List Int) (now : Int) (w : World) (rowf : kit.IsRow .u8 w Af nf cf zf)  :
    Calls Try.prog 8 #[.agg #[.int .i64 f0, .int .i64 f1, .int .i64 f2, .int .i64 f3, .int .i64 f4, .bool f5, .bool f6, .int .i64 f7, .slice Af nf cf], .int .i64 now] w fun e w' => e = .returned (.bool true) ∧ Below w.heap.size w w' := by
  obtain ⟨y, hr⟩ := sl.Rd.of_row rowf
  exact walk ⟨f0, f1, f2, f3, f4, f5, f6, f7, y⟩ Af nf cf now w hr
end Go.Proofs.Ytjmenbpalihnnaa.xExactStartReassembly
