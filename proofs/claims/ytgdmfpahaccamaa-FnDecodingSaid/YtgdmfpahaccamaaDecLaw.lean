/- The law function of decoding (FnDecoding) returns true and leaves what was there. Condition: the argument is a slice of bytes that came in. -/
import Derived.Test.YtgdmfpahaccamaaDraw8
import Derived.Test.YtgdmfpahaccamaaEnd7
import Derived.Test.YtgdmfpahaccamaaSame
namespace Go.Proofs.Ytgdmfpahaccamaa.decLaw
open Go.RowKit sl harn bm cvm cvs vit vts
set_option linter.unusedVariables false

/-- Up to two inverted symbols: the bits. -/
theorem law_vit {zs L : List Int} {n : Nat} (hz : isb zs = true) (hn : zs.length = n) (hn2 : n ≤ 1000) (hL : L.length = 2 * (n + 2)) (hb : isb L = true) {d : Int} (hd : diff (conv zs) L = d) (h2 : d ≤ 2) : vit.vit L = (zs, d) := by
  have hi : inl L.length = n := by rw [hL]; exact inl_enc hn2
  have hs : inr L 0 2 = true := (inr_iff _ _ _).2 fun z hz' => by have := isb_all hb z hz'; omega
  obtain ⟨e1, e2⟩ := corrects hz hn hL (fun z hz' => by have := isb_all hb z hz'; omega) hd h2
  rw [vit_yes hi hs, e1, e2]
theorem isb_set {L : List Int} (h : isb L = true) (i : Nat) {v : Int} (hv : 0 ≤ v ∧ v ≤ 1) : isb (L.set i v) = true := (isb_iff _).2 fun z hz => by
  rcases List.mem_or_eq_of_mem_set hz with hz | hz
  · exact isb_all h z hz
  · rw [hz]; exact hv
theorem one_off {L : List Int} {i : Nat} (hi : i < L.length) {x v : Int} (hx : L.getD i 0 = x) (hv : 1 - x = v) : diff L (L.set i v) = 1 := by
  rw [diff_set L L i v hi hi, diff_self, if_pos rfl, hx, if_neg (by omega)]; rfl
theorem two_off {L : List Int} {i j : Nat} (hi : i < L.length) (hj : j < L.length) (hij : ¬ i = j) {x v y u : Int} (hx : L.getD i 0 = x) (hv : 1 - x = v) (hy : L.getD j 0 = y) (hu : 1 - y = u) : diff L ((L.set i v).set j u) = 2 := by
  have e : (L.set i v).getD j 0 = y := by rw [← hy, List.getD_eq_getElem?_getD, List.getElem?_set_ne hij, List.getD_eq_getElem?_getD]
  rw [diff_set L (L.set i v) j u hj (by simpa using hj), one_off hi hx hv, hy, e, if_pos rfl, if_neg (by omega)]; rfl
set_option maxRecDepth 100000 in
set_option maxHeartbeats 4000000 in
theorem walk (a : Option Addr) (len cap : Nat) (z0 : List Int) (w : World) (r0 : kit.IsRow .u8 w a len cap z0) :
    Calls Try.prog 3 #[.slice a len cap] w fun e w' => e = .returned (.bool true) ∧ Below w.heap.size w w' := by
  have HC := Lib.hid (draw.code_of_row r0)
  have hlen : (len : Int) ≤ 9223372036854775807 := by have := HC.out.1; omega
  clear r0
  by_cases hbig : 1048576 < (len : Int)
  · go_enter Try.func3, Try.ntmps3
    go_wp2
    go_ret
    exact ⟨rfl, Below.refl _ _⟩
  go_enter Try.func3, Try.ntmps3
  go_wp2_with (go_at_call 11; go_in)
  clear hbig
  go_wp2_with fail
  (with_reducible refine (draw.drawCoded _ a len cap HC.out).mono ?_)
  rintro e w1 ⟨A, n, c, zs, i, j, rfl, hn, hi, hj, hb1, ho, hb⟩
  obtain ⟨i, rfl⟩ := Int.eq_ofNat_of_zero_le hi.1
  obtain ⟨j, rfl⟩ := Int.eq_ofNat_of_zero_le hj.1
  have hi2 : i < 2 * (n + 2) := by omega
  have hj2 : j < 2 * (n + 2) := by omega
  have B1 := Lib.hid hb
  have O1 := Lib.hid ho
  have I1 := Lib.hid hb1
  have LZ := Lib.hid ho.len
  have LC := Lib.hid (show (conv zs).length = 2 * (n + 2) by rw [conv_len_yes hb1, ho.len])
  clear ho hb HC hb1
  go_wp2_with fail
  (with_reducible refine (specCv zs _ _ A n c _ O1.out.rd (by omega)).mono ?_)
  rintro e w2 ⟨A2, n2, c2, rfl, ho, hb⟩
  have hn2 : n2 = 2 * (n + 2) := by rw [← ho.len, LC.out]
  obtain ⟨g, rfl⟩ : ∃ g, A2 = some ⟨g, 0, none⟩ := by
    rcases ho.form with ⟨_, h0, _⟩ | ⟨g, cur, h, _⟩
    · omega
    · exact ⟨g, h⟩
  have hg : w1.heap.size ≤ g := by
    rcases ho.form with ⟨h, _⟩ | ⟨g', cur, h, g1, _⟩
    · cases h
    · injection h with h; injection h with h _; omega
  have HG := Lib.hid hg
  have B2 := Lib.hid (B1.out.trans (hb.mono B1.out.size))
  have O2 := Lib.hid (O1.out.below hb)
  have P2 := Lib.hid ho
  have H2 := Lib.hid (O1.out.hi_)
  have hin : (i : Int) < n2 := by omega
  have hjn : (j : Int) < n2 := by omega
  have N2 := Lib.hid hn2
  obtain ⟨x, hx⟩ : ∃ x, (conv zs).getD i 0 = x := ⟨_, rfl⟩
  have hx01 := isb_getD (conv_isb zs) i
  rw [hx] at hx01
  have hcx := draw.cell_of ho (show i < n2 by omega)
  rw [hx] at hcx
  have hfx := ho.free rfl i
  obtain ⟨v, hv⟩ : ∃ v, 1 - x = v := ⟨_, rfl⟩
  have hv01 : 0 ≤ v ∧ v ≤ 1 := by omega
  have wv : wrap64 v = v := IntWalk.wrap64_in _ (by omega)
  have wv2 : IntKind.i64.wrap v = v := IntWalk.i64_in _ (by omega)
  have W1 := Lib.hid (draw.ow_set ho i v (WalkArith.wf_i64 (by omega)))
  have BS := Lib.hid (show Below w.heap.size w (w2.setCell ⟨g, i, none⟩ (.int .i64 v)) from B2.out.setCell (p := ⟨g, i, none⟩) (Nat.le_trans B1.out.size hg) _)
  have OS := Lib.hid (show Ow 3 .i64 (w2.setCell ⟨g, i, none⟩ (.int .i64 v)) w.heap.size w1.heap.size A n c zs from O2.out.same (by simp [World.setCell]) fun q _ hq => Below.heap_setCell _ _ _ _ (by show q ≠ g; omega))
  have IN2 := Lib.hid (show inl (n2 : Int) = n by rw [hn2]; exact inl_enc hn)
  have HW2 := Lib.hid (show (Lit.int .i64 (n2 : Int)).wf = true from WalkArith.wf_i64 (by omega))
  have D0 := Lib.hid (law_vit I1.out LZ.out hn LC.out (conv_isb zs) (diff_self _) (by omega))
  by_cases hij : i = j
  · subst hij
    have D1 := Lib.hid (law_vit I1.out LZ.out hn (by rw [List.length_set, LC.out]) (isb_set (conv_isb zs) i hv01) (one_off (by rw [LC.out]; exact hi2) hx hv) (by omega))
    have WW := W1
    clear ho hb hx hg hn2
    go_wp2_with fail
    (with_reducible refine (implVit _ _ _ (some ⟨g, 0, none⟩) n2 c2 _ WW.out.rd).mono ?_)
    rintro e w4 hpost
    obtain ⟨A4, n4, c4, rfl, ho4, hb4⟩ := fin7.vit_parts D1.out hpost
    have B4 := Lib.hid (BS.out.trans (hb4.mono BS.out.size))
    have O4 := Lib.hid (OS.out.below hb4)
    have X4 := Lib.hid ho4
    clear ho4 hb4 hpost
    go_wp2_with fail
    (with_reducible refine (specCv zs _ _ A n c _ O4.out.rd (by omega)).mono ?_)
    rintro e w5 ⟨A5, n5, c5, rfl, ho5, hb5⟩
    have B5 := Lib.hid (B4.out.trans (hb5.mono B4.out.size))
    have O5 := Lib.hid (O4.out.below hb5)
    have X5 := Lib.hid (X4.out.below hb5)
    have Y5 := Lib.hid ho5
    clear ho5 hb5
    go_wp2_with fail
    (with_reducible refine (implVit _ _ _ A5 n5 c5 _ Y5.out.rd).mono ?_)
    rintro e w6 hpost
    obtain ⟨A6, n6, c6, rfl, ho6, hb6⟩ := fin7.vit_parts D0.out hpost
    have B6 := Lib.hid (B5.out.trans (hb6.mono B5.out.size))
    have O6 := Lib.hid (O5.out.below hb6)
    have X6 := Lib.hid (X5.out.below hb6)
    have Z6 := Lib.hid ho6
    clear ho6 hb6 hpost
    go_wp2_with fail
    (with_reducible refine (sameI_yes zs _ _ _ _ A4 A n4 c4 n c _ X6.out.rd O6.out.rd).mono ?_)
    rintro e w7 ⟨rfl, hb7⟩
    have B7 := Lib.hid (B6.out.trans (hb7.mono B6.out.size))
    have O7 := Lib.hid (O6.out.below hb7)
    have Z7 := Lib.hid (Z6.out.below hb7)
    clear hb7
    go_wp2_with fail
    (with_reducible refine (sameI_yes zs _ _ _ _ A6 A n6 c6 n c _ Z7.out.rd O7.out.rd).mono ?_)
    rintro e w8 ⟨rfl, hb8⟩
    have B8 := Lib.hid (B7.out.trans (hb8.mono B7.out.size))
    clear hb8
    go_wp2_with fail
    (with_reducible refine (implCe _).mono ?_)
    rintro e w9 ⟨rfl, rfl⟩
    go_wp2_with fail
    (with_reducible refine (implInl n2 HW2.out _).mono ?_)
    rw [IN2.out]
    rintro e w9 ⟨rfl, rfl⟩
    go_wp2_with fail
    go_ret
    exact ⟨rfl, B8.out⟩
  · have h1 : ((i : Int) != j) = true := by
      have : ¬ (i : Int) = j := by omega
      simpa using this
    have h2 : ((i : Int) == j) = false := by
      have : ¬ (i : Int) = j := by omega
      simpa using this
    obtain ⟨y, hy⟩ : ∃ y, (conv zs).getD j 0 = y := ⟨_, rfl⟩
    have hy01 := isb_getD (conv_isb zs) j
    rw [hy] at hy01
    obtain ⟨u, hu⟩ : ∃ u, 1 - y = u := ⟨_, rfl⟩
    have hu01 : 0 ≤ u ∧ u ≤ 1 := by omega
    have wu : wrap64 u = u := IntWalk.wrap64_in _ (by omega)
    have wu2 : IntKind.i64.wrap u = u := IntWalk.i64_in _ (by omega)
    have hcy := draw.cell_of ho (show j < n2 by omega)
    rw [hy] at hcy
    have e : ((conv zs).set i v).getD j 0 = y := by rw [← hy, List.getD_eq_getElem?_getD, List.getElem?_set_ne hij, List.getD_eq_getElem?_getD]
    have hcy2 := draw.cell_of W1.out (show j < n2 by omega)
    rw [e] at hcy2
    have hfy2 := W1.out.free rfl j
    have hfy := ho.free rfl j
    have WW := Lib.hid (draw.ow_set W1.out j u (WalkArith.wf_i64 (by omega)))
    have D1 := Lib.hid (law_vit I1.out LZ.out hn (by rw [List.length_set, List.length_set, LC.out]) (isb_set (isb_set (conv_isb zs) i hv01) j hu01) (two_off (by rw [LC.out]; exact hi2) (by rw [LC.out]; exact hj2) hij hx hv hy hu) (by omega))
    have BS2 := Lib.hid (show Below w.heap.size w ((w2.setCell ⟨g, i, none⟩ (.int .i64 v)).setCell ⟨g, j, none⟩ (.int .i64 u)) from BS.out.setCell (p := ⟨g, j, none⟩) (Nat.le_trans B1.out.size hg) _)
    have OS2 := Lib.hid (show Ow 3 .i64 ((w2.setCell ⟨g, i, none⟩ (.int .i64 v)).setCell ⟨g, j, none⟩ (.int .i64 u)) w.heap.size w1.heap.size A n c zs from OS.out.same (by simp [World.setCell]) fun q _ hq => Below.heap_setCell _ _ _ _ (by show q ≠ g; omega))
    have hji : ¬ j = i := fun h => hij h.symm
    clear ho hb hx hg hn2 hy e BS OS
    have BS := BS2
    have OS := OS2
    go_wp2_with fail
    (with_reducible refine (implVit _ _ _ (some ⟨g, 0, none⟩) n2 c2 _ WW.out.rd).mono ?_)
    rintro e w4 hpost
    obtain ⟨A4, n4, c4, rfl, ho4, hb4⟩ := fin7.vit_parts D1.out hpost
    have B4 := Lib.hid (BS.out.trans (hb4.mono BS.out.size))
    have O4 := Lib.hid (OS.out.below hb4)
    have X4 := Lib.hid ho4
    clear ho4 hb4 hpost
    go_wp2_with fail
    (with_reducible refine (specCv zs _ _ A n c _ O4.out.rd (by omega)).mono ?_)
    rintro e w5 ⟨A5, n5, c5, rfl, ho5, hb5⟩
    have B5 := Lib.hid (B4.out.trans (hb5.mono B4.out.size))
    have O5 := Lib.hid (O4.out.below hb5)
    have X5 := Lib.hid (X4.out.below hb5)
    have Y5 := Lib.hid ho5
    clear ho5 hb5
    go_wp2_with fail
    (with_reducible refine (implVit _ _ _ A5 n5 c5 _ Y5.out.rd).mono ?_)
    rintro e w6 hpost
    obtain ⟨A6, n6, c6, rfl, ho6, hb6⟩ := fin7.vit_parts D0.out hpost
    have B6 := Lib.hid (B5.out.trans (hb6.mono B5.out.size))
    have O6 := Lib.hid (O5.out.below hb6)
    have X6 := Lib.hid (X5.out.below hb6)
    have Z6 := Lib.hid ho6
    clear ho6 hb6 hpost
    go_wp2_with fail
    (with_reducible refine (sameI_yes zs _ _ _ _ A4 A n4 c4 n c _ X6.out.rd O6.out.rd).mono ?_)
    rintro e w7 ⟨rfl, hb7⟩
    have B7 := Lib.hid (B6.out.trans (hb7.mono B6.out.size))
    have O7 := Lib.hid (O6.out.below hb7)
    have Z7 := Lib.hid (Z6.out.below hb7)
    clear hb7
    go_wp2_with fail
    (with_reducible refine (sameI_yes zs _ _ _ _ A6 A n6 c6 n c _ Z7.out.rd O7.out.rd).mono ?_)
    rintro e w8 ⟨rfl, hb8⟩
    have B8 := Lib.hid (B7.out.trans (hb8.mono B7.out.size))
    clear hb8
    go_wp2_with fail
    (with_reducible refine (implCe _).mono ?_)
    rintro e w9 ⟨rfl, rfl⟩
    go_wp2_with fail
    (with_reducible refine (implInl n2 HW2.out _).mono ?_)
    rw [IN2.out]
    rintro e w9 ⟨rfl, rfl⟩
    go_wp2_with fail
    go_ret
    exact ⟨rfl, B8.out⟩
end Go.Proofs.Ytgdmfpahaccamaa.decLaw
