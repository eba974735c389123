/- The law function of the check (FnChecksums) returns true and leaves what was there. Condition: the argument is a slice of bytes that came in. -/
import Derived.Test.YtnpkobchbdmppaaCrc2
import Derived.Test.YtnpkobchbdmppaaDraw7
import Derived.Test.YtnpkobchbdmppaaAt
import Derived.Test.YtnpkobchbdmppaaSame
import Derived.Lib.SlBytesConst
namespace Go.Proofs.Ytnpkobchbdmppaa.sumLaw
open Go.RowKit sl harn crcm crcs
set_option linter.unusedVariables false

theorem byt_at {l : List Int} (h : Byt l) (i : Nat) : 0 ≤ l.getD i 0 ∧ l.getD i 0 ≤ 255 := by
  rw [List.getD_eq_getElem?_getD]
  rcases Nat.lt_or_ge i l.length with hi | hi
  · rw [List.getElem?_eq_getElem hi]; exact h _ (List.getElem_mem hi)
  · rw [List.getElem?_eq_none hi]; simp
theorem byt_set {l : List Int} (h : Byt l) (i : Nat) {v : Int} (hv : 0 ≤ v ∧ v ≤ 255) : Byt (l.set i v) := fun z hz => by
  rcases List.mem_or_eq_of_mem_set hz with hz | hz
  · exact h z hz
  · rw [hz]; exact hv
theorem good_iff {l : List Int} (h2 : 2 ≤ l.length) (hb : Byt l) : wc (front l) = l ↔ miss l = 0 := by
  obtain ⟨n, hn⟩ : ∃ n, l.length = n + 2 := ⟨l.length - 2, by omega⟩
  rw [wc_iff hn hb, miss, xor_zero_iff, hn, show n + 2 - 2 = n by omega, show n + 2 - 1 = n + 1 by omega]
  have h1 := byt_at hb n
  have h3 := byt_at hb (n + 1)
  rw [or_xor (by omega)]
  omega
theorem front_wc (l : List Int) : front (wc l) = l := by
  rw [front, wc_len, wc, show l.length + 2 - 2 = l.length by omega, List.take_left]
theorem wc_byt {l : List Int} (h : Byt l) : Byt (wc l) := fun z hz => by
  have := crc_lt h
  rcases List.mem_append.1 hz with hz | hz
  · exact h z hz
  · simp only [List.mem_cons, List.not_mem_nil, or_false] at hz
    omega
theorem chk_wc (l : List Int) : chk (wc l) = (l, true) := by
  have := chk_yes (l := wc l) (by rw [wc_len]; omega) (by rw [front_wc])
  rwa [front_wc] at this
theorem miss_wc {l : List Int} (h : Byt l) : miss (wc l) = 0 := (good_iff (by rw [wc_len]; omega) (wc_byt h)).1 (by rw [front_wc])
theorem chk_bad {l : List Int} (h2 : 2 ≤ l.length) (hb : Byt l) (h : miss l ≠ 0) : chk l = ([], false) := chk_no fun g => h ((good_iff h2 hb).1 g.2)
/-- A byte with one bit inverted. -/
def inv (x : Int) (q : Nat) : Int := ((x.toNat ^^^ 2 ^ q : Nat) : Int)
theorem inv_in {x : Int} (h : 0 ≤ x ∧ x ≤ 255) {q : Nat} (hq : q < 8) : 0 ≤ inv x q ∧ inv x q ≤ 255 := by
  have h1 : 2 ^ q < 2 ^ 8 := Nat.pow_lt_pow_right (by omega) hq
  have h2 : x.toNat ^^^ 2 ^ q < 2 ^ 8 := Nat.xor_lt_two_pow (by omega) h1
  unfold inv; omega
theorem one_bad {l : List Int} {i : Nat} (hl : l.length ≤ 9) (hb : Byt l) (hi : i / 8 < l.length + 2) :
    miss ((wc l).set (i / 8) (inv ((wc l).getD (i / 8) 0) (i % 8))) = syn (l.length + 1 - i / 8) (i % 8) := by
  rw [miss_set (wc l) (i / 8) (i % 8) _ (by rw [wc_len]; omega) (by rw [wc_len]; exact hi) (by rw [inv, Int.toNat_natCast]), miss_wc hb, Nat.zero_xor, wc_len, show l.length + 2 - 1 = l.length + 1 by omega]
theorem xor_u8 {p q : Nat} (hp : p < 256) (hq : q < 8) : bits .xor .u8 (p : Int) (2 ^ q % 256) = ((p ^^^ 2 ^ q : Nat) : Int) := by
  have hk2 : 2 ^ q ≤ 2 ^ 7 := Nat.pow_le_pow_right (by omega) (by omega)
  have e0 : ((2 : Int) ^ q) = ((2 ^ q : Nat) : Int) := by rw [Int.natCast_pow]; rfl
  rw [e0]
  generalize 2 ^ q = g at *
  rw [show (g : Int) % 256 = g by omega]
  have h3 : p ^^^ g < 2 ^ 8 := Nat.xor_lt_two_pow (by omega) (by omega)
  show IntKind.u8.wrap ((BitVec.ofInt 8 (p : Int) ^^^ BitVec.ofInt 8 (g : Int)).toNat : Int) = _
  rw [BitVec.toNat_xor]
  have e1 : (BitVec.ofInt 8 (p : Int)).toNat = p := by rw [BitVec.ofInt_natCast, BitVec.toNat_ofNat]; omega
  have e2 : (BitVec.ofInt 8 (g : Int)).toNat = g := by rw [BitVec.ofInt_natCast, BitVec.toNat_ofNat]; omega
  rw [e1, e2, IntKind.wrap_u8]
  omega
theorem nine : crc [49, 50, 51, 52, 53, 54, 55, 56, 57] = 36974 := by decide +kernel
theorem lit9 (w : World) : Rd .u8 (w.alloc (.cells #[.int .u8 49, .int .u8 50, .int .u8 51, .int .u8 52, .int .u8 53, .int .u8 54, .int .u8 55, .int .u8 56, .int .u8 57] 5 (9, 10))) w.heap.size (w.heap.size + 1) (some ⟨w.heap.size, 0, none⟩) 9 9 [49, 50, 51, 52, 53, 54, 55, 56, 57] :=
  ⟨rfl, by omega, by unfold maxLen; omega, by simp, Wf.of_u8 (by intro z hz; simp at hz; omega), fun _ => ⟨_, 0, rfl, Nat.le_refl _, by omega, fun i hi => by
    rw [World.cell?_alloc_mark]
    have : i = 0 ∨ i = 1 ∨ i = 2 ∨ i = 3 ∨ i = 4 ∨ i = 5 ∨ i = 6 ∨ i = 7 ∨ i = 8 := by omega
    rcases this with rfl | rfl | rfl | rfl | rfl | rfl | rfl | rfl | rfl <;> rfl⟩⟩
theorem crc9 (w : World) :
    Calls Try.prog 18 #[.slice (some ⟨w.heap.size, 0, none⟩) 9 9] (w.alloc (.cells #[.int .u8 49, .int .u8 50, .int .u8 51, .int .u8 52, .int .u8 53, .int .u8 54, .int .u8 55, .int .u8 56, .int .u8 57] 5 (9, 10))) fun e w' => e = .returned (.int .i64 36974) ∧ Below w.heap.size w w' := by
  refine (implCrc _ _ _ _ _ _ _ (lit9 w)).mono ?_
  rintro e w' ⟨rfl, rfl⟩
  exact ⟨by rw [nine]; rfl, (Below.refl _ _).alloc (Nat.le_refl _) _⟩
theorem own_some {E : TypeId} {k : IntKind} {w : World} {lo hi n cap : Nat} {A : Option Addr} {zs : List Int} (h : Ow E k w lo hi A n cap zs) (hn : 0 < n) : ∃ b, A = some ⟨b, 0, none⟩ ∧ lo ≤ b := by
  rcases h.form with ⟨_, h0, _⟩ | ⟨g, cur, h, g1, _⟩
  · omega
  · exact ⟨g, h, g1⟩

set_option maxRecDepth 100000 in
set_option maxHeartbeats 4000000 in
theorem walk (a : Option Addr) (len cap : Nat) (z0 : List Int) (w : World) (r0 : kit.IsRow .u8 w a len cap z0) :
    Calls Try.prog 3 #[.slice a len cap] w fun e w' => e = .returned (.bool true) ∧ Below w.heap.size w w' := by
  obtain ⟨i0, hi0, hz0, hz1, hz2⟩ := info_parts u8Info
  have HZ := Lib.hid (And.intro hi0 (And.intro hz0 (And.intro hz1 hz2)))
  have HC := Lib.hid (draw.code_of_row r0)
  have hlen : (len : Int) ≤ 9223372036854775807 := by have := HC.out.1; omega
  obtain ⟨y0, hr0⟩ := Rd.of_row r0
  have RC := Lib.hid hr0
  clear r0 hr0 hi0 hz0 hz1 hz2
  by_cases hbig : 1048576 < (len : Int)
  · go_enter Try.func3, Try.ntmps3
    go_wp2
    go_ret
    exact ⟨rfl, Below.refl _ _⟩
  have LN := Lib.hid (show len ≤ 1048576 by omega)
  go_enter Try.func3, Try.ntmps3
  go_wp2_with (go_at_call 12; go_in)
  clear hbig
  go_wp2_with fail
  (with_reducible refine (draw.drawCrcA _ a len cap HC.out).mono ?_)
  rintro e w1 ⟨A, n, c, zs, rfl, hn, ho, hb⟩
  have HL := Lib.hid ho.len
  have HY := Lib.hid (byt_of_wf ho.wf)
  have C1 := Lib.hid (RC.out.below hb)
  have B1 := Lib.hid hb
  have O1 := Lib.hid ho
  clear ho hb HC RC
  go_wp2_with fail
  (with_reducible refine (implAppend zs _ _ A n c _ O1.out.rd (by omega)).mono ?_)
  rintro e w2 ⟨F, fn, fc, rfl, ho, hb⟩
  obtain rfl : n + 2 = fn := by have h1 := ho.len; have h2 := HL.out; rw [wc_len] at h1; omega
  have B2 := Lib.hid (B1.out.trans (hb.mono B1.out.size))
  have O2 := Lib.hid (O1.out.below hb)
  have C2 := Lib.hid (C1.out.below hb)
  have F2 := Lib.hid ho
  clear ho hb B1 O1 C1
  go_wp2_with fail
  (with_reducible refine (implCheck (wc zs) _ _ F (n + 2) fc _ F2.out.rd (by omega)).mono ?_)
  rintro e w3 hp
  obtain ⟨X, xn, xc, rfl, ho, hb⟩ := CkPost.parts (chk_wc zs) hp
  obtain rfl : n = xn := by have h1 := ho.len; have h2 := HL.out; omega
  have B3 := Lib.hid (B2.out.trans (hb.mono B2.out.size))
  have O3 := Lib.hid (O2.out.below hb)
  have C3 := Lib.hid (C2.out.below hb)
  have F3 := Lib.hid (F2.out.below hb)
  have X3 := Lib.hid ho
  clear ho hb hp B2 O2 F2 C2
  go_wp2_with fail
  (with_reducible refine (sameB_yes zs _ _ _ _ X A n xc n c _ X3.out.rd O3.out.rd).mono ?_)
  rintro e w4 ⟨rfl, hb⟩
  have B4 := Lib.hid (B3.out.trans (hb.mono B3.out.size))
  have C4 := Lib.hid (C3.out.below hb)
  have F4 := Lib.hid (F3.out.below hb)
  clear hb B3 O3 F3 X3 C3
  go_wp2_with fail
  (with_reducible refine (lawAt.at_ 0 (by omega) (by omega) a len cap _ _ y0 _ C4.out LN.out).mono ?_)
  rintro e w5 ⟨p0, rfl, hp0, hp0', rfl⟩
  obtain ⟨i, hi⟩ := Int.eq_ofNat_of_zero_le (Int.emod_nonneg p0 (show 8 * ((n : Int) + 2) ≠ 0 by omega))
  have hi8 : i / 8 < n + 2 := by have := Int.emod_lt_of_pos p0 (show 0 < 8 * ((n : Int) + 2) by omega); omega
  have hti : p0.tmod (8 * ((n : Int) + 2)) = i := by rw [Int.tmod_eq_emod_of_nonneg hp0]; exact hi
  clear hp0 hp0'
  go_wp2_with fail
  (with_reducible refine (lawAt.at_ 1 (by omega) (by omega) a len cap _ _ y0 _ C4.out LN.out).mono ?_)
  rintro e w5 ⟨p1, rfl, hp1, hp1', rfl⟩
  obtain ⟨j, hj⟩ := Int.eq_ofNat_of_zero_le (Int.emod_nonneg p1 (show 8 * ((n : Int) + 2) ≠ 0 by omega))
  have hj8 : j / 8 < n + 2 := by have := Int.emod_lt_of_pos p1 (show 0 < 8 * ((n : Int) + 2) by omega); omega
  have htj : p1.tmod (8 * ((n : Int) + 2)) = j := by rw [Int.tmod_eq_emod_of_nonneg hp1]; exact hj
  clear hp1 hp1' C4
  have HW := Lib.hid (wc_byt HY.out)
  have HWL := Lib.hid (show (wc zs).length = n + 2 by rw [wc_len, HL.out])
  have HM := Lib.hid (one_bad (i := i) (by rw [HL.out]; exact hn) HY.out (by rw [HL.out]; exact hi8))
  rw [HL.out] at HM
  obtain ⟨L, hL⟩ : ∃ L, wc zs = L := ⟨_, rfl⟩
  rw [hL] at F4 HW HWL HM
  have HE := Lib.hid hL
  clear hL HY HE
  go_wp2_with (at_builtin; refine wpList_app _ rfl _ _ 22 rfl 5 i0 _ .u8 Try.underlying22 HZ.out.1 HZ.out.2.1 HZ.out.2.2.1 (by rw [HZ.out.2.2.2]; omega) rfl rfl rfl (Ow.empty _ _ _) (F4.out.rd.alloc _) (by omega) (by simp) ?_; intro G gc w6 ho hb1; have G6 := Lib.hid (show Ow 5 .u8 w6 w4.heap.size w6.heap.size G (n + 2) gc L by simpa using ho); have B6 := Lib.hid (B4.out.trans (((Below.refl _ _).alloc (Nat.le_refl _) _).trans hb1 |>.mono B4.out.size)); clear ho hb1)
  have HSZ := Lib.hid B4.out.size
  clear B4 F4
  obtain ⟨b, rfl, hbl⟩ := own_some G6.out (by omega)
  have HBL := Lib.hid (show w.heap.size ≤ b from Nat.le_trans HSZ.out hbl)
  clear hbl
  have hcell := draw.cell_of G6.out hi8
  have hfree := G6.out.free rfl (i / 8)
  have hx := byt_at HW.out (i / 8)
  obtain ⟨x, hxe⟩ : ∃ x, L.getD (i / 8) 0 = x := ⟨_, rfl⟩
  rw [hxe] at hcell hx HM
  obtain ⟨m, rfl⟩ := Int.eq_ofNat_of_zero_le hx.1
  have hxor := xor_u8 (p := m) (q := i % 8) (by omega) (by omega)
  have HV := Lib.hid (inv_in hx (q := i % 8) (by omega))
  rw [show ((m ^^^ 2 ^ (i % 8) : Nat) : Int) = inv m (i % 8) by rw [inv, Int.toNat_natCast]] at hxor
  obtain ⟨v, hv⟩ : ∃ v, inv m (i % 8) = v := ⟨_, rfl⟩
  rw [hv] at hxor HM HV
  have e1 : (i : Int) / 8 < n + 2 := by omega
  clear hxe hv hx
  go_wp2
  go_region
  have G7 := Lib.hid (show Ow 5 .u8 ((w6.setCell ⟨b, i / 8, none⟩ (.int .u8 v)).drew) w4.heap.size ((w6.setCell ⟨b, i / 8, none⟩ (.int .u8 v)).drew).heap.size _ (n + 2) gc (L.set (i / 8) v) from ((draw.ow_set G6.out (i / 8) v (WalkArith.wf_u8 (by have := HV.out; omega))).up.same (Nat.le_refl _) fun _ _ _ => rfl))
  have B7 := Lib.hid (show Below w.heap.size w ((w6.setCell ⟨b, i / 8, none⟩ (.int .u8 v)).drew) from (B6.out.setCell (p := ⟨b, i / 8, none⟩) HBL.out (.int .u8 v)).trans ⟨rfl, rfl, rfl, Nat.le_refl _, fun _ _ => rfl⟩)
  have HY1 := Lib.hid (byt_set HW.out (i / 8) HV.out)
  have HL1 := Lib.hid (show (L.set (i / 8) v).length = n + 2 by rw [List.length_set]; exact HWL.out)
  have HK1 := Lib.hid (chk_bad (by rw [HL1.out]; omega) HY1.out (by rw [HM.out]; exact syn_ne _ (by omega) _ (by omega)))
  obtain ⟨L1, hL1⟩ : ∃ L1, L.set (i / 8) v = L1 := ⟨_, rfl⟩
  rw [hL1] at G7 HY1 HL1 HK1 HM
  clear hL1 hcell hfree hxor e1 G6 B6 HW HV HWL
  obtain ⟨w7, hw7⟩ : ∃ W, (w6.setCell ⟨b, i / 8, none⟩ (.int .u8 v)).drew = W := ⟨_, rfl⟩
  rw [hw7] at G7 B7 ⊢
  clear hw7
  go_wp2_with fail
  (with_reducible refine (implCheck L1 _ _ _ (n + 2) gc _ G7.out.rd (by omega)).mono ?_)
  rintro e w8 hp
  obtain ⟨D1, dn1, dc1, rfl, _, hb⟩ := CkPost.parts HK1.out hp
  have B8 := Lib.hid (B7.out.trans (hb.mono B7.out.size))
  have G8 := Lib.hid (G7.out.below hb)
  clear hb hp B7 G7 HK1
  by_cases hij : i = j
  · subst hij
    have kc := fun (w : World) (C : Array Value) (n c : Nat) => Lib.run_convert_bytes_const (P := Try.prog) w 22 5 C n c Try.underlying22 Try.underlying5
    go_wp2_with fail
    (with_reducible refine (crc9 _).mono ?_)
    rintro e w9 ⟨rfl, hb⟩
    have B9 := Lib.hid (B8.out.trans (hb.mono B8.out.size))
    clear hb B8
    go_wp2_with fail
    go_ret
    exact ⟨rfl, B9.out⟩
  · have hne : ((i : Int) == (j : Int)) = false := by simp; omega
    have hcell := draw.cell_of G8.out hj8
    have hfree := G8.out.free rfl (j / 8)
    have hx := byt_at HY1.out (j / 8)
    have HM2 := Lib.hid (fun v h => miss_set L1 (j / 8) (j % 8) v (by rw [HL1.out]; omega) (by rw [HL1.out]; exact hj8) h)
    obtain ⟨x, hxe⟩ : ∃ x, L1.getD (j / 8) 0 = x := ⟨_, rfl⟩
    rw [hxe] at hcell hx HM2
    obtain ⟨m2, rfl⟩ := Int.eq_ofNat_of_zero_le hx.1
    have hxor := xor_u8 (p := m2) (q := j % 8) (by omega) (by omega)
    have HV := Lib.hid (inv_in hx (q := j % 8) (by omega))
    have HM3 := Lib.hid (HM2.out (inv m2 (j % 8)) (by rw [inv, Int.toNat_natCast]))
    rw [show ((m2 ^^^ 2 ^ (j % 8) : Nat) : Int) = inv m2 (j % 8) by rw [inv, Int.toNat_natCast]] at hxor
    obtain ⟨v2, hv⟩ : ∃ v, inv m2 (j % 8) = v := ⟨_, rfl⟩
    rw [hv] at hxor HM3 HV
    have HM4 := Lib.hid (show miss (L1.set (j / 8) v2) ≠ 0 from fun h => by
      rw [HM3.out, HM.out, HL1.out, show n + 2 - 1 - j / 8 = n + 1 - j / 8 by omega] at h
      have h2 := (syn_diff _ (by omega) _ (by omega) _ (by omega) _ (by omega)).1 (xor_zero_iff.1 h)
      omega)
    have e1 : (j : Int) / 8 < n + 2 := by omega
    clear hxe hv hx HM2 HM3
    go_wp2
    go_region
    have G9 := Lib.hid (show Ow 5 .u8 ((w8.setCell ⟨b, j / 8, none⟩ (.int .u8 v2)).drew) w4.heap.size ((w8.setCell ⟨b, j / 8, none⟩ (.int .u8 v2)).drew).heap.size _ (n + 2) gc (L1.set (j / 8) v2) from ((draw.ow_set G8.out (j / 8) v2 (WalkArith.wf_u8 (by have := HV.out; omega))).up.same (Nat.le_refl _) fun _ _ _ => rfl))
    have B9 := Lib.hid (show Below w.heap.size w ((w8.setCell ⟨b, j / 8, none⟩ (.int .u8 v2)).drew) from (B8.out.setCell (p := ⟨b, j / 8, none⟩) HBL.out (.int .u8 v2)).trans ⟨rfl, rfl, rfl, Nat.le_refl _, fun _ _ => rfl⟩)
    have HY2 := Lib.hid (byt_set HY1.out (j / 8) HV.out)
    have HL2 := Lib.hid (show (L1.set (j / 8) v2).length = n + 2 by rw [List.length_set]; exact HL1.out)
    have HK2 := Lib.hid (chk_bad (by rw [HL2.out]; omega) HY2.out HM4.out)
    obtain ⟨L2, hL2⟩ : ∃ L2, L1.set (j / 8) v2 = L2 := ⟨_, rfl⟩
    rw [hL2] at G9 HK2
    clear hL2 hcell hfree hxor e1 G8 B8 HV HY2 HL2 HM4 HM HY1 HL1
    obtain ⟨w9, hw9⟩ : ∃ W, (w8.setCell ⟨b, j / 8, none⟩ (.int .u8 v2)).drew = W := ⟨_, rfl⟩
    rw [hw9] at G9 B9 ⊢
    clear hw9
    go_wp2_with fail
    (with_reducible refine (implCheck L2 _ _ _ (n + 2) gc _ G9.out.rd (by omega)).mono ?_)
    rintro e w10 hp
    obtain ⟨D2, dn2, dc2, rfl, _, hb⟩ := CkPost.parts HK2.out hp
    have B10 := Lib.hid (B9.out.trans (hb.mono B9.out.size))
    clear hb hp B9 G9 HK2
    have kc := fun (w : World) (C : Array Value) (n c : Nat) => Lib.run_convert_bytes_const (P := Try.prog) w 22 5 C n c Try.underlying22 Try.underlying5
    go_wp2_with fail
    (with_reducible refine (crc9 _).mono ?_)
    rintro e w11 ⟨rfl, hb⟩
    have B11 := Lib.hid (B10.out.trans (hb.mono B10.out.size))
    clear hb B10
    go_wp2_with fail
    go_ret
    exact ⟨rfl, B11.out⟩
end Go.Proofs.Ytnpkobchbdmppaa.sumLaw
