/- The law function of beacons (FnBeacons) returns true and leaves what was there. Condition: the argument is a slice of bytes that came in. -/
import Derived.Test.YtalfihfielgmpaaDbc
import Derived.Test.YtalfihfielgmpaaBe3
import Derived.Test.YtalfihfielgmpaaAtv
import Derived.Test.YtalfihfielgmpaaSame
import Derived.Test.YtalfihfielgmpaaRwv
namespace Go.Proofs.Ytalfihfielgmpaa.beLaw
open Go.RowKit sl harn rng bx stw draw bcm
open be hiding below_box below_box2
set_option linter.unusedVariables false
set_option linter.unusedSimpArgs false

theorem stm_yes {x : Bc} {k : Nat} (hk : k < 16) (v : Bool) : stm x (k : Int) v = ⟨x.f, x.s, x.c, x.d, x.g, sb x.t k v⟩ := by
  unfold stm
  rw [if_pos (show St (k : Int) by unfold St; omega), Int.toNat_natCast]
theorem tc_st {x : Bc} {k : Nat} (hk : k < 16) : tc x (k : Int) = tb x.t k := by
  unfold tc
  rw [decide_eq_true (show St (k : Int) by unfold St; omega), Int.toNat_natCast]
  rfl
theorem tc_on {f s c d : Int} {g : Bool} {k : Nat} (hk : k < 16) (t : Int) : tc ⟨f, s, c, d, g, sb t k true⟩ (k : Int) = true := by
  rw [tc_st hk]
  show tb (sb t k true) k = true
  rw [tb_sb t hk true (by omega), if_pos rfl]
theorem tc_off {f s c d : Int} {g : Bool} {k : Nat} (hk : k < 16) (t : Int) : tc ⟨f, s, c, d, g, sb t k false⟩ (k : Int) = false := by
  rw [tc_st hk]
  show tb (sb t k false) k = false
  rw [tb_sb t hk false (by omega), if_pos rfl]
theorem tc_other {f s c d : Int} {g : Bool} {k j : Nat} (hk : k < 16) (hj : j < 16) (hn : j ≠ k) (t : Int) : tc ⟨f, s, c, d, g, sb (sb t k true) k false⟩ (j : Int) = tc ⟨f, s, c, d, g, t⟩ (j : Int) := by
  rw [tc_st hj, tc_st hj]
  show tb (sb (sb t k true) k false) j = tb t j
  rw [tb_sb _ hk false (by omega), if_neg hn, tb_sb t hk true (by omega), if_neg hn]
theorem tc_no (x : Bc) : tc x 16 = false := by
  unfold tc
  rw [decide_eq_false (show ¬ St 16 by decide)]
  rfl
theorem db_eb_all (x : Bc) : (db (eb x)).2 = vb x ∧ (vb x = true → (db (eb x)).1 = x) := by
  by_cases h : Vb x
  · rw [db_eb h]
    exact ⟨(decide_eq_true h).symm, fun _ => rfl⟩
  · rw [eb_no h, db_nil]
    exact ⟨(decide_eq_false h).symm, fun g => absurd (of_decide_eq_true g) h⟩
set_option maxRecDepth 100000 in
set_option maxHeartbeats 16000000 in
theorem walk (a : Option Addr) (len cap : Nat) (zz : List Int) (w : World) (r0 : kit.IsRow .u8 w a len cap zz) :
    Calls Try.prog 3 #[.slice a len cap] w (fun e w' => e = .returned (.bool true) ∧ Below w.heap.size w w') := by
  obtain ⟨zc, hzc⟩ := sl.Rd.of_row r0
  have HC := Lib.hid (draw.code_of_row r0)
  have hlen : (len : Int) ≤ 9223372036854775807 := by have := HC.out.1; omega
  have Z0 := Lib.hid hzc
  clear r0 hzc
  by_cases hbig : 1048576 < (len : Int)
  · go_enter Try.func3, Try.ntmps3
    go_wp2
    go_ret
    exact ⟨rfl, Below.refl _ _⟩
  have HBG := Lib.hid (show len ≤ 1048576 by omega)
  go_enter Try.func3, Try.ntmps3
  go_wp2_with (go_at_call 12; go_in)
  clear hbig
  go_wp2_with fail
  (with_reducible refine (dBe _ a len cap HC.out).mono ?_)
  rintro e w1 ⟨f, s, c, d, g, t, rfl, hb⟩
  have B1 := Lib.hid hb
  have R1 := Lib.hid (Z0.out.below hb)
  have HAT := Lib.hid (lawAt.atv_in Z0.out 0)
  clear hb Z0 hlen
  obtain ⟨bX, hbb⟩ : ∃ b, w1.heap.size = b := ⟨_, rfl⟩
  go_upto_region 4 with fail
  generalize hW : w1.alloc (.cells #[.int .i64 f, .int .i64 s, .int .i64 c, .int .i64 d, .bool g, .int .i64 t] 25) = wa2
  have LX := Lib.hid (show w.heap.size ≤ bX ∧ w.heap.size ≤ bX by have h1 := B1.out.size; have h2R := R1.out.hi_; have h3 := hbb; omega)
  have X2 := Lib.hid (show Bx 25 wa2 bX #[.int .i64 f, .int .i64 s, .int .i64 c, .int .i64 d, .bool g, .int .i64 t] by rw [← hW, ← hbb]; exact Bx.made _ _ _)
  have hb : Below w1.heap.size w1 wa2 := by rw [← hW]; exact below_box _ _
  (try rw [hbb])
  clear hW hbb
  have SS2 := Lib.hid hb.size
  have B2 := Lib.hid (B1.out.trans (hb.mono B1.out.size))
  have R2 := Lib.hid (R1.out.below hb)
  clear hb B1 R1
  have LWX := Lib.hid X2.out.lt
  go_wp2_with fail
  (with_reducible refine (dBd _ a len cap (code_later HC.out B2.out)).mono ?_)
  rintro e wa3 ⟨A1, n1, c1, lz, rfl, hn, ho, hb⟩
  have SS3 := Lib.hid hb.size
  have B3 := Lib.hid (B2.out.trans (hb.mono B2.out.size))
  have X3 := Lib.hid (X2.out.below hb)
  have R3 := Lib.hid (R2.out.below hb)
  clear hb B2 X2 R2
  have L3 := Lib.hid ho
  have HN1 := Lib.hid hn
  have HLB := Lib.hid (show Byt lz from ho.wf.u8)
  clear ho hn HC
  obtain ⟨⟨⟨y0, y1, y2, y3, y4, y5⟩, ok⟩, hd⟩ : ∃ r, db (eb ⟨f, s, c, d, g, t⟩) = r := ⟨_, rfl⟩
  have HD := Lib.hid hd
  clear hd
  go_wp2_with (refine stw.list_load rfl 25 _ rfl (bX) rfl 25 _ X3.out Try.underlying25 rfl szB ?_)
  (with_reducible refine (implEb f s c d g t _).mono ?_)
  rintro e wa4 ⟨A2, n2, c2, rfl, ho, hb⟩
  have SS4 := Lib.hid hb.size
  have B4 := Lib.hid (B3.out.trans (hb.mono B3.out.size))
  have X4 := Lib.hid (X3.out.below hb)
  have R4 := Lib.hid (R3.out.below hb)
  have L4 := Lib.hid (L3.out.below hb)
  clear hb  B3 X3 R3 L3
  have E4 := Lib.hid ho
  clear ho
  have HN2 := Lib.hid (show n2 ≤ 36 by have h1 := E4.out.len; have h2 := eb_len ⟨f, s, c, d, g, t⟩; omega)
  go_wp2_with fail
  (with_reducible refine (implDb (eb ⟨f, s, c, d, g, t⟩) _ _ A2 n2 c2 _ E4.out.rd (by have := HN2.out; omega)).mono ?_)
  rintro e wa5 hp
  obtain ⟨rfl, hb⟩ := d_parts (congrArg Prod.fst HD.out) (congrArg Prod.snd HD.out) hp
  clear hp
  have SS5 := Lib.hid hb.size
  have B5 := Lib.hid (B4.out.trans (hb.mono B4.out.size))
  have X5 := Lib.hid (X4.out.below hb)
  have R5 := Lib.hid (R4.out.below hb)
  have L5 := Lib.hid (L4.out.below hb)
  have E5 := Lib.hid (E4.out.below hb)
  clear hb  B4 X4 R4 L4 E4
  clear E5
  obtain ⟨bY, hbb⟩ : ∃ b, wa5.heap.size = b := ⟨_, rfl⟩
  go_upto_region 6 with fail
  generalize hW : wa5.alloc (.cells #[.int .i64 y0, .int .i64 y1, .int .i64 y2, .int .i64 y3, .bool y4, .int .i64 y5] 25) = wa6
  have LY := Lib.hid (show w.heap.size ≤ bY ∧ bX < bY ∧ w.heap.size ≤ bY ∧ wa3.heap.size ≤ bY by have h1 := B5.out.size; have h2X := X5.out.lt; have h2R := R5.out.hi_; have h2L := L5.out.hi_; have h3 := hbb; omega)
  have Y6 := Lib.hid (show Bx 25 wa6 bY #[.int .i64 y0, .int .i64 y1, .int .i64 y2, .int .i64 y3, .bool y4, .int .i64 y5] by rw [← hW, ← hbb]; exact Bx.made _ _ _)
  have hb : Below wa5.heap.size wa5 wa6 := by rw [← hW]; exact below_box _ _
  (try rw [hbb])
  clear hW hbb
  have SS6 := Lib.hid hb.size
  have B6 := Lib.hid (B5.out.trans (hb.mono B5.out.size))
  have X6 := Lib.hid (X5.out.below hb)
  have R6 := Lib.hid (R5.out.below hb)
  have L6 := Lib.hid (L5.out.below hb)
  clear hb B5 X5 R5 L5
  have LWY := Lib.hid Y6.out.lt
  obtain ⟨⟨⟨u0, u1, u2, u3, u4, u5⟩, fi⟩, hd⟩ : ∃ r, db lz = r := ⟨_, rfl⟩
  have HU := Lib.hid hd
  clear hd
  go_wp2_with fail
  (with_reducible refine (implDb lz _ _ A1 n1 c1 _ L6.out.rd (by have := HN1.out; omega)).mono ?_)
  rintro e wa7 hp
  obtain ⟨rfl, hb⟩ := d_parts (congrArg Prod.fst HU.out) (congrArg Prod.snd HU.out) hp
  clear hp
  have SS7 := Lib.hid hb.size
  have B7 := Lib.hid (B6.out.trans (hb.mono B6.out.size))
  have X7 := Lib.hid (X6.out.below hb)
  have Y7 := Lib.hid (Y6.out.below hb)
  have R7 := Lib.hid (R6.out.below hb)
  have L7 := Lib.hid (L6.out.below hb)
  clear hb  B6 X6 Y6 R6 L6
  obtain ⟨bU, hbb⟩ : ∃ b, wa7.heap.size = b := ⟨_, rfl⟩
  go_upto_region 7 with fail
  generalize hW : wa7.alloc (.cells #[.int .i64 u0, .int .i64 u1, .int .i64 u2, .int .i64 u3, .bool u4, .int .i64 u5] 25) = wa8
  have LU := Lib.hid (show w.heap.size ≤ bU ∧ bX < bU ∧ bY < bU ∧ w.heap.size ≤ bU ∧ wa3.heap.size ≤ bU by have h1 := B7.out.size; have h2X := X7.out.lt; have h2Y := Y7.out.lt; have h2R := R7.out.hi_; have h2L := L7.out.hi_; have h3 := hbb; omega)
  have U8 := Lib.hid (show Bx 25 wa8 bU #[.int .i64 u0, .int .i64 u1, .int .i64 u2, .int .i64 u3, .bool u4, .int .i64 u5] by rw [← hW, ← hbb]; exact Bx.made _ _ _)
  have hb : Below wa7.heap.size wa7 wa8 := by rw [← hW]; exact below_box _ _
  (try rw [hbb])
  clear hW hbb
  have SS8 := Lib.hid hb.size
  have B8 := Lib.hid (B7.out.trans (hb.mono B7.out.size))
  have X8 := Lib.hid (X7.out.below hb)
  have Y8 := Lib.hid (Y7.out.below hb)
  have R8 := Lib.hid (R7.out.below hb)
  have L8 := Lib.hid (L7.out.below hb)
  clear hb B7 X7 Y7 R7 L7
  have LWU := Lib.hid U8.out.lt
  go_wp2_with fail
  (with_reducible refine (specDb lz _ _ A1 n1 c1 _ L8.out.rd (by have := HN1.out; omega)).mono ?_)
  rintro e wa9 hp
  obtain ⟨rfl, hb⟩ := d_parts (congrArg Prod.fst HU.out) (congrArg Prod.snd HU.out) hp
  clear hp
  have SS9 := Lib.hid hb.size
  have B9 := Lib.hid (B8.out.trans (hb.mono B8.out.size))
  have X9 := Lib.hid (X8.out.below hb)
  have Y9 := Lib.hid (Y8.out.below hb)
  have U9 := Lib.hid (U8.out.below hb)
  have R9 := Lib.hid (R8.out.below hb)
  have L9 := Lib.hid (L8.out.below hb)
  clear hb  B8 X8 Y8 U8 R8 L8
  obtain ⟨bG, hbb⟩ : ∃ b, wa9.heap.size = b := ⟨_, rfl⟩
  go_upto_region 8 with fail
  generalize hW : wa9.alloc (.cells #[.int .i64 u0, .int .i64 u1, .int .i64 u2, .int .i64 u3, .bool u4, .int .i64 u5] 25) = wa10
  have LG := Lib.hid (show w.heap.size ≤ bG ∧ bX < bG ∧ bY < bG ∧ bU < bG ∧ w.heap.size ≤ bG ∧ wa3.heap.size ≤ bG by have h1 := B9.out.size; have h2X := X9.out.lt; have h2Y := Y9.out.lt; have h2U := U9.out.lt; have h2R := R9.out.hi_; have h2L := L9.out.hi_; have h3 := hbb; omega)
  have G10 := Lib.hid (show Bx 25 wa10 bG #[.int .i64 u0, .int .i64 u1, .int .i64 u2, .int .i64 u3, .bool u4, .int .i64 u5] by rw [← hW, ← hbb]; exact Bx.made _ _ _)
  have hb : Below wa9.heap.size wa9 wa10 := by rw [← hW]; exact below_box _ _
  (try rw [hbb])
  clear hW hbb
  have SS10 := Lib.hid hb.size
  have B10 := Lib.hid (B9.out.trans (hb.mono B9.out.size))
  have X10 := Lib.hid (X9.out.below hb)
  have Y10 := Lib.hid (Y9.out.below hb)
  have U10 := Lib.hid (U9.out.below hb)
  have R10 := Lib.hid (R9.out.below hb)
  have L10 := Lib.hid (L9.out.below hb)
  clear hb B9 X9 Y9 U9 R9 L9
  have LWG := Lib.hid G10.out.lt
  clear G10 LG
  go_wp2_with fail
  obtain ⟨v, hv⟩ : ∃ v, lawAt.atv zc len 0 = v := ⟨_, rfl⟩
  have HVA := Lib.hid hv
  have hvr : 0 ≤ v ∧ v ≤ 255 := by rw [← hv]; exact HAT.out
  clear hv
  obtain ⟨k, hk⟩ : ∃ k : Nat, v % 16 = (k : Int) := ⟨(v % 16).toNat, by omega⟩
  have hkt : v.tmod 16 = (k : Int) := by rw [Int.tmod_eq_emod_of_nonneg (by omega)]; exact hk
  have HK := Lib.hid (show k < 16 by omega)
  have HVR := Lib.hid hvr
  (with_reducible refine (lawAt.at_v 0 0 rfl (by omega) v a len cap _ _ zc _ R10.out HBG.out HVA.out).mono ?_)
  rintro e wq ⟨rfl, rfl⟩
  have hv0 := HVR.out.1
  obtain ⟨t2, ht2⟩ : ∃ y, sb t k true = y := ⟨_, rfl⟩
  obtain ⟨t3, ht3⟩ : ∃ y, sb t2 k false = y := ⟨_, rfl⟩
  have HT2 := Lib.hid ht2
  have HT3 := Lib.hid ht3
  have HON := Lib.hid (show stm ⟨f, s, c, d, g, t⟩ k true = ⟨f, s, c, d, g, t2⟩ by rw [← ht2]; exact stm_yes HK.out _)
  have HOF := Lib.hid (show stm ⟨f, s, c, d, g, t2⟩ k false = ⟨f, s, c, d, g, t3⟩ by rw [← ht3]; exact stm_yes HK.out _)
  clear ht2 ht3
  go_upto_region 9 with fail
  clear hk hkt hvr hv0
  go_wp2_with (refine stw.list_load rfl 25 _ rfl (bX) rfl 25 _ X10.out Try.underlying25 rfl szB ?_)
  (with_reducible refine (implSm f s c d g t k true _).mono ?_)
  rintro e wa11 hp
  obtain ⟨rfl, hb⟩ := c_parts HON.out hp
  clear hp
  have SS11 := Lib.hid hb.size
  have B11 := Lib.hid (B10.out.trans (hb.mono B10.out.size))
  have X11 := Lib.hid (X10.out.below hb)
  have Y11 := Lib.hid (Y10.out.below hb)
  have U11 := Lib.hid (U10.out.below hb)
  have R11 := Lib.hid (R10.out.below hb)
  have L11 := Lib.hid (L10.out.below hb)
  clear hb  B10 X10 Y10 U10 R10 L10
  obtain ⟨bN, hbb⟩ : ∃ b, wa11.heap.size = b := ⟨_, rfl⟩
  go_upto_region 10 with fail
  generalize hW : wa11.alloc (.cells #[.int .i64 f, .int .i64 s, .int .i64 c, .int .i64 d, .bool g, .int .i64 t2] 25) = wa12
  have LN := Lib.hid (show w.heap.size ≤ bN ∧ bX < bN ∧ bY < bN ∧ bU < bN ∧ w.heap.size ≤ bN ∧ wa3.heap.size ≤ bN by have h1 := B11.out.size; have h2X := X11.out.lt; have h2Y := Y11.out.lt; have h2U := U11.out.lt; have h2R := R11.out.hi_; have h2L := L11.out.hi_; have h3 := hbb; omega)
  have N12 := Lib.hid (show Bx 25 wa12 bN #[.int .i64 f, .int .i64 s, .int .i64 c, .int .i64 d, .bool g, .int .i64 t2] by rw [← hW, ← hbb]; exact Bx.made _ _ _)
  have hb : Below wa11.heap.size wa11 wa12 := by rw [← hW]; exact below_box _ _
  (try rw [hbb])
  clear hW hbb
  have SS12 := Lib.hid hb.size
  have B12 := Lib.hid (B11.out.trans (hb.mono B11.out.size))
  have X12 := Lib.hid (X11.out.below hb)
  have Y12 := Lib.hid (Y11.out.below hb)
  have U12 := Lib.hid (U11.out.below hb)
  have R12 := Lib.hid (R11.out.below hb)
  have L12 := Lib.hid (L11.out.below hb)
  clear hb B11 X11 Y11 U11 R11 L11
  have LWN := Lib.hid N12.out.lt
  go_wp2_with (refine stw.list_load rfl 25 _ rfl (bN) rfl 25 _ N12.out Try.underlying25 rfl szB ?_)
  (with_reducible refine (implSm f s c d g t2 k false _).mono ?_)
  rintro e wa13 hp
  obtain ⟨rfl, hb⟩ := c_parts HOF.out hp
  clear hp
  have SS13 := Lib.hid hb.size
  have B13 := Lib.hid (B12.out.trans (hb.mono B12.out.size))
  have X13 := Lib.hid (X12.out.below hb)
  have Y13 := Lib.hid (Y12.out.below hb)
  have U13 := Lib.hid (U12.out.below hb)
  have N13 := Lib.hid (N12.out.below hb)
  have R13 := Lib.hid (R12.out.below hb)
  have L13 := Lib.hid (L12.out.below hb)
  clear hb  B12 X12 Y12 U12 N12 R12 L12
  obtain ⟨bM, hbb⟩ : ∃ b, wa13.heap.size = b := ⟨_, rfl⟩
  go_upto_region 11 with fail
  generalize hW : wa13.alloc (.cells #[.int .i64 f, .int .i64 s, .int .i64 c, .int .i64 d, .bool g, .int .i64 t3] 25) = wa14
  have LM := Lib.hid (show w.heap.size ≤ bM ∧ bX < bM ∧ bY < bM ∧ bU < bM ∧ bN < bM ∧ w.heap.size ≤ bM ∧ wa3.heap.size ≤ bM by have h1 := B13.out.size; have h2X := X13.out.lt; have h2Y := Y13.out.lt; have h2U := U13.out.lt; have h2N := N13.out.lt; have h2R := R13.out.hi_; have h2L := L13.out.hi_; have h3 := hbb; omega)
  have M14 := Lib.hid (show Bx 25 wa14 bM #[.int .i64 f, .int .i64 s, .int .i64 c, .int .i64 d, .bool g, .int .i64 t3] by rw [← hW, ← hbb]; exact Bx.made _ _ _)
  have hb : Below wa13.heap.size wa13 wa14 := by rw [← hW]; exact below_box _ _
  (try rw [hbb])
  clear hW hbb
  have SS14 := Lib.hid hb.size
  have B14 := Lib.hid (B13.out.trans (hb.mono B13.out.size))
  have X14 := Lib.hid (X13.out.below hb)
  have Y14 := Lib.hid (Y13.out.below hb)
  have U14 := Lib.hid (U13.out.below hb)
  have N14 := Lib.hid (N13.out.below hb)
  have R14 := Lib.hid (R13.out.below hb)
  have L14 := Lib.hid (L13.out.below hb)
  clear hb B13 X13 Y13 U13 N13 R13 L13
  have LWM := Lib.hid M14.out.lt
  obtain ⟨k2, hk2⟩ : ∃ k2 : Nat, ((k : Int) + 1) % 16 = (k2 : Int) := ⟨(((k : Int) + 1) % 16).toNat, by omega⟩
  have hk3 : ((k : Int) + 1).tmod 16 = (k2 : Int) := by rw [Int.tmod_eq_emod_of_nonneg (by omega)]; exact hk2
  have HK2 := Lib.hid (show k2 < 16 ∧ k2 ≠ k by have := HK.out; omega)
  have m1 : IntKind.i64.wrap ((k : Int) + 1) = (k : Int) + 1 := IntWalk.i64_in _ (by have := HK.out; omega)
  have m2 : wrap64 ((k : Int) + 1) = (k : Int) + 1 := by have := HK.out; unfold wrap64; omega
  go_upto_region 12 with fail
  clear hk2 hk3 m1 m2
  obtain ⟨y, hy⟩ : ∃ y, tc ⟨f, s, c, d, g, t⟩ (k2 : Int) = y := ⟨_, rfl⟩
  have HTX := Lib.hid hy
  have HT1 := Lib.hid (show tc ⟨f, s, c, d, g, t2⟩ (k : Int) = true by rw [← HT2.out]; exact tc_on HK.out _)
  have HTF := Lib.hid (show tc ⟨f, s, c, d, g, t3⟩ (k : Int) = false by rw [← HT3.out]; exact tc_off HK.out _)
  have HTO := Lib.hid (show tc ⟨f, s, c, d, g, t3⟩ (k2 : Int) = y by rw [← hy, ← HT3.out, ← HT2.out]; exact tc_other HK.out HK2.out.1 HK2.out.2 _)
  have HT6 := Lib.hid (show tc ⟨f, s, c, d, g, t2⟩ 16 = false from tc_no _)
  clear hy HON HOF HT2 HT3
  obtain ⟨h1, h2⟩ := db_eb_all ⟨f, s, c, d, g, t⟩
  rw [HD.out] at h1 h2
  have HV := Lib.hid (show vb ⟨f, s, c, d, g, t⟩ = ok from h1.symm)
  have HS := Lib.hid (show ok = true → (⟨y0, y1, y2, y3, y4, y5⟩ : Bc) = ⟨f, s, c, d, g, t⟩ from fun h => h2 (h1.symm.trans h))
  clear h1 h2
  cases ok with
  | true =>
    cases fi with
    | true =>
      obtain ⟨rfl, rfl, rfl, rfl, rfl, rfl⟩ : y0 = f ∧ y1 = s ∧ y2 = c ∧ y3 = d ∧ y4 = g ∧ y5 = t := by have h := HS.out rfl; injection h with e1 e2 e3 e4 e5 e6; exact ⟨e1, e2, e3, e4, e5, e6⟩
      have CE := Lib.hid (show ∀ W : World, Calls Try.prog 16 #[.agg #[.int .i64 u0, .int .i64 u1, .int .i64 u2, .int .i64 u3, .bool u4, .int .i64 u5]] W (SlPost 5 .u8 W lz) from fun W => by have h1 := implEb u0 u1 u2 u3 u4 u5 W; rwa [(db_ok HLB.out HU.out).2] at h1)
      refine reg.region_plain reg.Bel 102 [some [], some [], some [(1, 50)], some [(0, 49), (2, 51)], some [(3, 52)], some [(4, 53)], some [(5, 54), (4, 53)], some [(6, 55), (4, 53)], some [(7, 56)], some [(7, 56)], some [(8, 57), (9, 58), (7, 56)], some [(7, 56), (10, 59), (4, 53)], some [(4, 53), (11, 60)], some [(12, 61)], some [(13, 62)], some [(13, 62)], some [(14, 63), (15, 64), (13, 62)], some [(13, 62), (16, 65)], some [(17, 66)], some [(18, 67)], some [(19, 68), (18, 67)], some [(20, 69), (18, 67)], some [(21, 70)], some [(22, 71), (21, 70)], some [(21, 70)], some [(23, 72), (24, 73), (21, 70)], some [(21, 70), (25, 74), (18, 67)], some [(18, 67), (26, 75)], some [(27, 76)], some [(28, 77)], some [(28, 77)], some [(29, 78), (30, 79), (28, 77)], some [(28, 77), (31, 80)], some [(32, 81)], some [(33, 82)], some [(33, 82)], some [(34, 83), (35, 84), (33, 82)], some [(36, 85), (33, 82)], some [(33, 82), (37, 86)], some [(38, 87)], some [(39, 88)], some [(39, 88)], some [(40, 89), (41, 90), (39, 88)], some [(39, 88)], some [(39, 88)], some [(43, 92), (44, 93), (39, 88)], some [(42, 91), (45, 94), (39, 88)], some [(39, 88), (46, 95)], some [(47, 96)], some [(48, 97)], some [(49, 98), (48, 97)], some [(50, 99), (48, 97)], some [(48, 97), (51, 100)], some [(52, 101)]] [(0, 49), (1, 50), (2, 51), (3, 52), (4, 53), (5, 54), (6, 55), (7, 56), (8, 57), (9, 58), (10, 59), (11, 60), (12, 61), (13, 62), (14, 63), (15, 64), (16, 65), (17, 66), (18, 67), (19, 68), (20, 69), (21, 70), (22, 71), (23, 72), (24, 73), (25, 74), (26, 75), (27, 76), (28, 77), (29, 78), (30, 79), (31, 80), (32, 81), (33, 82), (34, 83), (35, 84), (36, 85), (37, 86), (38, 87), (39, 88), (40, 89), (41, 90), (42, 91), (43, 92), (44, 93), (45, 94), (46, 95), (47, 96), (48, 97), (49, 98), (50, 99), (51, 100), (52, 101), (53, 2)]
        (fun w' => Below w.heap.size w w' ∧ Bx 25 w' (bX) #[.int .i64 y0, .int .i64 y1, .int .i64 y2, .int .i64 y3, .bool y4, .int .i64 y5] ∧ Bx 25 w' (bY) #[.int .i64 y0, .int .i64 y1, .int .i64 y2, .int .i64 y3, .bool y4, .int .i64 y5] ∧ Bx 25 w' (bU) #[.int .i64 u0, .int .i64 u1, .int .i64 u2, .int .i64 u3, .bool u4, .int .i64 u5] ∧ Bx 25 w' (bN) #[.int .i64 y0, .int .i64 y1, .int .i64 y2, .int .i64 y3, .bool y4, .int .i64 t2] ∧ Bx 25 w' (bM) #[.int .i64 y0, .int .i64 y1, .int .i64 y2, .int .i64 y3, .bool y4, .int .i64 t3] ∧ Rd .u8 w' (0) (w.heap.size) a len cap zc ∧ Ow 5 .u8 w' (wa2.heap.size) (wa3.heap.size) A1 n1 c1 lz ∧ True)
        (reg.rl [reg.is (.bool true), reg.is (.agg #[.int .i64 y0, .int .i64 y1, .int .i64 y2, .int .i64 y3, .bool y4, .int .i64 y5]), reg.is (.bool true), reg.is (.bool true), reg.is (.bool true), reg.is (.bool true), reg.is (.bool false), reg.is (.bool false), reg.is (.agg #[.int .i64 y0, .int .i64 y1, .int .i64 y2, .int .i64 y3, .bool y4, .int .i64 y5]), reg.is (.agg #[.int .i64 y0, .int .i64 y1, .int .i64 y2, .int .i64 y3, .bool y4, .int .i64 y5]), reg.is (.bool true), reg.is (.bool true), reg.is (.bool true), reg.is (.bool true), reg.is (.bool true), reg.is (.bool true), reg.is (.bool true), reg.is (.bool true), reg.is (.bool true), reg.is (.bool true), reg.is (.bool false), reg.is (.bool false), reg.is (.agg #[.int .i64 u0, .int .i64 u1, .int .i64 u2, .int .i64 u3, .bool u4, .int .i64 u5]), stw.rowv .u8 lz (fun A n c => .slice A n c), reg.is (.slice A1 n1 c1), reg.is (.bool true), reg.is (.bool true), reg.is (.bool true), reg.is (.bool true), reg.is (.agg #[.int .i64 y0, .int .i64 y1, .int .i64 y2, .int .i64 y3, .bool y4, .int .i64 t2]), reg.is (.int .i64 ((k : Int))), reg.is (.bool true), reg.is (.bool true), reg.is (.bool true), reg.is (.agg #[.int .i64 y0, .int .i64 y1, .int .i64 y2, .int .i64 y3, .bool y4, .int .i64 t3]), reg.is (.int .i64 ((k : Int))), reg.is (.bool false), reg.is (.bool true), reg.is (.bool true), reg.is (.bool true), reg.is (.agg #[.int .i64 y0, .int .i64 y1, .int .i64 y2, .int .i64 y3, .bool y4, .int .i64 t3]), reg.is (.int .i64 ((k2 : Int))), reg.is (.bool y), reg.is (.agg #[.int .i64 y0, .int .i64 y1, .int .i64 y2, .int .i64 y3, .bool y4, .int .i64 y5]), reg.is (.int .i64 ((k2 : Int))), reg.is (.bool y), reg.is (.bool true), reg.is (.bool true), reg.is (.bool true), reg.is (.agg #[.int .i64 y0, .int .i64 y1, .int .i64 y2, .int .i64 y3, .bool y4, .int .i64 t2]), reg.is (.bool false), reg.is (.bool true), reg.is (.bool true), reg.is (.bool true)])
        (by kernel_rfl) (by kernel_rfl) rfl
        (fun w1 w2 hc hb => ⟨hc.1.trans (hb.mono hc.1.size), hc.2.1.below hb, hc.2.2.1.below hb, hc.2.2.2.1.below hb, hc.2.2.2.2.1.below hb, hc.2.2.2.2.2.1.below hb, hc.2.2.2.2.2.2.1.below hb, hc.2.2.2.2.2.2.2.1.below hb, trivial⟩) (reg.rl_keep _) (⟨own.below_drew B14.out, X14.out.same rfl, Y14.out.same rfl, U14.out.same rfl, N14.out.same rfl, M14.out.same rfl, own.rd_drew R14.out, own.ow_drew L14.out, trivial⟩) (by kernel_rfl) ⟨?_, ?_, ?_, ?_, ?_, ?_, ?_, ?_, ?_, ?_, ?_, ?_, ?_, ?_, ?_, ?_, ?_, ?_, ?_, ?_, ?_, ?_, ?_, ?_, ?_, ?_, ?_, ?_, ?_, ?_, ?_, ?_, ?_, ?_, ?_, ?_, ?_, ?_, ?_, ?_, ?_, ?_, ?_, ?_, ?_, ?_, ?_, ?_, ?_, ?_, ?_, ?_, ?_, ?_, trivial⟩ ?_
      · refine fun w8 hc  K hK => ?_
        (try simp only [Act.put, List.setIfInBounds_toArray, List.set_cons_zero, List.set_cons_succ])
        go_simp
        exact hK (.bool true) _ rfl (Below.refl _ _)
      · refine fun w8 hc  K hK => ?_
        (try simp only [Act.put, List.setIfInBounds_toArray, List.set_cons_zero, List.set_cons_succ])
        rw [if_pos (by rfl)]
        refine stw.wp_load_bx 25 _ rfl (bX) rfl 25 _ hc.2.1 Try.underlying25 rfl szB ?_
        exact hK _ _ rfl (Below.refl _ _)
      · refine fun w8 hc v1 h1 K hK => ?_
        obtain rfl : v1 = .agg #[.int .i64 y0, .int .i64 y1, .int .i64 y2, .int .i64 y3, .bool y4, .int .i64 y5] := h1
        (try simp only [Act.put, List.setIfInBounds_toArray, List.set_cons_zero, List.set_cons_succ])
        go_simp
        (with_reducible refine (specVb y0 y1 y2 y3 y4 y5 _).mono ?_)
        rintro e w3 hp
        obtain ⟨rfl, hb⟩ := b_parts HV.out hp
        exact hK _ _ rfl hb
      · refine fun w8 hc v0 h0 v2 h2 K hK => ?_
        obtain rfl : v0 = .bool true := h0
        obtain rfl : v2 = .bool true := h2
        (try simp only [Act.put, List.setIfInBounds_toArray, List.set_cons_zero, List.set_cons_succ])
        go_simp
        exact hK (.bool true) _ rfl (Below.refl _ _)
      · refine fun w8 hc v3 h3 K hK => ?_
        obtain rfl : v3 = .bool true := h3
        (try simp only [Act.put, List.setIfInBounds_toArray, List.set_cons_zero, List.set_cons_succ])
        go_simp
        exact hK (.bool true) _ rfl (Below.refl _ _)
      · refine fun w8 hc v4 h4 K hK => ?_
        obtain rfl : v4 = .bool true := h4
        (try simp only [Act.put, List.setIfInBounds_toArray, List.set_cons_zero, List.set_cons_succ])
        rw [if_pos (by rfl)]
        go_simp
        exact hK (.bool true) _ rfl (Below.refl _ _)
      · refine fun w8 hc v5 h5 v4 h4 K hK => ?_
        obtain rfl : v5 = .bool true := h5
        obtain rfl : v4 = .bool true := h4
        (try simp only [Act.put, List.setIfInBounds_toArray, List.set_cons_zero, List.set_cons_succ])
        rw [if_pos (by rfl)]
        go_simp
        exact hK (.bool false) _ rfl (Below.refl _ _)
      · refine fun w8 hc v6 h6 v4 h4 K hK => ?_
        obtain rfl : v6 = .bool false := h6
        obtain rfl : v4 = .bool true := h4
        (try simp only [Act.put, List.setIfInBounds_toArray, List.set_cons_zero, List.set_cons_succ])
        rw [if_pos (by rfl)]
        go_simp
        exact hK (.bool false) _ rfl (Below.refl _ _)
      · refine fun w8 hc v7 h7 K hK => ?_
        obtain rfl : v7 = .bool false := h7
        (try simp only [Act.put, List.setIfInBounds_toArray, List.set_cons_zero, List.set_cons_succ])
        rw [if_pos (by rfl)]
        refine stw.wp_load_bx 25 _ rfl (bY) rfl 25 _ hc.2.2.1 Try.underlying25 rfl szB ?_
        exact hK _ _ rfl (Below.refl _ _)
      · refine fun w8 hc v7 h7 K hK => ?_
        obtain rfl : v7 = .bool false := h7
        (try simp only [Act.put, List.setIfInBounds_toArray, List.set_cons_zero, List.set_cons_succ])
        rw [if_pos (by rfl)]
        refine stw.wp_load_bx 25 _ rfl (bX) rfl 25 _ hc.2.1 Try.underlying25 rfl szB ?_
        exact hK _ _ rfl (Below.refl _ _)
      · refine fun w8 hc v8 h8 v9 h9 v7 h7 K hK => ?_
        obtain rfl : v8 = .agg #[.int .i64 y0, .int .i64 y1, .int .i64 y2, .int .i64 y3, .bool y4, .int .i64 y5] := h8
        obtain rfl : v9 = .agg #[.int .i64 y0, .int .i64 y1, .int .i64 y2, .int .i64 y3, .bool y4, .int .i64 y5] := h9
        obtain rfl : v7 = .bool false := h7
        (try simp only [Act.put, List.setIfInBounds_toArray, List.set_cons_zero, List.set_cons_succ])
        rw [if_pos (by rfl)]
        go_simp
        exact hK (.bool true) _ rfl (Below.refl _ _)
      · refine fun w8 hc v7 h7 v10 h10 v4 h4 K hK => ?_
        obtain rfl : v7 = .bool false := h7
        obtain rfl : v10 = .bool true := h10
        obtain rfl : v4 = .bool true := h4
        (try simp only [Act.put, List.setIfInBounds_toArray, List.set_cons_zero, List.set_cons_succ])
        rw [if_pos (by rfl)]
        go_simp
        exact hK (.bool true) _ rfl (Below.refl _ _)
      · refine fun w8 hc v4 h4 v11 h11 K hK => ?_
        obtain rfl : v4 = .bool true := h4
        obtain rfl : v11 = .bool true := h11
        (try simp only [Act.put, List.setIfInBounds_toArray, List.set_cons_zero, List.set_cons_succ])
        go_simp
        exact hK (.bool true) _ rfl (Below.refl _ _)
      · refine fun w8 hc v12 h12 K hK => ?_
        obtain rfl : v12 = .bool true := h12
        (try simp only [Act.put, List.setIfInBounds_toArray, List.set_cons_zero, List.set_cons_succ])
        go_simp
        exact hK (.bool true) _ rfl (Below.refl _ _)
      · refine fun w8 hc v13 h13 K hK => ?_
        obtain rfl : v13 = .bool true := h13
        (try simp only [Act.put, List.setIfInBounds_toArray, List.set_cons_zero, List.set_cons_succ])
        rw [if_pos (by rfl)]
        go_simp
        exact hK (.bool true) _ rfl (Below.refl _ _)
      · refine fun w8 hc v13 h13 K hK => ?_
        obtain rfl : v13 = .bool true := h13
        (try simp only [Act.put, List.setIfInBounds_toArray, List.set_cons_zero, List.set_cons_succ])
        rw [if_pos (by rfl)]
        go_simp
        exact hK (.bool true) _ rfl (Below.refl _ _)
      · refine fun w8 hc v14 h14 v15 h15 v13 h13 K hK => ?_
        obtain rfl : v14 = .bool true := h14
        obtain rfl : v15 = .bool true := h15
        obtain rfl : v13 = .bool true := h13
        (try simp only [Act.put, List.setIfInBounds_toArray, List.set_cons_zero, List.set_cons_succ])
        rw [if_pos (by rfl)]
        go_simp
        exact hK (.bool true) _ rfl (Below.refl _ _)
      · refine fun w8 hc v13 h13 v16 h16 K hK => ?_
        obtain rfl : v13 = .bool true := h13
        obtain rfl : v16 = .bool true := h16
        (try simp only [Act.put, List.setIfInBounds_toArray, List.set_cons_zero, List.set_cons_succ])
        go_simp
        exact hK (.bool true) _ rfl (Below.refl _ _)
      · refine fun w8 hc v17 h17 K hK => ?_
        obtain rfl : v17 = .bool true := h17
        (try simp only [Act.put, List.setIfInBounds_toArray, List.set_cons_zero, List.set_cons_succ])
        go_simp
        exact hK (.bool true) _ rfl (Below.refl _ _)
      · refine fun w8 hc v18 h18 K hK => ?_
        obtain rfl : v18 = .bool true := h18
        (try simp only [Act.put, List.setIfInBounds_toArray, List.set_cons_zero, List.set_cons_succ])
        rw [if_pos (by rfl)]
        go_simp
        exact hK (.bool true) _ rfl (Below.refl _ _)
      · refine fun w8 hc v19 h19 v18 h18 K hK => ?_
        obtain rfl : v19 = .bool true := h19
        obtain rfl : v18 = .bool true := h18
        (try simp only [Act.put, List.setIfInBounds_toArray, List.set_cons_zero, List.set_cons_succ])
        rw [if_pos (by rfl)]
        go_simp
        exact hK (.bool false) _ rfl (Below.refl _ _)
      · refine fun w8 hc v20 h20 v18 h18 K hK => ?_
        obtain rfl : v20 = .bool false := h20
        obtain rfl : v18 = .bool true := h18
        (try simp only [Act.put, List.setIfInBounds_toArray, List.set_cons_zero, List.set_cons_succ])
        rw [if_pos (by rfl)]
        go_simp
        exact hK (.bool false) _ rfl (Below.refl _ _)
      · refine fun w8 hc v21 h21 K hK => ?_
        obtain rfl : v21 = .bool false := h21
        (try simp only [Act.put, List.setIfInBounds_toArray, List.set_cons_zero, List.set_cons_succ])
        rw [if_pos (by rfl)]
        refine stw.wp_load_bx 25 _ rfl (bU) rfl 25 _ hc.2.2.2.1 Try.underlying25 rfl szB ?_
        exact hK _ _ rfl (Below.refl _ _)
      · refine fun w8 hc v22 h22 v21 h21 K hK => ?_
        obtain rfl : v22 = .agg #[.int .i64 u0, .int .i64 u1, .int .i64 u2, .int .i64 u3, .bool u4, .int .i64 u5] := h22
        obtain rfl : v21 = .bool false := h21
        (try simp only [Act.put, List.setIfInBounds_toArray, List.set_cons_zero, List.set_cons_succ])
        rw [if_pos (by rfl)]
        go_simp
        (with_reducible refine (CE.out _).mono ?_)
        rintro e w3 ⟨A, n, c, rfl, ho, hb⟩
        exact hK _ _ ⟨_, _, _, _, _, rfl, ho.rd⟩ hb
      · refine fun w8 hc v21 h21 K hK => ?_
        obtain rfl : v21 = .bool false := h21
        (try simp only [Act.put, List.setIfInBounds_toArray, List.set_cons_zero, List.set_cons_succ])
        rw [if_pos (by rfl)]
        go_simp
        exact hK (.slice A1 n1 c1) _ rfl (Below.refl _ _)
      · refine fun w8 hc v23 h23 v24 h24 v21 h21 K hK => ?_
        obtain ⟨Av23, nv23, cv23, lov23, hiv23, rfl, hRv23⟩ := h23
        obtain rfl : v24 = .slice A1 n1 c1 := h24
        obtain rfl : v21 = .bool false := h21
        (try simp only [Act.put, List.setIfInBounds_toArray, List.set_cons_zero, List.set_cons_succ])
        rw [if_pos (by rfl)]
        go_simp
        (with_reducible refine (harn.sameB_yes lz _ _ _ _ _ _ _ _ _ _ _ hRv23 hc.2.2.2.2.2.2.2.1.rd).mono ?_)
        rintro e w3 ⟨rfl, hb⟩
        exact hK _ _ rfl hb
      · refine fun w8 hc v21 h21 v25 h25 v18 h18 K hK => ?_
        obtain rfl : v21 = .bool false := h21
        obtain rfl : v25 = .bool true := h25
        obtain rfl : v18 = .bool true := h18
        (try simp only [Act.put, List.setIfInBounds_toArray, List.set_cons_zero, List.set_cons_succ])
        rw [if_pos (by rfl)]
        go_simp
        exact hK (.bool true) _ rfl (Below.refl _ _)
      · refine fun w8 hc v18 h18 v26 h26 K hK => ?_
        obtain rfl : v18 = .bool true := h18
        obtain rfl : v26 = .bool true := h26
        (try simp only [Act.put, List.setIfInBounds_toArray, List.set_cons_zero, List.set_cons_succ])
        go_simp
        exact hK (.bool true) _ rfl (Below.refl _ _)
      · refine fun w8 hc v27 h27 K hK => ?_
        obtain rfl : v27 = .bool true := h27
        (try simp only [Act.put, List.setIfInBounds_toArray, List.set_cons_zero, List.set_cons_succ])
        go_simp
        exact hK (.bool true) _ rfl (Below.refl _ _)
      · refine fun w8 hc v28 h28 K hK => ?_
        obtain rfl : v28 = .bool true := h28
        (try simp only [Act.put, List.setIfInBounds_toArray, List.set_cons_zero, List.set_cons_succ])
        rw [if_pos (by rfl)]
        refine stw.wp_load_bx 25 _ rfl (bN) rfl 25 _ hc.2.2.2.2.1 Try.underlying25 rfl szB ?_
        exact hK _ _ rfl (Below.refl _ _)
      · refine fun w8 hc v28 h28 K hK => ?_
        obtain rfl : v28 = .bool true := h28
        (try simp only [Act.put, List.setIfInBounds_toArray, List.set_cons_zero, List.set_cons_succ])
        rw [if_pos (by rfl)]
        go_simp
        exact hK (.int .i64 ((k : Int))) _ rfl (Below.refl _ _)
      · refine fun w8 hc v29 h29 v30 h30 v28 h28 K hK => ?_
        obtain rfl : v29 = .agg #[.int .i64 y0, .int .i64 y1, .int .i64 y2, .int .i64 y3, .bool y4, .int .i64 t2] := h29
        obtain rfl : v30 = .int .i64 ((k : Int)) := h30
        obtain rfl : v28 = .bool true := h28
        (try simp only [Act.put, List.setIfInBounds_toArray, List.set_cons_zero, List.set_cons_succ])
        rw [if_pos (by rfl)]
        go_simp
        (with_reducible refine (implTc y0 y1 y2 y3 y4 t2 (k : Int) _).mono ?_)
        rintro e w3 hp
        obtain ⟨rfl, hb⟩ := b_parts HT1.out hp
        exact hK _ _ rfl hb
      · refine fun w8 hc v28 h28 v31 h31 K hK => ?_
        obtain rfl : v28 = .bool true := h28
        obtain rfl : v31 = .bool true := h31
        (try simp only [Act.put, List.setIfInBounds_toArray, List.set_cons_zero, List.set_cons_succ])
        go_simp
        exact hK (.bool true) _ rfl (Below.refl _ _)
      · refine fun w8 hc v32 h32 K hK => ?_
        obtain rfl : v32 = .bool true := h32
        (try simp only [Act.put, List.setIfInBounds_toArray, List.set_cons_zero, List.set_cons_succ])
        go_simp
        exact hK (.bool true) _ rfl (Below.refl _ _)
      · refine fun w8 hc v33 h33 K hK => ?_
        obtain rfl : v33 = .bool true := h33
        (try simp only [Act.put, List.setIfInBounds_toArray, List.set_cons_zero, List.set_cons_succ])
        rw [if_pos (by rfl)]
        refine stw.wp_load_bx 25 _ rfl (bM) rfl 25 _ hc.2.2.2.2.2.1 Try.underlying25 rfl szB ?_
        exact hK _ _ rfl (Below.refl _ _)
      · refine fun w8 hc v33 h33 K hK => ?_
        obtain rfl : v33 = .bool true := h33
        (try simp only [Act.put, List.setIfInBounds_toArray, List.set_cons_zero, List.set_cons_succ])
        rw [if_pos (by rfl)]
        go_simp
        exact hK (.int .i64 ((k : Int))) _ rfl (Below.refl _ _)
      · refine fun w8 hc v34 h34 v35 h35 v33 h33 K hK => ?_
        obtain rfl : v34 = .agg #[.int .i64 y0, .int .i64 y1, .int .i64 y2, .int .i64 y3, .bool y4, .int .i64 t3] := h34
        obtain rfl : v35 = .int .i64 ((k : Int)) := h35
        obtain rfl : v33 = .bool true := h33
        (try simp only [Act.put, List.setIfInBounds_toArray, List.set_cons_zero, List.set_cons_succ])
        rw [if_pos (by rfl)]
        go_simp
        (with_reducible refine (implTc y0 y1 y2 y3 y4 t3 (k : Int) _).mono ?_)
        rintro e w3 hp
        obtain ⟨rfl, hb⟩ := b_parts HTF.out hp
        exact hK _ _ rfl hb
      · refine fun w8 hc v36 h36 v33 h33 K hK => ?_
        obtain rfl : v36 = .bool false := h36
        obtain rfl : v33 = .bool true := h33
        (try simp only [Act.put, List.setIfInBounds_toArray, List.set_cons_zero, List.set_cons_succ])
        rw [if_pos (by rfl)]
        go_simp
        exact hK (.bool true) _ rfl (Below.refl _ _)
      · refine fun w8 hc v33 h33 v37 h37 K hK => ?_
        obtain rfl : v33 = .bool true := h33
        obtain rfl : v37 = .bool true := h37
        (try simp only [Act.put, List.setIfInBounds_toArray, List.set_cons_zero, List.set_cons_succ])
        go_simp
        exact hK (.bool true) _ rfl (Below.refl _ _)
      · refine fun w8 hc v38 h38 K hK => ?_
        obtain rfl : v38 = .bool true := h38
        (try simp only [Act.put, List.setIfInBounds_toArray, List.set_cons_zero, List.set_cons_succ])
        go_simp
        exact hK (.bool true) _ rfl (Below.refl _ _)
      · refine fun w8 hc v39 h39 K hK => ?_
        obtain rfl : v39 = .bool true := h39
        (try simp only [Act.put, List.setIfInBounds_toArray, List.set_cons_zero, List.set_cons_succ])
        rw [if_pos (by rfl)]
        refine stw.wp_load_bx 25 _ rfl (bM) rfl 25 _ hc.2.2.2.2.2.1 Try.underlying25 rfl szB ?_
        exact hK _ _ rfl (Below.refl _ _)
      · refine fun w8 hc v39 h39 K hK => ?_
        obtain rfl : v39 = .bool true := h39
        (try simp only [Act.put, List.setIfInBounds_toArray, List.set_cons_zero, List.set_cons_succ])
        rw [if_pos (by rfl)]
        go_simp
        exact hK (.int .i64 ((k2 : Int))) _ rfl (Below.refl _ _)
      · refine fun w8 hc v40 h40 v41 h41 v39 h39 K hK => ?_
        obtain rfl : v40 = .agg #[.int .i64 y0, .int .i64 y1, .int .i64 y2, .int .i64 y3, .bool y4, .int .i64 t3] := h40
        obtain rfl : v41 = .int .i64 ((k2 : Int)) := h41
        obtain rfl : v39 = .bool true := h39
        (try simp only [Act.put, List.setIfInBounds_toArray, List.set_cons_zero, List.set_cons_succ])
        rw [if_pos (by rfl)]
        go_simp
        (with_reducible refine (implTc y0 y1 y2 y3 y4 t3 (k2 : Int) _).mono ?_)
        rintro e w3 hp
        obtain ⟨rfl, hb⟩ := b_parts HTO.out hp
        exact hK _ _ rfl hb
      · refine fun w8 hc v39 h39 K hK => ?_
        obtain rfl : v39 = .bool true := h39
        (try simp only [Act.put, List.setIfInBounds_toArray, List.set_cons_zero, List.set_cons_succ])
        rw [if_pos (by rfl)]
        refine stw.wp_load_bx 25 _ rfl (bX) rfl 25 _ hc.2.1 Try.underlying25 rfl szB ?_
        exact hK _ _ rfl (Below.refl _ _)
      · refine fun w8 hc v39 h39 K hK => ?_
        obtain rfl : v39 = .bool true := h39
        (try simp only [Act.put, List.setIfInBounds_toArray, List.set_cons_zero, List.set_cons_succ])
        rw [if_pos (by rfl)]
        go_simp
        exact hK (.int .i64 ((k2 : Int))) _ rfl (Below.refl _ _)
      · refine fun w8 hc v43 h43 v44 h44 v39 h39 K hK => ?_
        obtain rfl : v43 = .agg #[.int .i64 y0, .int .i64 y1, .int .i64 y2, .int .i64 y3, .bool y4, .int .i64 y5] := h43
        obtain rfl : v44 = .int .i64 ((k2 : Int)) := h44
        obtain rfl : v39 = .bool true := h39
        (try simp only [Act.put, List.setIfInBounds_toArray, List.set_cons_zero, List.set_cons_succ])
        rw [if_pos (by rfl)]
        go_simp
        (with_reducible refine (specTc y0 y1 y2 y3 y4 y5 (k2 : Int) _).mono ?_)
        rintro e w3 hp
        obtain ⟨rfl, hb⟩ := b_parts HTX.out hp
        exact hK _ _ rfl hb
      · refine fun w8 hc v42 h42 v45 h45 v39 h39 K hK => ?_
        obtain rfl : v42 = .bool y := h42
        obtain rfl : v45 = .bool y := h45
        obtain rfl : v39 = .bool true := h39
        (try simp only [Act.put, List.setIfInBounds_toArray, List.set_cons_zero, List.set_cons_succ])
        rw [if_pos (by rfl)]
        go_simp
        exact hK (.bool true) _ rfl (Below.refl _ _)
      · refine fun w8 hc v39 h39 v46 h46 K hK => ?_
        obtain rfl : v39 = .bool true := h39
        obtain rfl : v46 = .bool true := h46
        (try simp only [Act.put, List.setIfInBounds_toArray, List.set_cons_zero, List.set_cons_succ])
        go_simp
        exact hK (.bool true) _ rfl (Below.refl _ _)
      · refine fun w8 hc v47 h47 K hK => ?_
        obtain rfl : v47 = .bool true := h47
        (try simp only [Act.put, List.setIfInBounds_toArray, List.set_cons_zero, List.set_cons_succ])
        go_simp
        exact hK (.bool true) _ rfl (Below.refl _ _)
      · refine fun w8 hc v48 h48 K hK => ?_
        obtain rfl : v48 = .bool true := h48
        (try simp only [Act.put, List.setIfInBounds_toArray, List.set_cons_zero, List.set_cons_succ])
        rw [if_pos (by rfl)]
        refine stw.wp_load_bx 25 _ rfl (bN) rfl 25 _ hc.2.2.2.2.1 Try.underlying25 rfl szB ?_
        exact hK _ _ rfl (Below.refl _ _)
      · refine fun w8 hc v49 h49 v48 h48 K hK => ?_
        obtain rfl : v49 = .agg #[.int .i64 y0, .int .i64 y1, .int .i64 y2, .int .i64 y3, .bool y4, .int .i64 t2] := h49
        obtain rfl : v48 = .bool true := h48
        (try simp only [Act.put, List.setIfInBounds_toArray, List.set_cons_zero, List.set_cons_succ])
        rw [if_pos (by rfl)]
        go_simp
        (with_reducible refine (implTc y0 y1 y2 y3 y4 t2 16 _).mono ?_)
        rintro e w3 hp
        obtain ⟨rfl, hb⟩ := b_parts HT6.out hp
        exact hK _ _ rfl hb
      · refine fun w8 hc v50 h50 v48 h48 K hK => ?_
        obtain rfl : v50 = .bool false := h50
        obtain rfl : v48 = .bool true := h48
        (try simp only [Act.put, List.setIfInBounds_toArray, List.set_cons_zero, List.set_cons_succ])
        rw [if_pos (by rfl)]
        go_simp
        exact hK (.bool true) _ rfl (Below.refl _ _)
      · refine fun w8 hc v48 h48 v51 h51 K hK => ?_
        obtain rfl : v48 = .bool true := h48
        obtain rfl : v51 = .bool true := h51
        (try simp only [Act.put, List.setIfInBounds_toArray, List.set_cons_zero, List.set_cons_succ])
        go_simp
        exact hK (.bool true) _ rfl (Below.refl _ _)
      · refine fun w8 hc v52 h52 K hK => ?_
        obtain rfl : v52 = .bool true := h52
        (try simp only [Act.put, List.setIfInBounds_toArray, List.set_cons_zero, List.set_cons_succ])
        go_simp
        exact hK (.bool true) _ rfl (Below.refl _ _)
      refine fun wg15 hc v0 h0 v1 h1 v2 h2 v3 h3 v4 h4 v5 h5 v6 h6 v7 h7 v8 h8 v9 h9 v10 h10 v11 h11 v12 h12 v13 h13 v14 h14 v15 h15 v16 h16 v17 h17 v18 h18 v19 h19 v20 h20 v21 h21 v22 h22 v23 h23 v24 h24 v25 h25 v26 h26 v27 h27 v28 h28 v29 h29 v30 h30 v31 h31 v32 h32 v33 h33 v34 h34 v35 h35 v36 h36 v37 h37 v38 h38 v39 h39 v40 h40 v41 h41 v42 h42 v43 h43 v44 h44 v45 h45 v46 h46 v47 h47 v48 h48 v49 h49 v50 h50 v51 h51 v52 h52 v53 h53 => ?_
      obtain rfl : v0 = .bool true := h0
      obtain rfl : v1 = .agg #[.int .i64 y0, .int .i64 y1, .int .i64 y2, .int .i64 y3, .bool y4, .int .i64 y5] := h1
      obtain rfl : v2 = .bool true := h2
      obtain rfl : v3 = .bool true := h3
      obtain rfl : v4 = .bool true := h4
      obtain rfl : v5 = .bool true := h5
      obtain rfl : v6 = .bool false := h6
      obtain rfl : v7 = .bool false := h7
      obtain rfl : v8 = .agg #[.int .i64 y0, .int .i64 y1, .int .i64 y2, .int .i64 y3, .bool y4, .int .i64 y5] := h8
      obtain rfl : v9 = .agg #[.int .i64 y0, .int .i64 y1, .int .i64 y2, .int .i64 y3, .bool y4, .int .i64 y5] := h9
      obtain rfl : v10 = .bool true := h10
      obtain rfl : v11 = .bool true := h11
      obtain rfl : v12 = .bool true := h12
      obtain rfl : v13 = .bool true := h13
      obtain rfl : v14 = .bool true := h14
      obtain rfl : v15 = .bool true := h15
      obtain rfl : v16 = .bool true := h16
      obtain rfl : v17 = .bool true := h17
      obtain rfl : v18 = .bool true := h18
      obtain rfl : v19 = .bool true := h19
      obtain rfl : v20 = .bool false := h20
      obtain rfl : v21 = .bool false := h21
      obtain rfl : v22 = .agg #[.int .i64 u0, .int .i64 u1, .int .i64 u2, .int .i64 u3, .bool u4, .int .i64 u5] := h22
      obtain ⟨Av23, nv23, cv23, lov23, hiv23, rfl, hRv23⟩ := h23
      obtain rfl : v24 = .slice A1 n1 c1 := h24
      obtain rfl : v25 = .bool true := h25
      obtain rfl : v26 = .bool true := h26
      obtain rfl : v27 = .bool true := h27
      obtain rfl : v28 = .bool true := h28
      obtain rfl : v29 = .agg #[.int .i64 y0, .int .i64 y1, .int .i64 y2, .int .i64 y3, .bool y4, .int .i64 t2] := h29
      obtain rfl : v30 = .int .i64 ((k : Int)) := h30
      obtain rfl : v31 = .bool true := h31
      obtain rfl : v32 = .bool true := h32
      obtain rfl : v33 = .bool true := h33
      obtain rfl : v34 = .agg #[.int .i64 y0, .int .i64 y1, .int .i64 y2, .int .i64 y3, .bool y4, .int .i64 t3] := h34
      obtain rfl : v35 = .int .i64 ((k : Int)) := h35
      obtain rfl : v36 = .bool false := h36
      obtain rfl : v37 = .bool true := h37
      obtain rfl : v38 = .bool true := h38
      obtain rfl : v39 = .bool true := h39
      obtain rfl : v40 = .agg #[.int .i64 y0, .int .i64 y1, .int .i64 y2, .int .i64 y3, .bool y4, .int .i64 t3] := h40
      obtain rfl : v41 = .int .i64 ((k2 : Int)) := h41
      obtain rfl : v42 = .bool y := h42
      obtain rfl : v43 = .agg #[.int .i64 y0, .int .i64 y1, .int .i64 y2, .int .i64 y3, .bool y4, .int .i64 y5] := h43
      obtain rfl : v44 = .int .i64 ((k2 : Int)) := h44
      obtain rfl : v45 = .bool y := h45
      obtain rfl : v46 = .bool true := h46
      obtain rfl : v47 = .bool true := h47
      obtain rfl : v48 = .bool true := h48
      obtain rfl : v49 = .agg #[.int .i64 y0, .int .i64 y1, .int .i64 y2, .int .i64 y3, .bool y4, .int .i64 t2] := h49
      obtain rfl : v50 = .bool false := h50
      obtain rfl : v51 = .bool true := h51
      obtain rfl : v52 = .bool true := h52
      obtain rfl : v53 = .bool true := h53
      (try simp only [reg.Obs])
      (try simp only [Act.put, List.setIfInBounds_toArray, List.set_cons_zero, List.set_cons_succ])
      have B15 := Lib.hid hc.1
      have X15 := Lib.hid hc.2.1
      have Y15 := Lib.hid hc.2.2.1
      have U15 := Lib.hid hc.2.2.2.1
      have N15 := Lib.hid hc.2.2.2.2.1
      have M15 := Lib.hid hc.2.2.2.2.2.1
      have R15 := Lib.hid hc.2.2.2.2.2.2.1
      have L15 := Lib.hid hc.2.2.2.2.2.2.2.1
      clear hc B14 X14 Y14 U14 N14 M14 R14 L14
      go_wp2_with fail
      go_ret
      exact ⟨rfl, B15.out⟩
    | false =>
      obtain ⟨rfl, rfl, rfl, rfl, rfl, rfl⟩ : y0 = f ∧ y1 = s ∧ y2 = c ∧ y3 = d ∧ y4 = g ∧ y5 = t := by have h := HS.out rfl; injection h with e1 e2 e3 e4 e5 e6; exact ⟨e1, e2, e3, e4, e5, e6⟩
      refine reg.region_plain reg.Bel 102 [some [], some [], some [(1, 50)], some [(0, 49), (2, 51)], some [(3, 52)], some [(4, 53)], some [(5, 54), (4, 53)], some [(6, 55), (4, 53)], some [(7, 56)], some [(7, 56)], some [(8, 57), (9, 58), (7, 56)], some [(7, 56), (10, 59), (4, 53)], some [(4, 53), (11, 60)], some [(12, 61)], some [(13, 62)], some [(13, 62)], some [(14, 63), (15, 64), (13, 62)], some [(13, 62), (16, 65)], some [(17, 66)], some [(18, 67)], some [(19, 68), (18, 67)], some [(20, 69), (18, 67)], some [(21, 70)], some [(22, 71), (21, 70)], some [(21, 70)], some [(23, 72), (24, 73), (21, 70)], some [(21, 70), (25, 74), (18, 67)], some [(18, 67), (26, 75)], some [(27, 76)], some [(28, 77)], some [(28, 77)], some [(29, 78), (30, 79), (28, 77)], some [(28, 77), (31, 80)], some [(32, 81)], some [(33, 82)], some [(33, 82)], some [(34, 83), (35, 84), (33, 82)], some [(36, 85), (33, 82)], some [(33, 82), (37, 86)], some [(38, 87)], some [(39, 88)], some [(39, 88)], some [(40, 89), (41, 90), (39, 88)], some [(39, 88)], some [(39, 88)], some [(43, 92), (44, 93), (39, 88)], some [(42, 91), (45, 94), (39, 88)], some [(39, 88), (46, 95)], some [(47, 96)], some [(48, 97)], some [(49, 98), (48, 97)], some [(50, 99), (48, 97)], some [(48, 97), (51, 100)], some [(52, 101)]] [(0, 49), (1, 50), (2, 51), (3, 52), (4, 53), (5, 54), (6, 55), (7, 56), (8, 57), (9, 58), (10, 59), (11, 60), (12, 61), (13, 62), (14, 63), (15, 64), (16, 65), (17, 66), (18, 67), (19, 68), (20, 69), (21, 70), (22, 71), (23, 72), (24, 73), (25, 74), (26, 75), (27, 76), (28, 77), (29, 78), (30, 79), (31, 80), (32, 81), (33, 82), (34, 83), (35, 84), (36, 85), (37, 86), (38, 87), (39, 88), (40, 89), (41, 90), (42, 91), (43, 92), (44, 93), (45, 94), (46, 95), (47, 96), (48, 97), (49, 98), (50, 99), (51, 100), (52, 101), (53, 2)]
        (fun w' => Below w.heap.size w w' ∧ Bx 25 w' (bX) #[.int .i64 y0, .int .i64 y1, .int .i64 y2, .int .i64 y3, .bool y4, .int .i64 y5] ∧ Bx 25 w' (bY) #[.int .i64 y0, .int .i64 y1, .int .i64 y2, .int .i64 y3, .bool y4, .int .i64 y5] ∧ Bx 25 w' (bU) #[.int .i64 u0, .int .i64 u1, .int .i64 u2, .int .i64 u3, .bool u4, .int .i64 u5] ∧ Bx 25 w' (bN) #[.int .i64 y0, .int .i64 y1, .int .i64 y2, .int .i64 y3, .bool y4, .int .i64 t2] ∧ Bx 25 w' (bM) #[.int .i64 y0, .int .i64 y1, .int .i64 y2, .int .i64 y3, .bool y4, .int .i64 t3] ∧ Rd .u8 w' (0) (w.heap.size) a len cap zc ∧ Ow 5 .u8 w' (wa2.heap.size) (wa3.heap.size) A1 n1 c1 lz ∧ True)
        (reg.rl [reg.is (.bool true), reg.is (.agg #[.int .i64 y0, .int .i64 y1, .int .i64 y2, .int .i64 y3, .bool y4, .int .i64 y5]), reg.is (.bool true), reg.is (.bool true), reg.is (.bool true), reg.is (.bool true), reg.is (.bool false), reg.is (.bool false), reg.is (.agg #[.int .i64 y0, .int .i64 y1, .int .i64 y2, .int .i64 y3, .bool y4, .int .i64 y5]), reg.is (.agg #[.int .i64 y0, .int .i64 y1, .int .i64 y2, .int .i64 y3, .bool y4, .int .i64 y5]), reg.is (.bool true), reg.is (.bool true), reg.is (.bool true), reg.is (.bool true), reg.is (.bool false), reg.is (.bool false), reg.is (.bool true), reg.is (.bool true), reg.is (.bool true), reg.is (.bool false), reg.is (.bool true), reg.is (.bool true), reg.is (undef), reg.is (undef), reg.is (undef), reg.is (undef), reg.is (.bool true), reg.is (.bool true), reg.is (.bool true), reg.is (.agg #[.int .i64 y0, .int .i64 y1, .int .i64 y2, .int .i64 y3, .bool y4, .int .i64 t2]), reg.is (.int .i64 ((k : Int))), reg.is (.bool true), reg.is (.bool true), reg.is (.bool true), reg.is (.agg #[.int .i64 y0, .int .i64 y1, .int .i64 y2, .int .i64 y3, .bool y4, .int .i64 t3]), reg.is (.int .i64 ((k : Int))), reg.is (.bool false), reg.is (.bool true), reg.is (.bool true), reg.is (.bool true), reg.is (.agg #[.int .i64 y0, .int .i64 y1, .int .i64 y2, .int .i64 y3, .bool y4, .int .i64 t3]), reg.is (.int .i64 ((k2 : Int))), reg.is (.bool y), reg.is (.agg #[.int .i64 y0, .int .i64 y1, .int .i64 y2, .int .i64 y3, .bool y4, .int .i64 y5]), reg.is (.int .i64 ((k2 : Int))), reg.is (.bool y), reg.is (.bool true), reg.is (.bool true), reg.is (.bool true), reg.is (.agg #[.int .i64 y0, .int .i64 y1, .int .i64 y2, .int .i64 y3, .bool y4, .int .i64 t2]), reg.is (.bool false), reg.is (.bool true), reg.is (.bool true), reg.is (.bool true)])
        (by kernel_rfl) (by kernel_rfl) rfl
        (fun w1 w2 hc hb => ⟨hc.1.trans (hb.mono hc.1.size), hc.2.1.below hb, hc.2.2.1.below hb, hc.2.2.2.1.below hb, hc.2.2.2.2.1.below hb, hc.2.2.2.2.2.1.below hb, hc.2.2.2.2.2.2.1.below hb, hc.2.2.2.2.2.2.2.1.below hb, trivial⟩) (reg.rl_keep _) (⟨own.below_drew B14.out, X14.out.same rfl, Y14.out.same rfl, U14.out.same rfl, N14.out.same rfl, M14.out.same rfl, own.rd_drew R14.out, own.ow_drew L14.out, trivial⟩) (by kernel_rfl) ⟨?_, ?_, ?_, ?_, ?_, ?_, ?_, ?_, ?_, ?_, ?_, ?_, ?_, ?_, ?_, ?_, ?_, ?_, ?_, ?_, ?_, ?_, ?_, ?_, ?_, ?_, ?_, ?_, ?_, ?_, ?_, ?_, ?_, ?_, ?_, ?_, ?_, ?_, ?_, ?_, ?_, ?_, ?_, ?_, ?_, ?_, ?_, ?_, ?_, ?_, ?_, ?_, ?_, ?_, trivial⟩ ?_
      · refine fun w8 hc  K hK => ?_
        (try simp only [Act.put, List.setIfInBounds_toArray, List.set_cons_zero, List.set_cons_succ])
        go_simp
        exact hK (.bool true) _ rfl (Below.refl _ _)
      · refine fun w8 hc  K hK => ?_
        (try simp only [Act.put, List.setIfInBounds_toArray, List.set_cons_zero, List.set_cons_succ])
        rw [if_pos (by rfl)]
        refine stw.wp_load_bx 25 _ rfl (bX) rfl 25 _ hc.2.1 Try.underlying25 rfl szB ?_
        exact hK _ _ rfl (Below.refl _ _)
      · refine fun w8 hc v1 h1 K hK => ?_
        obtain rfl : v1 = .agg #[.int .i64 y0, .int .i64 y1, .int .i64 y2, .int .i64 y3, .bool y4, .int .i64 y5] := h1
        (try simp only [Act.put, List.setIfInBounds_toArray, List.set_cons_zero, List.set_cons_succ])
        go_simp
        (with_reducible refine (specVb y0 y1 y2 y3 y4 y5 _).mono ?_)
        rintro e w3 hp
        obtain ⟨rfl, hb⟩ := b_parts HV.out hp
        exact hK _ _ rfl hb
      · refine fun w8 hc v0 h0 v2 h2 K hK => ?_
        obtain rfl : v0 = .bool true := h0
        obtain rfl : v2 = .bool true := h2
        (try simp only [Act.put, List.setIfInBounds_toArray, List.set_cons_zero, List.set_cons_succ])
        go_simp
        exact hK (.bool true) _ rfl (Below.refl _ _)
      · refine fun w8 hc v3 h3 K hK => ?_
        obtain rfl : v3 = .bool true := h3
        (try simp only [Act.put, List.setIfInBounds_toArray, List.set_cons_zero, List.set_cons_succ])
        go_simp
        exact hK (.bool true) _ rfl (Below.refl _ _)
      · refine fun w8 hc v4 h4 K hK => ?_
        obtain rfl : v4 = .bool true := h4
        (try simp only [Act.put, List.setIfInBounds_toArray, List.set_cons_zero, List.set_cons_succ])
        rw [if_pos (by rfl)]
        go_simp
        exact hK (.bool true) _ rfl (Below.refl _ _)
      · refine fun w8 hc v5 h5 v4 h4 K hK => ?_
        obtain rfl : v5 = .bool true := h5
        obtain rfl : v4 = .bool true := h4
        (try simp only [Act.put, List.setIfInBounds_toArray, List.set_cons_zero, List.set_cons_succ])
        rw [if_pos (by rfl)]
        go_simp
        exact hK (.bool false) _ rfl (Below.refl _ _)
      · refine fun w8 hc v6 h6 v4 h4 K hK => ?_
        obtain rfl : v6 = .bool false := h6
        obtain rfl : v4 = .bool true := h4
        (try simp only [Act.put, List.setIfInBounds_toArray, List.set_cons_zero, List.set_cons_succ])
        rw [if_pos (by rfl)]
        go_simp
        exact hK (.bool false) _ rfl (Below.refl _ _)
      · refine fun w8 hc v7 h7 K hK => ?_
        obtain rfl : v7 = .bool false := h7
        (try simp only [Act.put, List.setIfInBounds_toArray, List.set_cons_zero, List.set_cons_succ])
        rw [if_pos (by rfl)]
        refine stw.wp_load_bx 25 _ rfl (bY) rfl 25 _ hc.2.2.1 Try.underlying25 rfl szB ?_
        exact hK _ _ rfl (Below.refl _ _)
      · refine fun w8 hc v7 h7 K hK => ?_
        obtain rfl : v7 = .bool false := h7
        (try simp only [Act.put, List.setIfInBounds_toArray, List.set_cons_zero, List.set_cons_succ])
        rw [if_pos (by rfl)]
        refine stw.wp_load_bx 25 _ rfl (bX) rfl 25 _ hc.2.1 Try.underlying25 rfl szB ?_
        exact hK _ _ rfl (Below.refl _ _)
      · refine fun w8 hc v8 h8 v9 h9 v7 h7 K hK => ?_
        obtain rfl : v8 = .agg #[.int .i64 y0, .int .i64 y1, .int .i64 y2, .int .i64 y3, .bool y4, .int .i64 y5] := h8
        obtain rfl : v9 = .agg #[.int .i64 y0, .int .i64 y1, .int .i64 y2, .int .i64 y3, .bool y4, .int .i64 y5] := h9
        obtain rfl : v7 = .bool false := h7
        (try simp only [Act.put, List.setIfInBounds_toArray, List.set_cons_zero, List.set_cons_succ])
        rw [if_pos (by rfl)]
        go_simp
        exact hK (.bool true) _ rfl (Below.refl _ _)
      · refine fun w8 hc v7 h7 v10 h10 v4 h4 K hK => ?_
        obtain rfl : v7 = .bool false := h7
        obtain rfl : v10 = .bool true := h10
        obtain rfl : v4 = .bool true := h4
        (try simp only [Act.put, List.setIfInBounds_toArray, List.set_cons_zero, List.set_cons_succ])
        rw [if_pos (by rfl)]
        go_simp
        exact hK (.bool true) _ rfl (Below.refl _ _)
      · refine fun w8 hc v4 h4 v11 h11 K hK => ?_
        obtain rfl : v4 = .bool true := h4
        obtain rfl : v11 = .bool true := h11
        (try simp only [Act.put, List.setIfInBounds_toArray, List.set_cons_zero, List.set_cons_succ])
        go_simp
        exact hK (.bool true) _ rfl (Below.refl _ _)
      · refine fun w8 hc v12 h12 K hK => ?_
        obtain rfl : v12 = .bool true := h12
        (try simp only [Act.put, List.setIfInBounds_toArray, List.set_cons_zero, List.set_cons_succ])
        go_simp
        exact hK (.bool true) _ rfl (Below.refl _ _)
      · refine fun w8 hc v13 h13 K hK => ?_
        obtain rfl : v13 = .bool true := h13
        (try simp only [Act.put, List.setIfInBounds_toArray, List.set_cons_zero, List.set_cons_succ])
        rw [if_pos (by rfl)]
        go_simp
        exact hK (.bool false) _ rfl (Below.refl _ _)
      · refine fun w8 hc v13 h13 K hK => ?_
        obtain rfl : v13 = .bool true := h13
        (try simp only [Act.put, List.setIfInBounds_toArray, List.set_cons_zero, List.set_cons_succ])
        rw [if_pos (by rfl)]
        go_simp
        exact hK (.bool false) _ rfl (Below.refl _ _)
      · refine fun w8 hc v14 h14 v15 h15 v13 h13 K hK => ?_
        obtain rfl : v14 = .bool false := h14
        obtain rfl : v15 = .bool false := h15
        obtain rfl : v13 = .bool true := h13
        (try simp only [Act.put, List.setIfInBounds_toArray, List.set_cons_zero, List.set_cons_succ])
        rw [if_pos (by rfl)]
        go_simp
        exact hK (.bool true) _ rfl (Below.refl _ _)
      · refine fun w8 hc v13 h13 v16 h16 K hK => ?_
        obtain rfl : v13 = .bool true := h13
        obtain rfl : v16 = .bool true := h16
        (try simp only [Act.put, List.setIfInBounds_toArray, List.set_cons_zero, List.set_cons_succ])
        go_simp
        exact hK (.bool true) _ rfl (Below.refl _ _)
      · refine fun w8 hc v17 h17 K hK => ?_
        obtain rfl : v17 = .bool true := h17
        (try simp only [Act.put, List.setIfInBounds_toArray, List.set_cons_zero, List.set_cons_succ])
        go_simp
        exact hK (.bool true) _ rfl (Below.refl _ _)
      · refine fun w8 hc v18 h18 K hK => ?_
        obtain rfl : v18 = .bool true := h18
        (try simp only [Act.put, List.setIfInBounds_toArray, List.set_cons_zero, List.set_cons_succ])
        rw [if_pos (by rfl)]
        go_simp
        exact hK (.bool false) _ rfl (Below.refl _ _)
      · refine fun w8 hc v19 h19 v18 h18 K hK => ?_
        obtain rfl : v19 = .bool false := h19
        obtain rfl : v18 = .bool true := h18
        (try simp only [Act.put, List.setIfInBounds_toArray, List.set_cons_zero, List.set_cons_succ])
        rw [if_pos (by rfl)]
        go_simp
        exact hK (.bool true) _ rfl (Below.refl _ _)
      · refine fun w8 hc v20 h20 v18 h18 K hK => ?_
        obtain rfl : v20 = .bool true := h20
        obtain rfl : v18 = .bool true := h18
        (try simp only [Act.put, List.setIfInBounds_toArray, List.set_cons_zero, List.set_cons_succ])
        rw [if_pos (by rfl)]
        go_simp
        exact hK (.bool true) _ rfl (Below.refl _ _)
      · refine fun w8 hc v21 h21 K hK => ?_
        obtain rfl : v21 = .bool true := h21
        (try simp only [Act.put, List.setIfInBounds_toArray, List.set_cons_zero, List.set_cons_succ])
        rw [if_neg (by intro h; exact absurd (show false = true from h) (by decide))]
        exact hK undef _ rfl (Below.refl _ _)
      · refine fun w8 hc v22 h22 v21 h21 K hK => ?_
        obtain rfl : v22 = undef := h22
        obtain rfl : v21 = .bool true := h21
        (try simp only [Act.put, List.setIfInBounds_toArray, List.set_cons_zero, List.set_cons_succ])
        rw [if_neg (by intro h; exact absurd (show false = true from h) (by decide))]
        exact hK undef _ rfl (Below.refl _ _)
      · refine fun w8 hc v21 h21 K hK => ?_
        obtain rfl : v21 = .bool true := h21
        (try simp only [Act.put, List.setIfInBounds_toArray, List.set_cons_zero, List.set_cons_succ])
        rw [if_neg (by intro h; exact absurd (show false = true from h) (by decide))]
        exact hK undef _ rfl (Below.refl _ _)
      · refine fun w8 hc v23 h23 v24 h24 v21 h21 K hK => ?_
        obtain rfl : v23 = undef := h23
        obtain rfl : v24 = undef := h24
        obtain rfl : v21 = .bool true := h21
        (try simp only [Act.put, List.setIfInBounds_toArray, List.set_cons_zero, List.set_cons_succ])
        rw [if_neg (by intro h; exact absurd (show false = true from h) (by decide))]
        exact hK undef _ rfl (Below.refl _ _)
      · refine fun w8 hc v21 h21 v25 h25 v18 h18 K hK => ?_
        obtain rfl : v21 = .bool true := h21
        obtain rfl : v25 = undef := h25
        obtain rfl : v18 = .bool true := h18
        (try simp only [Act.put, List.setIfInBounds_toArray, List.set_cons_zero, List.set_cons_succ])
        rw [if_pos (by rfl)]
        go_simp
        exact hK (.bool true) _ rfl (Below.refl _ _)
      · refine fun w8 hc v18 h18 v26 h26 K hK => ?_
        obtain rfl : v18 = .bool true := h18
        obtain rfl : v26 = .bool true := h26
        (try simp only [Act.put, List.setIfInBounds_toArray, List.set_cons_zero, List.set_cons_succ])
        go_simp
        exact hK (.bool true) _ rfl (Below.refl _ _)
      · refine fun w8 hc v27 h27 K hK => ?_
        obtain rfl : v27 = .bool true := h27
        (try simp only [Act.put, List.setIfInBounds_toArray, List.set_cons_zero, List.set_cons_succ])
        go_simp
        exact hK (.bool true) _ rfl (Below.refl _ _)
      · refine fun w8 hc v28 h28 K hK => ?_
        obtain rfl : v28 = .bool true := h28
        (try simp only [Act.put, List.setIfInBounds_toArray, List.set_cons_zero, List.set_cons_succ])
        rw [if_pos (by rfl)]
        refine stw.wp_load_bx 25 _ rfl (bN) rfl 25 _ hc.2.2.2.2.1 Try.underlying25 rfl szB ?_
        exact hK _ _ rfl (Below.refl _ _)
      · refine fun w8 hc v28 h28 K hK => ?_
        obtain rfl : v28 = .bool true := h28
        (try simp only [Act.put, List.setIfInBounds_toArray, List.set_cons_zero, List.set_cons_succ])
        rw [if_pos (by rfl)]
        go_simp
        exact hK (.int .i64 ((k : Int))) _ rfl (Below.refl _ _)
      · refine fun w8 hc v29 h29 v30 h30 v28 h28 K hK => ?_
        obtain rfl : v29 = .agg #[.int .i64 y0, .int .i64 y1, .int .i64 y2, .int .i64 y3, .bool y4, .int .i64 t2] := h29
        obtain rfl : v30 = .int .i64 ((k : Int)) := h30
        obtain rfl : v28 = .bool true := h28
        (try simp only [Act.put, List.setIfInBounds_toArray, List.set_cons_zero, List.set_cons_succ])
        rw [if_pos (by rfl)]
        go_simp
        (with_reducible refine (implTc y0 y1 y2 y3 y4 t2 (k : Int) _).mono ?_)
        rintro e w3 hp
        obtain ⟨rfl, hb⟩ := b_parts HT1.out hp
        exact hK _ _ rfl hb
      · refine fun w8 hc v28 h28 v31 h31 K hK => ?_
        obtain rfl : v28 = .bool true := h28
        obtain rfl : v31 = .bool true := h31
        (try simp only [Act.put, List.setIfInBounds_toArray, List.set_cons_zero, List.set_cons_succ])
        go_simp
        exact hK (.bool true) _ rfl (Below.refl _ _)
      · refine fun w8 hc v32 h32 K hK => ?_
        obtain rfl : v32 = .bool true := h32
        (try simp only [Act.put, List.setIfInBounds_toArray, List.set_cons_zero, List.set_cons_succ])
        go_simp
        exact hK (.bool true) _ rfl (Below.refl _ _)
      · refine fun w8 hc v33 h33 K hK => ?_
        obtain rfl : v33 = .bool true := h33
        (try simp only [Act.put, List.setIfInBounds_toArray, List.set_cons_zero, List.set_cons_succ])
        rw [if_pos (by rfl)]
        refine stw.wp_load_bx 25 _ rfl (bM) rfl 25 _ hc.2.2.2.2.2.1 Try.underlying25 rfl szB ?_
        exact hK _ _ rfl (Below.refl _ _)
      · refine fun w8 hc v33 h33 K hK => ?_
        obtain rfl : v33 = .bool true := h33
        (try simp only [Act.put, List.setIfInBounds_toArray, List.set_cons_zero, List.set_cons_succ])
        rw [if_pos (by rfl)]
        go_simp
        exact hK (.int .i64 ((k : Int))) _ rfl (Below.refl _ _)
      · refine fun w8 hc v34 h34 v35 h35 v33 h33 K hK => ?_
        obtain rfl : v34 = .agg #[.int .i64 y0, .int .i64 y1, .int .i64 y2, .int .i64 y3, .bool y4, .int .i64 t3] := h34
        obtain rfl : v35 = .int .i64 ((k : Int)) := h35
        obtain rfl : v33 = .bool true := h33
        (try simp only [Act.put, List.setIfInBounds_toArray, List.set_cons_zero, List.set_cons_succ])
        rw [if_pos (by rfl)]
        go_simp
        (with_reducible refine (implTc y0 y1 y2 y3 y4 t3 (k : Int) _).mono ?_)
        rintro e w3 hp
        obtain ⟨rfl, hb⟩ := b_parts HTF.out hp
        exact hK _ _ rfl hb
      · refine fun w8 hc v36 h36 v33 h33 K hK => ?_
        obtain rfl : v36 = .bool false := h36
        obtain rfl : v33 = .bool true := h33
        (try simp only [Act.put, List.setIfInBounds_toArray, List.set_cons_zero, List.set_cons_succ])
        rw [if_pos (by rfl)]
        go_simp
        exact hK (.bool true) _ rfl (Below.refl _ _)
      · refine fun w8 hc v33 h33 v37 h37 K hK => ?_
        obtain rfl : v33 = .bool true := h33
        obtain rfl : v37 = .bool true := h37
        (try simp only [Act.put, List.setIfInBounds_toArray, List.set_cons_zero, List.set_cons_succ])
        go_simp
        exact hK (.bool true) _ rfl (Below.refl _ _)
      · refine fun w8 hc v38 h38 K hK => ?_
        obtain rfl : v38 = .bool true := h38
        (try simp only [Act.put, List.setIfInBounds_toArray, List.set_cons_zero, List.set_cons_succ])
        go_simp
        exact hK (.bool true) _ rfl (Below.refl _ _)
      · refine fun w8 hc v39 h39 K hK => ?_
        obtain rfl : v39 = .bool true := h39
        (try simp only [Act.put, List.setIfInBounds_toArray, List.set_cons_zero, List.set_cons_succ])
        rw [if_pos (by rfl)]
        refine stw.wp_load_bx 25 _ rfl (bM) rfl 25 _ hc.2.2.2.2.2.1 Try.underlying25 rfl szB ?_
        exact hK _ _ rfl (Below.refl _ _)
      · refine fun w8 hc v39 h39 K hK => ?_
        obtain rfl : v39 = .bool true := h39
        (try simp only [Act.put, List.setIfInBounds_toArray, List.set_cons_zero, List.set_cons_succ])
        rw [if_pos (by rfl)]
        go_simp
        exact hK (.int .i64 ((k2 : Int))) _ rfl (Below.refl _ _)
      · refine fun w8 hc v40 h40 v41 h41 v39 h39 K hK => ?_
        obtain rfl : v40 = .agg #[.int .i64 y0, .int .i64 y1, .int .i64 y2, .int .i64 y3, .bool y4, .int .i64 t3] := h40
        obtain rfl : v41 = .int .i64 ((k2 : Int)) := h41
        obtain rfl : v39 = .bool true := h39
        (try simp only [Act.put, List.setIfInBounds_toArray, List.set_cons_zero, List.set_cons_succ])
        rw [if_pos (by rfl)]
        go_simp
        (with_reducible refine (implTc y0 y1 y2 y3 y4 t3 (k2 : Int) _).mono ?_)
        rintro e w3 hp
        obtain ⟨rfl, hb⟩ := b_parts HTO.out hp
        exact hK _ _ rfl hb
      · refine fun w8 hc v39 h39 K hK => ?_
        obtain rfl : v39 = .bool true := h39
        (try simp only [Act.put, List.setIfInBounds_toArray, List.set_cons_zero, List.set_cons_succ])
        rw [if_pos (by rfl)]
        refine stw.wp_load_bx 25 _ rfl (bX) rfl 25 _ hc.2.1 Try.underlying25 rfl szB ?_
        exact hK _ _ rfl (Below.refl _ _)
      · refine fun w8 hc v39 h39 K hK => ?_
        obtain rfl : v39 = .bool true := h39
        (try simp only [Act.put, List.setIfInBounds_toArray, List.set_cons_zero, List.set_cons_succ])
        rw [if_pos (by rfl)]
        go_simp
        exact hK (.int .i64 ((k2 : Int))) _ rfl (Below.refl _ _)
      · refine fun w8 hc v43 h43 v44 h44 v39 h39 K hK => ?_
        obtain rfl : v43 = .agg #[.int .i64 y0, .int .i64 y1, .int .i64 y2, .int .i64 y3, .bool y4, .int .i64 y5] := h43
        obtain rfl : v44 = .int .i64 ((k2 : Int)) := h44
        obtain rfl : v39 = .bool true := h39
        (try simp only [Act.put, List.setIfInBounds_toArray, List.set_cons_zero, List.set_cons_succ])
        rw [if_pos (by rfl)]
        go_simp
        (with_reducible refine (specTc y0 y1 y2 y3 y4 y5 (k2 : Int) _).mono ?_)
        rintro e w3 hp
        obtain ⟨rfl, hb⟩ := b_parts HTX.out hp
        exact hK _ _ rfl hb
      · refine fun w8 hc v42 h42 v45 h45 v39 h39 K hK => ?_
        obtain rfl : v42 = .bool y := h42
        obtain rfl : v45 = .bool y := h45
        obtain rfl : v39 = .bool true := h39
        (try simp only [Act.put, List.setIfInBounds_toArray, List.set_cons_zero, List.set_cons_succ])
        rw [if_pos (by rfl)]
        go_simp
        exact hK (.bool true) _ rfl (Below.refl _ _)
      · refine fun w8 hc v39 h39 v46 h46 K hK => ?_
        obtain rfl : v39 = .bool true := h39
        obtain rfl : v46 = .bool true := h46
        (try simp only [Act.put, List.setIfInBounds_toArray, List.set_cons_zero, List.set_cons_succ])
        go_simp
        exact hK (.bool true) _ rfl (Below.refl _ _)
      · refine fun w8 hc v47 h47 K hK => ?_
        obtain rfl : v47 = .bool true := h47
        (try simp only [Act.put, List.setIfInBounds_toArray, List.set_cons_zero, List.set_cons_succ])
        go_simp
        exact hK (.bool true) _ rfl (Below.refl _ _)
      · refine fun w8 hc v48 h48 K hK => ?_
        obtain rfl : v48 = .bool true := h48
        (try simp only [Act.put, List.setIfInBounds_toArray, List.set_cons_zero, List.set_cons_succ])
        rw [if_pos (by rfl)]
        refine stw.wp_load_bx 25 _ rfl (bN) rfl 25 _ hc.2.2.2.2.1 Try.underlying25 rfl szB ?_
        exact hK _ _ rfl (Below.refl _ _)
      · refine fun w8 hc v49 h49 v48 h48 K hK => ?_
        obtain rfl : v49 = .agg #[.int .i64 y0, .int .i64 y1, .int .i64 y2, .int .i64 y3, .bool y4, .int .i64 t2] := h49
        obtain rfl : v48 = .bool true := h48
        (try simp only [Act.put, List.setIfInBounds_toArray, List.set_cons_zero, List.set_cons_succ])
        rw [if_pos (by rfl)]
        go_simp
        (with_reducible refine (implTc y0 y1 y2 y3 y4 t2 16 _).mono ?_)
        rintro e w3 hp
        obtain ⟨rfl, hb⟩ := b_parts HT6.out hp
        exact hK _ _ rfl hb
      · refine fun w8 hc v50 h50 v48 h48 K hK => ?_
        obtain rfl : v50 = .bool false := h50
        obtain rfl : v48 = .bool true := h48
        (try simp only [Act.put, List.setIfInBounds_toArray, List.set_cons_zero, List.set_cons_succ])
        rw [if_pos (by rfl)]
        go_simp
        exact hK (.bool true) _ rfl (Below.refl _ _)
      · refine fun w8 hc v48 h48 v51 h51 K hK => ?_
        obtain rfl : v48 = .bool true := h48
        obtain rfl : v51 = .bool true := h51
        (try simp only [Act.put, List.setIfInBounds_toArray, List.set_cons_zero, List.set_cons_succ])
        go_simp
        exact hK (.bool true) _ rfl (Below.refl _ _)
      · refine fun w8 hc v52 h52 K hK => ?_
        obtain rfl : v52 = .bool true := h52
        (try simp only [Act.put, List.setIfInBounds_toArray, List.set_cons_zero, List.set_cons_succ])
        go_simp
        exact hK (.bool true) _ rfl (Below.refl _ _)
      refine fun wg15 hc v0 h0 v1 h1 v2 h2 v3 h3 v4 h4 v5 h5 v6 h6 v7 h7 v8 h8 v9 h9 v10 h10 v11 h11 v12 h12 v13 h13 v14 h14 v15 h15 v16 h16 v17 h17 v18 h18 v19 h19 v20 h20 v21 h21 v22 h22 v23 h23 v24 h24 v25 h25 v26 h26 v27 h27 v28 h28 v29 h29 v30 h30 v31 h31 v32 h32 v33 h33 v34 h34 v35 h35 v36 h36 v37 h37 v38 h38 v39 h39 v40 h40 v41 h41 v42 h42 v43 h43 v44 h44 v45 h45 v46 h46 v47 h47 v48 h48 v49 h49 v50 h50 v51 h51 v52 h52 v53 h53 => ?_
      obtain rfl : v0 = .bool true := h0
      obtain rfl : v1 = .agg #[.int .i64 y0, .int .i64 y1, .int .i64 y2, .int .i64 y3, .bool y4, .int .i64 y5] := h1
      obtain rfl : v2 = .bool true := h2
      obtain rfl : v3 = .bool true := h3
      obtain rfl : v4 = .bool true := h4
      obtain rfl : v5 = .bool true := h5
      obtain rfl : v6 = .bool false := h6
      obtain rfl : v7 = .bool false := h7
      obtain rfl : v8 = .agg #[.int .i64 y0, .int .i64 y1, .int .i64 y2, .int .i64 y3, .bool y4, .int .i64 y5] := h8
      obtain rfl : v9 = .agg #[.int .i64 y0, .int .i64 y1, .int .i64 y2, .int .i64 y3, .bool y4, .int .i64 y5] := h9
      obtain rfl : v10 = .bool true := h10
      obtain rfl : v11 = .bool true := h11
      obtain rfl : v12 = .bool true := h12
      obtain rfl : v13 = .bool true := h13
      obtain rfl : v14 = .bool false := h14
      obtain rfl : v15 = .bool false := h15
      obtain rfl : v16 = .bool true := h16
      obtain rfl : v17 = .bool true := h17
      obtain rfl : v18 = .bool true := h18
      obtain rfl : v19 = .bool false := h19
      obtain rfl : v20 = .bool true := h20
      obtain rfl : v21 = .bool true := h21
      obtain rfl : v22 = undef := h22
      obtain rfl : v23 = undef := h23
      obtain rfl : v24 = undef := h24
      obtain rfl : v25 = undef := h25
      obtain rfl : v26 = .bool true := h26
      obtain rfl : v27 = .bool true := h27
      obtain rfl : v28 = .bool true := h28
      obtain rfl : v29 = .agg #[.int .i64 y0, .int .i64 y1, .int .i64 y2, .int .i64 y3, .bool y4, .int .i64 t2] := h29
      obtain rfl : v30 = .int .i64 ((k : Int)) := h30
      obtain rfl : v31 = .bool true := h31
      obtain rfl : v32 = .bool true := h32
      obtain rfl : v33 = .bool true := h33
      obtain rfl : v34 = .agg #[.int .i64 y0, .int .i64 y1, .int .i64 y2, .int .i64 y3, .bool y4, .int .i64 t3] := h34
      obtain rfl : v35 = .int .i64 ((k : Int)) := h35
      obtain rfl : v36 = .bool false := h36
      obtain rfl : v37 = .bool true := h37
      obtain rfl : v38 = .bool true := h38
      obtain rfl : v39 = .bool true := h39
      obtain rfl : v40 = .agg #[.int .i64 y0, .int .i64 y1, .int .i64 y2, .int .i64 y3, .bool y4, .int .i64 t3] := h40
      obtain rfl : v41 = .int .i64 ((k2 : Int)) := h41
      obtain rfl : v42 = .bool y := h42
      obtain rfl : v43 = .agg #[.int .i64 y0, .int .i64 y1, .int .i64 y2, .int .i64 y3, .bool y4, .int .i64 y5] := h43
      obtain rfl : v44 = .int .i64 ((k2 : Int)) := h44
      obtain rfl : v45 = .bool y := h45
      obtain rfl : v46 = .bool true := h46
      obtain rfl : v47 = .bool true := h47
      obtain rfl : v48 = .bool true := h48
      obtain rfl : v49 = .agg #[.int .i64 y0, .int .i64 y1, .int .i64 y2, .int .i64 y3, .bool y4, .int .i64 t2] := h49
      obtain rfl : v50 = .bool false := h50
      obtain rfl : v51 = .bool true := h51
      obtain rfl : v52 = .bool true := h52
      obtain rfl : v53 = .bool true := h53
      (try simp only [reg.Obs])
      (try simp only [Act.put, List.setIfInBounds_toArray, List.set_cons_zero, List.set_cons_succ])
      have B15 := Lib.hid hc.1
      have X15 := Lib.hid hc.2.1
      have Y15 := Lib.hid hc.2.2.1
      have U15 := Lib.hid hc.2.2.2.1
      have N15 := Lib.hid hc.2.2.2.2.1
      have M15 := Lib.hid hc.2.2.2.2.2.1
      have R15 := Lib.hid hc.2.2.2.2.2.2.1
      have L15 := Lib.hid hc.2.2.2.2.2.2.2.1
      clear hc B14 X14 Y14 U14 N14 M14 R14 L14
      go_wp2_with fail
      go_ret
      exact ⟨rfl, B15.out⟩
  | false =>
    cases fi with
    | true =>
      have CE := Lib.hid (show ∀ W : World, Calls Try.prog 16 #[.agg #[.int .i64 u0, .int .i64 u1, .int .i64 u2, .int .i64 u3, .bool u4, .int .i64 u5]] W (SlPost 5 .u8 W lz) from fun W => by have h1 := implEb u0 u1 u2 u3 u4 u5 W; rwa [(db_ok HLB.out HU.out).2] at h1)
      refine reg.region_plain reg.Bel 102 [some [], some [], some [(1, 50)], some [(0, 49), (2, 51)], some [(3, 52)], some [(4, 53)], some [(5, 54), (4, 53)], some [(6, 55), (4, 53)], some [(7, 56)], some [(7, 56)], some [(8, 57), (9, 58), (7, 56)], some [(7, 56), (10, 59), (4, 53)], some [(4, 53), (11, 60)], some [(12, 61)], some [(13, 62)], some [(13, 62)], some [(14, 63), (15, 64), (13, 62)], some [(13, 62), (16, 65)], some [(17, 66)], some [(18, 67)], some [(19, 68), (18, 67)], some [(20, 69), (18, 67)], some [(21, 70)], some [(22, 71), (21, 70)], some [(21, 70)], some [(23, 72), (24, 73), (21, 70)], some [(21, 70), (25, 74), (18, 67)], some [(18, 67), (26, 75)], some [(27, 76)], some [(28, 77)], some [(28, 77)], some [(29, 78), (30, 79), (28, 77)], some [(28, 77), (31, 80)], some [(32, 81)], some [(33, 82)], some [(33, 82)], some [(34, 83), (35, 84), (33, 82)], some [(36, 85), (33, 82)], some [(33, 82), (37, 86)], some [(38, 87)], some [(39, 88)], some [(39, 88)], some [(40, 89), (41, 90), (39, 88)], some [(39, 88)], some [(39, 88)], some [(43, 92), (44, 93), (39, 88)], some [(42, 91), (45, 94), (39, 88)], some [(39, 88), (46, 95)], some [(47, 96)], some [(48, 97)], some [(49, 98), (48, 97)], some [(50, 99), (48, 97)], some [(48, 97), (51, 100)], some [(52, 101)]] [(0, 49), (1, 50), (2, 51), (3, 52), (4, 53), (5, 54), (6, 55), (7, 56), (8, 57), (9, 58), (10, 59), (11, 60), (12, 61), (13, 62), (14, 63), (15, 64), (16, 65), (17, 66), (18, 67), (19, 68), (20, 69), (21, 70), (22, 71), (23, 72), (24, 73), (25, 74), (26, 75), (27, 76), (28, 77), (29, 78), (30, 79), (31, 80), (32, 81), (33, 82), (34, 83), (35, 84), (36, 85), (37, 86), (38, 87), (39, 88), (40, 89), (41, 90), (42, 91), (43, 92), (44, 93), (45, 94), (46, 95), (47, 96), (48, 97), (49, 98), (50, 99), (51, 100), (52, 101), (53, 2)]
        (fun w' => Below w.heap.size w w' ∧ Bx 25 w' (bX) #[.int .i64 f, .int .i64 s, .int .i64 c, .int .i64 d, .bool g, .int .i64 t] ∧ Bx 25 w' (bY) #[.int .i64 y0, .int .i64 y1, .int .i64 y2, .int .i64 y3, .bool y4, .int .i64 y5] ∧ Bx 25 w' (bU) #[.int .i64 u0, .int .i64 u1, .int .i64 u2, .int .i64 u3, .bool u4, .int .i64 u5] ∧ Bx 25 w' (bN) #[.int .i64 f, .int .i64 s, .int .i64 c, .int .i64 d, .bool g, .int .i64 t2] ∧ Bx 25 w' (bM) #[.int .i64 f, .int .i64 s, .int .i64 c, .int .i64 d, .bool g, .int .i64 t3] ∧ Rd .u8 w' (0) (w.heap.size) a len cap zc ∧ Ow 5 .u8 w' (wa2.heap.size) (wa3.heap.size) A1 n1 c1 lz ∧ True)
        (reg.rl [reg.is (.bool false), reg.is (.agg #[.int .i64 f, .int .i64 s, .int .i64 c, .int .i64 d, .bool g, .int .i64 t]), reg.is (.bool false), reg.is (.bool true), reg.is (.bool true), reg.is (.bool false), reg.is (.bool true), reg.is (.bool true), reg.is (undef), reg.is (undef), reg.is (undef), reg.is (.bool true), reg.is (.bool true), reg.is (.bool true), reg.is (.bool true), reg.is (.bool true), reg.is (.bool true), reg.is (.bool true), reg.is (.bool true), reg.is (.bool true), reg.is (.bool false), reg.is (.bool false), reg.is (.agg #[.int .i64 u0, .int .i64 u1, .int .i64 u2, .int .i64 u3, .bool u4, .int .i64 u5]), stw.rowv .u8 lz (fun A n c => .slice A n c), reg.is (.slice A1 n1 c1), reg.is (.bool true), reg.is (.bool true), reg.is (.bool true), reg.is (.bool true), reg.is (.agg #[.int .i64 f, .int .i64 s, .int .i64 c, .int .i64 d, .bool g, .int .i64 t2]), reg.is (.int .i64 ((k : Int))), reg.is (.bool true), reg.is (.bool true), reg.is (.bool true), reg.is (.agg #[.int .i64 f, .int .i64 s, .int .i64 c, .int .i64 d, .bool g, .int .i64 t3]), reg.is (.int .i64 ((k : Int))), reg.is (.bool false), reg.is (.bool true), reg.is (.bool true), reg.is (.bool true), reg.is (.agg #[.int .i64 f, .int .i64 s, .int .i64 c, .int .i64 d, .bool g, .int .i64 t3]), reg.is (.int .i64 ((k2 : Int))), reg.is (.bool y), reg.is (.agg #[.int .i64 f, .int .i64 s, .int .i64 c, .int .i64 d, .bool g, .int .i64 t]), reg.is (.int .i64 ((k2 : Int))), reg.is (.bool y), reg.is (.bool true), reg.is (.bool true), reg.is (.bool true), reg.is (.agg #[.int .i64 f, .int .i64 s, .int .i64 c, .int .i64 d, .bool g, .int .i64 t2]), reg.is (.bool false), reg.is (.bool true), reg.is (.bool true), reg.is (.bool true)])
        (by kernel_rfl) (by kernel_rfl) rfl
        (fun w1 w2 hc hb => ⟨hc.1.trans (hb.mono hc.1.size), hc.2.1.below hb, hc.2.2.1.below hb, hc.2.2.2.1.below hb, hc.2.2.2.2.1.below hb, hc.2.2.2.2.2.1.below hb, hc.2.2.2.2.2.2.1.below hb, hc.2.2.2.2.2.2.2.1.below hb, trivial⟩) (reg.rl_keep _) (⟨own.below_drew B14.out, X14.out.same rfl, Y14.out.same rfl, U14.out.same rfl, N14.out.same rfl, M14.out.same rfl, own.rd_drew R14.out, own.ow_drew L14.out, trivial⟩) (by kernel_rfl) ⟨?_, ?_, ?_, ?_, ?_, ?_, ?_, ?_, ?_, ?_, ?_, ?_, ?_, ?_, ?_, ?_, ?_, ?_, ?_, ?_, ?_, ?_, ?_, ?_, ?_, ?_, ?_, ?_, ?_, ?_, ?_, ?_, ?_, ?_, ?_, ?_, ?_, ?_, ?_, ?_, ?_, ?_, ?_, ?_, ?_, ?_, ?_, ?_, ?_, ?_, ?_, ?_, ?_, ?_, trivial⟩ ?_
      · refine fun w8 hc  K hK => ?_
        (try simp only [Act.put, List.setIfInBounds_toArray, List.set_cons_zero, List.set_cons_succ])
        go_simp
        exact hK (.bool false) _ rfl (Below.refl _ _)
      · refine fun w8 hc  K hK => ?_
        (try simp only [Act.put, List.setIfInBounds_toArray, List.set_cons_zero, List.set_cons_succ])
        rw [if_pos (by rfl)]
        refine stw.wp_load_bx 25 _ rfl (bX) rfl 25 _ hc.2.1 Try.underlying25 rfl szB ?_
        exact hK _ _ rfl (Below.refl _ _)
      · refine fun w8 hc v1 h1 K hK => ?_
        obtain rfl : v1 = .agg #[.int .i64 f, .int .i64 s, .int .i64 c, .int .i64 d, .bool g, .int .i64 t] := h1
        (try simp only [Act.put, List.setIfInBounds_toArray, List.set_cons_zero, List.set_cons_succ])
        go_simp
        (with_reducible refine (specVb f s c d g t _).mono ?_)
        rintro e w3 hp
        obtain ⟨rfl, hb⟩ := b_parts HV.out hp
        exact hK _ _ rfl hb
      · refine fun w8 hc v0 h0 v2 h2 K hK => ?_
        obtain rfl : v0 = .bool false := h0
        obtain rfl : v2 = .bool false := h2
        (try simp only [Act.put, List.setIfInBounds_toArray, List.set_cons_zero, List.set_cons_succ])
        go_simp
        exact hK (.bool true) _ rfl (Below.refl _ _)
      · refine fun w8 hc v3 h3 K hK => ?_
        obtain rfl : v3 = .bool true := h3
        (try simp only [Act.put, List.setIfInBounds_toArray, List.set_cons_zero, List.set_cons_succ])
        go_simp
        exact hK (.bool true) _ rfl (Below.refl _ _)
      · refine fun w8 hc v4 h4 K hK => ?_
        obtain rfl : v4 = .bool true := h4
        (try simp only [Act.put, List.setIfInBounds_toArray, List.set_cons_zero, List.set_cons_succ])
        rw [if_pos (by rfl)]
        go_simp
        exact hK (.bool false) _ rfl (Below.refl _ _)
      · refine fun w8 hc v5 h5 v4 h4 K hK => ?_
        obtain rfl : v5 = .bool false := h5
        obtain rfl : v4 = .bool true := h4
        (try simp only [Act.put, List.setIfInBounds_toArray, List.set_cons_zero, List.set_cons_succ])
        rw [if_pos (by rfl)]
        go_simp
        exact hK (.bool true) _ rfl (Below.refl _ _)
      · refine fun w8 hc v6 h6 v4 h4 K hK => ?_
        obtain rfl : v6 = .bool true := h6
        obtain rfl : v4 = .bool true := h4
        (try simp only [Act.put, List.setIfInBounds_toArray, List.set_cons_zero, List.set_cons_succ])
        rw [if_pos (by rfl)]
        go_simp
        exact hK (.bool true) _ rfl (Below.refl _ _)
      · refine fun w8 hc v7 h7 K hK => ?_
        obtain rfl : v7 = .bool true := h7
        (try simp only [Act.put, List.setIfInBounds_toArray, List.set_cons_zero, List.set_cons_succ])
        rw [if_neg (by intro h; exact absurd (show false = true from h) (by decide))]
        exact hK undef _ rfl (Below.refl _ _)
      · refine fun w8 hc v7 h7 K hK => ?_
        obtain rfl : v7 = .bool true := h7
        (try simp only [Act.put, List.setIfInBounds_toArray, List.set_cons_zero, List.set_cons_succ])
        rw [if_neg (by intro h; exact absurd (show false = true from h) (by decide))]
        exact hK undef _ rfl (Below.refl _ _)
      · refine fun w8 hc v8 h8 v9 h9 v7 h7 K hK => ?_
        obtain rfl : v8 = undef := h8
        obtain rfl : v9 = undef := h9
        obtain rfl : v7 = .bool true := h7
        (try simp only [Act.put, List.setIfInBounds_toArray, List.set_cons_zero, List.set_cons_succ])
        rw [if_neg (by intro h; exact absurd (show false = true from h) (by decide))]
        exact hK undef _ rfl (Below.refl _ _)
      · refine fun w8 hc v7 h7 v10 h10 v4 h4 K hK => ?_
        obtain rfl : v7 = .bool true := h7
        obtain rfl : v10 = undef := h10
        obtain rfl : v4 = .bool true := h4
        (try simp only [Act.put, List.setIfInBounds_toArray, List.set_cons_zero, List.set_cons_succ])
        rw [if_pos (by rfl)]
        go_simp
        exact hK (.bool true) _ rfl (Below.refl _ _)
      · refine fun w8 hc v4 h4 v11 h11 K hK => ?_
        obtain rfl : v4 = .bool true := h4
        obtain rfl : v11 = .bool true := h11
        (try simp only [Act.put, List.setIfInBounds_toArray, List.set_cons_zero, List.set_cons_succ])
        go_simp
        exact hK (.bool true) _ rfl (Below.refl _ _)
      · refine fun w8 hc v12 h12 K hK => ?_
        obtain rfl : v12 = .bool true := h12
        (try simp only [Act.put, List.setIfInBounds_toArray, List.set_cons_zero, List.set_cons_succ])
        go_simp
        exact hK (.bool true) _ rfl (Below.refl _ _)
      · refine fun w8 hc v13 h13 K hK => ?_
        obtain rfl : v13 = .bool true := h13
        (try simp only [Act.put, List.setIfInBounds_toArray, List.set_cons_zero, List.set_cons_succ])
        rw [if_pos (by rfl)]
        go_simp
        exact hK (.bool true) _ rfl (Below.refl _ _)
      · refine fun w8 hc v13 h13 K hK => ?_
        obtain rfl : v13 = .bool true := h13
        (try simp only [Act.put, List.setIfInBounds_toArray, List.set_cons_zero, List.set_cons_succ])
        rw [if_pos (by rfl)]
        go_simp
        exact hK (.bool true) _ rfl (Below.refl _ _)
      · refine fun w8 hc v14 h14 v15 h15 v13 h13 K hK => ?_
        obtain rfl : v14 = .bool true := h14
        obtain rfl : v15 = .bool true := h15
        obtain rfl : v13 = .bool true := h13
        (try simp only [Act.put, List.setIfInBounds_toArray, List.set_cons_zero, List.set_cons_succ])
        rw [if_pos (by rfl)]
        go_simp
        exact hK (.bool true) _ rfl (Below.refl _ _)
      · refine fun w8 hc v13 h13 v16 h16 K hK => ?_
        obtain rfl : v13 = .bool true := h13
        obtain rfl : v16 = .bool true := h16
        (try simp only [Act.put, List.setIfInBounds_toArray, List.set_cons_zero, List.set_cons_succ])
        go_simp
        exact hK (.bool true) _ rfl (Below.refl _ _)
      · refine fun w8 hc v17 h17 K hK => ?_
        obtain rfl : v17 = .bool true := h17
        (try simp only [Act.put, List.setIfInBounds_toArray, List.set_cons_zero, List.set_cons_succ])
        go_simp
        exact hK (.bool true) _ rfl (Below.refl _ _)
      · refine fun w8 hc v18 h18 K hK => ?_
        obtain rfl : v18 = .bool true := h18
        (try simp only [Act.put, List.setIfInBounds_toArray, List.set_cons_zero, List.set_cons_succ])
        rw [if_pos (by rfl)]
        go_simp
        exact hK (.bool true) _ rfl (Below.refl _ _)
      · refine fun w8 hc v19 h19 v18 h18 K hK => ?_
        obtain rfl : v19 = .bool true := h19
        obtain rfl : v18 = .bool true := h18
        (try simp only [Act.put, List.setIfInBounds_toArray, List.set_cons_zero, List.set_cons_succ])
        rw [if_pos (by rfl)]
        go_simp
        exact hK (.bool false) _ rfl (Below.refl _ _)
      · refine fun w8 hc v20 h20 v18 h18 K hK => ?_
        obtain rfl : v20 = .bool false := h20
        obtain rfl : v18 = .bool true := h18
        (try simp only [Act.put, List.setIfInBounds_toArray, List.set_cons_zero, List.set_cons_succ])
        rw [if_pos (by rfl)]
        go_simp
        exact hK (.bool false) _ rfl (Below.refl _ _)
      · refine fun w8 hc v21 h21 K hK => ?_
        obtain rfl : v21 = .bool false := h21
        (try simp only [Act.put, List.setIfInBounds_toArray, List.set_cons_zero, List.set_cons_succ])
        rw [if_pos (by rfl)]
        refine stw.wp_load_bx 25 _ rfl (bU) rfl 25 _ hc.2.2.2.1 Try.underlying25 rfl szB ?_
        exact hK _ _ rfl (Below.refl _ _)
      · refine fun w8 hc v22 h22 v21 h21 K hK => ?_
        obtain rfl : v22 = .agg #[.int .i64 u0, .int .i64 u1, .int .i64 u2, .int .i64 u3, .bool u4, .int .i64 u5] := h22
        obtain rfl : v21 = .bool false := h21
        (try simp only [Act.put, List.setIfInBounds_toArray, List.set_cons_zero, List.set_cons_succ])
        rw [if_pos (by rfl)]
        go_simp
        (with_reducible refine (CE.out _).mono ?_)
        rintro e w3 ⟨A, n, c, rfl, ho, hb⟩
        exact hK _ _ ⟨_, _, _, _, _, rfl, ho.rd⟩ hb
      · refine fun w8 hc v21 h21 K hK => ?_
        obtain rfl : v21 = .bool false := h21
        (try simp only [Act.put, List.setIfInBounds_toArray, List.set_cons_zero, List.set_cons_succ])
        rw [if_pos (by rfl)]
        go_simp
        exact hK (.slice A1 n1 c1) _ rfl (Below.refl _ _)
      · refine fun w8 hc v23 h23 v24 h24 v21 h21 K hK => ?_
        obtain ⟨Av23, nv23, cv23, lov23, hiv23, rfl, hRv23⟩ := h23
        obtain rfl : v24 = .slice A1 n1 c1 := h24
        obtain rfl : v21 = .bool false := h21
        (try simp only [Act.put, List.setIfInBounds_toArray, List.set_cons_zero, List.set_cons_succ])
        rw [if_pos (by rfl)]
        go_simp
        (with_reducible refine (harn.sameB_yes lz _ _ _ _ _ _ _ _ _ _ _ hRv23 hc.2.2.2.2.2.2.2.1.rd).mono ?_)
        rintro e w3 ⟨rfl, hb⟩
        exact hK _ _ rfl hb
      · refine fun w8 hc v21 h21 v25 h25 v18 h18 K hK => ?_
        obtain rfl : v21 = .bool false := h21
        obtain rfl : v25 = .bool true := h25
        obtain rfl : v18 = .bool true := h18
        (try simp only [Act.put, List.setIfInBounds_toArray, List.set_cons_zero, List.set_cons_succ])
        rw [if_pos (by rfl)]
        go_simp
        exact hK (.bool true) _ rfl (Below.refl _ _)
      · refine fun w8 hc v18 h18 v26 h26 K hK => ?_
        obtain rfl : v18 = .bool true := h18
        obtain rfl : v26 = .bool true := h26
        (try simp only [Act.put, List.setIfInBounds_toArray, List.set_cons_zero, List.set_cons_succ])
        go_simp
        exact hK (.bool true) _ rfl (Below.refl _ _)
      · refine fun w8 hc v27 h27 K hK => ?_
        obtain rfl : v27 = .bool true := h27
        (try simp only [Act.put, List.setIfInBounds_toArray, List.set_cons_zero, List.set_cons_succ])
        go_simp
        exact hK (.bool true) _ rfl (Below.refl _ _)
      · refine fun w8 hc v28 h28 K hK => ?_
        obtain rfl : v28 = .bool true := h28
        (try simp only [Act.put, List.setIfInBounds_toArray, List.set_cons_zero, List.set_cons_succ])
        rw [if_pos (by rfl)]
        refine stw.wp_load_bx 25 _ rfl (bN) rfl 25 _ hc.2.2.2.2.1 Try.underlying25 rfl szB ?_
        exact hK _ _ rfl (Below.refl _ _)
      · refine fun w8 hc v28 h28 K hK => ?_
        obtain rfl : v28 = .bool true := h28
        (try simp only [Act.put, List.setIfInBounds_toArray, List.set_cons_zero, List.set_cons_succ])
        rw [if_pos (by rfl)]
        go_simp
        exact hK (.int .i64 ((k : Int))) _ rfl (Below.refl _ _)
      · refine fun w8 hc v29 h29 v30 h30 v28 h28 K hK => ?_
        obtain rfl : v29 = .agg #[.int .i64 f, .int .i64 s, .int .i64 c, .int .i64 d, .bool g, .int .i64 t2] := h29
        obtain rfl : v30 = .int .i64 ((k : Int)) := h30
        obtain rfl : v28 = .bool true := h28
        (try simp only [Act.put, List.setIfInBounds_toArray, List.set_cons_zero, List.set_cons_succ])
        rw [if_pos (by rfl)]
        go_simp
        (with_reducible refine (implTc f s c d g t2 (k : Int) _).mono ?_)
        rintro e w3 hp
        obtain ⟨rfl, hb⟩ := b_parts HT1.out hp
        exact hK _ _ rfl hb
      · refine fun w8 hc v28 h28 v31 h31 K hK => ?_
        obtain rfl : v28 = .bool true := h28
        obtain rfl : v31 = .bool true := h31
        (try simp only [Act.put, List.setIfInBounds_toArray, List.set_cons_zero, List.set_cons_succ])
        go_simp
        exact hK (.bool true) _ rfl (Below.refl _ _)
      · refine fun w8 hc v32 h32 K hK => ?_
        obtain rfl : v32 = .bool true := h32
        (try simp only [Act.put, List.setIfInBounds_toArray, List.set_cons_zero, List.set_cons_succ])
        go_simp
        exact hK (.bool true) _ rfl (Below.refl _ _)
      · refine fun w8 hc v33 h33 K hK => ?_
        obtain rfl : v33 = .bool true := h33
        (try simp only [Act.put, List.setIfInBounds_toArray, List.set_cons_zero, List.set_cons_succ])
        rw [if_pos (by rfl)]
        refine stw.wp_load_bx 25 _ rfl (bM) rfl 25 _ hc.2.2.2.2.2.1 Try.underlying25 rfl szB ?_
        exact hK _ _ rfl (Below.refl _ _)
      · refine fun w8 hc v33 h33 K hK => ?_
        obtain rfl : v33 = .bool true := h33
        (try simp only [Act.put, List.setIfInBounds_toArray, List.set_cons_zero, List.set_cons_succ])
        rw [if_pos (by rfl)]
        go_simp
        exact hK (.int .i64 ((k : Int))) _ rfl (Below.refl _ _)
      · refine fun w8 hc v34 h34 v35 h35 v33 h33 K hK => ?_
        obtain rfl : v34 = .agg #[.int .i64 f, .int .i64 s, .int .i64 c, .int .i64 d, .bool g, .int .i64 t3] := h34
        obtain rfl : v35 = .int .i64 ((k : Int)) := h35
        obtain rfl : v33 = .bool true := h33
        (try simp only [Act.put, List.setIfInBounds_toArray, List.set_cons_zero, List.set_cons_succ])
        rw [if_pos (by rfl)]
        go_simp
        (with_reducible refine (implTc f s c d g t3 (k : Int) _).mono ?_)
        rintro e w3 hp
        obtain ⟨rfl, hb⟩ := b_parts HTF.out hp
        exact hK _ _ rfl hb
      · refine fun w8 hc v36 h36 v33 h33 K hK => ?_
        obtain rfl : v36 = .bool false := h36
        obtain rfl : v33 = .bool true := h33
        (try simp only [Act.put, List.setIfInBounds_toArray, List.set_cons_zero, List.set_cons_succ])
        rw [if_pos (by rfl)]
        go_simp
        exact hK (.bool true) _ rfl (Below.refl _ _)
      · refine fun w8 hc v33 h33 v37 h37 K hK => ?_
        obtain rfl : v33 = .bool true := h33
        obtain rfl : v37 = .bool true := h37
        (try simp only [Act.put, List.setIfInBounds_toArray, List.set_cons_zero, List.set_cons_succ])
        go_simp
        exact hK (.bool true) _ rfl (Below.refl _ _)
      · refine fun w8 hc v38 h38 K hK => ?_
        obtain rfl : v38 = .bool true := h38
        (try simp only [Act.put, List.setIfInBounds_toArray, List.set_cons_zero, List.set_cons_succ])
        go_simp
        exact hK (.bool true) _ rfl (Below.refl _ _)
      · refine fun w8 hc v39 h39 K hK => ?_
        obtain rfl : v39 = .bool true := h39
        (try simp only [Act.put, List.setIfInBounds_toArray, List.set_cons_zero, List.set_cons_succ])
        rw [if_pos (by rfl)]
        refine stw.wp_load_bx 25 _ rfl (bM) rfl 25 _ hc.2.2.2.2.2.1 Try.underlying25 rfl szB ?_
        exact hK _ _ rfl (Below.refl _ _)
      · refine fun w8 hc v39 h39 K hK => ?_
        obtain rfl : v39 = .bool true := h39
        (try simp only [Act.put, List.setIfInBounds_toArray, List.set_cons_zero, List.set_cons_succ])
        rw [if_pos (by rfl)]
        go_simp
        exact hK (.int .i64 ((k2 : Int))) _ rfl (Below.refl _ _)
      · refine fun w8 hc v40 h40 v41 h41 v39 h39 K hK => ?_
        obtain rfl : v40 = .agg #[.int .i64 f, .int .i64 s, .int .i64 c, .int .i64 d, .bool g, .int .i64 t3] := h40
        obtain rfl : v41 = .int .i64 ((k2 : Int)) := h41
        obtain rfl : v39 = .bool true := h39
        (try simp only [Act.put, List.setIfInBounds_toArray, List.set_cons_zero, List.set_cons_succ])
        rw [if_pos (by rfl)]
        go_simp
        (with_reducible refine (implTc f s c d g t3 (k2 : Int) _).mono ?_)
        rintro e w3 hp
        obtain ⟨rfl, hb⟩ := b_parts HTO.out hp
        exact hK _ _ rfl hb
      · refine fun w8 hc v39 h39 K hK => ?_
        obtain rfl : v39 = .bool true := h39
        (try simp only [Act.put, List.setIfInBounds_toArray, List.set_cons_zero, List.set_cons_succ])
        rw [if_pos (by rfl)]
        refine stw.wp_load_bx 25 _ rfl (bX) rfl 25 _ hc.2.1 Try.underlying25 rfl szB ?_
        exact hK _ _ rfl (Below.refl _ _)
      · refine fun w8 hc v39 h39 K hK => ?_
        obtain rfl : v39 = .bool true := h39
        (try simp only [Act.put, List.setIfInBounds_toArray, List.set_cons_zero, List.set_cons_succ])
        rw [if_pos (by rfl)]
        go_simp
        exact hK (.int .i64 ((k2 : Int))) _ rfl (Below.refl _ _)
      · refine fun w8 hc v43 h43 v44 h44 v39 h39 K hK => ?_
        obtain rfl : v43 = .agg #[.int .i64 f, .int .i64 s, .int .i64 c, .int .i64 d, .bool g, .int .i64 t] := h43
        obtain rfl : v44 = .int .i64 ((k2 : Int)) := h44
        obtain rfl : v39 = .bool true := h39
        (try simp only [Act.put, List.setIfInBounds_toArray, List.set_cons_zero, List.set_cons_succ])
        rw [if_pos (by rfl)]
        go_simp
        (with_reducible refine (specTc f s c d g t (k2 : Int) _).mono ?_)
        rintro e w3 hp
        obtain ⟨rfl, hb⟩ := b_parts HTX.out hp
        exact hK _ _ rfl hb
      · refine fun w8 hc v42 h42 v45 h45 v39 h39 K hK => ?_
        obtain rfl : v42 = .bool y := h42
        obtain rfl : v45 = .bool y := h45
        obtain rfl : v39 = .bool true := h39
        (try simp only [Act.put, List.setIfInBounds_toArray, List.set_cons_zero, List.set_cons_succ])
        rw [if_pos (by rfl)]
        go_simp
        exact hK (.bool true) _ rfl (Below.refl _ _)
      · refine fun w8 hc v39 h39 v46 h46 K hK => ?_
        obtain rfl : v39 = .bool true := h39
        obtain rfl : v46 = .bool true := h46
        (try simp only [Act.put, List.setIfInBounds_toArray, List.set_cons_zero, List.set_cons_succ])
        go_simp
        exact hK (.bool true) _ rfl (Below.refl _ _)
      · refine fun w8 hc v47 h47 K hK => ?_
        obtain rfl : v47 = .bool true := h47
        (try simp only [Act.put, List.setIfInBounds_toArray, List.set_cons_zero, List.set_cons_succ])
        go_simp
        exact hK (.bool true) _ rfl (Below.refl _ _)
      · refine fun w8 hc v48 h48 K hK => ?_
        obtain rfl : v48 = .bool true := h48
        (try simp only [Act.put, List.setIfInBounds_toArray, List.set_cons_zero, List.set_cons_succ])
        rw [if_pos (by rfl)]
        refine stw.wp_load_bx 25 _ rfl (bN) rfl 25 _ hc.2.2.2.2.1 Try.underlying25 rfl szB ?_
        exact hK _ _ rfl (Below.refl _ _)
      · refine fun w8 hc v49 h49 v48 h48 K hK => ?_
        obtain rfl : v49 = .agg #[.int .i64 f, .int .i64 s, .int .i64 c, .int .i64 d, .bool g, .int .i64 t2] := h49
        obtain rfl : v48 = .bool true := h48
        (try simp only [Act.put, List.setIfInBounds_toArray, List.set_cons_zero, List.set_cons_succ])
        rw [if_pos (by rfl)]
        go_simp
        (with_reducible refine (implTc f s c d g t2 16 _).mono ?_)
        rintro e w3 hp
        obtain ⟨rfl, hb⟩ := b_parts HT6.out hp
        exact hK _ _ rfl hb
      · refine fun w8 hc v50 h50 v48 h48 K hK => ?_
        obtain rfl : v50 = .bool false := h50
        obtain rfl : v48 = .bool true := h48
        (try simp only [Act.put, List.setIfInBounds_toArray, List.set_cons_zero, List.set_cons_succ])
        rw [if_pos (by rfl)]
        go_simp
        exact hK (.bool true) _ rfl (Below.refl _ _)
      · refine fun w8 hc v48 h48 v51 h51 K hK => ?_
        obtain rfl : v48 = .bool true := h48
        obtain rfl : v51 = .bool true := h51
        (try simp only [Act.put, List.setIfInBounds_toArray, List.set_cons_zero, List.set_cons_succ])
        go_simp
        exact hK (.bool true) _ rfl (Below.refl _ _)
      · refine fun w8 hc v52 h52 K hK => ?_
        obtain rfl : v52 = .bool true := h52
        (try simp only [Act.put, List.setIfInBounds_toArray, List.set_cons_zero, List.set_cons_succ])
        go_simp
        exact hK (.bool true) _ rfl (Below.refl _ _)
      refine fun wg15 hc v0 h0 v1 h1 v2 h2 v3 h3 v4 h4 v5 h5 v6 h6 v7 h7 v8 h8 v9 h9 v10 h10 v11 h11 v12 h12 v13 h13 v14 h14 v15 h15 v16 h16 v17 h17 v18 h18 v19 h19 v20 h20 v21 h21 v22 h22 v23 h23 v24 h24 v25 h25 v26 h26 v27 h27 v28 h28 v29 h29 v30 h30 v31 h31 v32 h32 v33 h33 v34 h34 v35 h35 v36 h36 v37 h37 v38 h38 v39 h39 v40 h40 v41 h41 v42 h42 v43 h43 v44 h44 v45 h45 v46 h46 v47 h47 v48 h48 v49 h49 v50 h50 v51 h51 v52 h52 v53 h53 => ?_
      obtain rfl : v0 = .bool false := h0
      obtain rfl : v1 = .agg #[.int .i64 f, .int .i64 s, .int .i64 c, .int .i64 d, .bool g, .int .i64 t] := h1
      obtain rfl : v2 = .bool false := h2
      obtain rfl : v3 = .bool true := h3
      obtain rfl : v4 = .bool true := h4
      obtain rfl : v5 = .bool false := h5
      obtain rfl : v6 = .bool true := h6
      obtain rfl : v7 = .bool true := h7
      obtain rfl : v8 = undef := h8
      obtain rfl : v9 = undef := h9
      obtain rfl : v10 = undef := h10
      obtain rfl : v11 = .bool true := h11
      obtain rfl : v12 = .bool true := h12
      obtain rfl : v13 = .bool true := h13
      obtain rfl : v14 = .bool true := h14
      obtain rfl : v15 = .bool true := h15
      obtain rfl : v16 = .bool true := h16
      obtain rfl : v17 = .bool true := h17
      obtain rfl : v18 = .bool true := h18
      obtain rfl : v19 = .bool true := h19
      obtain rfl : v20 = .bool false := h20
      obtain rfl : v21 = .bool false := h21
      obtain rfl : v22 = .agg #[.int .i64 u0, .int .i64 u1, .int .i64 u2, .int .i64 u3, .bool u4, .int .i64 u5] := h22
      obtain ⟨Av23, nv23, cv23, lov23, hiv23, rfl, hRv23⟩ := h23
      obtain rfl : v24 = .slice A1 n1 c1 := h24
      obtain rfl : v25 = .bool true := h25
      obtain rfl : v26 = .bool true := h26
      obtain rfl : v27 = .bool true := h27
      obtain rfl : v28 = .bool true := h28
      obtain rfl : v29 = .agg #[.int .i64 f, .int .i64 s, .int .i64 c, .int .i64 d, .bool g, .int .i64 t2] := h29
      obtain rfl : v30 = .int .i64 ((k : Int)) := h30
      obtain rfl : v31 = .bool true := h31
      obtain rfl : v32 = .bool true := h32
      obtain rfl : v33 = .bool true := h33
      obtain rfl : v34 = .agg #[.int .i64 f, .int .i64 s, .int .i64 c, .int .i64 d, .bool g, .int .i64 t3] := h34
      obtain rfl : v35 = .int .i64 ((k : Int)) := h35
      obtain rfl : v36 = .bool false := h36
      obtain rfl : v37 = .bool true := h37
      obtain rfl : v38 = .bool true := h38
      obtain rfl : v39 = .bool true := h39
      obtain rfl : v40 = .agg #[.int .i64 f, .int .i64 s, .int .i64 c, .int .i64 d, .bool g, .int .i64 t3] := h40
      obtain rfl : v41 = .int .i64 ((k2 : Int)) := h41
      obtain rfl : v42 = .bool y := h42
      obtain rfl : v43 = .agg #[.int .i64 f, .int .i64 s, .int .i64 c, .int .i64 d, .bool g, .int .i64 t] := h43
      obtain rfl : v44 = .int .i64 ((k2 : Int)) := h44
      obtain rfl : v45 = .bool y := h45
      obtain rfl : v46 = .bool true := h46
      obtain rfl : v47 = .bool true := h47
      obtain rfl : v48 = .bool true := h48
      obtain rfl : v49 = .agg #[.int .i64 f, .int .i64 s, .int .i64 c, .int .i64 d, .bool g, .int .i64 t2] := h49
      obtain rfl : v50 = .bool false := h50
      obtain rfl : v51 = .bool true := h51
      obtain rfl : v52 = .bool true := h52
      obtain rfl : v53 = .bool true := h53
      (try simp only [reg.Obs])
      (try simp only [Act.put, List.setIfInBounds_toArray, List.set_cons_zero, List.set_cons_succ])
      have B15 := Lib.hid hc.1
      have X15 := Lib.hid hc.2.1
      have Y15 := Lib.hid hc.2.2.1
      have U15 := Lib.hid hc.2.2.2.1
      have N15 := Lib.hid hc.2.2.2.2.1
      have M15 := Lib.hid hc.2.2.2.2.2.1
      have R15 := Lib.hid hc.2.2.2.2.2.2.1
      have L15 := Lib.hid hc.2.2.2.2.2.2.2.1
      clear hc B14 X14 Y14 U14 N14 M14 R14 L14
      go_wp2_with fail
      go_ret
      exact ⟨rfl, B15.out⟩
    | false =>
      refine reg.region_plain reg.Bel 102 [some [], some [], some [(1, 50)], some [(0, 49), (2, 51)], some [(3, 52)], some [(4, 53)], some [(5, 54), (4, 53)], some [(6, 55), (4, 53)], some [(7, 56)], some [(7, 56)], some [(8, 57), (9, 58), (7, 56)], some [(7, 56), (10, 59), (4, 53)], some [(4, 53), (11, 60)], some [(12, 61)], some [(13, 62)], some [(13, 62)], some [(14, 63), (15, 64), (13, 62)], some [(13, 62), (16, 65)], some [(17, 66)], some [(18, 67)], some [(19, 68), (18, 67)], some [(20, 69), (18, 67)], some [(21, 70)], some [(22, 71), (21, 70)], some [(21, 70)], some [(23, 72), (24, 73), (21, 70)], some [(21, 70), (25, 74), (18, 67)], some [(18, 67), (26, 75)], some [(27, 76)], some [(28, 77)], some [(28, 77)], some [(29, 78), (30, 79), (28, 77)], some [(28, 77), (31, 80)], some [(32, 81)], some [(33, 82)], some [(33, 82)], some [(34, 83), (35, 84), (33, 82)], some [(36, 85), (33, 82)], some [(33, 82), (37, 86)], some [(38, 87)], some [(39, 88)], some [(39, 88)], some [(40, 89), (41, 90), (39, 88)], some [(39, 88)], some [(39, 88)], some [(43, 92), (44, 93), (39, 88)], some [(42, 91), (45, 94), (39, 88)], some [(39, 88), (46, 95)], some [(47, 96)], some [(48, 97)], some [(49, 98), (48, 97)], some [(50, 99), (48, 97)], some [(48, 97), (51, 100)], some [(52, 101)]] [(0, 49), (1, 50), (2, 51), (3, 52), (4, 53), (5, 54), (6, 55), (7, 56), (8, 57), (9, 58), (10, 59), (11, 60), (12, 61), (13, 62), (14, 63), (15, 64), (16, 65), (17, 66), (18, 67), (19, 68), (20, 69), (21, 70), (22, 71), (23, 72), (24, 73), (25, 74), (26, 75), (27, 76), (28, 77), (29, 78), (30, 79), (31, 80), (32, 81), (33, 82), (34, 83), (35, 84), (36, 85), (37, 86), (38, 87), (39, 88), (40, 89), (41, 90), (42, 91), (43, 92), (44, 93), (45, 94), (46, 95), (47, 96), (48, 97), (49, 98), (50, 99), (51, 100), (52, 101), (53, 2)]
        (fun w' => Below w.heap.size w w' ∧ Bx 25 w' (bX) #[.int .i64 f, .int .i64 s, .int .i64 c, .int .i64 d, .bool g, .int .i64 t] ∧ Bx 25 w' (bY) #[.int .i64 y0, .int .i64 y1, .int .i64 y2, .int .i64 y3, .bool y4, .int .i64 y5] ∧ Bx 25 w' (bU) #[.int .i64 u0, .int .i64 u1, .int .i64 u2, .int .i64 u3, .bool u4, .int .i64 u5] ∧ Bx 25 w' (bN) #[.int .i64 f, .int .i64 s, .int .i64 c, .int .i64 d, .bool g, .int .i64 t2] ∧ Bx 25 w' (bM) #[.int .i64 f, .int .i64 s, .int .i64 c, .int .i64 d, .bool g, .int .i64 t3] ∧ Rd .u8 w' (0) (w.heap.size) a len cap zc ∧ Ow 5 .u8 w' (wa2.heap.size) (wa3.heap.size) A1 n1 c1 lz ∧ True)
        (reg.rl [reg.is (.bool false), reg.is (.agg #[.int .i64 f, .int .i64 s, .int .i64 c, .int .i64 d, .bool g, .int .i64 t]), reg.is (.bool false), reg.is (.bool true), reg.is (.bool true), reg.is (.bool false), reg.is (.bool true), reg.is (.bool true), reg.is (undef), reg.is (undef), reg.is (undef), reg.is (.bool true), reg.is (.bool true), reg.is (.bool true), reg.is (.bool false), reg.is (.bool false), reg.is (.bool true), reg.is (.bool true), reg.is (.bool true), reg.is (.bool false), reg.is (.bool true), reg.is (.bool true), reg.is (undef), reg.is (undef), reg.is (undef), reg.is (undef), reg.is (.bool true), reg.is (.bool true), reg.is (.bool true), reg.is (.agg #[.int .i64 f, .int .i64 s, .int .i64 c, .int .i64 d, .bool g, .int .i64 t2]), reg.is (.int .i64 ((k : Int))), reg.is (.bool true), reg.is (.bool true), reg.is (.bool true), reg.is (.agg #[.int .i64 f, .int .i64 s, .int .i64 c, .int .i64 d, .bool g, .int .i64 t3]), reg.is (.int .i64 ((k : Int))), reg.is (.bool false), reg.is (.bool true), reg.is (.bool true), reg.is (.bool true), reg.is (.agg #[.int .i64 f, .int .i64 s, .int .i64 c, .int .i64 d, .bool g, .int .i64 t3]), reg.is (.int .i64 ((k2 : Int))), reg.is (.bool y), reg.is (.agg #[.int .i64 f, .int .i64 s, .int .i64 c, .int .i64 d, .bool g, .int .i64 t]), reg.is (.int .i64 ((k2 : Int))), reg.is (.bool y), reg.is (.bool true), reg.is (.bool true), reg.is (.bool true), reg.is (.agg #[.int .i64 f, .int .i64 s, .int .i64 c, .int .i64 d, .bool g, .int .i64 t2]), reg.is (.bool false), reg.is (.bool true), reg.is (.bool true), reg.is (.bool true)])
        (by kernel_rfl) (by kernel_rfl) rfl
        (fun w1 w2 hc hb => ⟨hc.1.trans (hb.mono hc.1.size), hc.2.1.below hb, hc.2.2.1.below hb, hc.2.2.2.1.below hb, hc.2.2.2.2.1.below hb, hc.2.2.2.2.2.1.below hb, hc.2.2.2.2.2.2.1.below hb, hc.2.2.2.2.2.2.2.1.below hb, trivial⟩) (reg.rl_keep _) (⟨own.below_drew B14.out, X14.out.same rfl, Y14.out.same rfl, U14.out.same rfl, N14.out.same rfl, M14.out.same rfl, own.rd_drew R14.out, own.ow_drew L14.out, trivial⟩) (by kernel_rfl) ⟨?_, ?_, ?_, ?_, ?_, ?_, ?_, ?_, ?_, ?_, ?_, ?_, ?_, ?_, ?_, ?_, ?_, ?_, ?_, ?_, ?_, ?_, ?_, ?_, ?_, ?_, ?_, ?_, ?_, ?_, ?_, ?_, ?_, ?_, ?_, ?_, ?_, ?_, ?_, ?_, ?_, ?_, ?_, ?_, ?_, ?_, ?_, ?_, ?_, ?_, ?_, ?_, ?_, ?_, trivial⟩ ?_
      · refine fun w8 hc  K hK => ?_
        (try simp only [Act.put, List.setIfInBounds_toArray, List.set_cons_zero, List.set_cons_succ])
        go_simp
        exact hK (.bool false) _ rfl (Below.refl _ _)
      · refine fun w8 hc  K hK => ?_
        (try simp only [Act.put, List.setIfInBounds_toArray, List.set_cons_zero, List.set_cons_succ])
        rw [if_pos (by rfl)]
        refine stw.wp_load_bx 25 _ rfl (bX) rfl 25 _ hc.2.1 Try.underlying25 rfl szB ?_
        exact hK _ _ rfl (Below.refl _ _)
      · refine fun w8 hc v1 h1 K hK => ?_
        obtain rfl : v1 = .agg #[.int .i64 f, .int .i64 s, .int .i64 c, .int .i64 d, .bool g, .int .i64 t] := h1
        (try simp only [Act.put, List.setIfInBounds_toArray, List.set_cons_zero, List.set_cons_succ])
        go_simp
        (with_reducible refine (specVb f s c d g t _).mono ?_)
        rintro e w3 hp
        obtain ⟨rfl, hb⟩ := b_parts HV.out hp
        exact hK _ _ rfl hb
      · refine fun w8 hc v0 h0 v2 h2 K hK => ?_
        obtain rfl : v0 = .bool false := h0
        obtain rfl : v2 = .bool false := h2
        (try simp only [Act.put, List.setIfInBounds_toArray, List.set_cons_zero, List.set_cons_succ])
        go_simp
        exact hK (.bool true) _ rfl (Below.refl _ _)
      · refine fun w8 hc v3 h3 K hK => ?_
        obtain rfl : v3 = .bool true := h3
        (try simp only [Act.put, List.setIfInBounds_toArray, List.set_cons_zero, List.set_cons_succ])
        go_simp
        exact hK (.bool true) _ rfl (Below.refl _ _)
      · refine fun w8 hc v4 h4 K hK => ?_
        obtain rfl : v4 = .bool true := h4
        (try simp only [Act.put, List.setIfInBounds_toArray, List.set_cons_zero, List.set_cons_succ])
        rw [if_pos (by rfl)]
        go_simp
        exact hK (.bool false) _ rfl (Below.refl _ _)
      · refine fun w8 hc v5 h5 v4 h4 K hK => ?_
        obtain rfl : v5 = .bool false := h5
        obtain rfl : v4 = .bool true := h4
        (try simp only [Act.put, List.setIfInBounds_toArray, List.set_cons_zero, List.set_cons_succ])
        rw [if_pos (by rfl)]
        go_simp
        exact hK (.bool true) _ rfl (Below.refl _ _)
      · refine fun w8 hc v6 h6 v4 h4 K hK => ?_
        obtain rfl : v6 = .bool true := h6
        obtain rfl : v4 = .bool true := h4
        (try simp only [Act.put, List.setIfInBounds_toArray, List.set_cons_zero, List.set_cons_succ])
        rw [if_pos (by rfl)]
        go_simp
        exact hK (.bool true) _ rfl (Below.refl _ _)
      · refine fun w8 hc v7 h7 K hK => ?_
        obtain rfl : v7 = .bool true := h7
        (try simp only [Act.put, List.setIfInBounds_toArray, List.set_cons_zero, List.set_cons_succ])
        rw [if_neg (by intro h; exact absurd (show false = true from h) (by decide))]
        exact hK undef _ rfl (Below.refl _ _)
      · refine fun w8 hc v7 h7 K hK => ?_
        obtain rfl : v7 = .bool true := h7
        (try simp only [Act.put, List.setIfInBounds_toArray, List.set_cons_zero, List.set_cons_succ])
        rw [if_neg (by intro h; exact absurd (show false = true from h) (by decide))]
        exact hK undef _ rfl (Below.refl _ _)
      · refine fun w8 hc v8 h8 v9 h9 v7 h7 K hK => ?_
        obtain rfl : v8 = undef := h8
        obtain rfl : v9 = undef := h9
        obtain rfl : v7 = .bool true := h7
        (try simp only [Act.put, List.setIfInBounds_toArray, List.set_cons_zero, List.set_cons_succ])
        rw [if_neg (by intro h; exact absurd (show false = true from h) (by decide))]
        exact hK undef _ rfl (Below.refl _ _)
      · refine fun w8 hc v7 h7 v10 h10 v4 h4 K hK => ?_
        obtain rfl : v7 = .bool true := h7
        obtain rfl : v10 = undef := h10
        obtain rfl : v4 = .bool true := h4
        (try simp only [Act.put, List.setIfInBounds_toArray, List.set_cons_zero, List.set_cons_succ])
        rw [if_pos (by rfl)]
        go_simp
        exact hK (.bool true) _ rfl (Below.refl _ _)
      · refine fun w8 hc v4 h4 v11 h11 K hK => ?_
        obtain rfl : v4 = .bool true := h4
        obtain rfl : v11 = .bool true := h11
        (try simp only [Act.put, List.setIfInBounds_toArray, List.set_cons_zero, List.set_cons_succ])
        go_simp
        exact hK (.bool true) _ rfl (Below.refl _ _)
      · refine fun w8 hc v12 h12 K hK => ?_
        obtain rfl : v12 = .bool true := h12
        (try simp only [Act.put, List.setIfInBounds_toArray, List.set_cons_zero, List.set_cons_succ])
        go_simp
        exact hK (.bool true) _ rfl (Below.refl _ _)
      · refine fun w8 hc v13 h13 K hK => ?_
        obtain rfl : v13 = .bool true := h13
        (try simp only [Act.put, List.setIfInBounds_toArray, List.set_cons_zero, List.set_cons_succ])
        rw [if_pos (by rfl)]
        go_simp
        exact hK (.bool false) _ rfl (Below.refl _ _)
      · refine fun w8 hc v13 h13 K hK => ?_
        obtain rfl : v13 = .bool true := h13
        (try simp only [Act.put, List.setIfInBounds_toArray, List.set_cons_zero, List.set_cons_succ])
        rw [if_pos (by rfl)]
        go_simp
        exact hK (.bool false) _ rfl (Below.refl _ _)
      · refine fun w8 hc v14 h14 v15 h15 v13 h13 K hK => ?_
        obtain rfl : v14 = .bool false := h14
        obtain rfl : v15 = .bool false := h15
        obtain rfl : v13 = .bool true := h13
        (try simp only [Act.put, List.setIfInBounds_toArray, List.set_cons_zero, List.set_cons_succ])
        rw [if_pos (by rfl)]
        go_simp
        exact hK (.bool true) _ rfl (Below.refl _ _)
      · refine fun w8 hc v13 h13 v16 h16 K hK => ?_
        obtain rfl : v13 = .bool true := h13
        obtain rfl : v16 = .bool true := h16
        (try simp only [Act.put, List.setIfInBounds_toArray, List.set_cons_zero, List.set_cons_succ])
        go_simp
        exact hK (.bool true) _ rfl (Below.refl _ _)
      · refine fun w8 hc v17 h17 K hK => ?_
        obtain rfl : v17 = .bool true := h17
        (try simp only [Act.put, List.setIfInBounds_toArray, List.set_cons_zero, List.set_cons_succ])
        go_simp
        exact hK (.bool true) _ rfl (Below.refl _ _)
      · refine fun w8 hc v18 h18 K hK => ?_
        obtain rfl : v18 = .bool true := h18
        (try simp only [Act.put, List.setIfInBounds_toArray, List.set_cons_zero, List.set_cons_succ])
        rw [if_pos (by rfl)]
        go_simp
        exact hK (.bool false) _ rfl (Below.refl _ _)
      · refine fun w8 hc v19 h19 v18 h18 K hK => ?_
        obtain rfl : v19 = .bool false := h19
        obtain rfl : v18 = .bool true := h18
        (try simp only [Act.put, List.setIfInBounds_toArray, List.set_cons_zero, List.set_cons_succ])
        rw [if_pos (by rfl)]
        go_simp
        exact hK (.bool true) _ rfl (Below.refl _ _)
      · refine fun w8 hc v20 h20 v18 h18 K hK => ?_
        obtain rfl : v20 = .bool true := h20
        obtain rfl : v18 = .bool true := h18
        (try simp only [Act.put, List.setIfInBounds_toArray, List.set_cons_zero, List.set_cons_succ])
        rw [if_pos (by rfl)]
        go_simp
        exact hK (.bool true) _ rfl (Below.refl _ _)
      · refine fun w8 hc v21 h21 K hK => ?_
        obtain rfl : v21 = .bool true := h21
        (try simp only [Act.put, List.setIfInBounds_toArray, List.set_cons_zero, List.set_cons_succ])
        rw [if_neg (by intro h; exact absurd (show false = true from h) (by decide))]
        exact hK undef _ rfl (Below.refl _ _)
      · refine fun w8 hc v22 h22 v21 h21 K hK => ?_
        obtain rfl : v22 = undef := h22
        obtain rfl : v21 = .bool true := h21
        (try simp only [Act.put, List.setIfInBounds_toArray, List.set_cons_zero, List.set_cons_succ])
        rw [if_neg (by intro h; exact absurd (show false = true from h) (by decide))]
        exact hK undef _ rfl (Below.refl _ _)
      · refine fun w8 hc v21 h21 K hK => ?_
        obtain rfl : v21 = .bool true := h21
        (try simp only [Act.put, List.setIfInBounds_toArray, List.set_cons_zero, List.set_cons_succ])
        rw [if_neg (by intro h; exact absurd (show false = true from h) (by decide))]
        exact hK undef _ rfl (Below.refl _ _)
      · refine fun w8 hc v23 h23 v24 h24 v21 h21 K hK => ?_
        obtain rfl : v23 = undef := h23
        obtain rfl : v24 = undef := h24
        obtain rfl : v21 = .bool true := h21
        (try simp only [Act.put, List.setIfInBounds_toArray, List.set_cons_zero, List.set_cons_succ])
        rw [if_neg (by intro h; exact absurd (show false = true from h) (by decide))]
        exact hK undef _ rfl (Below.refl _ _)
      · refine fun w8 hc v21 h21 v25 h25 v18 h18 K hK => ?_
        obtain rfl : v21 = .bool true := h21
        obtain rfl : v25 = undef := h25
        obtain rfl : v18 = .bool true := h18
        (try simp only [Act.put, List.setIfInBounds_toArray, List.set_cons_zero, List.set_cons_succ])
        rw [if_pos (by rfl)]
        go_simp
        exact hK (.bool true) _ rfl (Below.refl _ _)
      · refine fun w8 hc v18 h18 v26 h26 K hK => ?_
        obtain rfl : v18 = .bool true := h18
        obtain rfl : v26 = .bool true := h26
        (try simp only [Act.put, List.setIfInBounds_toArray, List.set_cons_zero, List.set_cons_succ])
        go_simp
        exact hK (.bool true) _ rfl (Below.refl _ _)
      · refine fun w8 hc v27 h27 K hK => ?_
        obtain rfl : v27 = .bool true := h27
        (try simp only [Act.put, List.setIfInBounds_toArray, List.set_cons_zero, List.set_cons_succ])
        go_simp
        exact hK (.bool true) _ rfl (Below.refl _ _)
      · refine fun w8 hc v28 h28 K hK => ?_
        obtain rfl : v28 = .bool true := h28
        (try simp only [Act.put, List.setIfInBounds_toArray, List.set_cons_zero, List.set_cons_succ])
        rw [if_pos (by rfl)]
        refine stw.wp_load_bx 25 _ rfl (bN) rfl 25 _ hc.2.2.2.2.1 Try.underlying25 rfl szB ?_
        exact hK _ _ rfl (Below.refl _ _)
      · refine fun w8 hc v28 h28 K hK => ?_
        obtain rfl : v28 = .bool true := h28
        (try simp only [Act.put, List.setIfInBounds_toArray, List.set_cons_zero, List.set_cons_succ])
        rw [if_pos (by rfl)]
        go_simp
        exact hK (.int .i64 ((k : Int))) _ rfl (Below.refl _ _)
      · refine fun w8 hc v29 h29 v30 h30 v28 h28 K hK => ?_
        obtain rfl : v29 = .agg #[.int .i64 f, .int .i64 s, .int .i64 c, .int .i64 d, .bool g, .int .i64 t2] := h29
        obtain rfl : v30 = .int .i64 ((k : Int)) := h30
        obtain rfl : v28 = .bool true := h28
        (try simp only [Act.put, List.setIfInBounds_toArray, List.set_cons_zero, List.set_cons_succ])
        rw [if_pos (by rfl)]
        go_simp
        (with_reducible refine (implTc f s c d g t2 (k : Int) _).mono ?_)
        rintro e w3 hp
        obtain ⟨rfl, hb⟩ := b_parts HT1.out hp
        exact hK _ _ rfl hb
      · refine fun w8 hc v28 h28 v31 h31 K hK => ?_
        obtain rfl : v28 = .bool true := h28
        obtain rfl : v31 = .bool true := h31
        (try simp only [Act.put, List.setIfInBounds_toArray, List.set_cons_zero, List.set_cons_succ])
        go_simp
        exact hK (.bool true) _ rfl (Below.refl _ _)
      · refine fun w8 hc v32 h32 K hK => ?_
        obtain rfl : v32 = .bool true := h32
        (try simp only [Act.put, List.setIfInBounds_toArray, List.set_cons_zero, List.set_cons_succ])
        go_simp
        exact hK (.bool true) _ rfl (Below.refl _ _)
      · refine fun w8 hc v33 h33 K hK => ?_
        obtain rfl : v33 = .bool true := h33
        (try simp only [Act.put, List.setIfInBounds_toArray, List.set_cons_zero, List.set_cons_succ])
        rw [if_pos (by rfl)]
        refine stw.wp_load_bx 25 _ rfl (bM) rfl 25 _ hc.2.2.2.2.2.1 Try.underlying25 rfl szB ?_
        exact hK _ _ rfl (Below.refl _ _)
      · refine fun w8 hc v33 h33 K hK => ?_
        obtain rfl : v33 = .bool true := h33
        (try simp only [Act.put, List.setIfInBounds_toArray, List.set_cons_zero, List.set_cons_succ])
        rw [if_pos (by rfl)]
        go_simp
        exact hK (.int .i64 ((k : Int))) _ rfl (Below.refl _ _)
      · refine fun w8 hc v34 h34 v35 h35 v33 h33 K hK => ?_
        obtain rfl : v34 = .agg #[.int .i64 f, .int .i64 s, .int .i64 c, .int .i64 d, .bool g, .int .i64 t3] := h34
        obtain rfl : v35 = .int .i64 ((k : Int)) := h35
        obtain rfl : v33 = .bool true := h33
        (try simp only [Act.put, List.setIfInBounds_toArray, List.set_cons_zero, List.set_cons_succ])
        rw [if_pos (by rfl)]
        go_simp
        (with_reducible refine (implTc f s c d g t3 (k : Int) _).mono ?_)
        rintro e w3 hp
        obtain ⟨rfl, hb⟩ := b_parts HTF.out hp
        exact hK _ _ rfl hb
      · refine fun w8 hc v36 h36 v33 h33 K hK => ?_
        obtain rfl : v36 = .bool false := h36
        obtain rfl : v33 = .bool true := h33
        (try simp only [Act.put, List.setIfInBounds_toArray, List.set_cons_zero, List.set_cons_succ])
        rw [if_pos (by rfl)]
        go_simp
        exact hK (.bool true) _ rfl (Below.refl _ _)
      · refine fun w8 hc v33 h33 v37 h37 K hK => ?_
        obtain rfl : v33 = .bool true := h33
        obtain rfl : v37 = .bool true := h37
        (try simp only [Act.put, List.setIfInBounds_toArray, List.set_cons_zero, List.set_cons_succ])
        go_simp
        exact hK (.bool true) _ rfl (Below.refl _ _)
      · refine fun w8 hc v38 h38 K hK => ?_
        obtain rfl : v38 = .bool true := h38
        (try simp only [Act.put, List.setIfInBounds_toArray, List.set_cons_zero, List.set_cons_succ])
        go_simp
        exact hK (.bool true) _ rfl (Below.refl _ _)
      · refine fun w8 hc v39 h39 K hK => ?_
        obtain rfl : v39 = .bool true := h39
        (try simp only [Act.put, List.setIfInBounds_toArray, List.set_cons_zero, List.set_cons_succ])
        rw [if_pos (by rfl)]
        refine stw.wp_load_bx 25 _ rfl (bM) rfl 25 _ hc.2.2.2.2.2.1 Try.underlying25 rfl szB ?_
        exact hK _ _ rfl (Below.refl _ _)
      · refine fun w8 hc v39 h39 K hK => ?_
        obtain rfl : v39 = .bool true := h39
        (try simp only [Act.put, List.setIfInBounds_toArray, List.set_cons_zero, List.set_cons_succ])
        rw [if_pos (by rfl)]
        go_simp
        exact hK (.int .i64 ((k2 : Int))) _ rfl (Below.refl _ _)
      · refine fun w8 hc v40 h40 v41 h41 v39 h39 K hK => ?_
        obtain rfl : v40 = .agg #[.int .i64 f, .int .i64 s, .int .i64 c, .int .i64 d, .bool g, .int .i64 t3] := h40
        obtain rfl : v41 = .int .i64 ((k2 : Int)) := h41
        obtain rfl : v39 = .bool true := h39
        (try simp only [Act.put, List.setIfInBounds_toArray, List.set_cons_zero, List.set_cons_succ])
        rw [if_pos (by rfl)]
        go_simp
        (with_reducible refine (implTc f s c d g t3 (k2 : Int) _).mono ?_)
        rintro e w3 hp
        obtain ⟨rfl, hb⟩ := b_parts HTO.out hp
        exact hK _ _ rfl hb
      · refine fun w8 hc v39 h39 K hK => ?_
        obtain rfl : v39 = .bool true := h39
        (try simp only [Act.put, List.setIfInBounds_toArray, List.set_cons_zero, List.set_cons_succ])
        rw [if_pos (by rfl)]
        refine stw.wp_load_bx 25 _ rfl (bX) rfl 25 _ hc.2.1 Try.underlying25 rfl szB ?_
        exact hK _ _ rfl (Below.refl _ _)
      · refine fun w8 hc v39 h39 K hK => ?_
        obtain rfl : v39 = .bool true := h39
        (try simp only [Act.put, List.setIfInBounds_toArray, List.set_cons_zero, List.set_cons_succ])
        rw [if_pos (by rfl)]
        go_simp
        exact hK (.int .i64 ((k2 : Int))) _ rfl (Below.refl _ _)
      · refine fun w8 hc v43 h43 v44 h44 v39 h39 K hK => ?_
        obtain rfl : v43 = .agg #[.int .i64 f, .int .i64 s, .int .i64 c, .int .i64 d, .bool g, .int .i64 t] := h43
        obtain rfl : v44 = .int .i64 ((k2 : Int)) := h44
        obtain rfl : v39 = .bool true := h39
        (try simp only [Act.put, List.setIfInBounds_toArray, List.set_cons_zero, List.set_cons_succ])
        rw [if_pos (by rfl)]
        go_simp
        (with_reducible refine (specTc f s c d g t (k2 : Int) _).mono ?_)
        rintro e w3 hp
        obtain ⟨rfl, hb⟩ := b_parts HTX.out hp
        exact hK _ _ rfl hb
      · refine fun w8 hc v42 h42 v45 h45 v39 h39 K hK => ?_
        obtain rfl : v42 = .bool y := h42
        obtain rfl : v45 = .bool y := h45
        obtain rfl : v39 = .bool true := h39
        (try simp only [Act.put, List.setIfInBounds_toArray, List.set_cons_zero, List.set_cons_succ])
        rw [if_pos (by rfl)]
        go_simp
        exact hK (.bool true) _ rfl (Below.refl _ _)
      · refine fun w8 hc v39 h39 v46 h46 K hK => ?_
        obtain rfl : v39 = .bool true := h39
        obtain rfl : v46 = .bool true := h46
        (try simp only [Act.put, List.setIfInBounds_toArray, List.set_cons_zero, List.set_cons_succ])
        go_simp
        exact hK (.bool true) _ rfl (Below.refl _ _)
      · refine fun w8 hc v47 h47 K hK => ?_
        obtain rfl : v47 = .bool true := h47
        (try simp only [Act.put, List.setIfInBounds_toArray, List.set_cons_zero, List.set_cons_succ])
        go_simp
        exact hK (.bool true) _ rfl (Below.refl _ _)
      · refine fun w8 hc v48 h48 K hK => ?_
        obtain rfl : v48 = .bool true := h48
        (try simp only [Act.put, List.setIfInBounds_toArray, List.set_cons_zero, List.set_cons_succ])
        rw [if_pos (by rfl)]
        refine stw.wp_load_bx 25 _ rfl (bN) rfl 25 _ hc.2.2.2.2.1 Try.underlying25 rfl szB ?_
        exact hK _ _ rfl (Below.refl _ _)
      · refine fun w8 hc v49 h49 v48 h48 K hK => ?_
        obtain rfl : v49 = .agg #[.int .i64 f, .int .i64 s, .int .i64 c, .int .i64 d, .bool g, .int .i64 t2] := h49
        obtain rfl : v48 = .bool true := h48
        (try simp only [Act.put, List.setIfInBounds_toArray, List.set_cons_zero, List.set_cons_succ])
        rw [if_pos (by rfl)]
        go_simp
        (with_reducible refine (implTc f s c d g t2 16 _).mono ?_)
        rintro e w3 hp
        obtain ⟨rfl, hb⟩ := b_parts HT6.out hp
        exact hK _ _ rfl hb
      · refine fun w8 hc v50 h50 v48 h48 K hK => ?_
        obtain rfl : v50 = .bool false := h50
        obtain rfl : v48 = .bool true := h48
        (try simp only [Act.put, List.setIfInBounds_toArray, List.set_cons_zero, List.set_cons_succ])
        rw [if_pos (by rfl)]
        go_simp
        exact hK (.bool true) _ rfl (Below.refl _ _)
      · refine fun w8 hc v48 h48 v51 h51 K hK => ?_
        obtain rfl : v48 = .bool true := h48
        obtain rfl : v51 = .bool true := h51
        (try simp only [Act.put, List.setIfInBounds_toArray, List.set_cons_zero, List.set_cons_succ])
        go_simp
        exact hK (.bool true) _ rfl (Below.refl _ _)
      · refine fun w8 hc v52 h52 K hK => ?_
        obtain rfl : v52 = .bool true := h52
        (try simp only [Act.put, List.setIfInBounds_toArray, List.set_cons_zero, List.set_cons_succ])
        go_simp
        exact hK (.bool true) _ rfl (Below.refl _ _)
      refine fun wg15 hc v0 h0 v1 h1 v2 h2 v3 h3 v4 h4 v5 h5 v6 h6 v7 h7 v8 h8 v9 h9 v10 h10 v11 h11 v12 h12 v13 h13 v14 h14 v15 h15 v16 h16 v17 h17 v18 h18 v19 h19 v20 h20 v21 h21 v22 h22 v23 h23 v24 h24 v25 h25 v26 h26 v27 h27 v28 h28 v29 h29 v30 h30 v31 h31 v32 h32 v33 h33 v34 h34 v35 h35 v36 h36 v37 h37 v38 h38 v39 h39 v40 h40 v41 h41 v42 h42 v43 h43 v44 h44 v45 h45 v46 h46 v47 h47 v48 h48 v49 h49 v50 h50 v51 h51 v52 h52 v53 h53 => ?_
      obtain rfl : v0 = .bool false := h0
      obtain rfl : v1 = .agg #[.int .i64 f, .int .i64 s, .int .i64 c, .int .i64 d, .bool g, .int .i64 t] := h1
      obtain rfl : v2 = .bool false := h2
      obtain rfl : v3 = .bool true := h3
      obtain rfl : v4 = .bool true := h4
      obtain rfl : v5 = .bool false := h5
      obtain rfl : v6 = .bool true := h6
      obtain rfl : v7 = .bool true := h7
      obtain rfl : v8 = undef := h8
      obtain rfl : v9 = undef := h9
      obtain rfl : v10 = undef := h10
      obtain rfl : v11 = .bool true := h11
      obtain rfl : v12 = .bool true := h12
      obtain rfl : v13 = .bool true := h13
      obtain rfl : v14 = .bool false := h14
      obtain rfl : v15 = .bool false := h15
      obtain rfl : v16 = .bool true := h16
      obtain rfl : v17 = .bool true := h17
      obtain rfl : v18 = .bool true := h18
      obtain rfl : v19 = .bool false := h19
      obtain rfl : v20 = .bool true := h20
      obtain rfl : v21 = .bool true := h21
      obtain rfl : v22 = undef := h22
      obtain rfl : v23 = undef := h23
      obtain rfl : v24 = undef := h24
      obtain rfl : v25 = undef := h25
      obtain rfl : v26 = .bool true := h26
      obtain rfl : v27 = .bool true := h27
      obtain rfl : v28 = .bool true := h28
      obtain rfl : v29 = .agg #[.int .i64 f, .int .i64 s, .int .i64 c, .int .i64 d, .bool g, .int .i64 t2] := h29
      obtain rfl : v30 = .int .i64 ((k : Int)) := h30
      obtain rfl : v31 = .bool true := h31
      obtain rfl : v32 = .bool true := h32
      obtain rfl : v33 = .bool true := h33
      obtain rfl : v34 = .agg #[.int .i64 f, .int .i64 s, .int .i64 c, .int .i64 d, .bool g, .int .i64 t3] := h34
      obtain rfl : v35 = .int .i64 ((k : Int)) := h35
      obtain rfl : v36 = .bool false := h36
      obtain rfl : v37 = .bool true := h37
      obtain rfl : v38 = .bool true := h38
      obtain rfl : v39 = .bool true := h39
      obtain rfl : v40 = .agg #[.int .i64 f, .int .i64 s, .int .i64 c, .int .i64 d, .bool g, .int .i64 t3] := h40
      obtain rfl : v41 = .int .i64 ((k2 : Int)) := h41
      obtain rfl : v42 = .bool y := h42
      obtain rfl : v43 = .agg #[.int .i64 f, .int .i64 s, .int .i64 c, .int .i64 d, .bool g, .int .i64 t] := h43
      obtain rfl : v44 = .int .i64 ((k2 : Int)) := h44
      obtain rfl : v45 = .bool y := h45
      obtain rfl : v46 = .bool true := h46
      obtain rfl : v47 = .bool true := h47
      obtain rfl : v48 = .bool true := h48
      obtain rfl : v49 = .agg #[.int .i64 f, .int .i64 s, .int .i64 c, .int .i64 d, .bool g, .int .i64 t2] := h49
      obtain rfl : v50 = .bool false := h50
      obtain rfl : v51 = .bool true := h51
      obtain rfl : v52 = .bool true := h52
      obtain rfl : v53 = .bool true := h53
      (try simp only [reg.Obs])
      (try simp only [Act.put, List.setIfInBounds_toArray, List.set_cons_zero, List.set_cons_succ])
      have B15 := Lib.hid hc.1
      have X15 := Lib.hid hc.2.1
      have Y15 := Lib.hid hc.2.2.1
      have U15 := Lib.hid hc.2.2.2.1
      have N15 := Lib.hid hc.2.2.2.2.1
      have M15 := Lib.hid hc.2.2.2.2.2.1
      have R15 := Lib.hid hc.2.2.2.2.2.2.1
      have L15 := Lib.hid hc.2.2.2.2.2.2.2.1
      clear hc B14 X14 Y14 U14 N14 M14 R14 L14
      go_wp2_with fail
      go_ret
      exact ⟨rfl, B15.out⟩
end Go.Proofs.Ytalfihfielgmpaa.beLaw
