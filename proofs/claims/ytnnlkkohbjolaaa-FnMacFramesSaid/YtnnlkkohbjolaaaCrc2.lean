/- AppendCrc and CheckCrc, program and specification. Condition: lengths up to 2^26. -/
import Derived.Test.YtnnlkkohbjolaaaCrc1
import Derived.Test.YtnnlkkohbjolaaaUv
import Derived.Test.YtnnlkkohbjolaaaEq
namespace Go.Proofs.Ytnnlkkohbjolaaa.crcs
open Go.RowKit sl harn rng crcm

/-- The bytes with their check. -/
def wc (l : List Int) : List Int := l ++ [(crc l : Int) % 256, (crc l : Int) / 256]
theorem wc_len (l : List Int) : (wc l).length = l.length + 2 := by simp [wc]
/-- The bytes in front of the check. -/
def front (l : List Int) : List Int := l.take (l.length - 2)
theorem front_len (l : List Int) : (front l).length = l.length - 2 := by simp only [front, List.length_take]; omega
theorem front_wf {k : IntKind} {l : List Int} (h : Wf k l) : Wf k (front l) := h.take _
/-- CheckCrc. -/
def chk (l : List Int) : List Int × Bool := if 2 ≤ l.length ∧ wc (front l) = l then (front l, true) else ([], false)
theorem chk_yes {l : List Int} (h : 2 ≤ l.length) (h2 : wc (front l) = l) : chk l = (front l, true) := if_pos ⟨h, h2⟩
theorem chk_no {l : List Int} (h : ¬ (2 ≤ l.length ∧ wc (front l) = l)) : chk l = ([], false) := if_neg h
theorem chk_len (l : List Int) : (chk l).1.length ≤ l.length := by
  unfold chk; split
  · rw [front_len]; omega
  · simp
theorem two_last {l : List Int} {n : Nat} (h : l.length = n + 2) : l = l.take n ++ [l.getD n 0, l.getD (n + 1) 0] := by
  conv => lhs; rw [← List.take_append_drop n l]
  congr 1
  rw [List.drop_eq_getElem_cons (by omega), List.drop_eq_getElem_cons (by omega), List.drop_of_length_le (by omega), List.getD_eq_getElem?_getD, List.getD_eq_getElem?_getD, List.getElem?_eq_getElem (by omega), List.getElem?_eq_getElem (by omega)]
  rfl
theorem wc_iff {l : List Int} {n : Nat} (h : l.length = n + 2) (hb : Byt l) : wc (front l) = l ↔ l.getD n 0 + l.getD (n + 1) 0 * 256 = (crc (l.take n) : Int) := by
  have e := two_last h
  have hf : front l = l.take n := by rw [front, h]; rfl
  have hx : 0 ≤ l.getD n 0 ∧ l.getD n 0 ≤ 255 := by
    apply hb; rw [List.getD_eq_getElem?_getD, List.getElem?_eq_getElem (by omega)]; exact List.getElem_mem _
  have hy : 0 ≤ l.getD (n + 1) 0 ∧ l.getD (n + 1) 0 ≤ 255 := by
    apply hb; rw [List.getD_eq_getElem?_getD, List.getElem?_eq_getElem (by omega)]; exact List.getElem_mem _
  have hc : crc (l.take n) < 65536 := crc_lt fun z hz => hb z (List.mem_of_mem_take hz)
  rw [hf]
  constructor
  · intro g
    rw [wc] at g
    have g2 := List.append_cancel_left (g.trans e)
    injection g2 with g3 g4
    injection g4 with g4 _
    omega
  · intro g
    conv => rhs; rw [e]
    rw [wc]
    congr 2
    · omega
    · congr 1; omega

theorem Rd.two (k : IntKind) (E : TypeId) (w : World) (x y : Int) (hx : (Lit.int k x).wf = true) (hy : (Lit.int k y).wf = true) : Rd k (w.alloc (.cells #[.int k x, .int k y] E)) w.heap.size (w.heap.size + 1) (some ⟨w.heap.size, 0, none⟩) 2 2 [x, y] :=
  ⟨rfl, by omega, by unfold maxLen; omega, by simp, fun z hz => by
    rcases List.mem_cons.1 hz with rfl | hz
    · exact hx
    · have : z = y := by simpa using hz
      rw [this]; exact hy, fun _ => ⟨_, 0, rfl, Nat.le_refl _, by omega, fun i hi => by
    have : i = 0 ∨ i = 1 := by omega
    rcases this with rfl | rfl <;> simp⟩⟩

theorem copyFront (lo hi : Nat) (A : Option Addr) (n cap : Nat) (zs : List Int) (m : Nat) (w : World) (h : Rd .u8 w lo hi A n cap zs) (h2 : m ≤ n) (hn : n ≤ 134217728) :
    Calls Try.prog 54 #[.slice A n cap, .int .i64 0, .int .i64 m] w (SlPost 5 .u8 w (zs.take m)) := by
  have := uvs.copyPart lo hi A n cap zs 0 m w h (Nat.zero_le _) h2 hn
  rwa [List.drop_zero, Nat.sub_zero] at this
set_option maxRecDepth 100000 in
theorem implAppend (zs : List Int) (lo hi : Nat) (A : Option Addr) (n cap : Nat) (w : World) (h : Rd .u8 w lo hi A n cap zs) (hn : n ≤ 67108864) :
    Calls Try.prog 48 #[.slice A n cap] w (SlPost 5 .u8 w (wc zs)) := by
  obtain ⟨i0, hi0, hz0, hz1, hz2⟩ := info_parts u8Info
  have hb := h.cap_
  have HL := Lib.hid h.len
  have HR := Lib.hid h
  have HZ := Lib.hid (And.intro hi0 (And.intro hz0 (And.intro hz1 hz2)))
  have hc := crc_lt (byt_of_wf h.wf)
  have HW := Lib.hid (show wc zs = zs ++ [(crc zs : Int) % 256, (crc zs : Int) / 256] from rfl)
  have HC := Lib.hid (implCrc zs lo hi A n cap w h)
  obtain ⟨c, hce⟩ : ∃ c, crc zs = c := ⟨_, rfl⟩
  rw [hce] at hc HW HC
  have hq : (c : Int) / 256 % 256 = (c : Int) / 256 := by omega
  have h1 := Lib.hid (show (Lit.int .u8 ((c : Int) % 256)).wf = true from WalkArith.wf_u8 (by omega))
  have h2 := Lib.hid (show (Lit.int .u8 ((c : Int) / 256)).wf = true from WalkArith.wf_u8 (by omega))
  clear h hi0 hz0 hz1 hz2 hce
  go_enter Try.func48, Try.ntmps48
  go_wp2_with fail
  (with_reducible refine HC.out.mono ?_)
  rintro e w1 ⟨rfl, rfl⟩
  go_wp2_with fail
  (with_reducible refine (copyFront lo hi A n cap zs n _ HR.out (Nat.le_refl _) (by omega)).mono ?_)
  rintro e w2 ⟨B, m, cp, rfl, ho, hb2⟩
  obtain rfl : n = m := by
    have h3 := ho.len
    have h4 := HL.out
    simp only [List.length_take] at h3
    omega
  have HO := Lib.hid (show Ow 5 .u8 w2 w.heap.size w2.heap.size B n cp zs by have := HL.out; simpa [List.take_of_length_le (Nat.le_of_eq this)] using ho)
  have HB := Lib.hid hb2
  clear ho hb2
  go_wp2_with (at_builtin; refine wpList_app _ rfl _ _ 22 rfl 5 i0 _ .u8 Try.underlying22 HZ.out.1 HZ.out.2.1 HZ.out.2.2.1 (by rw [HZ.out.2.2.2]; omega) rfl rfl rfl (HO.out.alloc _) (Rd.two .u8 _ _ _ _ h1.out h2.out) (by omega) (by have := HB.out.size; simp; omega) ?_; intro A1 cap1 w3 ho hb1; have HO1 := Lib.hid ho; have HB1 := Lib.hid ((HB.out.alloc HB.out.size _).trans hb1); clear ho hb1)
  go_ret
  rw [HW.out]
  exact ⟨_, _, _, rfl, HO1.out, HB1.out⟩

set_option maxRecDepth 100000 in
theorem specAppend (zs : List Int) (lo hi : Nat) (A : Option Addr) (n cap : Nat) (w : World) (h : Rd .u8 w lo hi A n cap zs) (hn : n ≤ 67108864) :
    Calls Try.prog 45 #[.slice A n cap] w (SlPost 5 .u8 w (wc zs)) := by
  obtain ⟨i0, hi0, hz0, hz1, hz2⟩ := info_parts u8Info
  have hb := h.cap_
  have HL := Lib.hid h.len
  have HR := Lib.hid h
  have HZ := Lib.hid (And.intro hi0 (And.intro hz0 (And.intro hz1 hz2)))
  have hc := crc_lt (byt_of_wf h.wf)
  have HW := Lib.hid (show wc zs = zs ++ [(crc zs : Int) % 256, (crc zs : Int) / 256] from rfl)
  have HC := Lib.hid (specCrc zs lo hi A n cap w h)
  obtain ⟨c, hce⟩ : ∃ c, crc zs = c := ⟨_, rfl⟩
  rw [hce] at hc HW HC
  have hq : (c : Int) / 256 % 256 = (c : Int) / 256 := by omega
  have h1 := Lib.hid (show (Lit.int .u8 ((c : Int) % 256)).wf = true from WalkArith.wf_u8 (by omega))
  have h2 := Lib.hid (show (Lit.int .u8 ((c : Int) / 256)).wf = true from WalkArith.wf_u8 (by omega))
  clear h hi0 hz0 hz1 hz2 hce
  go_enter Try.func45, Try.ntmps45
  go_wp2_with fail
  (with_reducible refine HC.out.mono ?_)
  rintro e w1 ⟨rfl, rfl⟩
  go_wp2_with (first
    | (at_builtin; refine wpList_app _ rfl _ _ 22 rfl 5 i0 _ .u8 Try.underlying22 HZ.out.1 HZ.out.2.1 HZ.out.2.2.1 (by rw [HZ.out.2.2.2]; omega) rfl rfl rfl (Ow.empty _ _ _) (HR.out.alloc _) (by omega) (by simp) ?_; intro A1 cap1 w2 ho hb1; have HO := Lib.hid (show Ow 5 .u8 w2 w.heap.size w2.heap.size A1 n cap1 zs by simpa using ho); have HB := Lib.hid (((Below.refl _ _).alloc (Nat.le_refl _) _).trans hb1); clear ho hb1)
    | (at_builtin; refine wpList_app _ rfl _ _ 22 rfl 5 i0 _ .u8 Try.underlying22 HZ.out.1 HZ.out.2.1 HZ.out.2.2.1 (by rw [HZ.out.2.2.2]; omega) rfl rfl rfl (HO.out.alloc _) (Rd.two .u8 _ _ _ _ h1.out h2.out) (by omega) (by have := HB.out.size; simp; omega) ?_; intro A2 cap2 w3 ho hb1; have HO1 := Lib.hid ho; have HB1 := Lib.hid ((HB.out.alloc HB.out.size _).trans hb1); clear ho hb1))
  go_ret
  rw [HW.out]
  exact ⟨_, _, _, rfl, HO1.out, HB1.out⟩

/-- What CheckCrc hands back. -/
def CkPost (zs : List Int) (w : World) (e : Ending) (w' : World) : Prop :=
  ∃ A n cap, e = .returned (.tuple #[.slice A n cap, .bool (chk zs).2]) ∧ Ow 5 .u8 w' w.heap.size w'.heap.size A n cap (chk zs).1 ∧ Below w.heap.size w w'
theorem CkPost.parts {zs ys : List Int} {t : Bool} (ht : chk zs = (ys, t)) {w : World} {e : Ending} {w' : World} (h : CkPost zs w e w') :
    ∃ A n cap, e = .returned (.tuple #[.slice A n cap, .bool t]) ∧ Ow 5 .u8 w' w.heap.size w'.heap.size A n cap ys ∧ Below w.heap.size w w' := by
  unfold CkPost at h; rw [ht] at h; exact h
theorem ck_yes {zs : List Int} (h : chk zs = (front zs, true)) {w w' : World} {A : Option Addr} {n cap : Nat} (ho : Ow 5 .u8 w' w.heap.size w'.heap.size A n cap (front zs)) (hb : Below w.heap.size w w') :
    CkPost zs w (.returned (.tuple #[.slice A n cap, .bool true])) w' := by
  unfold CkPost; rw [h]; exact ⟨_, _, _, rfl, ho, hb⟩
theorem ck_empty {zs : List Int} (h : chk zs = ([], false)) {w w' : World} (hb : Below w.heap.size w w') :
    CkPost zs w (.returned (.tuple #[.slice (some ⟨w'.heap.size, 0, none⟩) 0 0, .bool false])) (w'.alloc (.cells #[] 5)) := by
  unfold CkPost; rw [h]
  exact ⟨_, _, _, rfl, (Ow.empty 5 .u8 w').up.down hb.size, hb.alloc hb.size _⟩

set_option maxRecDepth 100000 in
theorem implCheck (zs : List Int) (lo hi : Nat) (A : Option Addr) (n cap : Nat) (w : World) (h : Rd .u8 w lo hi A n cap zs) (hn : n ≤ 67108864) :
    Calls Try.prog 51 #[.slice A n cap] w (CkPost zs w) := by
  have hb := h.cap_
  have HL := Lib.hid h.len
  have HR := Lib.hid h
  clear h
  by_cases h2 : n < 2
  · have hlt : (n : Int) - 2 < 0 := by omega
    have H0 := Lib.hid (chk_no (l := zs) (fun h => by have := HL.out; omega))
    go_enter Try.func51, Try.ntmps51
    go_wp2
    go_ret2
    exact ck_empty H0.out (Below.refl _ _)
  · obtain ⟨m, rfl⟩ : ∃ m, n = m + 2 := ⟨n - 2, by omega⟩
    have hs1 : ((m + 2 : Nat) : Int) - 2 = m := by omega
    have hs2 : (m : Int) + 2 - 2 = m := by omega
    have HF := Lib.hid (show zs.take m = front zs by rw [front, HL.out]; rfl)
    have HFL := Lib.hid (show (front zs).length = m by rw [front_len, HL.out]; rfl)
    clear h2
    go_enter Try.func51, Try.ntmps51
    go_wp2_with fail
    (with_reducible refine (copyFront lo hi A (m + 2) cap zs m _ HR.out (by omega) (by omega)).mono ?_)
    rintro e w2 ⟨B, m', cp, rfl, ho, hb2⟩
    rw [HF.out] at ho
    obtain rfl : m = m' := by have h3 := ho.len; have h4 := HFL.out; omega
    have HO := Lib.hid ho
    have HB := Lib.hid hb2
    clear ho hb2
    go_wp2_with fail
    (with_reducible refine (implAppend (front zs) _ _ B m cp _ HO.out.rd (by omega)).mono ?_)
    rintro e w3 ⟨C, m3, cp3, rfl, ho, hb3⟩
    have HO3 := Lib.hid ho
    have HO2 := Lib.hid (HO.out.below hb3)
    have HB3 := Lib.hid (HB.out.trans (hb3.mono HB.out.size))
    clear ho hb3 HO HB
    by_cases heq : wc (front zs) = zs
    · have H0 := Lib.hid (chk_yes (l := zs) (by have := HL.out; omega) heq)
      have HD := Lib.hid (show decide (wc (front zs) = zs) = true from decide_eq_true heq)
      clear heq
      go_wp2_with fail
      (with_reducible refine (eqs.implEqB (wc (front zs)) zs _ _ _ _ C A m3 cp3 (m + 2) cap _ HO3.out.rd (HR.out.below HB3.out)).mono ?_)
      rintro e w4 ⟨he, hb4⟩
      rw [HD.out] at he
      subst he
      have HB4 := Lib.hid (HB3.out.trans (hb4.mono HB3.out.size))
      have HO4 := Lib.hid (HO2.out.below hb4)
      clear hb4
      go_wp2
      go_ret2
      exact ck_yes H0.out HO4.out.up HB4.out
    · have H0 := Lib.hid (chk_no (l := zs) (fun h => heq h.2))
      have HD := Lib.hid (show decide (wc (front zs) = zs) = false from decide_eq_false heq)
      clear heq
      go_wp2_with fail
      (with_reducible refine (eqs.implEqB (wc (front zs)) zs _ _ _ _ C A m3 cp3 (m + 2) cap _ HO3.out.rd (HR.out.below HB3.out)).mono ?_)
      rintro e w4 ⟨he, hb4⟩
      rw [HD.out] at he
      subst he
      have HB4 := Lib.hid (HB3.out.trans (hb4.mono HB3.out.size))
      clear hb4
      go_wp2
      go_ret2
      exact ck_empty H0.out HB4.out

theorem or_high {p q : Nat} (hp : p < 256) (hq : q < 256) : bits .or .i64 (p : Int) ((q : Int) * 256) = (p : Int) + (q : Int) * 256 := by
  have e : (p ||| q * 256) = p + q * 256 := by
    have := Nat.two_pow_add_eq_or_of_lt (show p < 2 ^ 8 by omega) q
    rw [Nat.or_comm, Nat.mul_comm q, Nat.add_comm p]
    exact this.symm
  rw [show ((q : Int) * 256) = ((q * 256 : Nat) : Int) by omega]
  show IntKind.i64.wrap ((BitVec.ofInt 64 (p : Int) ||| BitVec.ofInt 64 ((q * 256 : Nat) : Int)).toNat : Int) = _
  rw [BitVec.toNat_or]
  have e1 : (BitVec.ofInt 64 (p : Int)).toNat = p := by rw [BitVec.ofInt_natCast, BitVec.toNat_ofNat]; omega
  have e2 : (BitVec.ofInt 64 ((q * 256 : Nat) : Int)).toNat = q * 256 := by rw [BitVec.ofInt_natCast, BitVec.toNat_ofNat]; omega
  rw [e1, e2, e, IntKind.wrap_i64]
  omega
set_option maxRecDepth 100000 in
set_option maxHeartbeats 1000000 in
theorem specCheck (zs : List Int) (lo hi : Nat) (A : Option Addr) (n cap : Nat) (w : World) (h : Rd .u8 w lo hi A n cap zs) (hn : n ≤ 67108864) :
    Calls Try.prog 56 #[.slice A n cap] w (CkPost zs w) := by
  have hb := h.cap_
  have HL := Lib.hid h.len
  have HR := Lib.hid h
  clear h
  by_cases h2 : n < 2
  · have hlt : (n : Int) - 2 < 0 := by omega
    have hd : decide ((n : Int) - 2 < 0) = true := decide_eq_true hlt
    have H0 := Lib.hid (chk_no (l := zs) (fun h => by have := HL.out; omega))
    go_enter Try.func56, Try.ntmps56
    go_wp2
    go_quiet (fail)
    go_wp2
    go_ret2
    exact ck_empty H0.out (below_drews w _)
  · obtain ⟨m, hm⟩ : ∃ m, n = m + 2 := ⟨n - 2, by omega⟩
    have hs1 : (n : Int) - 2 = m := by omega
    have hm1 : (m : Int) < n := by omega
    have hmc : m ≤ cap := by omega
    have hmc2 : (m : Int) ≤ cap := by omega
    obtain ⟨k, hk⟩ : ∃ k, k = m + 1 := ⟨_, rfl⟩
    have hm2 : (k : Int) < n := by omega
    have hw1 : IntKind.i64.wrap ((m : Int) + 1) = (k : Int) := by rw [IntWalk.i64_in _ (by omega)]; omega
    have hd : decide ((m : Int) < 0) = false := decide_eq_false (by omega)
    have HF := Lib.hid (show zs.take m = front zs by rw [front, HL.out, hm]; rfl)
    have HFL := Lib.hid (show (front zs).length = m by rw [front_len, HL.out, hm]; rfl)
    clear h2
    obtain ⟨b, off, rfl, _, _, hc1⟩ := HR.out.at_ (show m < n by omega)
    obtain ⟨b', off', e, _, _, hc2⟩ := HR.out.at_ (show k < n by omega)
    injection e with e; injection e with e1 e2; subst e1 e2
    have hx01 : 0 ≤ zs.getD m 0 ∧ zs.getD m 0 ≤ 255 := by
      have h1 := HR.out.wf.getD (i := m) (by have := HL.out; omega)
      have := bounds_u8 h1; omega
    have hy01 : 0 ≤ zs.getD (m + 1) 0 ∧ zs.getD (m + 1) 0 ≤ 255 := by
      have h1 := HR.out.wf.getD (i := m + 1) (by have := HL.out; omega)
      have := bounds_u8 h1; omega
    have hiff := wc_iff (n := m) (HL.out.trans hm) (byt_of_wf HR.out.wf)
    obtain ⟨x, hx⟩ : ∃ x, zs.getD m 0 = x := ⟨_, rfl⟩
    rw [← hk] at hy01 hiff
    obtain ⟨y, hy⟩ : ∃ y, zs.getD k 0 = y := ⟨_, rfl⟩
    obtain ⟨c, hce⟩ : ∃ c, crc (zs.take m) = c := ⟨_, rfl⟩
    rw [hx] at hc1 hx01 hiff
    rw [hy] at hc2 hy01 hiff
    rw [hce] at hiff
    obtain ⟨p, rfl⟩ := Int.eq_ofNat_of_zero_le hx01.1
    obtain ⟨q, rfl⟩ := Int.eq_ofNat_of_zero_le hy01.1
    have hor := or_high (p := p) (q := q) (by omega) (by omega)
    obtain ⟨v, hv⟩ : ∃ v, (p : Int) + (q : Int) * 256 = v := ⟨_, rfl⟩
    rw [hv] at hor hiff
    have HC := Lib.hid hce
    have HI := Lib.hid hiff
    have hq : (q : Int) ≤ 255 := hy01.2
    have hwp : IntKind.i64.wrap (p : Int) = p := IntWalk.i64_in _ (by omega)
    have hwq : IntKind.i64.wrap (q : Int) = q := IntWalk.i64_in _ (by omega)
    have hw2 : IntKind.i64.wrap ((q : Int) * 256) = (q : Int) * 256 := IntWalk.i64_in _ (by omega)
    have hw3 : wrap64 ((q : Int) * 256) = (q : Int) * 256 := IntWalk.wrap64_in _ (by omega)
    have HM := Lib.hid hm
    clear hx hy hv hce hiff hx01 hy01 hm hk
    have HK := Lib.hid (show ∀ r, Calls Try.prog 74 #[.slice (some ⟨b, off, none⟩) m cap] (w.drewN r) fun e w' => e = .returned (.int .i64 c) ∧ w' = w.drewN r from fun r => by
      have h1 := HR.out.cut 0 m cap (some ⟨b, off, none⟩) (fun _ => by simp [Addr.add]) (Nat.zero_le _) (by omega) (by omega) (by have := HR.out.2.2.1; exact this)
      rw [List.drop_zero, Nat.sub_zero] at h1
      have h2 := specCrc (zs.take m) lo hi _ m cap (w.drewN r) (h1.below (below_drews w r))
      rw [HC.out] at h2
      exact h2.mono fun e w' ⟨h, h'⟩ => ⟨h, h'.symm⟩)
    have HRF := Lib.hid (show ∀ W, Below w.heap.size w W → Rd .u8 W lo hi (some ⟨b, off, none⟩) m cap (front zs) from fun W hW => by
      have h1 := HR.out.cut 0 m cap (some ⟨b, off, none⟩) (fun _ => by simp [Addr.add]) (Nat.zero_le _) (by omega) (by omega) (by have := HR.out.2.2.1; exact this)
      rw [List.drop_zero, Nat.sub_zero, HF.out] at h1
      exact h1.below hW)
    by_cases heq : v = (c : Int)
    · have H0 := Lib.hid (chk_yes (l := zs) (by have := HL.out; have := HM.out; omega) (HI.out.2 heq))
      subst heq
      obtain ⟨i0, hi0, hz0, hz1, hz2⟩ := info_parts u8Info
      have HZ := Lib.hid (And.intro hi0 (And.intro hz0 (And.intro hz1 hz2)))
      clear hi0 hz0 hz1 hz2
      go_enter Try.func56, Try.ntmps56
      go_wp2
      go_quiet ((go_at_call 74; exact Calls.quiet_of_same (HK.out _)))
      go_wp2_with (at_builtin; refine wpList_app _ rfl _ _ 22 rfl 5 i0 _ .u8 Try.underlying22 HZ.out.1 HZ.out.2.1 HZ.out.2.2.1 (by rw [HZ.out.2.2.2]; omega) rfl rfl rfl (Ow.empty _ _ _) ((HRF.out _ (below_drews w _)).alloc _) (by omega) (by simp) ?_; intro A1 cap1 w2 ho hb1; have HO := Lib.hid (show Ow 5 .u8 w2 w.heap.size w2.heap.size A1 m cap1 (front zs) by simpa using ho); have HB := Lib.hid ((below_drews w _).trans (((Below.refl _ _).alloc (Nat.le_refl _) _).trans hb1)); clear ho hb1)
      go_ret2
      exact ck_yes H0.out HO.out HB.out
    · have H0 := Lib.hid (chk_no (l := zs) (fun h => heq (HI.out.1 h.2)))
      have hne : (v == (c : Int)) = false := by simpa using heq
      go_enter Try.func56, Try.ntmps56
      go_wp2
      go_quiet ((go_at_call 74; exact Calls.quiet_of_same (HK.out _)))
      go_wp2
      go_ret2
      exact ck_empty H0.out (below_drews w _)
end Go.Proofs.Ytnnlkkohbjolaaa.crcs
