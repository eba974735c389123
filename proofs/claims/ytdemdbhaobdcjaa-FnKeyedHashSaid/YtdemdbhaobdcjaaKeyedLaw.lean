/- The law function of the keyed hash (FnKeyedHash) returns true and leaves what was there. Condition: the argument is a slice of bytes that came in. -/
import Derived.Test.YtdemdbhaobdcjaaDerive
import Derived.Test.YtdemdbhaobdcjaaDraw5
import Derived.Deep.RegionWith
namespace Go.Proofs.Ytdemdbhaobdcjaa.keyedLaw
open Go.RowKit sl harn hsh

theorem step_left {a b v : Int} (ha : 0 ≤ a ∧ a < 2147483647) (hb : 0 ≤ b ∧ b < 2147483647) (h : hsh.step a v = hsh.step b v) : a = b := by
  unfold hsh.step at h
  obtain ⟨y, hy⟩ : ∃ y, v % 2147483647 + 13 = y := ⟨_, rfl⟩
  rw [Int.add_assoc, Int.add_assoc, hy] at h
  have h1 := Int.emod_add_mul_ediv (a * 1000003 + y) 2147483647
  have h2 := Int.emod_add_mul_ediv (b * 1000003 + y) 2147483647
  rw [h] at h1
  obtain ⟨p, hp⟩ : ∃ p, (a * 1000003 + y) / 2147483647 = p := ⟨_, rfl⟩
  obtain ⟨q, hq⟩ : ∃ q, (b * 1000003 + y) / 2147483647 = q := ⟨_, rfl⟩
  obtain ⟨r, hr⟩ : ∃ r, (b * 1000003 + y) % 2147483647 = r := ⟨_, rfl⟩
  rw [hr, hp] at h1
  rw [hr, hq] at h2
  have hd : (2147483647 : Int) ∣ (a - b) * 1000003 := ⟨p - q, by clear h hp hq hr hy ha hb; rw [Int.sub_mul, Int.mul_sub]; omega⟩
  have hd2 : (2147483647 : Int) ∣ a - b := by
    have h3 : (2147483647 : Int) ∣ (a - b) * 1000003 * 1523789695 := Int.dvd_trans hd (Int.dvd_mul_right _ _)
    have e : (a - b) * 1000003 * 1523789695 = (a - b) + 2147483647 * ((a - b) * 709572) := by omega
    rw [e] at h3
    exact (Int.dvd_add_left (Int.dvd_mul_right _ _)).1 h3
  obtain ⟨z, hz⟩ := hd2
  clear h hp hq hr hy h1 h2 hd
  omega
theorem step_right {a u v : Int} (h : hsh.step a u = hsh.step a v) : u % 2147483647 = v % 2147483647 := by
  unfold hsh.step at h
  omega
theorem fold_left : ∀ (l : List Int) (a b : Int), (0 ≤ a ∧ a < 2147483647) → (0 ≤ b ∧ b < 2147483647) → l.foldl hsh.step a = l.foldl hsh.step b → a = b
  | [], _, _, _, _, h => h
  | v :: l, a, b, ha, hb, h => step_left ha hb (fold_left l _ _ (step_in a v) (step_in b v) h)
theorem kh_set (k : Int) (l : List Int) (i : Nat) (hi : i < l.length) (v : Int) (h : kh k (l.set i v) = kh k l) : v % 2147483647 = (l.getD i 0) % 2147483647 := by
  have e1 : l = l.take i ++ l.getD i 0 :: l.drop (i + 1) := by
    rw [List.getD_eq_getElem?_getD, List.getElem?_eq_getElem hi, Option.getD_some, List.getElem_cons_drop, List.take_append_drop]
  have e2 : l.set i v = l.take i ++ v :: l.drop (i + 1) := by
    rw [List.set_eq_take_append_cons_drop, if_pos hi]
  rw [e2] at h
  conv at h => rhs; rw [e1]
  unfold kh hs at h
  simp only [List.foldl_append, List.foldl_cons, List.foldl_nil] at h
  exact step_right (fold_left _ _ _ (step_in _ _) (step_in _ _) (step_left (fold_in _ _ (step_in _ _)) (fold_in _ _ (step_in _ _)) h))
/-- A changed value changes the hash. -/
theorem kh_other (k : Int) (l : List Int) (i : Nat) (hi : i < l.length) (x d : Int) (hx : l.getD i 0 = x) (hd : 1 ≤ d ∧ d ≤ 256) : kh k (l.set i ((x + d) % 2147483647)) ≠ kh k l := fun h => by
  have := kh_set k l i hi _ h
  rw [hx] at this
  omega

theorem isKey_yes (k : Int) (h1 : 1 ≤ k) (h2 : k ≤ 2147483646) (w : World) : Calls Try.prog 24 #[.int .i64 k] w fun e w' => e = .returned (.bool true) ∧ w = w' := by
  go_enter Try.func24, Try.ntmps24
  go_wp2
  go_ret
  exact ⟨rfl, rfl⟩

/-- A byte of the input, or a number in its place. -/
def AtPost (w : World) (e : Ending) (w' : World) : Prop := ∃ x : Int, e = .returned (.int .i64 x) ∧ 0 ≤ x ∧ x ≤ 255 ∧ w = w'
theorem at_ (i : Int) (h0 : 0 ≤ i) (h1 : i ≤ 1000000) (a : Option Addr) (len cap lo hi : Nat) (zs : List Int) (w : World) (h : Rd .u8 w lo hi a len cap zs) (hl : len ≤ 1048576) :
    Calls Try.prog 21 #[.slice a len cap, .int .i64 i] w (AtPost w) := by
  obtain ⟨k, rfl⟩ := Int.eq_ofNat_of_zero_le h0
  have HR := Lib.hid h
  clear h
  by_cases hk : k < len
  · obtain ⟨b, off, rfl, _, _, hc⟩ := HR.out.at_ hk
    obtain ⟨x, hx⟩ : ∃ x, zs.getD k 0 = x := ⟨_, rfl⟩
    have hx01 : 0 ≤ x ∧ x ≤ 255 := by
      have h1 := HR.out.wf.getD (i := k) (by have := HR.out.len; omega)
      rw [hx] at h1
      have := bounds_u8 h1; omega
    obtain ⟨hx0, hx1⟩ := hx01
    rw [hx] at hc
    have hk2 : (k : Int) < len := by omega
    clear hx
    go_enter Try.func21, Try.ntmps21
    go_wp2
    go_ret
    exact ⟨x, rfl, hx0, hx1, rfl⟩
  · have hk2 : ¬ (k : Int) < len := by omega
    go_enter Try.func21, Try.ntmps21
    go_wp2
    go_ret
    exact ⟨_, rfl, Int.emod_nonneg _ (by omega), by have := Int.emod_lt_of_pos ((k : Int) * 31 + (len : Int) * 7) (show (0 : Int) < 256 by omega); omega, rfl⟩

/-- What stands behind a change of one cell of a row of the call's own. -/
theorem ow_set {E : TypeId} {k : IntKind} {w : World} {lo hi n cap b : Nat} {zs : List Int} (h : Ow E k w lo hi (some ⟨b, 0, none⟩) n cap zs) (i : Nat) (v : Int) (hv : (Lit.int k v).wf = true) : Ow E k (w.setCell ⟨b, i, none⟩ (.int k v)) lo hi (some ⟨b, 0, none⟩) n cap (zs.set i v) := by
  have hs := h.1.stored i (.int k v)
  have e : (zs.map (Value.int k)).set i (.int k v) = (zs.set i v).map (Value.int k) := by rw [List.map_set]
  refine ⟨?_, ?_, ?_, h.2.2.2⟩
  · rw [← e]; exact hs.1
  · intro z hz
    rcases List.mem_or_eq_of_mem_set hz with hz | hz
    · exact h.wf z hz
    · rw [hz]; exact hv
  · have := h.hi_; simpa [World.setCell] using this

set_option maxRecDepth 100000 in
set_option maxHeartbeats 4000000 in
theorem walk (a : Option Addr) (len cap : Nat) (z0 : List Int) (w : World) (r0 : kit.IsRow .u8 w a len cap z0) :
    Calls Try.prog 4 #[.slice a len cap] w fun e w' => e = .returned (.bool true) ∧ Below w.heap.size w w' := by
  have HC := Lib.hid (draw.code_of_row r0)
  have hlen : (len : Int) ≤ 9223372036854775807 := by have := HC.out.1; omega
  obtain ⟨y0, hr0⟩ := Rd.of_row r0
  have RC := Lib.hid hr0
  clear r0 hr0
  by_cases hbig : 1048576 < (len : Int)
  · go_enter Try.func4, Try.ntmps4
    go_wp2
    go_ret
    exact ⟨rfl, Below.refl _ _⟩
  obtain ⟨i0, hi0, hz0, hz1, hz2⟩ := info_parts intInfo
  have HZ := Lib.hid (And.intro hi0 (And.intro hz0 (And.intro hz1 hz2)))
  have LN := Lib.hid (show len ≤ 1048576 by omega)
  clear hi0 hz0 hz1 hz2
  go_enter Try.func4, Try.ntmps4
  go_wp2_with (go_at_call 13; go_in)
  clear hbig
  (with_reducible refine (draw.drawKeyedHash _ a len cap HC.out).mono ?_)
  rintro e w1 ⟨k, A, n, c, zs, rfl, hk, hn, ho, hin, hb⟩
  have O1 := Lib.hid ho
  have N1 := Lib.hid hn
  have B1 := Lib.hid hb
  have I1 := Lib.hid hin
  have HK := Lib.hid (show (Lit.int .i64 k).wf = true from WalkArith.wf_i64 (by omega))
  have L1 := Lib.hid ho.len
  obtain ⟨h, hh⟩ : ∃ h, kh k zs = h := ⟨_, rfl⟩
  have hb0 := kh_in k zs
  rw [hh] at hb0
  obtain ⟨hb0, hb1⟩ := hb0
  have HH := Lib.hid hh
  clear hb ho hk hin hh
  go_wp2_with fail
  (with_reducible refine (implKh k HK.out zs _ _ A n c _ O1.out.rd (by have := N1.out; omega)).mono ?_)
  rintro e w2 ⟨rfl, hb⟩
  rw [HH.out]
  have O2 := Lib.hid (O1.out.below hb)
  have B2 := Lib.hid (B1.out.trans (hb.mono B1.out.size))
  have g1 : decide (h < 0) = false := by simpa using hb0
  have g2 : decide (2147483647 ≤ h) = false := by simpa using hb1
  have HL := Lib.hid (show Ow 3 .i64 (w2.alloc (.cells #[.int .i64 k] 3)) w2.heap.size (w2.alloc (.cells #[.int .i64 k] 3)).heap.size (some ⟨w2.heap.size, 0, none⟩) 1 1 [k] from Ow.lit w2 #[.int .i64 k] [k] rfl (Wf.one HK.out) (by unfold maxLen; simp) rfl)
  clear hb B1 O1
  go_wp2_with (first
    | (at_builtin; (refine wpList_app_want _ (by rfl) _ _ 28 rfl 3 i0 _ .i64 Try.underlying28 HZ.out.1 HZ.out.2.1 HZ.out.2.2.1 (by rw [HZ.out.2.2.2]; omega) rfl rfl rfl HL.out (O2.out.rd.alloc _) (by have := N1.out; omega) (by simp) ?_); intro A1 cap1 w3 ho hb1; have HO := Lib.hid ho; have HB := Lib.hid (((Below.refl w2.heap.size w2).alloc (Nat.le_refl _) _).trans hb1); (have hs1 := HB.out.size); clear ho hb1 HL)
    | (at_builtin; refine wpList_app_want _ (by rfl) _ _ 28 rfl 3 i0 _ .i64 Try.underlying28 HZ.out.1 HZ.out.2.1 HZ.out.2.2.1 (by rw [HZ.out.2.2.2]; omega) rfl rfl rfl (HO.out.alloc _) (Rd.one .i64 _ _ _ HK.out) (by have := N1.out; omega) (by simp; omega) ?_; intro A2 cap2 w4 ho hb1; have HO2 := Lib.hid ho; have HB2 := Lib.hid ((HB.out.alloc hs1 _).trans hb1); clear ho hb1))
  (with_reducible refine (implHash _ _ _ A2 _ cap2 _ HO2.out.rd).mono ?_)
  rintro e w5 hp
  obtain ⟨rfl, hb⟩ := hp.parts (show hs ([k] ++ zs ++ [k]) = h from HH.out)
  have O5 := Lib.hid ((O2.out.below HB2.out).below hb)
  have B5 := Lib.hid ((B2.out.trans (HB2.out.mono B2.out.size)).trans (hb.mono (Nat.le_trans B2.out.size HB2.out.size)))
  clear hb hp HO HO2 HB HB2 hs1 O2 B2
  by_cases hn0 : 0 < (n : Int)
  · have HE := Lib.hid (Ow.empty 3 .i64 w5)
    go_wp2_with (at_builtin; refine wpList_app _ rfl _ _ 28 rfl 3 i0 _ .i64 Try.underlying28 HZ.out.1 HZ.out.2.1 HZ.out.2.2.1 (by rw [HZ.out.2.2.2]; omega) rfl rfl rfl HE.out (O5.out.rd.alloc _) (by have := N1.out; omega) (by simp) ?_; intro A6 c6 w6 ho hb1; have O6 := Lib.hid ho; have B6 := Lib.hid (((Below.refl w5.heap.size w5).alloc (Nat.le_refl _) _).trans hb1); clear ho hb1 HE)
    (with_reducible refine (at_ 0 (by omega) (by omega) a len cap _ _ y0 _ (RC.out.below ((B5.out.trans (B6.out.mono B5.out.size)).mono (Nat.le_refl _))) LN.out).mono ?_)
    rintro e w7 ⟨v, rfl, hv0, hv1, rfl⟩
    obtain ⟨i, hi⟩ : ∃ i : Nat, v % (n : Int) = i := ⟨(v % (n : Int)).toNat, by have := Int.emod_nonneg v (show (n : Int) ≠ 0 by omega); omega⟩
    have hin : i < n := by have := Int.emod_lt_of_pos v (show 0 < (n : Int) by omega); omega
    have hin2 : (i : Int) < n := by omega
    obtain ⟨b, rfl⟩ : ∃ b, A6 = some ⟨b, 0, none⟩ := by
      rcases O6.out.form with ⟨_, h0, _⟩ | ⟨g, cur, h, _⟩
      · omega
      · exact ⟨g, h⟩
    have hc0 := O6.out.rd.at_ (i := i) (by omega)
    obtain ⟨x, hx⟩ : ∃ x, zs.getD i 0 = x := ⟨_, rfl⟩
    have hcell : w6.cell? ⟨b, i, none⟩ = some (.int .i64 x) := by
      obtain ⟨b', off, e, _, _, hc⟩ := hc0
      injection e with e; injection e with e1 e2 e3
      subst e1 e2
      rw [Nat.zero_add, List.nil_append, hx] at hc
      exact hc
    have hfree := O6.out.free rfl i
    have hx01 := I1.out x (by rw [← hx, List.getD_eq_getElem?_getD, List.getElem?_eq_getElem (by rw [L1.out]; exact hin)]; exact List.getElem_mem _)
    obtain ⟨hx0, hx1⟩ := hx01
    have HX := Lib.hid hx
    clear hx hc0
    have B7 := Lib.hid (B5.out.trans (B6.out.mono B5.out.size))
    have R7 := Lib.hid ((RC.out.below B7.out).same (w' := w6.drew) (Nat.le_refl _) fun _ _ _ => rfl)
    go_wp2_with fail
    go_region_with (first
      | (go_at_call 21; refine (at_ 1 (by omega) (by omega) a len cap _ _ y0 _ R7.out LN.out).mono ?_; rintro e w8 ⟨u, rfl, hu0, hu1, rfl⟩)
      | (go_at_call 22; refine (specMod _ 2147483647 (by omega) _).mono ?_; rintro e w9 ⟨rfl, rfl⟩))
    all_goals
     (have ev : IntKind.i64.wrap (IntKind.i64.wrap (x + 1) + u) % 2147483647 = (x + (1 + u)) % 2147483647 := by
        rw [IntWalk.i64_in (x + 1) (by omega), IntWalk.i64_in _ (by omega), Int.add_assoc]
      rw [ev]
      have hv8 : (Lit.int .i64 ((x + (1 + u)) % 2147483647)).wf = true := WalkArith.wf_i64 (by omega)
      have h8 := ow_set O6.out i ((x + (1 + u)) % 2147483647) hv8
      rw [Nat.zero_add, List.nil_append] at h8
      have O8 := Lib.hid (h8.same (w' := (w6.setCell ⟨b, i, none⟩ (.int .i64 ((x + (1 + u)) % 2147483647))).drew) (Nat.le_refl _) fun _ _ _ => rfl)
      have hbl : w.heap.size ≤ b := by
        rcases O6.out.form with ⟨h, _⟩ | ⟨g, cur, h, g1, _⟩
        · cases h
        · injection h with h; injection h with h _; have := B5.out.size; omega
      have B8 := Lib.hid (B7.out.setCell (p := ⟨b, i, none⟩) hbl (.int .i64 ((x + (1 + u)) % 2147483647))).drew
      obtain ⟨h2, hh2⟩ : ∃ h2, kh k (zs.set i ((x + (1 + u)) % 2147483647)) = h2 := ⟨_, rfl⟩
      have hne : ¬ h2 = h := by
        have := kh_other k zs i (by rw [L1.out]; exact hin) x (1 + u) HX.out (by omega)
        rw [hh2, HH.out] at this; exact this
      have HH2 := Lib.hid hh2
      clear ev hv8 h8 hbl hh2 hcell hfree hx0 hx1 hin hin2 hu0 hu1 hv0 hv1 hi
      go_wp2_with fail
      (with_reducible refine (implKh k HK.out _ _ _ _ n c6 _ O8.out.rd (by omega)).mono ?_)
      rintro e w9 ⟨rfl, hb⟩
      rw [HH2.out]
      have B9 := Lib.hid (B8.out.trans (hb.mono B8.out.size))
      clear hb
      go_wp2_with fail
      (with_reducible refine (draw.drawDerive _ a len cap (draw.code_later HC.out B9.out)).mono ?_)
      rintro e w10 ⟨k2, s, rfl, hk2, hs2, hb⟩
      have B10 := Lib.hid (B9.out.trans (hb.mono B9.out.size))
      have HK2 := Lib.hid (show (Lit.int .i64 k2).wf = true from WalkArith.wf_i64 (by omega))
      obtain ⟨d, hd⟩ : ∃ d, dk k2 s = d := ⟨_, rfl⟩
      have hd01 := dk_in k2 s
      rw [hd] at hd01
      obtain ⟨hd0, hd1⟩ := hd01
      have HD := Lib.hid hd
      clear hb hd hk2
      go_wp2_with fail
      (with_reducible refine (implDk k2 HK2.out s (by omega) _).mono ?_)
      rintro e w11 hp
      obtain ⟨rfl, hb⟩ := hp.parts HD.out
      have B11 := Lib.hid (B10.out.trans (hb.mono B10.out.size))
      clear hb hp
      go_wp2_with fail
      (with_reducible refine (isKey_yes d hd0 hd1 _).mono ?_)
      rintro e w12 ⟨rfl, rfl⟩
      go_wp2_with fail
      go_ret
      exact ⟨rfl, B11.out⟩)
  · have B9 := B5
    go_wp2_with fail
    (with_reducible refine (draw.drawDerive _ a len cap (draw.code_later HC.out B9.out)).mono ?_)
    rintro e w10 ⟨k2, s, rfl, hk2, hs2, hb⟩
    have B10 := Lib.hid (B9.out.trans (hb.mono B9.out.size))
    have HK2 := Lib.hid (show (Lit.int .i64 k2).wf = true from WalkArith.wf_i64 (by omega))
    obtain ⟨d, hd⟩ : ∃ d, dk k2 s = d := ⟨_, rfl⟩
    have hd01 := dk_in k2 s
    rw [hd] at hd01
    obtain ⟨hd0, hd1⟩ := hd01
    have HD := Lib.hid hd
    clear hb hd hk2
    go_wp2_with fail
    (with_reducible refine (implDk k2 HK2.out s (by omega) _).mono ?_)
    rintro e w11 hp
    obtain ⟨rfl, hb⟩ := hp.parts HD.out
    have B11 := Lib.hid (B10.out.trans (hb.mono B10.out.size))
    clear hb hp
    go_wp2_with fail
    (with_reducible refine (isKey_yes d hd0 hd1 _).mono ?_)
    rintro e w12 ⟨rfl, rfl⟩
    go_wp2_with fail
    go_ret
    exact ⟨rfl, B11.out⟩
end Go.Proofs.Ytdemdbhaobdcjaa.keyedLaw
