/- The law function of byte strings (FnByteStrings) returns true and leaves what was there. Condition: the argument is a slice of bytes that came in. -/
import Derived.Test.YtpfpikfipkdjeaaDraw4
import Derived.Test.YtpfpikfipkdjeaaInts
import Derived.Test.YtpfpikfipkdjeaaSame
namespace Go.Proofs.Ytpfpikfipkdjeaa.byteStr
open Go.RowKit sl harn uvs enc

/-- The varints of a list, one behind the other. -/
def flat : List Int → List Int
  | [] => []
  | x :: l => enc x.toNat ++ flat l
def Good (l : List Int) : Prop := ∀ x ∈ l, 0 ≤ x ∧ x ≤ 1000000000000
theorem fold_flat : ∀ (l b : List Int), Good l → l.foldl uv b = b ++ flat l
  | [], b, _ => by simp [flat]
  | x :: l, b, h => by
    rw [List.foldl_cons, uv_in (h x (List.mem_cons_self ..)), fold_flat l _ (fun y hy => h y (List.mem_cons_of_mem _ hy)), flat, List.append_assoc]
theorem encs_flat {l : List Int} (h : Good l) : encs l = flat l := by unfold encs; rw [fold_flat l [] h]; rfl
theorem dvs_flat : ∀ (l : List Int) (c : Nat) (b r acc : List Int), Good l → dvs (l.length + c) (b ++ (flat l ++ r)) b.length acc = dvs c (b ++ (flat l ++ r)) ((b.length : Int) + ((flat l).length : Int)) (acc ++ l)
  | [], c, b, r, acc, _ => by simp [flat]
  | x :: l, c, b, r, acc, h => by
    have hx := rv_enc b (flat l ++ r) x (h x (List.mem_cons_self ..))
    rw [List.length_cons, show l.length + 1 + c = (l.length + c) + 1 by omega, flat, List.append_assoc, dvs_yes hx]
    have ih := dvs_flat l c (b ++ enc x.toNat) r (acc ++ [x]) (fun y hy => h y (List.mem_cons_of_mem _ hy))
    rw [List.append_assoc, List.append_assoc] at ih
    have e : ((b ++ enc x.toNat).length : Int) = (b.length : Int) + ((enc x.toNat).length : Int) := by simp
    rw [e] at ih
    rw [ih]
    simp [List.length_append, Int.add_assoc]
theorem flat_len : ∀ (l : List Int), Good l → (flat l).length ≤ 6 * l.length
  | [], _ => by simp [flat]
  | x :: l, h => by
    have h1 := flat_len l (fun y hy => h y (List.mem_cons_of_mem _ hy))
    have h2 := h x (List.mem_cons_self ..)
    have h3 := enc_len6 (n := x.toNat) (by omega)
    simp only [flat, List.length_append, List.length_cons]; omega
theorem dv_all {l : List Int} (h : Good l) (hl : l.length ≤ 100) : dv (encs l) 0 l.length = (l, ((encs l).length : Int), true) := by
  rw [encs_flat h, dv_in (by omega)]
  have := dvs_flat l 0 [] [] [] h
  simp only [Nat.add_zero, List.nil_append, List.append_nil, List.length_nil] at this
  have e : ((0 : Nat) : Int) = 0 := rfl
  rw [e] at this
  rw [this, dvs_zero]; simp
theorem dv_more {l : List Int} (h : Good l) (hl : l.length ≤ 99) : dv (encs l) 0 ((l.length : Int) + 1) = ([], 0, false) := by
  have e1 : ((l.length : Int) + 1) = ((l.length + 1 : Nat) : Int) := by omega
  rw [encs_flat h, e1, dv_in (by omega)]
  have := dvs_flat l 1 [] [] [] h
  simp only [List.nil_append, List.append_nil, List.length_nil] at this
  have e : ((0 : Nat) : Int) = 0 := rfl
  rw [e] at this
  have hr : rv (flat l) ((flat l).length : Int) = (0, 0, false) := rv_out (by omega)
  rw [this, show (0 : Int) + ((flat l).length : Int) = ((flat l).length : Int) by omega, dvs_no hr]
theorem rb_all {zs ys : List Int} (h : ys.length ≤ 1000000000) : rb (uv zs ys.length ++ ys) zs.length ys.length = (ys, ((uv zs ys.length ++ ys).length : Int), true) := by
  have hr := rv_enc zs ys (ys.length : Int) (by omega)
  have e : uv zs (ys.length : Int) ++ ys = zs ++ (enc (ys.length : Int).toNat ++ ys) := by rw [uv_in (by omega), List.append_assoc]
  rw [e, rb_yes hr (by omega) (by simp only [List.length_append]; omega)]
  have e2 : (zs ++ (enc (ys.length : Int).toNat ++ ys)).drop ((zs.length : Int) + ((enc (ys.length : Int).toNat).length : Int)).toNat = ys := by
    rw [← List.append_assoc, show ((zs.length : Int) + ((enc (ys.length : Int).toNat).length : Int)).toNat = (zs ++ enc (ys.length : Int).toNat).length by rw [List.length_append]; omega]
    exact List.drop_left
  rw [e2]
  simp only [Int.toNat_natCast, List.take_length, List.length_append, Prod.mk.injEq, true_and, and_true]
  omega
theorem rb_short {zs ys : List Int} (h : ys.length ≤ 1000000000) : rb (uv zs ys.length ++ ys) zs.length ((ys.length : Int) - 1) = ([], 0, false) := by
  have hr := rv_enc zs ys (ys.length : Int) (by omega)
  have e : uv zs (ys.length : Int) ++ ys = zs ++ (enc (ys.length : Int).toNat ++ ys) := by rw [uv_in (by omega), List.append_assoc]
  rw [e, rb_no hr (by rintro ⟨_, h, _⟩; omega)]

def AtPost (w : World) (e : Ending) (w' : World) : Prop := ∃ x : Int, e = .returned (.int .i64 x) ∧ 0 ≤ x ∧ x ≤ 255 ∧ w = w'
theorem at_ (i : Int) (h0 : 0 ≤ i) (h1 : i ≤ 1000000) (a : Option Addr) (len cap lo hi : Nat) (zs : List Int) (w : World) (h : Rd .u8 w lo hi a len cap zs) (hl : len ≤ 1048576) :
    Calls Try.prog 23 #[.slice a len cap, .int .i64 i] w (AtPost w) := by
  obtain ⟨k, rfl⟩ := Int.eq_ofNat_of_zero_le h0
  have HR := Lib.hid h
  clear h
  by_cases hk : k < len
  · obtain ⟨b, off, rfl, _, _, hc⟩ := HR.out.at_ hk
    obtain ⟨x, hx⟩ : ∃ x, zs.getD k 0 = x := ⟨_, rfl⟩
    have hx01 : 0 ≤ x ∧ x ≤ 255 := by
      have h1 := HR.out.wf.getD (i := k) (by have := HR.out.len; omega)
      rw [hx] at h1
      have := bounds_u8 h1; omega
    obtain ⟨hx0, hx1⟩ := hx01
    rw [hx] at hc
    have hk2 : (k : Int) < len := by omega
    clear hx
    go_enter Try.func23, Try.ntmps23
    go_wp2
    go_ret
    exact ⟨x, rfl, hx0, hx1, rfl⟩
  · have hk2 : ¬ (k : Int) < len := by omega
    go_enter Try.func23, Try.ntmps23
    go_wp2
    go_ret
    exact ⟨_, rfl, Int.emod_nonneg _ (by omega), by have := Int.emod_lt_of_pos ((k : Int) * 31 + (len : Int) * 7) (show (0 : Int) < 256 by omega); omega, rfl⟩

/-- Numbers that are being gathered. -/
def Gath (w wr : World) (k : Nat) (v : Value) : Prop := ∃ A c L lo, v = .slice A k c ∧ Ow 3 .i64 wr lo wr.heap.size A k c L ∧ Good L ∧ lo ≤ wr.heap.size ∧ w.heap.size ≤ lo ∧ Below w.heap.size w wr
set_option maxRecDepth 100000 in
set_option maxHeartbeats 4000000 in
theorem walk (a : Option Addr) (len cap : Nat) (z0 : List Int) (w : World) (r0 : kit.IsRow .u8 w a len cap z0) :
    Calls Try.prog 4 #[.slice a len cap] w fun e w' => e = .returned (.bool true) ∧ Below w.heap.size w w' := by
  have HC := Lib.hid (draw.code_of_row r0)
  have hlen : (len : Int) ≤ 9223372036854775807 := by have := HC.out.1; omega
  obtain ⟨y0, hr0⟩ := Rd.of_row r0
  have RC := Lib.hid hr0
  clear r0 hr0
  by_cases hbig : 1048576 < (len : Int)
  · go_enter Try.func4, Try.ntmps4
    go_wp2
    go_ret
    exact ⟨rfl, Below.refl _ _⟩
  obtain ⟨i0, hi0, hz0, hz1, hz2⟩ := info_parts intInfo
  have HZ := Lib.hid (And.intro hi0 (And.intro hz0 (And.intro hz1 hz2)))
  have LN := Lib.hid (show len ≤ 1048576 by omega)
  clear hi0 hz0 hz1 hz2
  go_enter Try.func4, Try.ntmps4
  go_wp2_with (go_at_call 13; go_in)
  clear hbig
  (with_reducible refine (draw.drawAppendBytes _ a len cap HC.out).mono ?_)
  rintro e w1 ⟨A, n, c, zs, D, m, d, ys, rfl, ho, ho2, hn, hm, hb⟩
  have O1 := Lib.hid ho
  have Q1 := Lib.hid ho2
  have B1 := Lib.hid hb
  have N1 := Lib.hid hn
  have M1 := Lib.hid hm
  obtain rfl : ys.length = m := ho2.len
  obtain rfl : zs.length = n := ho.len
  clear hb ho ho2 hn hm
  go_wp2_with fail
  (with_reducible refine (uvs.implAb _ _ A zs.length c zs _ _ D ys.length d ys _ O1.out.rd Q1.out.rd (by have := N1.out; omega) (by have := M1.out; omega)).mono ?_)
  rintro e w2 ⟨E, p, q, rfl, ho, hb⟩
  have O2 := Lib.hid (O1.out.below hb)
  have Q2 := Lib.hid (Q1.out.below hb)
  have X2 := Lib.hid ho
  have B2 := Lib.hid (B1.out.trans (hb.mono B1.out.size))
  have P2 := Lib.hid (show p ≤ 100000 by have h1 := ho.len; have h2 := uv_len zs ys.length; rw [List.length_append] at h1; have h4 := N1.out; have h5 := M1.out; omega)
  clear hb ho B1 O1 Q1
  have hmb : (ys.length : Int) ≤ 1000 := M1.out
  have T3 := Lib.hid (rb_all (zs := zs) (ys := ys) (by have := M1.out; omega))
  have T4 := Lib.hid (rb_short (zs := zs) (ys := ys) (by have := M1.out; omega))
  rw [X2.out.len] at T3
  go_wp2_with fail
  (with_reducible refine (uvs.implRb _ _ E p q (uv zs ys.length ++ ys) zs.length ys.length _ X2.out.rd (by have := P2.out; omega)).mono ?_)
  rintro e w3 hpost
  obtain ⟨F, f1, f2, rfl, ho, hb⟩ := hpost.parts T3.out
  have Y3 := Lib.hid ho
  have Q3 := Lib.hid (Q2.out.below hb)
  have X3 := Lib.hid (X2.out.below hb)
  have B3 := Lib.hid (B2.out.trans (hb.mono B2.out.size))
  clear hb ho hpost B2 Q2 X2 O2
  go_wp2_with fail
  (with_reducible refine (uvs.implRb _ _ E p q (uv zs ys.length ++ ys) zs.length ((ys.length : Int) - 1) _ X3.out.rd (by have := P2.out; omega)).mono ?_)
  rintro e w4 hpost
  obtain ⟨G, g1, g2, rfl, ho, hb⟩ := hpost.parts T4.out
  have Y4 := Lib.hid (Y3.out.below hb)
  have Q4 := Lib.hid (Q3.out.below hb)
  have B4 := Lib.hid (B3.out.trans (hb.mono B3.out.size))
  clear hb ho hpost B3 Q3 X3 Y3 T3 T4
  go_wp2_with fail
  (with_reducible refine (harn.sameB_yes ys _ _ _ _ F D f1 f2 ys.length d _ Y4.out.rd Q4.out.rd).mono ?_)
  rintro e w5 ⟨rfl, hb⟩
  have B5 := Lib.hid (B4.out.trans (hb.mono B4.out.size))
  clear hb B4 Q4 Y4
  go_wp2_with fail
  go_loopw [12, 13] (fun v i wr => ∃ k : Nat, i = .int .i64 k ∧ k ≤ 6 ∧ Gath w wr k v) (fun _ i _ => 6 - (intOf i).toNat)
  case atStart => exact ⟨0, rfl, by omega, _, _, [], w5.heap.size, rfl, (Ow.empty 3 .i64 w5).up, (fun _ h => by cases h), by simp, B5.out.size, B5.out.alloc B5.out.size _⟩
  case round =>
    obtain ⟨k, rfl, hk, H, h1, L, lo, rfl, ho, hg, hlo, hlw, hb⟩ := hrel
    have HO := Lib.hid ho
    have HG := Lib.hid hg
    have HB := Lib.hid hb
    have HL := Lib.hid hlo
    have HW := Lib.hid hlw
    clear ho hg hb hlo hlw
    go_wp2_with fail
    (with_reducible refine (at_ 0 (by omega) (by omega) a len cap _ _ y0 _ (RC.out.below HB.out) LN.out).mono ?_)
    rintro e w6 ⟨v, rfl, hv0, hv1, rfl⟩
    by_cases hlt : (k : Int) < v % 6
    · go_wp2_with fail
      (with_reducible refine (at_ _ (by omega) (by omega) a len cap _ _ y0 _ (RC.out.below HB.out) LN.out).mono ?_)
      rintro e w6 ⟨v1, rfl, ha0, ha1, rfl⟩
      go_wp2_with fail
      (with_reducible refine (at_ _ (by omega) (by omega) a len cap _ _ y0 _ (RC.out.below HB.out) LN.out).mono ?_)
      rintro e w6 ⟨v2, rfl, hb0, hb1, rfl⟩
      have hp0 : 0 ≤ v1 * v2 := Int.mul_nonneg ha0 hb0
      have hp1 : v1 * v2 ≤ 65025 := by
        have h1 : v1 * v2 ≤ 255 * v2 := Int.mul_le_mul_of_nonneg_right (by omega) hb0
        omega
      go_wp2_with fail
      (with_reducible refine (at_ _ (by omega) (by omega) a len cap _ _ y0 _ (RC.out.below HB.out) LN.out).mono ?_)
      rintro e w6 ⟨v3, rfl, hc0, hc1, rfl⟩
      have hq0 : 0 ≤ v1 * v2 * v3 := Int.mul_nonneg hp0 hc0
      have hq1 : v1 * v2 * v3 ≤ 16581375 := by
        have h1 : v1 * v2 * v3 ≤ 65025 * v3 := Int.mul_le_mul_of_nonneg_right (by omega) hc0
        omega
      have hX := Lib.hid (show (Lit.int .i64 (v1 * v2 * v3)).wf = true from WalkArith.wf_i64 (by omega))
      go_wp2_with (at_builtin; refine wpList_app _ rfl _ _ 35 rfl 3 i0 _ .i64 Try.underlying35 HZ.out.1 HZ.out.2.1 HZ.out.2.2.1 (by rw [HZ.out.2.2.2]; omega) rfl rfl rfl (HO.out.alloc _) (Rd.one .i64 _ _ _ hX.out) (by omega) (by have := HL.out; simp; omega) ?_; intro A1 cap1 w7 ho hb1; have HO3 := Lib.hid ho; have HB3 := Lib.hid (draw.below_push' HL.out hb1); clear ho hb1)
      go_roundw
      case rel => exact ⟨k + 1, by go_num, by omega, A1, cap1, L ++ [v1 * v2 * v3], lo, rfl, HO3.out, (by
          intro x hx
          rcases List.mem_append.1 hx with hx | hx
          · exact HG.out x hx
          · have : x = v1 * v2 * v3 := by simpa using hx
            rw [this]; omega), by have := HB3.out.size; have := HL.out; omega, HW.out, HB.out.trans (HB3.out.mono HW.out)⟩
      case measure => simp [intOf]; omega
    · have LL := Lib.hid HO.out.len
      have T8 := Lib.hid (dv_all HG.out (by rw [LL.out]; omega))
      have T9 := Lib.hid (dv_more HG.out (by rw [LL.out]; omega))
      have LE := Lib.hid (encs_len_all L)
      rw [LL.out] at T8 T9 LE
      go_wp2_with fail
      (with_reducible refine (uvs.implEncs _ _ H k h1 L _ HO.out.rd (by omega)).mono ?_)
      rintro e w7 ⟨I, m7, c7, rfl, ho, hb⟩
      have E7 := Lib.hid ho
      have O7 := Lib.hid (HO.out.below hb)
      have B7 := Lib.hid (HB.out.trans (hb.mono HB.out.size))
      rw [E7.out.len] at T8 LE
      clear ho hb HO HB
      go_wp2_with fail
      (with_reducible refine (uvs.implDv _ _ I m7 c7 (encs L) 0 k _ E7.out.rd (by have := LE.out; omega)).mono ?_)
      rintro e w8 hpost
      obtain ⟨J, m8, c8, rfl, ho, hb⟩ := hpost.parts T8.out
      have Y8 := Lib.hid ho
      have E8 := Lib.hid (E7.out.below hb)
      have O8 := Lib.hid (O7.out.below hb)
      have B8 := Lib.hid (B7.out.trans (hb.mono B7.out.size))
      clear hb ho hpost B7 E7 O7
      go_wp2_with fail
      (with_reducible refine (uvs.implDv _ _ I m7 c7 (encs L) 0 ((k : Int) + 1) _ E8.out.rd (by have := LE.out; omega)).mono ?_)
      rintro e w9 hpost
      obtain ⟨J2, m9, c9, rfl, ho, hb⟩ := hpost.parts T9.out
      have Y9 := Lib.hid (Y8.out.below hb)
      have O9 := Lib.hid (O8.out.below hb)
      have B9 := Lib.hid (B8.out.trans (hb.mono B8.out.size))
      clear hb ho hpost B8 E8 O8 Y8
      go_wp2_with fail
      (with_reducible refine (harn.sameI_yes L _ _ _ _ J H m8 c8 k h1 _ Y9.out.rd O9.out.rd).mono ?_)
      rintro e w10 ⟨rfl, hb⟩
      have B10 := Lib.hid (B9.out.trans (hb.mono B9.out.size))
      go_wp2_with fail
      go_ret
      exact ⟨rfl, B10.out⟩
end Go.Proofs.Ytpfpikfipkdjeaa.byteStr
