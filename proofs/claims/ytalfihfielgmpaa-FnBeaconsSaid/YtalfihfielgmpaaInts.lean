/- Lists of integers as varints one behind the other, program and specification. Condition: lists up to 2^21 numbers, bytes up to 2^27. -/
import Derived.Test.YtalfihfielgmpaaBytes
namespace Go.Proofs.Ytalfihfielgmpaa.uvs
open Go.RowKit sl enc harn

/-- What EncodeInts hands back. -/
def encs (l : List Int) : List Int := l.foldl uv []
theorem encs_nil : encs [] = [] := rfl
theorem encs_snoc (l : List Int) (x : Int) : encs (l ++ [x]) = uv (encs l) x := by simp [encs, List.foldl_append]
theorem encs_take {l : List Int} {k : Nat} (h : k < l.length) : encs (l.take (k + 1)) = uv (encs (l.take k)) (l.getD k 0) := by
  rw [List.take_succ_eq_append_getElem h, encs_snoc, List.getD_eq_getElem?_getD, List.getElem?_eq_getElem h]; rfl
theorem encs_len (l : List Int) : ∀ k, (encs (l.take k)).length ≤ 6 * k := by
  intro k
  induction k with
  | zero => simp [encs]
  | succ k ih =>
    rcases Nat.lt_or_ge k l.length with h | h
    · rw [encs_take h]
      have := uv_len (encs (l.take k)) (l.getD k 0)
      omega
    · rw [List.take_of_length_le (by omega)]
      rw [List.take_of_length_le h] at ih
      omega
theorem encs_len_all (l : List Int) : (encs l).length ≤ 6 * l.length := by
  have := encs_len l l.length
  rwa [List.take_of_length_le (Nat.le_refl _)] at this

/-- What DecodeInts hands back. -/
def dvs : Nat → List Int → Int → List Int → List Int × Int × Bool
  | 0, _, off, acc => (acc, off, true)
  | c + 1, zs, off, acc => if (rv zs off).2.2 = true then dvs c zs (rv zs off).2.1 (acc ++ [(rv zs off).1]) else ([], 0, false)
theorem dvs_zero (zs : List Int) (off : Int) (acc : List Int) : dvs 0 zs off acc = (acc, off, true) := rfl
theorem dvs_yes {c : Nat} {zs : List Int} {off m nx : Int} {acc : List Int} (h : rv zs off = (m, nx, true)) : dvs (c + 1) zs off acc = dvs c zs nx (acc ++ [m]) := by
  rw [dvs, h, if_pos rfl]
theorem dvs_no {c : Nat} {zs : List Int} {off m nx : Int} {acc : List Int} (h : rv zs off = (m, nx, false)) : dvs (c + 1) zs off acc = ([], 0, false) := by
  rw [dvs, h]; exact if_neg (by simp)
def dv (zs : List Int) (off count : Int) : List Int × Int × Bool :=
  if (0 ≤ count ∧ count ≤ 100) ∧ (0 ≤ off ∧ off ≤ zs.length) then dvs count.toNat zs off [] else ([], 0, false)
theorem dv_in {zs : List Int} {off : Int} {count : Nat} (h : (0 ≤ (count : Int) ∧ (count : Int) ≤ 100) ∧ (0 ≤ off ∧ off ≤ zs.length)) : dv zs off count = dvs count zs off [] := by
  unfold dv; rw [if_pos h, Int.toNat_natCast]
theorem dv_out {zs : List Int} {off count : Int} (h : ¬ ((0 ≤ count ∧ count ≤ 100) ∧ (0 ≤ off ∧ off ≤ zs.length))) : dv zs off count = ([], 0, false) := if_neg h
theorem dvs_len : ∀ (c : Nat) (zs : List Int) (off : Int) (acc : List Int), (dvs c zs off acc).1.length ≤ acc.length + c
  | 0, _, _, _ => by simp [dvs]
  | c + 1, zs, off, acc => by
    rw [dvs]
    split
    · have := dvs_len c zs (rv zs off).2.1 (acc ++ [(rv zs off).1])
      rw [List.length_append] at this
      simp at this ⊢; omega
    · simp
theorem dv_len {zs : List Int} {off count : Int} {l : List Int} {i : Int} {ok : Bool} (h : dv zs off count = (l, i, ok)) : l.length ≤ 100 := by
  unfold dv at h
  split at h
  · rename_i hc
    have := dvs_len count.toNat zs off []
    rw [h] at this
    simp at this; omega
  · injection h with h _; rw [← h]; simp
theorem SlIBPost.mk_ (E : TypeId) (k : IntKind) {w w1 : World} {t : List Int × Int × Bool} {A : Option Addr} {n cap hi : Nat} {l : List Int} {off : Int} (ho : Ow E k w1 w.heap.size hi A n cap l) (hb : Below w.heap.size w w1) (ht : t = (l, off, true)) :
    SlIBPost E k w t (.returned (.tuple #[.slice A n cap, .int .i64 off, .bool true])) w1 := by
  subst ht
  exact ⟨_, _, _, rfl, ho.up, hb⟩
/-- Numbers that are being decoded: j of them are there, the rest is to come. -/
def Dway (w wr : World) (zs : List Int) (off0 : Int) (count : Nat) (j : Nat) (o v : Value) : Prop :=
  ∃ A m cap l off, v = .slice A m cap ∧ o = .int .i64 off ∧ l.length = j ∧ Ow 3 .i64 wr w.heap.size wr.heap.size A m cap l ∧ Below w.heap.size w wr ∧ dvs count zs off0 [] = dvs (count - j) zs off l

set_option maxRecDepth 100000 in
theorem implEncs (lo hi : Nat) (A : Option Addr) (n cap : Nat) (zs : List Int) (w : World) (h : Rd .i64 w lo hi A n cap zs) (hn : n ≤ 2097152) :
    Calls Try.prog 48 #[.slice A n cap] w (SlPost 5 .u8 w (encs zs)) := by
  have hlen := h.len
  have HR := Lib.hid h
  have HL := Lib.hid hlen
  clear h hlen
  go_enter Try.func48, Try.ntmps48
  go_wp2
  go_loopw [3, 9] (fun v i wr => ∃ (k : Nat) (B : Option Addr) (m c : Nat), i = .int .i64 k ∧ v = .slice B m c ∧ k ≤ n ∧ Ow 5 .u8 wr w.heap.size wr.heap.size B m c (encs (zs.take k)) ∧ Below w.heap.size w wr) (fun _ i _ => n - (intOf i).toNat)
  case atStart => exact ⟨0, _, _, _, rfl, rfl, by omega, by have := (Ow.empty 5 .u8 w).up; simpa [encs] using this, (Below.refl _ _).alloc (Nat.le_refl _) _⟩
  case round =>
    obtain ⟨k, B, m, c, rfl, rfl, hk, ho, hb⟩ := hrel
    have HO := Lib.hid ho
    have HB := Lib.hid hb
    clear ho hb
    by_cases hkn : k < n
    · have hm : m ≤ 134217728 := by have h1 := encs_len zs k; have h2 := HO.out.len; omega
      obtain ⟨b, off, rfl, g1, g2, hc⟩ := (HR.out.below HB.out).at_ hkn
      obtain ⟨x, hx⟩ : ∃ x, zs.getD k 0 = x := ⟨_, rfl⟩
      rw [hx] at hc
      have HX := Lib.hid hx
      clear hx
      have hkn2 : (k : Int) < n := by omega
      go_wp2_with (go_at_call 66; refine (addUv w.heap.size _ B m c (encs (zs.take k)) x _ HO.out HB.out.size hm).mono ?_; rintro e w2 ⟨D, m2, c2, rfl, ho, hb⟩; have HO2 := Lib.hid ho; have HB2 := Lib.hid (HB.out.trans hb); clear ho hb)
      go_roundw
      case rel => exact ⟨k + 1, D, m2, c2, by go_num, rfl, by omega, by rw [encs_take (by have := HL.out; omega), HX.out]; exact HO2.out, HB2.out⟩
      case measure => simp [intOf]; omega
    · obtain rfl : k = n := by omega
      have hkn2 : ¬ (k : Int) < k := by omega
      go_wp2
      go_ret
      have e : zs.take k = zs := List.take_of_length_le (by have := HL.out; omega)
      rw [e] at HO
      exact ⟨_, _, _, rfl, HO.out, HB.out⟩

set_option maxRecDepth 100000 in
theorem specEncs (lo hi : Nat) (A : Option Addr) (n cap : Nat) (zs : List Int) (w : World) (h : Rd .i64 w lo hi A n cap zs) (hn : n ≤ 2097152) :
    Calls Try.prog 44 #[.slice A n cap] w (SlPost 5 .u8 w (encs zs)) := by
  have hlen := h.len
  have HR := Lib.hid h
  have HL := Lib.hid hlen
  clear h hlen
  go_enter Try.func44, Try.ntmps44
  go_wp2
  go_loopw [3, 4] (fun v i wr => ∃ (k : Nat) (B : Option Addr) (m c : Nat), i = .int .i64 k ∧ v = .slice B m c ∧ k ≤ n ∧ Ow 5 .u8 wr w.heap.size wr.heap.size B m c (encs (zs.take k)) ∧ Below w.heap.size w wr) (fun _ i _ => n - (intOf i).toNat)
  case atStart => exact ⟨0, _, _, _, rfl, rfl, by omega, by have := (Ow.empty 5 .u8 w).up; simpa [encs] using this, (Below.refl _ _).alloc (Nat.le_refl _) _⟩
  case round =>
    obtain ⟨k, B, m, c, rfl, rfl, hk, ho, hb⟩ := hrel
    have HO := Lib.hid ho
    have HB := Lib.hid hb
    clear ho hb
    by_cases hkn : k < n
    · have hm : m ≤ 134217728 := by have h1 := encs_len zs k; have h2 := HO.out.len; omega
      obtain ⟨b, off, rfl, g1, g2, hc⟩ := (HR.out.below HB.out).at_ hkn
      obtain ⟨x, hx⟩ : ∃ x, zs.getD k 0 = x := ⟨_, rfl⟩
      rw [hx] at hc
      have HX := Lib.hid hx
      clear hx
      have hkn2 : (k : Int) < n := by omega
      go_wp2_with (go_at_call 62; refine (specUv w.heap.size _ B m c (encs (zs.take k)) x _ HO.out.rd hm).mono ?_; rintro e w2 ⟨D, m2, c2, rfl, ho, hb⟩; have HO2 := Lib.hid (ho.down (lo2 := w.heap.size) HB.out.size); have HB2 := Lib.hid (HB.out.trans (hb.mono HB.out.size)); clear ho hb)
      go_roundw
      case rel => exact ⟨k + 1, D, m2, c2, by go_num, rfl, by omega, by rw [encs_take (by have := HL.out; omega), HX.out]; exact HO2.out, HB2.out⟩
      case measure => simp [intOf]; omega
    · obtain rfl : k = n := by omega
      have hkn2 : ¬ (k : Int) < k := by omega
      go_wp2
      go_ret
      have e : zs.take k = zs := List.take_of_length_le (by have := HL.out; omega)
      rw [e] at HO
      exact ⟨_, _, _, rfl, HO.out, HB.out⟩

set_option maxRecDepth 100000 in
theorem implDvs (lo hi : Nat) (A : Option Addr) (n cap : Nat) (zs : List Int) (off : Int) (count : Nat) (w : World) (h : Rd .u8 w lo hi A n cap zs) (hn : n ≤ 134217728) (hc : count ≤ 100) (ho : 0 ≤ off ∧ off ≤ n) :
    Calls Try.prog 46 #[.slice A n cap, .int .i64 off, .int .i64 count] w (SlIBPost 3 .i64 w (dv zs off count)) := by
  obtain ⟨i0, hi0, hz0, hz1, hz2⟩ := info_parts intInfo
  have hlen := h.len
  have r1 := fun W => inRange_yes count 0 100 (by omega) W
  have r2 := fun W => inRange_yes off 0 n ho W
  have HE := Lib.hid (dv_in (zs := zs) (off := off) (count := count) (by omega))
  have HR := Lib.hid h
  have HL := Lib.hid hlen
  have HZ := Lib.hid (And.intro hi0 (And.intro hz0 (And.intro hz1 hz2)))
  clear h hlen ho hi0 hz0 hz1 hz2
  go_enter Try.func46, Try.ntmps46
  go_wp2_with (first
    | (go_at_call 56; with_reducible refine (r1 _).mono ?_; rintro e w2 ⟨rfl, rfl⟩)
    | (go_at_call 56; with_reducible refine (r2 _).mono ?_; rintro e w2 ⟨rfl, rfl⟩))
  clear r1 r2
  go_loopw [1, 9, 26] (fun o v i wr => ∃ j : Nat, i = .int .i64 j ∧ j ≤ count ∧ Dway w wr zs off count j o v) (fun _ _ i _ => count - (intOf i).toNat)
  case atStart => exact ⟨0, rfl, by omega, _, _, _, [], off, rfl, rfl, rfl, (Ow.empty 3 .i64 w).up, (Below.refl _ _).alloc (Nat.le_refl _) _, rfl⟩
  case round =>
    obtain ⟨j, rfl, hj, B, m, c, l, o, rfl, rfl, hlj, how, hb, hd⟩ := hrel
    have HO := Lib.hid how
    have HB := Lib.hid hb
    have HD := Lib.hid hd
    have HJ := Lib.hid hlj
    have hm : m ≤ 100 := by have := how.len; omega
    clear how hb hd hlj
    by_cases hjc : j < count
    · have hjc2 : (j : Int) < count := by omega
      obtain ⟨x, nx, ok, ht⟩ := split3 zs o
      have hcl := fun W hW => implRv lo hi A n cap zs o W hW hn
      rw [RvPost_eq ht] at hcl
      have HC := Lib.hid hcl
      have HT := Lib.hid ht
      clear hcl ht
      cases ok with
      | false =>
        go_wp2_with (go_at_call 64; refine (HC.out _ (HR.out.below HB.out)).mono ?_; rintro e w2 ⟨rfl, hb⟩; have HB2 := Lib.hid (HB.out.trans (hb.mono HB.out.size)); clear hb)
        go_ret3
        exact SlIBPost.no _ _ HB2.out (by rw [HE.out, HD.out, show count - j = (count - (j + 1)) + 1 by omega, dvs_no HT.out])
      | true =>
        have hx := rv_ok HR.out.wf.u8 HT.out
        have HX := Lib.hid (show (Lit.int .i64 x).wf = true from WalkArith.wf_i64 (by omega))
        clear hx
        go_wp2_with (first
          | (go_at_call 64; refine (HC.out _ (HR.out.below HB.out)).mono ?_; rintro e w2 ⟨rfl, hb⟩; have HO2 := Lib.hid (HO.out.below hb); have HB2 := Lib.hid (HB.out.trans (hb.mono HB.out.size)); clear hb HO)
          | (at_builtin; refine wpList_app _ rfl _ _ 54 rfl 3 i0 _ .i64 Try.underlying54 HZ.out.1 HZ.out.2.1 HZ.out.2.2.1 (by rw [HZ.out.2.2.2]; omega) rfl rfl rfl (HO2.out.alloc _) (Rd.one .i64 _ _ _ HX.out) (by omega) (by have := HB2.out.size; simp; omega) ?_; intro A1 cap1 w3 ho hb1; have HO3 := Lib.hid ho; have HB3 := Lib.hid (below_push HB2.out HB2.out.size hb1); clear ho hb1))
        go_roundw
        case rel => exact ⟨j + 1, by go_num, by omega, A1, m + 1, cap1, l ++ [x], nx, rfl, rfl, by simp [HJ.out], HO3.out.up, HB3.out, by rw [HD.out, show count - j = (count - (j + 1)) + 1 by omega, dvs_yes HT.out]⟩
        case measure => simp [intOf]; omega
    · obtain rfl : j = count := by omega
      have hjc2 : ¬ (j : Int) < j := by omega
      go_wp2
      go_ret3
      exact SlIBPost.mk_ _ _ HO.out HB.out (by rw [HE.out, HD.out, Nat.sub_self, dvs_zero])
theorem implDvs_out (lo hi : Nat) (A : Option Addr) (n cap : Nat) (zs : List Int) (off : Int) (count : Int) (w : World) (h : Rd .u8 w lo hi A n cap zs) (hc : ¬ ((0 ≤ count ∧ count ≤ 100) ∧ (0 ≤ off ∧ off ≤ n))) :
    Calls Try.prog 46 #[.slice A n cap, .int .i64 off, .int .i64 count] w (SlIBPost 3 .i64 w (dv zs off count)) := by
  have hlen := h.len
  have HE := Lib.hid (dv_out (zs := zs) (off := off) (count := count) (by rw [hlen]; exact hc))
  clear h hlen
  by_cases h1 : 0 ≤ count ∧ count ≤ 100
  · have r1 := fun W => inRange_yes count 0 100 h1 W
    have r2 := fun W => inRange_no off 0 n (fun h => hc ⟨h1, h⟩) W
    clear hc h1
    go_enter Try.func46, Try.ntmps46
    go_wp2_with (first
      | (go_at_call 56; with_reducible refine (r1 _).mono ?_; rintro e w2 ⟨rfl, rfl⟩)
      | (go_at_call 56; with_reducible refine (r2 _).mono ?_; rintro e w2 ⟨rfl, rfl⟩))
    go_ret3
    exact SlIBPost.no _ _ (Below.refl _ _) HE.out
  · have r1 := fun W => inRange_no count 0 100 h1 W
    clear hc h1
    go_enter Try.func46, Try.ntmps46
    go_wp2_with (go_at_call 56; with_reducible refine (r1 _).mono ?_; rintro e w2 ⟨rfl, rfl⟩)
    go_ret3
    exact SlIBPost.no _ _ (Below.refl _ _) HE.out
theorem implDv (lo hi : Nat) (A : Option Addr) (n cap : Nat) (zs : List Int) (off count : Int) (w : World) (h : Rd .u8 w lo hi A n cap zs) (hn : n ≤ 134217728) :
    Calls Try.prog 46 #[.slice A n cap, .int .i64 off, .int .i64 count] w (SlIBPost 3 .i64 w (dv zs off count)) := by
  by_cases hc : (0 ≤ count ∧ count ≤ 100) ∧ (0 ≤ off ∧ off ≤ n)
  · obtain ⟨k, rfl⟩ := Int.eq_ofNat_of_zero_le hc.1.1
    exact implDvs lo hi A n cap zs off k w h hn (by omega) hc.2
  · exact implDvs_out lo hi A n cap zs off count w h hc

set_option maxRecDepth 100000 in
theorem specDvs (lo hi : Nat) (A : Option Addr) (n cap : Nat) (zs : List Int) (off : Int) (count : Nat) (w : World) (h : Rd .u8 w lo hi A n cap zs) (hn : n ≤ 134217728) (hc : count ≤ 100) (ho : 0 ≤ off ∧ off ≤ n) :
    Calls Try.prog 49 #[.slice A n cap, .int .i64 off, .int .i64 count] w (SlIBPost 3 .i64 w (dv zs off count)) := by
  obtain ⟨i0, hi0, hz0, hz1, hz2⟩ := info_parts intInfo
  have hlen := h.len
  have r1 := fun W => l1In_yes count 0 100 (by omega) W
  have r2 := fun W => l1In_yes off 0 n ho W
  have HE := Lib.hid (dv_in (zs := zs) (off := off) (count := count) (by omega))
  have HR := Lib.hid h
  have HL := Lib.hid hlen
  have HZ := Lib.hid (And.intro hi0 (And.intro hz0 (And.intro hz1 hz2)))
  clear h hlen ho hi0 hz0 hz1 hz2
  go_enter Try.func49, Try.ntmps49
  go_wp2_with (first
    | (go_at_call 54; with_reducible refine (r1 _).mono ?_; rintro e w2 ⟨rfl, rfl⟩)
    | (go_at_call 54; with_reducible refine (r2 _).mono ?_; rintro e w2 ⟨rfl, rfl⟩))
  clear r1 r2
  go_loopw [1, 9, 10] (fun o v i wr => ∃ j : Nat, i = .int .i64 j ∧ j ≤ count ∧ Dway w wr zs off count j o v) (fun _ _ i _ => count - (intOf i).toNat)
  case atStart => exact ⟨0, rfl, by omega, _, _, _, [], off, rfl, rfl, rfl, (Ow.empty 3 .i64 w).up, (Below.refl _ _).alloc (Nat.le_refl _) _, rfl⟩
  case round =>
    obtain ⟨j, rfl, hj, B, m, c, l, o, rfl, rfl, hlj, how, hb, hd⟩ := hrel
    have HO := Lib.hid how
    have HB := Lib.hid hb
    have HD := Lib.hid hd
    have HJ := Lib.hid hlj
    have hm : m ≤ 100 := by have := how.len; omega
    clear how hb hd hlj
    by_cases hjc : j < count
    · have hjc2 : (j : Int) < count := by omega
      obtain ⟨x, nx, ok, ht⟩ := split3 zs o
      have hcl := fun W hW => specRv lo hi A n cap zs o W hW hn
      rw [RvPost_eq ht] at hcl
      have HC := Lib.hid hcl
      have HT := Lib.hid ht
      clear hcl ht
      cases ok with
      | false =>
        go_wp2_with (go_at_call 67; refine (HC.out _ (HR.out.below HB.out)).mono ?_; rintro e w2 ⟨rfl, hb⟩; have HB2 := Lib.hid (HB.out.trans (hb.mono HB.out.size)); clear hb)
        go_ret3
        exact SlIBPost.no _ _ HB2.out (by rw [HE.out, HD.out, show count - j = (count - (j + 1)) + 1 by omega, dvs_no HT.out])
      | true =>
        have hx := rv_ok HR.out.wf.u8 HT.out
        have HX := Lib.hid (show (Lit.int .i64 x).wf = true from WalkArith.wf_i64 (by omega))
        clear hx
        go_wp2_with (first
          | (go_at_call 67; refine (HC.out _ (HR.out.below HB.out)).mono ?_; rintro e w2 ⟨rfl, hb⟩; have HO2 := Lib.hid (HO.out.below hb); have HB2 := Lib.hid (HB.out.trans (hb.mono HB.out.size)); clear hb HO)
          | (at_builtin; refine wpList_app _ rfl _ _ 54 rfl 3 i0 _ .i64 Try.underlying54 HZ.out.1 HZ.out.2.1 HZ.out.2.2.1 (by rw [HZ.out.2.2.2]; omega) rfl rfl rfl (HO2.out.alloc _) (Rd.one .i64 _ _ _ HX.out) (by omega) (by have := HB2.out.size; simp; omega) ?_; intro A1 cap1 w3 ho hb1; have HO3 := Lib.hid ho; have HB3 := Lib.hid (below_push HB2.out HB2.out.size hb1); clear ho hb1))
        go_roundw
        case rel => exact ⟨j + 1, by go_num, by omega, A1, m + 1, cap1, l ++ [x], nx, rfl, rfl, by simp [HJ.out], HO3.out.up, HB3.out, by rw [HD.out, show count - j = (count - (j + 1)) + 1 by omega, dvs_yes HT.out]⟩
        case measure => simp [intOf]; omega
    · obtain rfl : j = count := by omega
      have hjc2 : ¬ (j : Int) < j := by omega
      go_wp2
      go_ret3
      exact SlIBPost.mk_ _ _ HO.out HB.out (by rw [HE.out, HD.out, Nat.sub_self, dvs_zero])
theorem specDvs_out (lo hi : Nat) (A : Option Addr) (n cap : Nat) (zs : List Int) (off : Int) (count : Int) (w : World) (h : Rd .u8 w lo hi A n cap zs) (hc : ¬ ((0 ≤ count ∧ count ≤ 100) ∧ (0 ≤ off ∧ off ≤ n))) :
    Calls Try.prog 49 #[.slice A n cap, .int .i64 off, .int .i64 count] w (SlIBPost 3 .i64 w (dv zs off count)) := by
  have hlen := h.len
  have HE := Lib.hid (dv_out (zs := zs) (off := off) (count := count) (by rw [hlen]; exact hc))
  clear h hlen
  by_cases h1 : 0 ≤ count ∧ count ≤ 100
  · have r1 := fun W => l1In_yes count 0 100 h1 W
    have r2 := fun W => l1In_no off 0 n (fun h => hc ⟨h1, h⟩) W
    clear hc h1
    go_enter Try.func49, Try.ntmps49
    go_wp2_with (first
      | (go_at_call 54; with_reducible refine (r1 _).mono ?_; rintro e w2 ⟨rfl, rfl⟩)
      | (go_at_call 54; with_reducible refine (r2 _).mono ?_; rintro e w2 ⟨rfl, rfl⟩))
    go_ret3
    exact SlIBPost.no _ _ (Below.refl _ _) HE.out
  · have r1 := fun W => l1In_no count 0 100 h1 W
    clear hc h1
    go_enter Try.func49, Try.ntmps49
    go_wp2_with (go_at_call 54; with_reducible refine (r1 _).mono ?_; rintro e w2 ⟨rfl, rfl⟩)
    go_ret3
    exact SlIBPost.no _ _ (Below.refl _ _) HE.out
theorem specDv (lo hi : Nat) (A : Option Addr) (n cap : Nat) (zs : List Int) (off count : Int) (w : World) (h : Rd .u8 w lo hi A n cap zs) (hn : n ≤ 134217728) :
    Calls Try.prog 49 #[.slice A n cap, .int .i64 off, .int .i64 count] w (SlIBPost 3 .i64 w (dv zs off count)) := by
  by_cases hc : (0 ≤ count ∧ count ≤ 100) ∧ (0 ≤ off ∧ off ≤ n)
  · obtain ⟨k, rfl⟩ := Int.eq_ofNat_of_zero_le hc.1.1
    exact specDvs lo hi A n cap zs off k w h hn (by omega) hc.2
  · exact specDvs_out lo hi A n cap zs off count w h hc
end Go.Proofs.Ytalfihfielgmpaa.uvs
