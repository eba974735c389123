/- Byte strings with a length in front, program and specification. Condition: lengths up to 2^26. -/
import Derived.Test.YtpfpikfipkdjeaaUv3
namespace Go.Proofs.Ytpfpikfipkdjeaa.uvs
open Go.RowKit sl enc harn

/-- What ReadBytes hands back. -/
def rb (b : List Int) (off most : Int) : List Int × Int × Bool :=
  let t := rv b off
  if t.2.2 = true ∧ t.1 ≤ most ∧ t.1 ≤ b.length - t.2.1 then ((b.drop t.2.1.toNat).take t.1.toNat, t.2.1 + t.1, true) else ([], 0, false)
theorem rb_yes {b : List Int} {off most m nx : Int} (h : rv b off = (m, nx, true)) (h1 : m ≤ most) (h2 : m ≤ b.length - nx) : rb b off most = ((b.drop nx.toNat).take m.toNat, nx + m, true) := by
  unfold rb; rw [h]; exact if_pos ⟨rfl, h1, h2⟩
theorem rb_no {b : List Int} {off most m nx : Int} {ok : Bool} (h : rv b off = (m, nx, ok)) (h1 : ¬ (ok = true ∧ m ≤ most ∧ m ≤ b.length - nx)) : rb b off most = ([], 0, false) := by
  unfold rb; rw [h]; exact if_neg h1
/-- A slice of bytes, a number and a bool. -/
def SlIBPost (E : TypeId) (k : IntKind) (w : World) (t : List Int × Int × Bool) (e : Ending) (w' : World) : Prop :=
  ∃ A n cap, e = .returned (.tuple #[.slice A n cap, .int .i64 t.2.1, .bool t.2.2]) ∧ Ow E k w' w.heap.size w'.heap.size A n cap t.1 ∧ Below w.heap.size w w'
theorem SlIBPost.no (E : TypeId) (k : IntKind) {w w1 : World} (hb : Below w.heap.size w w1) {t : List Int × Int × Bool} (ht : t = ([], 0, false)) :
    SlIBPost E k w t (.returned (.tuple #[.slice (some ⟨w1.heap.size, 0, none⟩) 0 0, .int .i64 0, .bool false])) (w1.alloc (.cells #[] E)) := by
  subst ht
  refine ⟨_, _, _, rfl, ?_, hb.alloc hb.size _⟩
  have h := (Ow.empty E k w1).down (lo2 := w.heap.size) hb.size
  simpa using h
theorem SlIBPost.parts {E : TypeId} {k : IntKind} {w : World} {t : List Int × Int × Bool} {e : Ending} {w' : World} (h : SlIBPost E k w t e w') {l : List Int} {i : Int} {b : Bool} (ht : t = (l, i, b)) :
    ∃ A n cap, e = .returned (.tuple #[.slice A n cap, .int .i64 i, .bool b]) ∧ Ow E k w' w.heap.size w'.heap.size A n cap l ∧ Below w.heap.size w w' := by
  subst ht; exact h
theorem RvPost.parts {zs : List Int} {off m nx : Int} {ok : Bool} (ht : rv zs off = (m, nx, ok)) {w : World} {e : Ending} {w' : World} (h : RvPost zs off w e w') : e = .returned (.tuple #[.int .i64 m, .int .i64 nx, .bool ok]) ∧ Below w.heap.size w w' := by
  unfold RvPost at h; rw [ht] at h; exact h
theorem rb_len {b : List Int} {off most : Int} {l : List Int} {i : Int} {ok : Bool} (h : rb b off most = (l, i, ok)) : l.length ≤ b.length := by
  unfold rb at h
  simp only at h
  split at h
  · injection h with h _; rw [← h]; simp; omega
  · injection h with h _; rw [← h]; simp
theorem split3 (zs : List Int) (off : Int) : ∃ m nx ok, rv zs off = (m, nx, ok) := ⟨_, _, _, rfl⟩

/-- A cut of a slice, run. -/
theorem cut_run {P : Program} (t E : TypeId) (i0 : TypeInfo) (hu : P.underlying t = some (.slice (P.elem t))) (hE : P.elem t = E) (hi : P.info? E = some i0) (hs : i0.size = 1) (A : Option Addr) (n cap : Nat) (i j : Int) (h0 : 0 ≤ i) (h1 : i ≤ j) (h2 : j ≤ cap) :
    ∃ A', (i < j → A' = A.map (·.add i.toNat)) ∧ ∀ W, (Instr.slice t (.slice A n cap) (some (.int .i64 i)) (some (.int .i64 j)) none).run P W = .ok (.slice A' (j.toNat - i.toNat) (cap - i.toNat)) W := by
  refine ⟨if cap = i.toNat then A else A.map (·.add i.toNat), fun h => if_neg (by omega), fun W => ?_⟩
  rw [run_slice_lh W t A n cap hu .i64 .i64 i j h0 h1 h2, hE]
  simp [sizeOf, typeInfo, hi, hs, go_sem, sliced]

set_option maxRecDepth 100000 in
theorem implAb (lo hi : Nat) (A : Option Addr) (n cap : Nat) (zs : List Int) (lo2 hi2 : Nat) (B : Option Addr) (m c : Nat) (ys : List Int) (w : World) (h : Rd .u8 w lo hi A n cap zs) (h2 : Rd .u8 w lo2 hi2 B m c ys) (hn : n ≤ 67108864) (hm : m ≤ 67108864) :
    Calls Try.prog 21 #[.slice A n cap, .slice B m c] w (SlPost 5 .u8 w (uv zs ys.length ++ ys)) := by
  obtain ⟨i0, hi0, hz0, hz1, hz2⟩ := info_parts u8Info
  have HR := Lib.hid h
  have HS := Lib.hid h2
  have HZ := Lib.hid (And.intro hi0 (And.intro hz0 (And.intro hz1 hz2)))
  clear h h2 hi0 hz0 hz1 hz2
  go_enter Try.func21, Try.ntmps21
  go_wp2_with (first
    | (go_at_call 15; refine (implUv lo hi A n cap zs m _ HR.out (by omega)).mono ?_; rintro e w1 ⟨D, q, d, rfl, ho, hb⟩; have HO := Lib.hid ho; have HB := Lib.hid hb; (have hq : q ≤ 134217728 := by have h1 := ho.len; have h2 := uv_len zs m; have h3 := HR.out.len; omega); clear ho hb)
    | (at_builtin; refine wpList_app _ rfl _ _ 22 rfl 5 i0 _ .u8 Try.underlying22 HZ.out.1 HZ.out.2.1 HZ.out.2.2.1 (by rw [HZ.out.2.2.2]; omega) rfl rfl rfl HO.out (HS.out.below HB.out) (by omega) HB.out.size ?_; intro A1 cap1 w1 ho hb1; have HO1 := Lib.hid ho; have HB1 := Lib.hid (HB.out.trans hb1); clear ho hb1))
  go_ret
  have hl := HS.out.len
  subst hl
  exact ⟨_, _, _, rfl, HO1.out, HB1.out⟩

set_option maxRecDepth 100000 in
theorem specAb (lo hi : Nat) (A : Option Addr) (n cap : Nat) (zs : List Int) (lo2 hi2 : Nat) (B : Option Addr) (m c : Nat) (ys : List Int) (w : World) (h : Rd .u8 w lo hi A n cap zs) (h2 : Rd .u8 w lo2 hi2 B m c ys) (hn : n ≤ 67108864) (hm : m ≤ 67108864) :
    Calls Try.prog 32 #[.slice A n cap, .slice B m c] w (SlPost 5 .u8 w (uv zs ys.length ++ ys)) := by
  obtain ⟨i0, hi0, hz0, hz1, hz2⟩ := info_parts u8Info
  have HR := Lib.hid h
  have HS := Lib.hid h2
  have HZ := Lib.hid (And.intro hi0 (And.intro hz0 (And.intro hz1 hz2)))
  clear h h2 hi0 hz0 hz1 hz2
  go_enter Try.func32, Try.ntmps32
  go_wp2_with (first
    | (go_at_call 27; refine (specUv lo hi A n cap zs m _ HR.out (by omega)).mono ?_; rintro e w1 ⟨D, q, d, rfl, ho, hb⟩; have HO := Lib.hid ho; have HB := Lib.hid hb; (have hq : q ≤ 134217728 := by have h1 := ho.len; have h2 := uv_len zs m; have h3 := HR.out.len; omega); clear ho hb)
    | (at_builtin; refine wpList_app _ rfl _ _ 22 rfl 5 i0 _ .u8 Try.underlying22 HZ.out.1 HZ.out.2.1 HZ.out.2.2.1 (by rw [HZ.out.2.2.2]; omega) rfl rfl rfl HO.out (HS.out.below HB.out) (by omega) HB.out.size ?_; intro A1 cap1 w1 ho hb1; have HO1 := Lib.hid ho; have HB1 := Lib.hid (HB.out.trans hb1); clear ho hb1))
  go_ret
  have hl := HS.out.len
  subst hl
  exact ⟨_, _, _, rfl, HO1.out, HB1.out⟩

theorem RvPost_eq {zs : List Int} {off m nx : Int} {ok : Bool} (h : rv zs off = (m, nx, ok)) : RvPost zs off = fun w e w' => e = .returned (.tuple #[.int .i64 m, .int .i64 nx, .bool ok]) ∧ Below w.heap.size w w' := by
  funext w e w'
  unfold RvPost
  rw [h]; rfl

set_option maxRecDepth 100000 in
theorem implRb (lo hi : Nat) (A : Option Addr) (n cap : Nat) (zs : List Int) (off most : Int) (w : World) (h : Rd .u8 w lo hi A n cap zs) (hn : n ≤ 134217728) :
    Calls Try.prog 22 #[.slice A n cap, .int .i64 off, .int .i64 most] w (SlIBPost 5 .u8 w (rb zs off most)) := by
  obtain ⟨m, nx, ok, ht⟩ := split3 zs off
  have hc := fun W hW => implRv lo hi A n cap zs off W hW hn
  rw [RvPost_eq ht] at hc
  have HC := Lib.hid hc
  have hlen := h.len
  have HR := Lib.hid h
  have HT := Lib.hid ht
  clear h ht hc
  cases ok with
  | false =>
    have HE := Lib.hid (rb_no (most := most) HT.out (by simp))
    clear hlen
    go_enter Try.func22, Try.ntmps22
    go_wp2_with (go_at_call 16; refine (HC.out _ HR.out).mono ?_; rintro e w1 ⟨rfl, hb⟩; have HB := Lib.hid hb; clear hb)
    go_ret3
    exact SlIBPost.no _ _ HB.out HE.out
  | true =>
    have hk := rv_ok HR.out.wf.u8 HT.out
    obtain ⟨g1, g2, g3, g4, g5, g6⟩ := hk
    have hcap := HR.out.cap_
    rw [hlen] at g3
    clear g6
    by_cases h1 : m ≤ most
    · by_cases h2 : m ≤ n - nx
      · have HE := Lib.hid (rb_yes HT.out h1 (by omega))
        clear hlen
        obtain ⟨i, rfl⟩ := Int.eq_ofNat_of_zero_le (show 0 ≤ nx by omega)
        obtain ⟨q, rfl⟩ := Int.eq_ofNat_of_zero_le g4
        go_enter Try.func22, Try.ntmps22
        go_wp2_with (first
          | (go_at_call 16; refine (HC.out _ HR.out).mono ?_; rintro e w1 ⟨rfl, hb⟩; have HB := Lib.hid hb; clear hb)
          | (go_at_call 49; refine (copyPart lo hi A n cap zs i (i + q) _ (HR.out.below HB.out) (by omega) (by omega) hn).mono ?_; rintro e w2 ⟨D, d, c, rfl, ho, hb⟩; have HO := Lib.hid (ho.down (lo2 := w.heap.size) HB.out.size); have HB2 := Lib.hid (HB.out.trans (hb.mono HB.out.size)); clear ho hb))
        go_ret3
        have e1 : (rb zs off most).1 = (zs.drop i).take (i + q - i) := by rw [HE.out, Nat.add_sub_cancel_left]; simp
        have e2 : (rb zs off most).2.1 = (i : Int) + q := by rw [HE.out]
        have e3 : (rb zs off most).2.2 = true := by rw [HE.out]
        refine ⟨D, d, c, by rw [e2, e3]; rfl, ?_, HB2.out⟩
        rw [e1]; exact HO.out
      · have HE := Lib.hid (rb_no (most := most) HT.out (by rintro ⟨_, _, h⟩; omega))
        clear hlen
        go_enter Try.func22, Try.ntmps22
        go_wp2_with (go_at_call 16; refine (HC.out _ HR.out).mono ?_; rintro e w1 ⟨rfl, hb⟩; have HB := Lib.hid hb; clear hb)
        go_ret3
        exact SlIBPost.no _ _ HB.out HE.out
    · have HE := Lib.hid (rb_no (most := most) HT.out (by rintro ⟨_, h, _⟩; omega))
      clear hlen
      go_enter Try.func22, Try.ntmps22
      go_wp2_with (go_at_call 16; refine (HC.out _ HR.out).mono ?_; rintro e w1 ⟨rfl, hb⟩; have HB := Lib.hid hb; clear hb)
      go_ret3
      exact SlIBPost.no _ _ HB.out HE.out

set_option maxRecDepth 100000 in
theorem specRb (lo hi : Nat) (A : Option Addr) (n cap : Nat) (zs : List Int) (off most : Int) (w : World) (h : Rd .u8 w lo hi A n cap zs) (hn : n ≤ 134217728) :
    Calls Try.prog 33 #[.slice A n cap, .int .i64 off, .int .i64 most] w (SlIBPost 5 .u8 w (rb zs off most)) := by
  obtain ⟨m, nx, ok, ht⟩ := split3 zs off
  have hc := fun W hW => specRv lo hi A n cap zs off W hW hn
  rw [RvPost_eq ht] at hc
  have HC := Lib.hid hc
  have hlen := h.len
  have HR := Lib.hid h
  have HT := Lib.hid ht
  clear h ht hc
  cases ok with
  | false =>
    have HE := Lib.hid (rb_no (most := most) HT.out (by simp))
    clear hlen
    go_enter Try.func33, Try.ntmps33
    go_wp2_with (go_at_call 19; refine (HC.out _ HR.out).mono ?_; rintro e w1 ⟨rfl, hb⟩; have HB := Lib.hid hb; clear hb)
    go_ret3
    exact SlIBPost.no _ _ HB.out HE.out
  | true =>
    have hk := rv_ok HR.out.wf.u8 HT.out
    obtain ⟨g1, g2, g3, g4, g5, g6⟩ := hk
    have hcap := HR.out.cap_
    rw [hlen] at g3
    clear g6
    by_cases h1 : m ≤ most
    · by_cases h2 : m ≤ n - nx
      · have HE := Lib.hid (rb_yes HT.out h1 (by omega))
        clear hlen
        obtain ⟨i, rfl⟩ := Int.eq_ofNat_of_zero_le (show 0 ≤ nx by omega)
        obtain ⟨q, rfl⟩ := Int.eq_ofNat_of_zero_le g4
        obtain ⟨i0, hi0, hz0, hz1, hz2⟩ := info_parts u8Info
        obtain ⟨A', hA', hcut⟩ := cut_run (P := Try.prog) 22 5 i0 (by kernel_rfl) (by kernel_rfl) hi0 hz1 A n cap i (i + q) (by omega) (by omega) (by omega)
        rw [show ((i : Int) + q).toNat - (i : Int).toNat = q by omega, show (i : Int).toNat = i by omega] at hcut
        have CUT := Lib.hid (fun W (hW : Rd .u8 W lo hi A n cap zs) => (hW.cut i (i + q) (cap - i) A' (fun h => hA' (by omega)) (by omega) (by omega) (by omega) (by unfold maxLen; omega)))
        rw [Nat.add_sub_cancel_left] at CUT
        have HZ := Lib.hid (And.intro hi0 (And.intro hz0 (And.intro hz1 hz2)))
        clear hi0 hz0 hz1 hz2 hA'
        go_enter Try.func33, Try.ntmps33
        go_wp2_with (first
          | (go_at_call 19; refine (HC.out _ HR.out).mono ?_; rintro e w1 ⟨rfl, hb⟩; have HB := Lib.hid hb; clear hb)
          | (at_builtin; refine wpList_app _ rfl _ _ 22 rfl 5 i0 _ .u8 Try.underlying22 HZ.out.1 HZ.out.2.1 HZ.out.2.2.1 (by rw [HZ.out.2.2.2]; omega) rfl rfl rfl (Ow.empty _ _ _) (CUT.out _ (HR.out.below HB.out |>.alloc _)) (by omega) (by simp) ?_; intro D c w2 ho hb; have HO := Lib.hid (ho.down (lo2 := w.heap.size) HB.out.size); have HB2 := Lib.hid (below_push HB.out HB.out.size (hb.mono HB.out.size)); clear ho hb))
        go_ret3
        have e1 : (rb zs off most).1 = [] ++ (zs.drop i).take q := by rw [HE.out]; simp
        have e2 : (rb zs off most).2.1 = (i : Int) + q := by rw [HE.out]
        have e3 : (rb zs off most).2.2 = true := by rw [HE.out]
        refine ⟨D, 0 + q, c, by rw [Nat.zero_add]; rw [e2, e3]; rfl, ?_, HB2.out⟩
        rw [e1]; exact HO.out
      · have HE := Lib.hid (rb_no (most := most) HT.out (by rintro ⟨_, _, h⟩; omega))
        clear hlen
        go_enter Try.func33, Try.ntmps33
        go_wp2_with (go_at_call 19; refine (HC.out _ HR.out).mono ?_; rintro e w1 ⟨rfl, hb⟩; have HB := Lib.hid hb; clear hb)
        go_ret3
        exact SlIBPost.no _ _ HB.out HE.out
    · have HE := Lib.hid (rb_no (most := most) HT.out (by rintro ⟨_, h, _⟩; omega))
      clear hlen
      go_enter Try.func33, Try.ntmps33
      go_wp2_with (go_at_call 19; refine (HC.out _ HR.out).mono ?_; rintro e w1 ⟨rfl, hb⟩; have HB := Lib.hid hb; clear hb)
      go_ret3
      exact SlIBPost.no _ _ HB.out HE.out
end Go.Proofs.Ytpfpikfipkdjeaa.uvs
