/- EncodeFrame, program and specification. Condition: the body has up to 2^26 bytes. -/
import Derived.Test.YtnnlkkohbjolaaaFb2
import Derived.Test.YtnnlkkohbjolaaaFb3
import Derived.Test.YtnnlkkohbjolaaaStp
namespace Go.Proofs.Ytnnlkkohbjolaaa.fbx
open Go.RowKit sl harn rng frm crcs
set_option linter.unusedVariables false
theorem no_bytes {w w' : World} {zs : List Int} (h : zs = []) (hb : Below w.heap.size w w') : SlPost 5 .u8 w zs (.returned (.slice (some ⟨w'.heap.size, 0, none⟩) 0 0)) (w'.alloc (.cells #[] 5)) := by
  subst h
  exact ⟨_, _, _, rfl, (Ow.empty 5 .u8 w').up.down hb.size, hb.alloc hb.size _⟩
theorem nums_wf {x : Fm} (h : Vf x) : Wf .i64 (nums x) := Wf.of_i64 fun z hz => by have := nums_good h z hz; omega

set_option maxRecDepth 100000 in
set_option maxHeartbeats 4000000 in
theorem implEf (k f t s g : Int) (m r : Bool) (d : Int) (A : Option Addr) (n cap : Nat) (z : List Int) (lo hi : Nat) (w : World) (h : Rd .u8 w lo hi A n cap z) (hn : n ≤ 67108864) :
    Calls Try.prog 14 #[.agg #[.int .i64 k, .int .i64 f, .int .i64 t, .int .i64 s, .int .i64 g, .bool m, .bool r, .int .i64 d, .slice A n cap]] w (SlPost 5 .u8 w (ef ⟨k, f, t, s, g, m, r, d, z⟩)) := by
  have HL := Lib.hid h.len
  have HR := Lib.hid h
  clear h
  by_cases hv : Vf ⟨k, f, t, s, g, m, r, d, z⟩
  · obtain ⟨i0, hi0, hz0, hz1, hz2⟩ := info_parts u8Info
    have HZ := Lib.hid (And.intro hi0 (And.intro hz0 (And.intro hz1 hz2)))
    clear hi0 hz0 hz1 hz2
    have HV := Lib.hid (decide_eq_true hv)
    have HE := Lib.hid (ef_yes hv)
    have HN := Lib.hid (show n ≤ 100 by have := hv.2.2.2.2.1; rw [HL.out] at this; exact this)
    obtain ⟨NL, hNL⟩ : ∃ l, nums ⟨k, f, t, s, g, m, r, d, []⟩ = l := ⟨_, rfl⟩
    have HNL := Lib.hid hNL
    have HW := Lib.hid (show Wf .i64 (nums ⟨k, f, t, s, g, m, r, d, []⟩) from (nums_wf hv : Wf .i64 (nums ⟨k, f, t, s, g, m, r, d, z⟩)))
    have HE2 := Lib.hid (show ef ⟨k, f, t, s, g, m, r, d, z⟩ = wc (uvs.encs NL ++ z) by rw [HE.out, ← hNL]; rfl)
    have H7 := Lib.hid (show NL.length = 7 by rw [← hNL]; rfl)
    have H42 := Lib.hid (uvs.encs_len_all NL)
    clear hv hNL HE
    go_enter Try.func14, Try.ntmps14
    go_wp2_with fail
    obtain ⟨w0, hW⟩ : ∃ w0, w.alloc (.cells #[.int .i64 k, .int .i64 f, .int .i64 t, .int .i64 s, .int .i64 g, .bool m, .bool r, .int .i64 d, .slice A n cap] 25) = w0 := ⟨_, rfl⟩
    rw [hW]
    have X0 := Lib.hid (show Bx 25 w0 w.heap.size #[.int .i64 k, .int .i64 f, .int .i64 t, .int .i64 s, .int .i64 g, .bool m, .bool r, .int .i64 d, .slice A n cap] by rw [← hW]; exact Bx.made _ _ _)
    have B0 := Lib.hid (show Below w.heap.size w w0 by rw [← hW]; exact below_box _ _)
    have R0 := Lib.hid (HR.out.below B0.out)
    clear hW HR
    (with_reducible refine (implVf k f t s g m r d A n cap z HL.out _).mono ?_)
    rw [HV.out]
    rintro e w1 ⟨rfl, hb⟩
    have X1 := Lib.hid (X0.out.below hb)
    have B1 := Lib.hid (B0.out.trans (hb.mono B0.out.size))
    have R1 := Lib.hid (R0.out.below hb)
    clear hb X0 B0 R0
    go_wp2_with fail
    have X2 := Lib.hid (show Bx 25 w1.drew w.heap.size #[.int .i64 k, .int .i64 f, .int .i64 t, .int .i64 s, .int .i64 g, .bool m, .bool r, .int .i64 d, .slice A n cap] from X1.out.same rfl)
    have c0 : w1.drew.cell? ⟨w.heap.size, 0, none⟩ = some (.int .i64 k) := X2.out.cell 0
    have c1 : w1.drew.cell? ⟨w.heap.size, 1, none⟩ = some (.int .i64 f) := X2.out.cell 1
    have c2 : w1.drew.cell? ⟨w.heap.size, 2, none⟩ = some (.int .i64 t) := X2.out.cell 2
    have c3 : w1.drew.cell? ⟨w.heap.size, 3, none⟩ = some (.int .i64 s) := X2.out.cell 3
    have c4 : w1.drew.cell? ⟨w.heap.size, 4, none⟩ = some (.int .i64 g) := X2.out.cell 4
    have c5 : w1.drew.cell? ⟨w.heap.size, 5, none⟩ = some (.bool m) := X2.out.cell 5
    have c6 : w1.drew.cell? ⟨w.heap.size, 6, none⟩ = some (.bool r) := X2.out.cell 6
    have c7 : w1.drew.cell? ⟨w.heap.size, 7, none⟩ = some (.int .i64 d) := X2.out.cell 7
    have c8 : w1.drew.cell? ⟨w.heap.size, 8, none⟩ = some (.slice A n cap) := X2.out.cell 8
    have B2 := Lib.hid (own.below_drew B1.out)
    have R2 := Lib.hid (own.rd_drew R1.out)
    go_region_held3 (fun w' => w'.cell? ⟨w.heap.size, 0, none⟩ = some (.int .i64 k) ∧ w'.cell? ⟨w.heap.size, 1, none⟩ = some (.int .i64 f) ∧ w'.cell? ⟨w.heap.size, 2, none⟩ = some (.int .i64 t) ∧ w'.cell? ⟨w.heap.size, 3, none⟩ = some (.int .i64 s) ∧ w'.cell? ⟨w.heap.size, 4, none⟩ = some (.int .i64 g) ∧ w'.cell? ⟨w.heap.size, 5, none⟩ = some (.bool m) ∧ w'.cell? ⟨w.heap.size, 6, none⟩ = some (.bool r) ∧ w'.cell? ⟨w.heap.size, 7, none⟩ = some (.int .i64 d) ∧ w'.cell? ⟨w.heap.size, 8, none⟩ = some (.slice A n cap)) (first | exact ⟨c0, c1, c2, c3, c4, c5, c6, c7, c8⟩ | exact ⟨d0, d1, d2, d3, d4, d5, d6, d7, d8⟩ | exact ⟨e0, e1, e2, e3, e4, e5, e6, e7, e8⟩ | exact ⟨p0, p1, p2, p3, p4, p5, p6, p7, p8⟩ | exact ⟨q0, q1, q2, q3, q4, q5, q6, q7, q8⟩)
      (first
      | (go_at_call 50; refine (implNums k f t s g m r d A n cap _ HW.out).mono ?_; rw [HNL.out]; rintro e w3 ⟨A3, n3, cap3, rfl, ho, hb⟩; have X3 := Lib.hid (X2.out.below hb); have B3 := Lib.hid (B2.out.trans (hb.mono B2.out.size)); have R3 := Lib.hid (R2.out.below hb); have O3 := Lib.hid ho; have Z3 := Lib.hid hb.size; have d0 : w3.cell? ⟨w.heap.size, 0, none⟩ = some (.int .i64 k) := X3.out.cell 0; have d1 : w3.cell? ⟨w.heap.size, 1, none⟩ = some (.int .i64 f) := X3.out.cell 1; have d2 : w3.cell? ⟨w.heap.size, 2, none⟩ = some (.int .i64 t) := X3.out.cell 2; have d3 : w3.cell? ⟨w.heap.size, 3, none⟩ = some (.int .i64 s) := X3.out.cell 3; have d4 : w3.cell? ⟨w.heap.size, 4, none⟩ = some (.int .i64 g) := X3.out.cell 4; have d5 : w3.cell? ⟨w.heap.size, 5, none⟩ = some (.bool m) := X3.out.cell 5; have d6 : w3.cell? ⟨w.heap.size, 6, none⟩ = some (.bool r) := X3.out.cell 6; have d7 : w3.cell? ⟨w.heap.size, 7, none⟩ = some (.int .i64 d) := X3.out.cell 7; have d8 : w3.cell? ⟨w.heap.size, 8, none⟩ = some (.slice A n cap) := X3.out.cell 8; clear ho hb)
      | (go_at_call 49; refine (uvs.implEncs _ _ A3 n3 cap3 NL _ O3.out.rd (by have h1 := O3.out.len; have h2 := H7.out; omega)).mono ?_; rintro e w4 ⟨A4, n4, cap4, rfl, ho, hb⟩; have X4 := Lib.hid (X3.out.below hb); have B4 := Lib.hid (B3.out.trans (hb.mono B3.out.size)); have R4 := Lib.hid (R3.out.below hb); have O4 := Lib.hid ho; have Z4 := Lib.hid hb.size; have e0 : w4.cell? ⟨w.heap.size, 0, none⟩ = some (.int .i64 k) := X4.out.cell 0; have e1 : w4.cell? ⟨w.heap.size, 1, none⟩ = some (.int .i64 f) := X4.out.cell 1; have e2 : w4.cell? ⟨w.heap.size, 2, none⟩ = some (.int .i64 t) := X4.out.cell 2; have e3 : w4.cell? ⟨w.heap.size, 3, none⟩ = some (.int .i64 s) := X4.out.cell 3; have e4 : w4.cell? ⟨w.heap.size, 4, none⟩ = some (.int .i64 g) := X4.out.cell 4; have e5 : w4.cell? ⟨w.heap.size, 5, none⟩ = some (.bool m) := X4.out.cell 5; have e6 : w4.cell? ⟨w.heap.size, 6, none⟩ = some (.bool r) := X4.out.cell 6; have e7 : w4.cell? ⟨w.heap.size, 7, none⟩ = some (.int .i64 d) := X4.out.cell 7; have e8 : w4.cell? ⟨w.heap.size, 8, none⟩ = some (.slice A n cap) := X4.out.cell 8; clear ho hb)
      | (go_at_call 48; refine (crcs.implAppend (uvs.encs NL ++ z) _ _ A5 (n4 + n) cap5 _ O5.out.rd (by have h1 := O4.out.len; have h2 := H7.out; have h3 := H42.out; have h4 := HN.out; omega)).mono ?_; rintro e w6 ⟨A6, n6, cap6, rfl, ho, hb⟩; have O6 := Lib.hid (ho.down B5.out.size); have B6 := Lib.hid (B5.out.trans (hb.mono B5.out.size)); have X6 := Lib.hid (X5.out.below hb); have q0 : w6.cell? ⟨w.heap.size, 0, none⟩ = some (.int .i64 k) := X6.out.cell 0; have q1 : w6.cell? ⟨w.heap.size, 1, none⟩ = some (.int .i64 f) := X6.out.cell 1; have q2 : w6.cell? ⟨w.heap.size, 2, none⟩ = some (.int .i64 t) := X6.out.cell 2; have q3 : w6.cell? ⟨w.heap.size, 3, none⟩ = some (.int .i64 s) := X6.out.cell 3; have q4 : w6.cell? ⟨w.heap.size, 4, none⟩ = some (.int .i64 g) := X6.out.cell 4; have q5 : w6.cell? ⟨w.heap.size, 5, none⟩ = some (.bool m) := X6.out.cell 5; have q6 : w6.cell? ⟨w.heap.size, 6, none⟩ = some (.bool r) := X6.out.cell 6; have q7 : w6.cell? ⟨w.heap.size, 7, none⟩ = some (.int .i64 d) := X6.out.cell 7; have q8 : w6.cell? ⟨w.heap.size, 8, none⟩ = some (.slice A n cap) := X6.out.cell 8; clear ho hb)
      | (refine stp.step_app rfl _ _ 22 rfl 5 i0 _ .u8 Try.underlying22 HZ.out.1 HZ.out.2.1 HZ.out.2.2.1 (by rw [HZ.out.2.2.2]; omega) rfl rfl rfl O4.out R4.out (by have h1 := O4.out.len; have h2 := H7.out; have h3 := H42.out; have h4 := HN.out; omega) Z4.out ?_; intro A5 cap5 w5 ho5 hb5; have O5 := Lib.hid ho5; have B5 := Lib.hid (B4.out.trans (hb5.mono B3.out.size)); have X5 := Lib.hid (X4.out.up hb5 X3.out.lt); have p0 : w5.cell? ⟨w.heap.size, 0, none⟩ = some (.int .i64 k) := X5.out.cell 0; have p1 : w5.cell? ⟨w.heap.size, 1, none⟩ = some (.int .i64 f) := X5.out.cell 1; have p2 : w5.cell? ⟨w.heap.size, 2, none⟩ = some (.int .i64 t) := X5.out.cell 2; have p3 : w5.cell? ⟨w.heap.size, 3, none⟩ = some (.int .i64 s) := X5.out.cell 3; have p4 : w5.cell? ⟨w.heap.size, 4, none⟩ = some (.int .i64 g) := X5.out.cell 4; have p5 : w5.cell? ⟨w.heap.size, 5, none⟩ = some (.bool m) := X5.out.cell 5; have p6 : w5.cell? ⟨w.heap.size, 6, none⟩ = some (.bool r) := X5.out.cell 6; have p7 : w5.cell? ⟨w.heap.size, 7, none⟩ = some (.int .i64 d) := X5.out.cell 7; have p8 : w5.cell? ⟨w.heap.size, 8, none⟩ = some (.slice A n cap) := X5.out.cell 8; clear ho5 hb5))
    go_wp2_with fail
    go_ret
    rw [HE2.out]
    exact ⟨_, _, _, rfl, O6.out, B6.out⟩
  · have HV := Lib.hid (decide_eq_false hv)
    have HE := Lib.hid (ef_no hv)
    clear hv
    go_enter Try.func14, Try.ntmps14
    go_wp2_with fail
    obtain ⟨w0, hW⟩ : ∃ w0, w.alloc (.cells #[.int .i64 k, .int .i64 f, .int .i64 t, .int .i64 s, .int .i64 g, .bool m, .bool r, .int .i64 d, .slice A n cap] 25) = w0 := ⟨_, rfl⟩
    rw [hW]
    have X0 := Lib.hid (show Bx 25 w0 w.heap.size #[.int .i64 k, .int .i64 f, .int .i64 t, .int .i64 s, .int .i64 g, .bool m, .bool r, .int .i64 d, .slice A n cap] by rw [← hW]; exact Bx.made _ _ _)
    have B0 := Lib.hid (show Below w.heap.size w w0 by rw [← hW]; exact below_box _ _)
    have R0 := Lib.hid (HR.out.below B0.out)
    clear hW HR
    (with_reducible refine (implVf k f t s g m r d A n cap z HL.out _).mono ?_)
    rw [HV.out]
    rintro e w1 ⟨rfl, hb⟩
    have X1 := Lib.hid (X0.out.below hb)
    have B1 := Lib.hid (B0.out.trans (hb.mono B0.out.size))
    have R1 := Lib.hid (R0.out.below hb)
    clear hb X0 B0 R0
    go_wp2_with fail
    go_ret
    exact no_bytes HE.out B1.out
set_option maxRecDepth 100000 in
set_option maxHeartbeats 4000000 in
theorem specEf (k f t s g : Int) (m r : Bool) (d : Int) (A : Option Addr) (n cap : Nat) (z : List Int) (lo hi : Nat) (w : World) (h : Rd .u8 w lo hi A n cap z) (hn : n ≤ 67108864) :
    Calls Try.prog 26 #[.agg #[.int .i64 k, .int .i64 f, .int .i64 t, .int .i64 s, .int .i64 g, .bool m, .bool r, .int .i64 d, .slice A n cap]] w (SlPost 5 .u8 w (ef ⟨k, f, t, s, g, m, r, d, z⟩)) := by
  have HL := Lib.hid h.len
  have HR := Lib.hid h
  clear h
  by_cases hv : Vf ⟨k, f, t, s, g, m, r, d, z⟩
  · obtain ⟨i0, hi0, hz0, hz1, hz2⟩ := info_parts u8Info
    have HZ := Lib.hid (And.intro hi0 (And.intro hz0 (And.intro hz1 hz2)))
    clear hi0 hz0 hz1 hz2
    have HV := Lib.hid (decide_eq_true hv)
    have HE := Lib.hid (ef_yes hv)
    have HN := Lib.hid (show n ≤ 100 by have := hv.2.2.2.2.1; rw [HL.out] at this; exact this)
    obtain ⟨q, hq⟩ : ∃ q, fl m r = q := ⟨_, rfl⟩
    have HQ := Lib.hid hq
    have HW := Lib.hid (show Wf .i64 [k, f, t, s, g, q, d] by rw [← hq]; exact (nums_wf hv : Wf .i64 (nums ⟨k, f, t, s, g, m, r, d, z⟩)))
    have HE2 := Lib.hid (show ef ⟨k, f, t, s, g, m, r, d, z⟩ = wc (uvs.encs [k, f, t, s, g, q, d] ++ z) by rw [HE.out, ← hq]; rfl)
    have H42 := Lib.hid (uvs.encs_len_all [k, f, t, s, g, q, d])
    clear hv hq HE
    go_enter Try.func26, Try.ntmps26
    go_wp2_with fail
    obtain ⟨w0, hW⟩ : ∃ w0, w.alloc (.cells #[.int .i64 k, .int .i64 f, .int .i64 t, .int .i64 s, .int .i64 g, .bool m, .bool r, .int .i64 d, .slice A n cap] 25) = w0 := ⟨_, rfl⟩
    rw [hW]
    have X0 := Lib.hid (show Bx 25 w0 w.heap.size #[.int .i64 k, .int .i64 f, .int .i64 t, .int .i64 s, .int .i64 g, .bool m, .bool r, .int .i64 d, .slice A n cap] by rw [← hW]; exact Bx.made _ _ _)
    have B0 := Lib.hid (show Below w.heap.size w w0 by rw [← hW]; exact below_box _ _)
    have R0 := Lib.hid (HR.out.below B0.out)
    clear hW HR
    (with_reducible refine (specVf k f t s g m r d A n cap z HL.out _).mono ?_)
    rw [HV.out]
    rintro e w1 ⟨rfl, hb⟩
    have X1 := Lib.hid (X0.out.below hb)
    have B1 := Lib.hid (B0.out.trans (hb.mono B0.out.size))
    have R1 := Lib.hid (R0.out.below hb)
    clear hb X0 B0 R0
    go_wp2_with fail
    have X2 := Lib.hid (show Bx 25 w1.drew w.heap.size #[.int .i64 k, .int .i64 f, .int .i64 t, .int .i64 s, .int .i64 g, .bool m, .bool r, .int .i64 d, .slice A n cap] from X1.out.same rfl)
    have c0 : w1.drew.cell? ⟨w.heap.size, 0, none⟩ = some (.int .i64 k) := X2.out.cell 0
    have c1 : w1.drew.cell? ⟨w.heap.size, 1, none⟩ = some (.int .i64 f) := X2.out.cell 1
    have c2 : w1.drew.cell? ⟨w.heap.size, 2, none⟩ = some (.int .i64 t) := X2.out.cell 2
    have c3 : w1.drew.cell? ⟨w.heap.size, 3, none⟩ = some (.int .i64 s) := X2.out.cell 3
    have c4 : w1.drew.cell? ⟨w.heap.size, 4, none⟩ = some (.int .i64 g) := X2.out.cell 4
    have c5 : w1.drew.cell? ⟨w.heap.size, 5, none⟩ = some (.bool m) := X2.out.cell 5
    have c6 : w1.drew.cell? ⟨w.heap.size, 6, none⟩ = some (.bool r) := X2.out.cell 6
    have c7 : w1.drew.cell? ⟨w.heap.size, 7, none⟩ = some (.int .i64 d) := X2.out.cell 7
    have c8 : w1.drew.cell? ⟨w.heap.size, 8, none⟩ = some (.slice A n cap) := X2.out.cell 8
    have B2 := Lib.hid (own.below_drew B1.out)
    have R2 := Lib.hid (own.rd_drew R1.out)
    go_region_held3 (fun w' => w'.cell? ⟨w.heap.size, 0, none⟩ = some (.int .i64 k) ∧ w'.cell? ⟨w.heap.size, 1, none⟩ = some (.int .i64 f) ∧ w'.cell? ⟨w.heap.size, 2, none⟩ = some (.int .i64 t) ∧ w'.cell? ⟨w.heap.size, 3, none⟩ = some (.int .i64 s) ∧ w'.cell? ⟨w.heap.size, 4, none⟩ = some (.int .i64 g) ∧ w'.cell? ⟨w.heap.size, 5, none⟩ = some (.bool m) ∧ w'.cell? ⟨w.heap.size, 6, none⟩ = some (.bool r) ∧ w'.cell? ⟨w.heap.size, 7, none⟩ = some (.int .i64 d) ∧ w'.cell? ⟨w.heap.size, 8, none⟩ = some (.slice A n cap)) (first | exact ⟨c0, c1, c2, c3, c4, c5, c6, c7, c8⟩ | exact ⟨d0, d1, d2, d3, d4, d5, d6, d7, d8⟩ | exact ⟨a0 _, a1 _, a2 _, a3 _, a4 _, a5 _, a6 _, a7 _, a8 _⟩ | exact ⟨e0, e1, e2, e3, e4, e5, e6, e7, e8⟩)
      (first
      | (go_at_call 67; refine (specFl k f t s g m r d A n cap _).mono ?_; rw [HQ.out]; rintro e w3 ⟨rfl, hb⟩; have X3 := Lib.hid (X2.out.below hb); have B3 := Lib.hid (B2.out.trans (hb.mono B2.out.size)); have R3 := Lib.hid (R2.out.below hb); have XA := Lib.hid (fun (o : Obj) => X3.out.below (below_box w3 o)); have d0 : w3.cell? ⟨w.heap.size, 0, none⟩ = some (.int .i64 k) := X3.out.cell 0; have d1 : w3.cell? ⟨w.heap.size, 1, none⟩ = some (.int .i64 f) := X3.out.cell 1; have d2 : w3.cell? ⟨w.heap.size, 2, none⟩ = some (.int .i64 t) := X3.out.cell 2; have d3 : w3.cell? ⟨w.heap.size, 3, none⟩ = some (.int .i64 s) := X3.out.cell 3; have d4 : w3.cell? ⟨w.heap.size, 4, none⟩ = some (.int .i64 g) := X3.out.cell 4; have d5 : w3.cell? ⟨w.heap.size, 5, none⟩ = some (.bool m) := X3.out.cell 5; have d6 : w3.cell? ⟨w.heap.size, 6, none⟩ = some (.bool r) := X3.out.cell 6; have d7 : w3.cell? ⟨w.heap.size, 7, none⟩ = some (.int .i64 d) := X3.out.cell 7; have d8 : w3.cell? ⟨w.heap.size, 8, none⟩ = some (.slice A n cap) := X3.out.cell 8; have a0 := fun o => (XA.out o).cell 0; have a1 := fun o => (XA.out o).cell 1; have a2 := fun o => (XA.out o).cell 2; have a3 := fun o => (XA.out o).cell 3; have a4 := fun o => (XA.out o).cell 4; have a5 := fun o => (XA.out o).cell 5; have a6 := fun o => (XA.out o).cell 6; have a7 := fun o => (XA.out o).cell 7; have a8 := fun o => (XA.out o).cell 8; clear hb)
      | (go_at_call 46; refine (uvs.specEncs _ _ (some ⟨w3.heap.size, 0, none⟩) 7 7 [k, f, t, s, g, q, d] _ (Ow.lit (k := .i64) (E := 3) (n := 7) w3 #[.int .i64 k, .int .i64 f, .int .i64 t, .int .i64 s, .int .i64 g, .int .i64 q, .int .i64 d] [k, f, t, s, g, q, d] rfl HW.out (by simp [maxLen]) rfl).rd (by omega)).mono ?_; rintro e w4 ⟨A4, n4, cap4, rfl, ho, hb⟩; have X4 := Lib.hid ((XA.out _).below hb); have B4 := Lib.hid ((B3.out.alloc B3.out.size (.cells #[.int .i64 k, .int .i64 f, .int .i64 t, .int .i64 s, .int .i64 g, .int .i64 q, .int .i64 d] 3)).trans (hb.mono (by have h1 := B3.out.size; simp; omega))); have R4 := Lib.hid ((R3.out.alloc (.cells #[.int .i64 k, .int .i64 f, .int .i64 t, .int .i64 s, .int .i64 g, .int .i64 q, .int .i64 d] 3)).below hb); have O4 := Lib.hid ho; have Z4 := Lib.hid hb.size; have Y4 := Lib.hid (show w.heap.size < (w3.alloc (.cells #[.int .i64 k, .int .i64 f, .int .i64 t, .int .i64 s, .int .i64 g, .int .i64 q, .int .i64 d] 3)).heap.size from (XA.out _).lt); have e0 : w4.cell? ⟨w.heap.size, 0, none⟩ = some (.int .i64 k) := X4.out.cell 0; have e1 : w4.cell? ⟨w.heap.size, 1, none⟩ = some (.int .i64 f) := X4.out.cell 1; have e2 : w4.cell? ⟨w.heap.size, 2, none⟩ = some (.int .i64 t) := X4.out.cell 2; have e3 : w4.cell? ⟨w.heap.size, 3, none⟩ = some (.int .i64 s) := X4.out.cell 3; have e4 : w4.cell? ⟨w.heap.size, 4, none⟩ = some (.int .i64 g) := X4.out.cell 4; have e5 : w4.cell? ⟨w.heap.size, 5, none⟩ = some (.bool m) := X4.out.cell 5; have e6 : w4.cell? ⟨w.heap.size, 6, none⟩ = some (.bool r) := X4.out.cell 6; have e7 : w4.cell? ⟨w.heap.size, 7, none⟩ = some (.int .i64 d) := X4.out.cell 7; have e8 : w4.cell? ⟨w.heap.size, 8, none⟩ = some (.slice A n cap) := X4.out.cell 8; clear ho hb))
    clear c0 c1 c2 c3 c4 c5 c6 c7 c8
    go_wp2_with (first | (at_builtin; refine wpList_app _ rfl _ _ 22 rfl 5 i0 _ .u8 Try.underlying22 HZ.out.1 HZ.out.2.1 HZ.out.2.2.1 (by rw [HZ.out.2.2.2]; omega) rfl rfl rfl O4.out R4.out (by have h1 := O4.out.len; have h3 := H42.out; have h4 := HN.out; simp at h3; omega) Z4.out ?_; intro A5 cap5 w5 ho5 hb5; have O5 := Lib.hid ho5; have B5 := Lib.hid (B4.out.trans (hb5.mono (Nat.le_of_lt Y4.out))); clear ho5 hb5) | (go_at_call 45; refine (crcs.specAppend (uvs.encs [k, f, t, s, g, q, d] ++ z) _ _ A5 (n4 + n) cap5 _ O5.out.rd (by have h1 := O4.out.len; have h3 := H42.out; have h4 := HN.out; simp at h3; omega)).mono ?_; rintro e w6 ⟨A6, n6, cap6, rfl, ho, hb⟩; have O6 := Lib.hid (ho.down B5.out.size); have B6 := Lib.hid (B5.out.trans (hb.mono B5.out.size)); clear ho hb))
    go_ret
    rw [HE2.out]
    exact ⟨_, _, _, rfl, O6.out, B6.out⟩
  · have HV := Lib.hid (decide_eq_false hv)
    have HE := Lib.hid (ef_no hv)
    clear hv
    go_enter Try.func26, Try.ntmps26
    go_wp2_with fail
    obtain ⟨w0, hW⟩ : ∃ w0, w.alloc (.cells #[.int .i64 k, .int .i64 f, .int .i64 t, .int .i64 s, .int .i64 g, .bool m, .bool r, .int .i64 d, .slice A n cap] 25) = w0 := ⟨_, rfl⟩
    rw [hW]
    have X0 := Lib.hid (show Bx 25 w0 w.heap.size #[.int .i64 k, .int .i64 f, .int .i64 t, .int .i64 s, .int .i64 g, .bool m, .bool r, .int .i64 d, .slice A n cap] by rw [← hW]; exact Bx.made _ _ _)
    have B0 := Lib.hid (show Below w.heap.size w w0 by rw [← hW]; exact below_box _ _)
    have R0 := Lib.hid (HR.out.below B0.out)
    clear hW HR
    (with_reducible refine (specVf k f t s g m r d A n cap z HL.out _).mono ?_)
    rw [HV.out]
    rintro e w1 ⟨rfl, hb⟩
    have X1 := Lib.hid (X0.out.below hb)
    have B1 := Lib.hid (B0.out.trans (hb.mono B0.out.size))
    have R1 := Lib.hid (R0.out.below hb)
    clear hb X0 B0 R0
    go_wp2_with fail
    go_ret
    exact no_bytes HE.out B1.out
end Go.Proofs.Ytnnlkkohbjolaaa.fbx
