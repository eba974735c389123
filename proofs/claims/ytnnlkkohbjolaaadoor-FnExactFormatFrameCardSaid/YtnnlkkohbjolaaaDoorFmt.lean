/- FormatFrame, program and specification: the same words in the same order. Conditions: the numbers are 64-bit integers; of the program's own one, that the table of powers of ten reads as laid. -/
import Derived.Test.YtnnlkkohbjolaaaDoorFbx
import Derived.Test.YtnnlkkohbjolaaaDoorForm
import Derived.Test.YtnnlkkohbjolaaaDoorFacts
import Derived.Deep.RegionHeld3
namespace Go.Proofs.YtnnlkkohbjolaaaDoor.fmt
open Go.RowKit sl harn rng frm fbx nums
open Go.Lib (itoa)
set_option linter.unusedVariables false

/-- The name of a kind. -/
def knm (k : Int) : ByteArray := if k = 1 then ⟨#[100, 97, 116, 97]⟩ else if k = 2 then ⟨#[97, 99, 107]⟩ else if k = 3 then ⟨#[114, 101, 113, 117, 101, 115, 116]⟩ else if k = 4 then ⟨#[103, 114, 97, 110, 116]⟩ else if k = 5 then ⟨#[98, 101, 97, 99, 111, 110]⟩ else if k = 6 then ⟨#[109, 97, 110, 97, 103, 101, 109, 101, 110, 116]⟩ else if k = 7 then ⟨#[112, 111, 108, 108]⟩ else ⟨#[63]⟩
/-- A number's numeral. -/
def num_ (n : Int) : ByteArray := ⟨(itoa n).toArray⟩
def rcv (t : Int) : ByteArray := if t = 63 then ⟨#[42]⟩ else num_ t
def fs0 (N F R S G : ByteArray) : ByteArray := N ++ ⟨#[32]⟩ ++ F ++ ⟨#[62]⟩ ++ R ++ ⟨#[35]⟩ ++ S ++ ⟨#[46]⟩ ++ G
def fs1 (b : ByteArray) (m r : Bool) : ByteArray := if r = true then (if m = true then b ++ ⟨#[43]⟩ else b) ++ ⟨#[33]⟩ else (if m = true then b ++ ⟨#[43]⟩ else b)
def fst_ (k f t s g : Int) (m r : Bool) : ByteArray := fs1 (fs0 (knm k) (num_ f) (rcv t) (num_ s) (num_ g)) m r
theorem itoa_size {n : Int} (h0 : -9223372036854775808 ≤ n) (h1 : n ≤ 9223372036854775807) : (itoa n).length ≤ 21 := by
  rcases Int.lt_trichotomy n 0 with h | rfl | h
  · rw [itoa_neg h, List.length_cons]; have := digs_length n.natAbs (by omega); omega
  · rw [itoa_zero]; simp
  · rw [itoa_pos h]; have := digs_length n.natAbs (by omega); omega
theorem num_size {n : Int} (h : -9223372036854775808 ≤ n ∧ n ≤ 9223372036854775807) : (num_ n).size ≤ 21 := by
  show (itoa n).toArray.size ≤ 21
  have := itoa_size h.1 h.2
  simpa using this
theorem rcv_size {n : Int} (h : -9223372036854775808 ≤ n ∧ n ≤ 9223372036854775807) : (rcv n).size ≤ 21 := by
  unfold rcv
  split
  · show 1 ≤ 21; omega
  · exact num_size h
theorem knm_size (k : Int) : (knm k).size ≤ 10 := by
  unfold knm
  repeat' split
  all_goals decide

set_option maxRecDepth 100000 in
set_option maxHeartbeats 4000000 in
theorem implKn (k : Int) (w : World) :
    Calls Tryd.prog 14 #[.int .i64 k] w fun e w' => e = .returned (.string (knm k)) ∧ Below w.heap.size w w' := by
  by_cases hk : 1 ≤ k ∧ k ≤ 7
  · have H := Lib.hid (decide_eq_true hk)
    have hk : k = 1 ∨ k = 2 ∨ k = 3 ∨ k = 4 ∨ k = 5 ∨ k = 6 ∨ k = 7 := by omega
    rcases hk with rfl | rfl | rfl | rfl | rfl | rfl | rfl
    all_goals
      go_enter Tryd.func14, Tryd.ntmps14
      go_wp2_with fail
      (with_reducible refine (isKind _ _ _ H.out).mono ?_)
      rintro e w1 ⟨rfl, rfl⟩
      go_wp2_with fail
      go_ret
      exact ⟨rfl, below_box _ _⟩
  · have H := Lib.hid (decide_eq_false hk)
    have E := Lib.hid (show knm k = ⟨#[63]⟩ by unfold knm; repeat' (first | rw [if_neg (by omega)] | skip))
    clear hk
    go_enter Tryd.func14, Tryd.ntmps14
    go_wp2_with fail
    (with_reducible refine (isKind _ _ _ H.out).mono ?_)
    rintro e w1 ⟨rfl, rfl⟩
    go_wp2_with fail
    go_ret
    rw [E.out]
    exact ⟨rfl, Below.refl _ _⟩
theorem specFI (n : Int) (h : -9223372036854775808 ≤ n ∧ n ≤ 9223372036854775807) (w : World) :
    Calls Tryd.prog 11 #[.int .i64 n] w fun e w' => e = .returned (.string (num_ n)) ∧ Below w.heap.size w w' := form.specFormat n h.1 h.2 w
theorem implFI (n : Int) (h : -9223372036854775808 ≤ n ∧ n ≤ 9223372036854775807) (w : World) (ht : facts.Tab w) :
    Calls Tryd.prog 13 #[.int .i64 n] w fun e w' => e = .returned (.string (num_ n)) ∧ Below w.heap.size w w' := form.implFormat n h.1 h.2 w ht
set_option maxRecDepth 100000 in
set_option maxHeartbeats 4000000 in
theorem specFmt (k f t s g : Int) (m r : Bool) (d : Int) (A : Option Addr) (n cap : Nat) (w : World) (hf : -9223372036854775808 ≤ f ∧ f ≤ 9223372036854775807) (ht : -9223372036854775808 ≤ t ∧ t ≤ 9223372036854775807) (hs : -9223372036854775808 ≤ s ∧ s ≤ 9223372036854775807) (hg : -9223372036854775808 ≤ g ∧ g ≤ 9223372036854775807) :
    Calls Tryd.prog 5 #[.agg #[.int .i64 k, .int .i64 f, .int .i64 t, .int .i64 s, .int .i64 g, .bool m, .bool r, .int .i64 d, .slice A n cap]] w fun e w' => e = .returned (.string (fst_ k f t s g m r)) ∧ Below w.heap.size w w' := by
  have Hf := Lib.hid hf
  have Ht := Lib.hid ht
  have Hs := Lib.hid hs
  have Hg := Lib.hid hg
  obtain ⟨N, hN⟩ : ∃ x, knm k = x := ⟨_, rfl⟩
  obtain ⟨F, hF⟩ : ∃ x, num_ f = x := ⟨_, rfl⟩
  obtain ⟨S, hS⟩ : ∃ x, num_ s = x := ⟨_, rfl⟩
  obtain ⟨G, hG⟩ : ∃ x, num_ g = x := ⟨_, rfl⟩
  obtain ⟨NT, hNT⟩ : ∃ x, num_ t = x := ⟨_, rfl⟩
  obtain ⟨R, hR⟩ : ∃ x, rcv t = x := ⟨_, rfl⟩
  have VN := Lib.hid hN
  have VF := Lib.hid hF
  have VS := Lib.hid hS
  have VG := Lib.hid hG
  have VT := Lib.hid hNT
  have VR := Lib.hid hR
  have z1 := knm_size k
  have z2 := num_size hf
  have z3 := num_size hs
  have z4 := num_size hg
  have z5 := rcv_size ht
  rw [hN] at z1
  rw [hF] at z2
  rw [hS] at z3
  rw [hG] at z4
  rw [hR] at z5
  have q0 : ¬ (9223372036854775807 < N.size + 1) := by omega
  have q1 : ¬ (9223372036854775807 < N.size + 1 + F.size) := by omega
  have q2 : ¬ (9223372036854775807 < N.size + 1 + F.size + 1) := by omega
  have q3 : ¬ (9223372036854775807 < N.size + 1 + F.size + 1 + R.size) := by omega
  have q4 : ¬ (9223372036854775807 < N.size + 1 + F.size + 1 + R.size + 1) := by omega
  have q5 : ¬ (9223372036854775807 < N.size + 1 + F.size + 1 + R.size + 1 + S.size) := by omega
  have q6 : ¬ (9223372036854775807 < N.size + 1 + F.size + 1 + R.size + 1 + S.size + 1) := by omega
  have q7 : ¬ (9223372036854775807 < N.size + 1 + F.size + 1 + R.size + 1 + S.size + 1 + G.size) := by omega
  have q8 : ¬ (9223372036854775807 < N.size + 1 + F.size + 1 + R.size + 1 + S.size + 1 + G.size + 1) := by omega
  have q9 : ¬ (9223372036854775807 < N.size + 1 + F.size + 1 + R.size + 1 + S.size + 1 + G.size + 1 + 1) := by omega
  have HE := Lib.hid (show Ending.returned (.string (fs1 (fs0 N F R S G) m r)) = .returned (.string (fst_ k f t s g m r)) by rw [← hN, ← hF, ← hS, ← hG, ← hR]; rfl)
  clear z1 z2 z3 z4 z5 hN hF hS hG hR hNT hf ht hs hg
  by_cases hk : 1 ≤ k ∧ k ≤ 7
  · obtain ⟨kk, rfl⟩ := Int.eq_ofNat_of_zero_le (show 0 ≤ k by omega)
    have H := Lib.hid (decide_eq_true hk)
    have i1 : (kk : Int) < 8 := by omega
    have hc : ((w.alloc (.cells #[.int .i64 (kk : Int), .int .i64 f, .int .i64 t, .int .i64 s, .int .i64 g, .bool m, .bool r, .int .i64 d, .slice A n cap] 27)).alloc (.cells #[.string ⟨#[]⟩, .string ⟨#[100, 97, 116, 97]⟩, .string ⟨#[97, 99, 107]⟩, .string ⟨#[114, 101, 113, 117, 101, 115, 116]⟩, .string ⟨#[103, 114, 97, 110, 116]⟩, .string ⟨#[98, 101, 97, 99, 111, 110]⟩, .string ⟨#[109, 97, 110, 97, 103, 101, 109, 101, 110, 116]⟩, .string ⟨#[112, 111, 108, 108]⟩] 9)).cell? ⟨w.heap.size + 1, kk, none⟩ = some (.string N) := by
      have hx := (Bx.made 9 (w.alloc (.cells #[.int .i64 (kk : Int), .int .i64 f, .int .i64 t, .int .i64 s, .int .i64 g, .bool m, .bool r, .int .i64 d, .slice A n cap] 27)) #[.string ⟨#[]⟩, .string ⟨#[100, 97, 116, 97]⟩, .string ⟨#[97, 99, 107]⟩, .string ⟨#[114, 101, 113, 117, 101, 115, 116]⟩, .string ⟨#[103, 114, 97, 110, 116]⟩, .string ⟨#[98, 101, 97, 99, 111, 110]⟩, .string ⟨#[109, 97, 110, 97, 103, 101, 109, 101, 110, 116]⟩, .string ⟨#[112, 111, 108, 108]⟩]).cell kk
      rw [show (w.alloc (.cells #[.int .i64 (kk : Int), .int .i64 f, .int .i64 t, .int .i64 s, .int .i64 g, .bool m, .bool r, .int .i64 d, .slice A n cap] 27)).heap.size = w.heap.size + 1 by simp] at hx
      rw [← VN.out]
      have hk7 : kk = 1 ∨ kk = 2 ∨ kk = 3 ∨ kk = 4 ∨ kk = 5 ∨ kk = 6 ∨ kk = 7 := by omega
      rcases hk7 with rfl | rfl | rfl | rfl | rfl | rfl | rfl <;> exact hx
    clear hk
    go_enter Tryd.func5, Tryd.ntmps5
    go_wp2_with fail
    (with_reducible refine (l1R _ _ _ _ _ H.out).mono ?_)
    rintro e w1 ⟨rfl, rfl⟩
    go_wp2_with fail
    obtain ⟨w1, hW⟩ : ∃ w1, (w.alloc (.cells #[.int .i64 (kk : Int), .int .i64 f, .int .i64 t, .int .i64 s, .int .i64 g, .bool m, .bool r, .int .i64 d, .slice A n cap] 27)).alloc (.cells #[.string ⟨#[]⟩, .string ⟨#[100, 97, 116, 97]⟩, .string ⟨#[97, 99, 107]⟩, .string ⟨#[114, 101, 113, 117, 101, 115, 116]⟩, .string ⟨#[103, 114, 97, 110, 116]⟩, .string ⟨#[98, 101, 97, 99, 111, 110]⟩, .string ⟨#[109, 97, 110, 97, 103, 101, 109, 101, 110, 116]⟩, .string ⟨#[112, 111, 108, 108]⟩] 9) = w1 := ⟨_, rfl⟩
    rw [hW]
    have X1 := Lib.hid (show Bx 27 w1 w.heap.size #[.int .i64 (kk : Int), .int .i64 f, .int .i64 t, .int .i64 s, .int .i64 g, .bool m, .bool r, .int .i64 d, .slice A n cap] by rw [← hW]; exact (Bx.made _ _ _).below (below_box _ _))
    have B1 := Lib.hid (show Below w.heap.size w w1 by rw [← hW]; exact below_box2 _ _ _)
    clear hW hc
    (with_reducible refine (specFI t Ht.out _).mono ?_)
    rw [VT.out]
    rintro e w2 ⟨rfl, hb⟩
    have X0 := Lib.hid (X1.out.below hb)
    have B0 := Lib.hid (B1.out.trans (hb.mono B1.out.size))
    clear hb X1 B1
    by_cases h63 : t = 63
    · have e63 : (t == 63) = true := by simpa using h63
      have ER := Lib.hid (show R = ⟨#[42]⟩ by rw [← VR.out]; unfold rcv; rw [if_pos h63])
      clear h63
      have b_0 : w2.cell? ⟨w.heap.size, 0, none⟩ = some (.int .i64 (kk : Int)) := X0.out.cell 0
      have b_1 : w2.cell? ⟨w.heap.size, 1, none⟩ = some (.int .i64 f) := X0.out.cell 1
      have b_2 : w2.cell? ⟨w.heap.size, 2, none⟩ = some (.int .i64 t) := X0.out.cell 2
      have b_3 : w2.cell? ⟨w.heap.size, 3, none⟩ = some (.int .i64 s) := X0.out.cell 3
      have b_4 : w2.cell? ⟨w.heap.size, 4, none⟩ = some (.int .i64 g) := X0.out.cell 4
      have b_5 : w2.cell? ⟨w.heap.size, 5, none⟩ = some (.bool m) := X0.out.cell 5
      have b_6 : w2.cell? ⟨w.heap.size, 6, none⟩ = some (.bool r) := X0.out.cell 6
      have b_7 : w2.cell? ⟨w.heap.size, 7, none⟩ = some (.int .i64 d) := X0.out.cell 7
      have b_8 : w2.cell? ⟨w.heap.size, 8, none⟩ = some (.slice A n cap) := X0.out.cell 8
      go_wp2_with fail
      clear b_0 b_1 b_2 b_3 b_4 b_5 b_6 b_7 b_8
      rw [← ER.out]
      have X2 := Lib.hid (show Bx 27 w2.drew w.heap.size #[.int .i64 (kk : Int), .int .i64 f, .int .i64 t, .int .i64 s, .int .i64 g, .bool m, .bool r, .int .i64 d, .slice A n cap] from X0.out.same rfl)
      have B2 := Lib.hid (own.below_drew B0.out)
      have c2_0 : w2.drew.cell? ⟨w.heap.size, 0, none⟩ = some (.int .i64 (kk : Int)) := X2.out.cell 0
      have c2_1 : w2.drew.cell? ⟨w.heap.size, 1, none⟩ = some (.int .i64 f) := X2.out.cell 1
      have c2_2 : w2.drew.cell? ⟨w.heap.size, 2, none⟩ = some (.int .i64 t) := X2.out.cell 2
      have c2_3 : w2.drew.cell? ⟨w.heap.size, 3, none⟩ = some (.int .i64 s) := X2.out.cell 3
      have c2_4 : w2.drew.cell? ⟨w.heap.size, 4, none⟩ = some (.int .i64 g) := X2.out.cell 4
      have c2_5 : w2.drew.cell? ⟨w.heap.size, 5, none⟩ = some (.bool m) := X2.out.cell 5
      have c2_6 : w2.drew.cell? ⟨w.heap.size, 6, none⟩ = some (.bool r) := X2.out.cell 6
      have c2_7 : w2.drew.cell? ⟨w.heap.size, 7, none⟩ = some (.int .i64 d) := X2.out.cell 7
      have c2_8 : w2.drew.cell? ⟨w.heap.size, 8, none⟩ = some (.slice A n cap) := X2.out.cell 8
      clear X0 B0 
      go_region_held3 (fun w' => w'.cell? ⟨w.heap.size, 0, none⟩ = some (.int .i64 (kk : Int)) ∧ w'.cell? ⟨w.heap.size, 1, none⟩ = some (.int .i64 f) ∧ w'.cell? ⟨w.heap.size, 2, none⟩ = some (.int .i64 t) ∧ w'.cell? ⟨w.heap.size, 3, none⟩ = some (.int .i64 s) ∧ w'.cell? ⟨w.heap.size, 4, none⟩ = some (.int .i64 g) ∧ w'.cell? ⟨w.heap.size, 5, none⟩ = some (.bool m) ∧ w'.cell? ⟨w.heap.size, 6, none⟩ = some (.bool r) ∧ w'.cell? ⟨w.heap.size, 7, none⟩ = some (.int .i64 d) ∧ w'.cell? ⟨w.heap.size, 8, none⟩ = some (.slice A n cap)) (first | (with_reducible exact ⟨c2_0, c2_1, c2_2, c2_3, c2_4, c2_5, c2_6, c2_7, c2_8⟩) | (with_reducible exact ⟨c3_0, c3_1, c3_2, c3_3, c3_4, c3_5, c3_6, c3_7, c3_8⟩) | (with_reducible exact ⟨c4_0, c4_1, c4_2, c4_3, c4_4, c4_5, c4_6, c4_7, c4_8⟩) | (with_reducible exact ⟨c5_0, c5_1, c5_2, c5_3, c5_4, c5_5, c5_6, c5_7, c5_8⟩))
        (first
        | ( have g9 := c4_0; clear g9; go_at_call 11; (with_reducible refine (specFI g Hg.out _).mono ?_); rw [VG.out]; rintro e w5 ⟨rfl, hb⟩; have X5 := Lib.hid (X4.out.below hb); have B5 := Lib.hid (B4.out.trans (hb.mono B4.out.size)); have c5_0 : w5.cell? ⟨w.heap.size, 0, none⟩ = some (.int .i64 (kk : Int)) := X5.out.cell 0; have c5_1 : w5.cell? ⟨w.heap.size, 1, none⟩ = some (.int .i64 f) := X5.out.cell 1; have c5_2 : w5.cell? ⟨w.heap.size, 2, none⟩ = some (.int .i64 t) := X5.out.cell 2; have c5_3 : w5.cell? ⟨w.heap.size, 3, none⟩ = some (.int .i64 s) := X5.out.cell 3; have c5_4 : w5.cell? ⟨w.heap.size, 4, none⟩ = some (.int .i64 g) := X5.out.cell 4; have c5_5 : w5.cell? ⟨w.heap.size, 5, none⟩ = some (.bool m) := X5.out.cell 5; have c5_6 : w5.cell? ⟨w.heap.size, 6, none⟩ = some (.bool r) := X5.out.cell 6; have c5_7 : w5.cell? ⟨w.heap.size, 7, none⟩ = some (.int .i64 d) := X5.out.cell 7; have c5_8 : w5.cell? ⟨w.heap.size, 8, none⟩ = some (.slice A n cap) := X5.out.cell 8; clear hb)
        | ( have g9 := c3_0; clear g9; go_at_call 11; (with_reducible refine (specFI s Hs.out _).mono ?_); rw [VS.out]; rintro e w4 ⟨rfl, hb⟩; have X4 := Lib.hid (X3.out.below hb); have B4 := Lib.hid (B3.out.trans (hb.mono B3.out.size)); have c4_0 : w4.cell? ⟨w.heap.size, 0, none⟩ = some (.int .i64 (kk : Int)) := X4.out.cell 0; have c4_1 : w4.cell? ⟨w.heap.size, 1, none⟩ = some (.int .i64 f) := X4.out.cell 1; have c4_2 : w4.cell? ⟨w.heap.size, 2, none⟩ = some (.int .i64 t) := X4.out.cell 2; have c4_3 : w4.cell? ⟨w.heap.size, 3, none⟩ = some (.int .i64 s) := X4.out.cell 3; have c4_4 : w4.cell? ⟨w.heap.size, 4, none⟩ = some (.int .i64 g) := X4.out.cell 4; have c4_5 : w4.cell? ⟨w.heap.size, 5, none⟩ = some (.bool m) := X4.out.cell 5; have c4_6 : w4.cell? ⟨w.heap.size, 6, none⟩ = some (.bool r) := X4.out.cell 6; have c4_7 : w4.cell? ⟨w.heap.size, 7, none⟩ = some (.int .i64 d) := X4.out.cell 7; have c4_8 : w4.cell? ⟨w.heap.size, 8, none⟩ = some (.slice A n cap) := X4.out.cell 8; clear hb)
        | ( go_at_call 11; (with_reducible refine (specFI f Hf.out _).mono ?_); rw [VF.out]; rintro e w3 ⟨rfl, hb⟩; have X3 := Lib.hid (X2.out.below hb); have B3 := Lib.hid (B2.out.trans (hb.mono B2.out.size)); have c3_0 : w3.cell? ⟨w.heap.size, 0, none⟩ = some (.int .i64 (kk : Int)) := X3.out.cell 0; have c3_1 : w3.cell? ⟨w.heap.size, 1, none⟩ = some (.int .i64 f) := X3.out.cell 1; have c3_2 : w3.cell? ⟨w.heap.size, 2, none⟩ = some (.int .i64 t) := X3.out.cell 2; have c3_3 : w3.cell? ⟨w.heap.size, 3, none⟩ = some (.int .i64 s) := X3.out.cell 3; have c3_4 : w3.cell? ⟨w.heap.size, 4, none⟩ = some (.int .i64 g) := X3.out.cell 4; have c3_5 : w3.cell? ⟨w.heap.size, 5, none⟩ = some (.bool m) := X3.out.cell 5; have c3_6 : w3.cell? ⟨w.heap.size, 6, none⟩ = some (.bool r) := X3.out.cell 6; have c3_7 : w3.cell? ⟨w.heap.size, 7, none⟩ = some (.int .i64 d) := X3.out.cell 7; have c3_8 : w3.cell? ⟨w.heap.size, 8, none⟩ = some (.slice A n cap) := X3.out.cell 8; clear hb))
      clear c2_0 c2_1 c2_2 c2_3 c2_4 c2_5 c2_6 c2_7 c2_8
      clear c3_0 c3_1 c3_2 c3_3 c3_4 c3_5 c3_6 c3_7 c3_8
      clear c4_0 c4_1 c4_2 c4_3 c4_4 c4_5 c4_6 c4_7 c4_8
      cases m <;> cases r
      all_goals
        go_wp2_with fail
        go_ret
        exact ⟨HE.out, B5.out⟩
    · have e63 : (t == 63) = false := by simpa using h63
      have ER := Lib.hid (show R = NT by rw [← VR.out]; unfold rcv; rw [if_neg h63]; exact VT.out)
      clear h63
      have b_0 : w2.cell? ⟨w.heap.size, 0, none⟩ = some (.int .i64 (kk : Int)) := X0.out.cell 0
      have b_1 : w2.cell? ⟨w.heap.size, 1, none⟩ = some (.int .i64 f) := X0.out.cell 1
      have b_2 : w2.cell? ⟨w.heap.size, 2, none⟩ = some (.int .i64 t) := X0.out.cell 2
      have b_3 : w2.cell? ⟨w.heap.size, 3, none⟩ = some (.int .i64 s) := X0.out.cell 3
      have b_4 : w2.cell? ⟨w.heap.size, 4, none⟩ = some (.int .i64 g) := X0.out.cell 4
      have b_5 : w2.cell? ⟨w.heap.size, 5, none⟩ = some (.bool m) := X0.out.cell 5
      have b_6 : w2.cell? ⟨w.heap.size, 6, none⟩ = some (.bool r) := X0.out.cell 6
      have b_7 : w2.cell? ⟨w.heap.size, 7, none⟩ = some (.int .i64 d) := X0.out.cell 7
      have b_8 : w2.cell? ⟨w.heap.size, 8, none⟩ = some (.slice A n cap) := X0.out.cell 8
      go_wp2_with fail
      clear b_0 b_1 b_2 b_3 b_4 b_5 b_6 b_7 b_8
      rw [← ER.out]
      have X2 := Lib.hid (show Bx 27 w2.drew w.heap.size #[.int .i64 (kk : Int), .int .i64 f, .int .i64 t, .int .i64 s, .int .i64 g, .bool m, .bool r, .int .i64 d, .slice A n cap] from X0.out.same rfl)
      have B2 := Lib.hid (own.below_drew B0.out)
      have c2_0 : w2.drew.cell? ⟨w.heap.size, 0, none⟩ = some (.int .i64 (kk : Int)) := X2.out.cell 0
      have c2_1 : w2.drew.cell? ⟨w.heap.size, 1, none⟩ = some (.int .i64 f) := X2.out.cell 1
      have c2_2 : w2.drew.cell? ⟨w.heap.size, 2, none⟩ = some (.int .i64 t) := X2.out.cell 2
      have c2_3 : w2.drew.cell? ⟨w.heap.size, 3, none⟩ = some (.int .i64 s) := X2.out.cell 3
      have c2_4 : w2.drew.cell? ⟨w.heap.size, 4, none⟩ = some (.int .i64 g) := X2.out.cell 4
      have c2_5 : w2.drew.cell? ⟨w.heap.size, 5, none⟩ = some (.bool m) := X2.out.cell 5
      have c2_6 : w2.drew.cell? ⟨w.heap.size, 6, none⟩ = some (.bool r) := X2.out.cell 6
      have c2_7 : w2.drew.cell? ⟨w.heap.size, 7, none⟩ = some (.int .i64 d) := X2.out.cell 7
      have c2_8 : w2.drew.cell? ⟨w.heap.size, 8, none⟩ = some (.slice A n cap) := X2.out.cell 8
      clear X0 B0 
      go_region_held3 (fun w' => w'.cell? ⟨w.heap.size, 0, none⟩ = some (.int .i64 (kk : Int)) ∧ w'.cell? ⟨w.heap.size, 1, none⟩ = some (.int .i64 f) ∧ w'.cell? ⟨w.heap.size, 2, none⟩ = some (.int .i64 t) ∧ w'.cell? ⟨w.heap.size, 3, none⟩ = some (.int .i64 s) ∧ w'.cell? ⟨w.heap.size, 4, none⟩ = some (.int .i64 g) ∧ w'.cell? ⟨w.heap.size, 5, none⟩ = some (.bool m) ∧ w'.cell? ⟨w.heap.size, 6, none⟩ = some (.bool r) ∧ w'.cell? ⟨w.heap.size, 7, none⟩ = some (.int .i64 d) ∧ w'.cell? ⟨w.heap.size, 8, none⟩ = some (.slice A n cap)) (first | (with_reducible exact ⟨c2_0, c2_1, c2_2, c2_3, c2_4, c2_5, c2_6, c2_7, c2_8⟩) | (with_reducible exact ⟨c3_0, c3_1, c3_2, c3_3, c3_4, c3_5, c3_6, c3_7, c3_8⟩) | (with_reducible exact ⟨c4_0, c4_1, c4_2, c4_3, c4_4, c4_5, c4_6, c4_7, c4_8⟩) | (with_reducible exact ⟨c5_0, c5_1, c5_2, c5_3, c5_4, c5_5, c5_6, c5_7, c5_8⟩))
        (first
        | ( have g9 := c4_0; clear g9; go_at_call 11; (with_reducible refine (specFI g Hg.out _).mono ?_); rw [VG.out]; rintro e w5 ⟨rfl, hb⟩; have X5 := Lib.hid (X4.out.below hb); have B5 := Lib.hid (B4.out.trans (hb.mono B4.out.size)); have c5_0 : w5.cell? ⟨w.heap.size, 0, none⟩ = some (.int .i64 (kk : Int)) := X5.out.cell 0; have c5_1 : w5.cell? ⟨w.heap.size, 1, none⟩ = some (.int .i64 f) := X5.out.cell 1; have c5_2 : w5.cell? ⟨w.heap.size, 2, none⟩ = some (.int .i64 t) := X5.out.cell 2; have c5_3 : w5.cell? ⟨w.heap.size, 3, none⟩ = some (.int .i64 s) := X5.out.cell 3; have c5_4 : w5.cell? ⟨w.heap.size, 4, none⟩ = some (.int .i64 g) := X5.out.cell 4; have c5_5 : w5.cell? ⟨w.heap.size, 5, none⟩ = some (.bool m) := X5.out.cell 5; have c5_6 : w5.cell? ⟨w.heap.size, 6, none⟩ = some (.bool r) := X5.out.cell 6; have c5_7 : w5.cell? ⟨w.heap.size, 7, none⟩ = some (.int .i64 d) := X5.out.cell 7; have c5_8 : w5.cell? ⟨w.heap.size, 8, none⟩ = some (.slice A n cap) := X5.out.cell 8; clear hb)
        | ( have g9 := c3_0; clear g9; go_at_call 11; (with_reducible refine (specFI s Hs.out _).mono ?_); rw [VS.out]; rintro e w4 ⟨rfl, hb⟩; have X4 := Lib.hid (X3.out.below hb); have B4 := Lib.hid (B3.out.trans (hb.mono B3.out.size)); have c4_0 : w4.cell? ⟨w.heap.size, 0, none⟩ = some (.int .i64 (kk : Int)) := X4.out.cell 0; have c4_1 : w4.cell? ⟨w.heap.size, 1, none⟩ = some (.int .i64 f) := X4.out.cell 1; have c4_2 : w4.cell? ⟨w.heap.size, 2, none⟩ = some (.int .i64 t) := X4.out.cell 2; have c4_3 : w4.cell? ⟨w.heap.size, 3, none⟩ = some (.int .i64 s) := X4.out.cell 3; have c4_4 : w4.cell? ⟨w.heap.size, 4, none⟩ = some (.int .i64 g) := X4.out.cell 4; have c4_5 : w4.cell? ⟨w.heap.size, 5, none⟩ = some (.bool m) := X4.out.cell 5; have c4_6 : w4.cell? ⟨w.heap.size, 6, none⟩ = some (.bool r) := X4.out.cell 6; have c4_7 : w4.cell? ⟨w.heap.size, 7, none⟩ = some (.int .i64 d) := X4.out.cell 7; have c4_8 : w4.cell? ⟨w.heap.size, 8, none⟩ = some (.slice A n cap) := X4.out.cell 8; clear hb)
        | ( go_at_call 11; (with_reducible refine (specFI f Hf.out _).mono ?_); rw [VF.out]; rintro e w3 ⟨rfl, hb⟩; have X3 := Lib.hid (X2.out.below hb); have B3 := Lib.hid (B2.out.trans (hb.mono B2.out.size)); have c3_0 : w3.cell? ⟨w.heap.size, 0, none⟩ = some (.int .i64 (kk : Int)) := X3.out.cell 0; have c3_1 : w3.cell? ⟨w.heap.size, 1, none⟩ = some (.int .i64 f) := X3.out.cell 1; have c3_2 : w3.cell? ⟨w.heap.size, 2, none⟩ = some (.int .i64 t) := X3.out.cell 2; have c3_3 : w3.cell? ⟨w.heap.size, 3, none⟩ = some (.int .i64 s) := X3.out.cell 3; have c3_4 : w3.cell? ⟨w.heap.size, 4, none⟩ = some (.int .i64 g) := X3.out.cell 4; have c3_5 : w3.cell? ⟨w.heap.size, 5, none⟩ = some (.bool m) := X3.out.cell 5; have c3_6 : w3.cell? ⟨w.heap.size, 6, none⟩ = some (.bool r) := X3.out.cell 6; have c3_7 : w3.cell? ⟨w.heap.size, 7, none⟩ = some (.int .i64 d) := X3.out.cell 7; have c3_8 : w3.cell? ⟨w.heap.size, 8, none⟩ = some (.slice A n cap) := X3.out.cell 8; clear hb))
      clear c2_0 c2_1 c2_2 c2_3 c2_4 c2_5 c2_6 c2_7 c2_8
      clear c3_0 c3_1 c3_2 c3_3 c3_4 c3_5 c3_6 c3_7 c3_8
      clear c4_0 c4_1 c4_2 c4_3 c4_4 c4_5 c4_6 c4_7 c4_8
      cases m <;> cases r
      all_goals
        go_wp2_with fail
        go_ret
        exact ⟨HE.out, B5.out⟩
  · have H := Lib.hid (decide_eq_false hk)
    have EN := Lib.hid (show N = ⟨#[63]⟩ by rw [← VN.out]; unfold knm; repeat' (first | rw [if_neg (by omega)] | skip))
    clear hk
    go_enter Tryd.func5, Tryd.ntmps5
    go_wp2_with fail
    (with_reducible refine (l1R _ _ _ _ _ H.out).mono ?_)
    rintro e w1 ⟨rfl, rfl⟩
    go_wp2_with fail
    obtain ⟨w1, hW⟩ : ∃ w1, w.alloc (.cells #[.int .i64 k, .int .i64 f, .int .i64 t, .int .i64 s, .int .i64 g, .bool m, .bool r, .int .i64 d, .slice A n cap] 27) = w1 := ⟨_, rfl⟩
    rw [hW]
    have X1 := Lib.hid (show Bx 27 w1 w.heap.size #[.int .i64 k, .int .i64 f, .int .i64 t, .int .i64 s, .int .i64 g, .bool m, .bool r, .int .i64 d, .slice A n cap] by rw [← hW]; exact Bx.made _ _ _)
    have B1 := Lib.hid (show Below w.heap.size w w1 by rw [← hW]; exact below_box _ _)
    clear hW
    (with_reducible refine (specFI t Ht.out _).mono ?_)
    rw [VT.out]
    rintro e w2 ⟨rfl, hb⟩
    have X0 := Lib.hid (X1.out.below hb)
    have B0 := Lib.hid (B1.out.trans (hb.mono B1.out.size))
    clear hb X1 B1
    by_cases h63 : t = 63
    · have e63 : (t == 63) = true := by simpa using h63
      have ER := Lib.hid (show R = ⟨#[42]⟩ by rw [← VR.out]; unfold rcv; rw [if_pos h63])
      clear h63
      have b_0 : w2.cell? ⟨w.heap.size, 0, none⟩ = some (.int .i64 k) := X0.out.cell 0
      have b_1 : w2.cell? ⟨w.heap.size, 1, none⟩ = some (.int .i64 f) := X0.out.cell 1
      have b_2 : w2.cell? ⟨w.heap.size, 2, none⟩ = some (.int .i64 t) := X0.out.cell 2
      have b_3 : w2.cell? ⟨w.heap.size, 3, none⟩ = some (.int .i64 s) := X0.out.cell 3
      have b_4 : w2.cell? ⟨w.heap.size, 4, none⟩ = some (.int .i64 g) := X0.out.cell 4
      have b_5 : w2.cell? ⟨w.heap.size, 5, none⟩ = some (.bool m) := X0.out.cell 5
      have b_6 : w2.cell? ⟨w.heap.size, 6, none⟩ = some (.bool r) := X0.out.cell 6
      have b_7 : w2.cell? ⟨w.heap.size, 7, none⟩ = some (.int .i64 d) := X0.out.cell 7
      have b_8 : w2.cell? ⟨w.heap.size, 8, none⟩ = some (.slice A n cap) := X0.out.cell 8
      go_wp2_with fail
      clear b_0 b_1 b_2 b_3 b_4 b_5 b_6 b_7 b_8
      rw [← ER.out]
      rw [← EN.out]
      have X2 := Lib.hid (show Bx 27 w2.drew w.heap.size #[.int .i64 k, .int .i64 f, .int .i64 t, .int .i64 s, .int .i64 g, .bool m, .bool r, .int .i64 d, .slice A n cap] from X0.out.same rfl)
      have B2 := Lib.hid (own.below_drew B0.out)
      have c2_0 : w2.drew.cell? ⟨w.heap.size, 0, none⟩ = some (.int .i64 k) := X2.out.cell 0
      have c2_1 : w2.drew.cell? ⟨w.heap.size, 1, none⟩ = some (.int .i64 f) := X2.out.cell 1
      have c2_2 : w2.drew.cell? ⟨w.heap.size, 2, none⟩ = some (.int .i64 t) := X2.out.cell 2
      have c2_3 : w2.drew.cell? ⟨w.heap.size, 3, none⟩ = some (.int .i64 s) := X2.out.cell 3
      have c2_4 : w2.drew.cell? ⟨w.heap.size, 4, none⟩ = some (.int .i64 g) := X2.out.cell 4
      have c2_5 : w2.drew.cell? ⟨w.heap.size, 5, none⟩ = some (.bool m) := X2.out.cell 5
      have c2_6 : w2.drew.cell? ⟨w.heap.size, 6, none⟩ = some (.bool r) := X2.out.cell 6
      have c2_7 : w2.drew.cell? ⟨w.heap.size, 7, none⟩ = some (.int .i64 d) := X2.out.cell 7
      have c2_8 : w2.drew.cell? ⟨w.heap.size, 8, none⟩ = some (.slice A n cap) := X2.out.cell 8
      clear X0 B0 
      go_region_held3 (fun w' => w'.cell? ⟨w.heap.size, 0, none⟩ = some (.int .i64 k) ∧ w'.cell? ⟨w.heap.size, 1, none⟩ = some (.int .i64 f) ∧ w'.cell? ⟨w.heap.size, 2, none⟩ = some (.int .i64 t) ∧ w'.cell? ⟨w.heap.size, 3, none⟩ = some (.int .i64 s) ∧ w'.cell? ⟨w.heap.size, 4, none⟩ = some (.int .i64 g) ∧ w'.cell? ⟨w.heap.size, 5, none⟩ = some (.bool m) ∧ w'.cell? ⟨w.heap.size, 6, none⟩ = some (.bool r) ∧ w'.cell? ⟨w.heap.size, 7, none⟩ = some (.int .i64 d) ∧ w'.cell? ⟨w.heap.size, 8, none⟩ = some (.slice A n cap)) (first | (with_reducible exact ⟨c2_0, c2_1, c2_2, c2_3, c2_4, c2_5, c2_6, c2_7, c2_8⟩) | (with_reducible exact ⟨c3_0, c3_1, c3_2, c3_3, c3_4, c3_5, c3_6, c3_7, c3_8⟩) | (with_reducible exact ⟨c4_0, c4_1, c4_2, c4_3, c4_4, c4_5, c4_6, c4_7, c4_8⟩) | (with_reducible exact ⟨c5_0, c5_1, c5_2, c5_3, c5_4, c5_5, c5_6, c5_7, c5_8⟩))
        (first
        | ( have g9 := c4_0; clear g9; go_at_call 11; (with_reducible refine (specFI g Hg.out _).mono ?_); rw [VG.out]; rintro e w5 ⟨rfl, hb⟩; have X5 := Lib.hid (X4.out.below hb); have B5 := Lib.hid (B4.out.trans (hb.mono B4.out.size)); have c5_0 : w5.cell? ⟨w.heap.size, 0, none⟩ = some (.int .i64 k) := X5.out.cell 0; have c5_1 : w5.cell? ⟨w.heap.size, 1, none⟩ = some (.int .i64 f) := X5.out.cell 1; have c5_2 : w5.cell? ⟨w.heap.size, 2, none⟩ = some (.int .i64 t) := X5.out.cell 2; have c5_3 : w5.cell? ⟨w.heap.size, 3, none⟩ = some (.int .i64 s) := X5.out.cell 3; have c5_4 : w5.cell? ⟨w.heap.size, 4, none⟩ = some (.int .i64 g) := X5.out.cell 4; have c5_5 : w5.cell? ⟨w.heap.size, 5, none⟩ = some (.bool m) := X5.out.cell 5; have c5_6 : w5.cell? ⟨w.heap.size, 6, none⟩ = some (.bool r) := X5.out.cell 6; have c5_7 : w5.cell? ⟨w.heap.size, 7, none⟩ = some (.int .i64 d) := X5.out.cell 7; have c5_8 : w5.cell? ⟨w.heap.size, 8, none⟩ = some (.slice A n cap) := X5.out.cell 8; clear hb)
        | ( have g9 := c3_0; clear g9; go_at_call 11; (with_reducible refine (specFI s Hs.out _).mono ?_); rw [VS.out]; rintro e w4 ⟨rfl, hb⟩; have X4 := Lib.hid (X3.out.below hb); have B4 := Lib.hid (B3.out.trans (hb.mono B3.out.size)); have c4_0 : w4.cell? ⟨w.heap.size, 0, none⟩ = some (.int .i64 k) := X4.out.cell 0; have c4_1 : w4.cell? ⟨w.heap.size, 1, none⟩ = some (.int .i64 f) := X4.out.cell 1; have c4_2 : w4.cell? ⟨w.heap.size, 2, none⟩ = some (.int .i64 t) := X4.out.cell 2; have c4_3 : w4.cell? ⟨w.heap.size, 3, none⟩ = some (.int .i64 s) := X4.out.cell 3; have c4_4 : w4.cell? ⟨w.heap.size, 4, none⟩ = some (.int .i64 g) := X4.out.cell 4; have c4_5 : w4.cell? ⟨w.heap.size, 5, none⟩ = some (.bool m) := X4.out.cell 5; have c4_6 : w4.cell? ⟨w.heap.size, 6, none⟩ = some (.bool r) := X4.out.cell 6; have c4_7 : w4.cell? ⟨w.heap.size, 7, none⟩ = some (.int .i64 d) := X4.out.cell 7; have c4_8 : w4.cell? ⟨w.heap.size, 8, none⟩ = some (.slice A n cap) := X4.out.cell 8; clear hb)
        | ( go_at_call 11; (with_reducible refine (specFI f Hf.out _).mono ?_); rw [VF.out]; rintro e w3 ⟨rfl, hb⟩; have X3 := Lib.hid (X2.out.below hb); have B3 := Lib.hid (B2.out.trans (hb.mono B2.out.size)); have c3_0 : w3.cell? ⟨w.heap.size, 0, none⟩ = some (.int .i64 k) := X3.out.cell 0; have c3_1 : w3.cell? ⟨w.heap.size, 1, none⟩ = some (.int .i64 f) := X3.out.cell 1; have c3_2 : w3.cell? ⟨w.heap.size, 2, none⟩ = some (.int .i64 t) := X3.out.cell 2; have c3_3 : w3.cell? ⟨w.heap.size, 3, none⟩ = some (.int .i64 s) := X3.out.cell 3; have c3_4 : w3.cell? ⟨w.heap.size, 4, none⟩ = some (.int .i64 g) := X3.out.cell 4; have c3_5 : w3.cell? ⟨w.heap.size, 5, none⟩ = some (.bool m) := X3.out.cell 5; have c3_6 : w3.cell? ⟨w.heap.size, 6, none⟩ = some (.bool r) := X3.out.cell 6; have c3_7 : w3.cell? ⟨w.heap.size, 7, none⟩ = some (.int .i64 d) := X3.out.cell 7; have c3_8 : w3.cell? ⟨w.heap.size, 8, none⟩ = some (.slice A n cap) := X3.out.cell 8; clear hb))
      clear c2_0 c2_1 c2_2 c2_3 c2_4 c2_5 c2_6 c2_7 c2_8
      clear c3_0 c3_1 c3_2 c3_3 c3_4 c3_5 c3_6 c3_7 c3_8
      clear c4_0 c4_1 c4_2 c4_3 c4_4 c4_5 c4_6 c4_7 c4_8
      cases m <;> cases r
      all_goals
        go_wp2_with fail
        go_ret
        exact ⟨HE.out, B5.out⟩
    · have e63 : (t == 63) = false := by simpa using h63
      have ER := Lib.hid (show R = NT by rw [← VR.out]; unfold rcv; rw [if_neg h63]; exact VT.out)
      clear h63
      have b_0 : w2.cell? ⟨w.heap.size, 0, none⟩ = some (.int .i64 k) := X0.out.cell 0
      have b_1 : w2.cell? ⟨w.heap.size, 1, none⟩ = some (.int .i64 f) := X0.out.cell 1
      have b_2 : w2.cell? ⟨w.heap.size, 2, none⟩ = some (.int .i64 t) := X0.out.cell 2
      have b_3 : w2.cell? ⟨w.heap.size, 3, none⟩ = some (.int .i64 s) := X0.out.cell 3
      have b_4 : w2.cell? ⟨w.heap.size, 4, none⟩ = some (.int .i64 g) := X0.out.cell 4
      have b_5 : w2.cell? ⟨w.heap.size, 5, none⟩ = some (.bool m) := X0.out.cell 5
      have b_6 : w2.cell? ⟨w.heap.size, 6, none⟩ = some (.bool r) := X0.out.cell 6
      have b_7 : w2.cell? ⟨w.heap.size, 7, none⟩ = some (.int .i64 d) := X0.out.cell 7
      have b_8 : w2.cell? ⟨w.heap.size, 8, none⟩ = some (.slice A n cap) := X0.out.cell 8
      go_wp2_with fail
      clear b_0 b_1 b_2 b_3 b_4 b_5 b_6 b_7 b_8
      rw [← ER.out]
      rw [← EN.out]
      have X2 := Lib.hid (show Bx 27 w2.drew w.heap.size #[.int .i64 k, .int .i64 f, .int .i64 t, .int .i64 s, .int .i64 g, .bool m, .bool r, .int .i64 d, .slice A n cap] from X0.out.same rfl)
      have B2 := Lib.hid (own.below_drew B0.out)
      have c2_0 : w2.drew.cell? ⟨w.heap.size, 0, none⟩ = some (.int .i64 k) := X2.out.cell 0
      have c2_1 : w2.drew.cell? ⟨w.heap.size, 1, none⟩ = some (.int .i64 f) := X2.out.cell 1
      have c2_2 : w2.drew.cell? ⟨w.heap.size, 2, none⟩ = some (.int .i64 t) := X2.out.cell 2
      have c2_3 : w2.drew.cell? ⟨w.heap.size, 3, none⟩ = some (.int .i64 s) := X2.out.cell 3
      have c2_4 : w2.drew.cell? ⟨w.heap.size, 4, none⟩ = some (.int .i64 g) := X2.out.cell 4
      have c2_5 : w2.drew.cell? ⟨w.heap.size, 5, none⟩ = some (.bool m) := X2.out.cell 5
      have c2_6 : w2.drew.cell? ⟨w.heap.size, 6, none⟩ = some (.bool r) := X2.out.cell 6
      have c2_7 : w2.drew.cell? ⟨w.heap.size, 7, none⟩ = some (.int .i64 d) := X2.out.cell 7
      have c2_8 : w2.drew.cell? ⟨w.heap.size, 8, none⟩ = some (.slice A n cap) := X2.out.cell 8
      clear X0 B0 
      go_region_held3 (fun w' => w'.cell? ⟨w.heap.size, 0, none⟩ = some (.int .i64 k) ∧ w'.cell? ⟨w.heap.size, 1, none⟩ = some (.int .i64 f) ∧ w'.cell? ⟨w.heap.size, 2, none⟩ = some (.int .i64 t) ∧ w'.cell? ⟨w.heap.size, 3, none⟩ = some (.int .i64 s) ∧ w'.cell? ⟨w.heap.size, 4, none⟩ = some (.int .i64 g) ∧ w'.cell? ⟨w.heap.size, 5, none⟩ = some (.bool m) ∧ w'.cell? ⟨w.heap.size, 6, none⟩ = some (.bool r) ∧ w'.cell? ⟨w.heap.size, 7, none⟩ = some (.int .i64 d) ∧ w'.cell? ⟨w.heap.size, 8, none⟩ = some (.slice A n cap)) (first | (with_reducible exact ⟨c2_0, c2_1, c2_2, c2_3, c2_4, c2_5, c2_6, c2_7, c2_8⟩) | (with_reducible exact ⟨c3_0, c3_1, c3_2, c3_3, c3_4, c3_5, c3_6, c3_7, c3_8⟩) | (with_reducible exact ⟨c4_0, c4_1, c4_2, c4_3, c4_4, c4_5, c4_6, c4_7, c4_8⟩) | (with_reducible exact ⟨c5_0, c5_1, c5_2, c5_3, c5_4, c5_5, c5_6, c5_7, c5_8⟩))
        (first
        | ( have g9 := c4_0; clear g9; go_at_call 11; (with_reducible refine (specFI g Hg.out _).mono ?_); rw [VG.out]; rintro e w5 ⟨rfl, hb⟩; have X5 := Lib.hid (X4.out.below hb); have B5 := Lib.hid (B4.out.trans (hb.mono B4.out.size)); have c5_0 : w5.cell? ⟨w.heap.size, 0, none⟩ = some (.int .i64 k) := X5.out.cell 0; have c5_1 : w5.cell? ⟨w.heap.size, 1, none⟩ = some (.int .i64 f) := X5.out.cell 1; have c5_2 : w5.cell? ⟨w.heap.size, 2, none⟩ = some (.int .i64 t) := X5.out.cell 2; have c5_3 : w5.cell? ⟨w.heap.size, 3, none⟩ = some (.int .i64 s) := X5.out.cell 3; have c5_4 : w5.cell? ⟨w.heap.size, 4, none⟩ = some (.int .i64 g) := X5.out.cell 4; have c5_5 : w5.cell? ⟨w.heap.size, 5, none⟩ = some (.bool m) := X5.out.cell 5; have c5_6 : w5.cell? ⟨w.heap.size, 6, none⟩ = some (.bool r) := X5.out.cell 6; have c5_7 : w5.cell? ⟨w.heap.size, 7, none⟩ = some (.int .i64 d) := X5.out.cell 7; have c5_8 : w5.cell? ⟨w.heap.size, 8, none⟩ = some (.slice A n cap) := X5.out.cell 8; clear hb)
        | ( have g9 := c3_0; clear g9; go_at_call 11; (with_reducible refine (specFI s Hs.out _).mono ?_); rw [VS.out]; rintro e w4 ⟨rfl, hb⟩; have X4 := Lib.hid (X3.out.below hb); have B4 := Lib.hid (B3.out.trans (hb.mono B3.out.size)); have c4_0 : w4.cell? ⟨w.heap.size, 0, none⟩ = some (.int .i64 k) := X4.out.cell 0; have c4_1 : w4.cell? ⟨w.heap.size, 1, none⟩ = some (.int .i64 f) := X4.out.cell 1; have c4_2 : w4.cell? ⟨w.heap.size, 2, none⟩ = some (.int .i64 t) := X4.out.cell 2; have c4_3 : w4.cell? ⟨w.heap.size, 3, none⟩ = some (.int .i64 s) := X4.out.cell 3; have c4_4 : w4.cell? ⟨w.heap.size, 4, none⟩ = some (.int .i64 g) := X4.out.cell 4; have c4_5 : w4.cell? ⟨w.heap.size, 5, none⟩ = some (.bool m) := X4.out.cell 5; have c4_6 : w4.cell? ⟨w.heap.size, 6, none⟩ = some (.bool r) := X4.out.cell 6; have c4_7 : w4.cell? ⟨w.heap.size, 7, none⟩ = some (.int .i64 d) := X4.out.cell 7; have c4_8 : w4.cell? ⟨w.heap.size, 8, none⟩ = some (.slice A n cap) := X4.out.cell 8; clear hb)
        | ( go_at_call 11; (with_reducible refine (specFI f Hf.out _).mono ?_); rw [VF.out]; rintro e w3 ⟨rfl, hb⟩; have X3 := Lib.hid (X2.out.below hb); have B3 := Lib.hid (B2.out.trans (hb.mono B2.out.size)); have c3_0 : w3.cell? ⟨w.heap.size, 0, none⟩ = some (.int .i64 k) := X3.out.cell 0; have c3_1 : w3.cell? ⟨w.heap.size, 1, none⟩ = some (.int .i64 f) := X3.out.cell 1; have c3_2 : w3.cell? ⟨w.heap.size, 2, none⟩ = some (.int .i64 t) := X3.out.cell 2; have c3_3 : w3.cell? ⟨w.heap.size, 3, none⟩ = some (.int .i64 s) := X3.out.cell 3; have c3_4 : w3.cell? ⟨w.heap.size, 4, none⟩ = some (.int .i64 g) := X3.out.cell 4; have c3_5 : w3.cell? ⟨w.heap.size, 5, none⟩ = some (.bool m) := X3.out.cell 5; have c3_6 : w3.cell? ⟨w.heap.size, 6, none⟩ = some (.bool r) := X3.out.cell 6; have c3_7 : w3.cell? ⟨w.heap.size, 7, none⟩ = some (.int .i64 d) := X3.out.cell 7; have c3_8 : w3.cell? ⟨w.heap.size, 8, none⟩ = some (.slice A n cap) := X3.out.cell 8; clear hb))
      clear c2_0 c2_1 c2_2 c2_3 c2_4 c2_5 c2_6 c2_7 c2_8
      clear c3_0 c3_1 c3_2 c3_3 c3_4 c3_5 c3_6 c3_7 c3_8
      clear c4_0 c4_1 c4_2 c4_3 c4_4 c4_5 c4_6 c4_7 c4_8
      cases m <;> cases r
      all_goals
        go_wp2_with fail
        go_ret
        exact ⟨HE.out, B5.out⟩
set_option maxRecDepth 100000 in
set_option maxHeartbeats 4000000 in
theorem implFmt (k f t s g : Int) (m r : Bool) (d : Int) (A : Option Addr) (n cap : Nat) (w : World) (hf : -9223372036854775808 ≤ f ∧ f ≤ 9223372036854775807) (ht : -9223372036854775808 ≤ t ∧ t ≤ 9223372036854775807) (hs : -9223372036854775808 ≤ s ∧ s ≤ 9223372036854775807) (hg : -9223372036854775808 ≤ g ∧ g ≤ 9223372036854775807) (ht0 : facts.Tab w) :
    Calls Tryd.prog 7 #[.agg #[.int .i64 k, .int .i64 f, .int .i64 t, .int .i64 s, .int .i64 g, .bool m, .bool r, .int .i64 d, .slice A n cap]] w fun e w' => e = .returned (.string (fst_ k f t s g m r)) ∧ Below w.heap.size w w' := by
  have Hf := Lib.hid hf
  have Ht := Lib.hid ht
  have Hs := Lib.hid hs
  have Hg := Lib.hid hg
  obtain ⟨N, hN⟩ : ∃ x, knm k = x := ⟨_, rfl⟩
  obtain ⟨F, hF⟩ : ∃ x, num_ f = x := ⟨_, rfl⟩
  obtain ⟨S, hS⟩ : ∃ x, num_ s = x := ⟨_, rfl⟩
  obtain ⟨G, hG⟩ : ∃ x, num_ g = x := ⟨_, rfl⟩
  obtain ⟨NT, hNT⟩ : ∃ x, num_ t = x := ⟨_, rfl⟩
  obtain ⟨R, hR⟩ : ∃ x, rcv t = x := ⟨_, rfl⟩
  have VN := Lib.hid hN
  have VF := Lib.hid hF
  have VS := Lib.hid hS
  have VG := Lib.hid hG
  have VT := Lib.hid hNT
  have VR := Lib.hid hR
  have z1 := knm_size k
  have z2 := num_size hf
  have z3 := num_size hs
  have z4 := num_size hg
  have z5 := rcv_size ht
  rw [hN] at z1
  rw [hF] at z2
  rw [hS] at z3
  rw [hG] at z4
  rw [hR] at z5
  have q0 : ¬ (9223372036854775807 < N.size + 1) := by omega
  have q1 : ¬ (9223372036854775807 < N.size + 1 + F.size) := by omega
  have q2 : ¬ (9223372036854775807 < N.size + 1 + F.size + 1) := by omega
  have q3 : ¬ (9223372036854775807 < N.size + 1 + F.size + 1 + R.size) := by omega
  have q4 : ¬ (9223372036854775807 < N.size + 1 + F.size + 1 + R.size + 1) := by omega
  have q5 : ¬ (9223372036854775807 < N.size + 1 + F.size + 1 + R.size + 1 + S.size) := by omega
  have q6 : ¬ (9223372036854775807 < N.size + 1 + F.size + 1 + R.size + 1 + S.size + 1) := by omega
  have q7 : ¬ (9223372036854775807 < N.size + 1 + F.size + 1 + R.size + 1 + S.size + 1 + G.size) := by omega
  have q8 : ¬ (9223372036854775807 < N.size + 1 + F.size + 1 + R.size + 1 + S.size + 1 + G.size + 1) := by omega
  have q9 : ¬ (9223372036854775807 < N.size + 1 + F.size + 1 + R.size + 1 + S.size + 1 + G.size + 1 + 1) := by omega
  have HE := Lib.hid (show Ending.returned (.string (fs1 (fs0 N F R S G) m r)) = .returned (.string (fst_ k f t s g m r)) by rw [← hN, ← hF, ← hS, ← hG, ← hR]; rfl)
  clear z1 z2 z3 z4 z5 hN hF hS hG hR hNT hf ht hs hg
  have T1 := Lib.hid ht0
  clear ht0
  go_enter Tryd.func7, Tryd.ntmps7
  go_wp2_with fail
  obtain ⟨w1, hW⟩ : ∃ w1, w.alloc (.cells #[.int .i64 k, .int .i64 f, .int .i64 t, .int .i64 s, .int .i64 g, .bool m, .bool r, .int .i64 d, .slice A n cap] 27) = w1 := ⟨_, rfl⟩
  rw [hW]
  have X1 := Lib.hid (show Bx 27 w1 w.heap.size #[.int .i64 k, .int .i64 f, .int .i64 t, .int .i64 s, .int .i64 g, .bool m, .bool r, .int .i64 d, .slice A n cap] by rw [← hW]; exact Bx.made _ _ _)
  have B1 := Lib.hid (show Below w.heap.size w w1 by rw [← hW]; exact below_box _ _)
  have T1 := Lib.hid (T1.out.below B1.out)
  clear hW
  (with_reducible refine (implFI t Ht.out _ T1.out).mono ?_)
  rw [VT.out]
  rintro e w2 ⟨rfl, hb⟩
  have X0 := Lib.hid (X1.out.below hb)
  have B0 := Lib.hid (B1.out.trans (hb.mono B1.out.size))
  have T0 := Lib.hid (T1.out.below hb)
  clear hb X1 B1
  by_cases h63 : t = 63
  · have e63 : (t == 63) = true := by simpa using h63
    have ER := Lib.hid (show R = ⟨#[42]⟩ by rw [← VR.out]; unfold rcv; rw [if_pos h63])
    clear h63
    have b_0 : w2.cell? ⟨w.heap.size, 0, none⟩ = some (.int .i64 k) := X0.out.cell 0
    have b_1 : w2.cell? ⟨w.heap.size, 1, none⟩ = some (.int .i64 f) := X0.out.cell 1
    have b_2 : w2.cell? ⟨w.heap.size, 2, none⟩ = some (.int .i64 t) := X0.out.cell 2
    have b_3 : w2.cell? ⟨w.heap.size, 3, none⟩ = some (.int .i64 s) := X0.out.cell 3
    have b_4 : w2.cell? ⟨w.heap.size, 4, none⟩ = some (.int .i64 g) := X0.out.cell 4
    have b_5 : w2.cell? ⟨w.heap.size, 5, none⟩ = some (.bool m) := X0.out.cell 5
    have b_6 : w2.cell? ⟨w.heap.size, 6, none⟩ = some (.bool r) := X0.out.cell 6
    have b_7 : w2.cell? ⟨w.heap.size, 7, none⟩ = some (.int .i64 d) := X0.out.cell 7
    have b_8 : w2.cell? ⟨w.heap.size, 8, none⟩ = some (.slice A n cap) := X0.out.cell 8
    go_wp2_with fail
    clear b_0 b_1 b_2 b_3 b_4 b_5 b_6 b_7 b_8
    rw [← ER.out]
    have X2 := Lib.hid (show Bx 27 w2.drew w.heap.size #[.int .i64 k, .int .i64 f, .int .i64 t, .int .i64 s, .int .i64 g, .bool m, .bool r, .int .i64 d, .slice A n cap] from X0.out.same rfl)
    have B2 := Lib.hid (own.below_drew B0.out)
    have T2 := Lib.hid (T0.out.below (own.below_drew (Below.refl w2.heap.size w2)))
    have c2_0 : w2.drew.cell? ⟨w.heap.size, 0, none⟩ = some (.int .i64 k) := X2.out.cell 0
    have c2_1 : w2.drew.cell? ⟨w.heap.size, 1, none⟩ = some (.int .i64 f) := X2.out.cell 1
    have c2_2 : w2.drew.cell? ⟨w.heap.size, 2, none⟩ = some (.int .i64 t) := X2.out.cell 2
    have c2_3 : w2.drew.cell? ⟨w.heap.size, 3, none⟩ = some (.int .i64 s) := X2.out.cell 3
    have c2_4 : w2.drew.cell? ⟨w.heap.size, 4, none⟩ = some (.int .i64 g) := X2.out.cell 4
    have c2_5 : w2.drew.cell? ⟨w.heap.size, 5, none⟩ = some (.bool m) := X2.out.cell 5
    have c2_6 : w2.drew.cell? ⟨w.heap.size, 6, none⟩ = some (.bool r) := X2.out.cell 6
    have c2_7 : w2.drew.cell? ⟨w.heap.size, 7, none⟩ = some (.int .i64 d) := X2.out.cell 7
    have c2_8 : w2.drew.cell? ⟨w.heap.size, 8, none⟩ = some (.slice A n cap) := X2.out.cell 8
    clear X0 B0 T0
    go_region_held3 (fun w' => w'.cell? ⟨w.heap.size, 0, none⟩ = some (.int .i64 k) ∧ w'.cell? ⟨w.heap.size, 1, none⟩ = some (.int .i64 f) ∧ w'.cell? ⟨w.heap.size, 2, none⟩ = some (.int .i64 t) ∧ w'.cell? ⟨w.heap.size, 3, none⟩ = some (.int .i64 s) ∧ w'.cell? ⟨w.heap.size, 4, none⟩ = some (.int .i64 g) ∧ w'.cell? ⟨w.heap.size, 5, none⟩ = some (.bool m) ∧ w'.cell? ⟨w.heap.size, 6, none⟩ = some (.bool r) ∧ w'.cell? ⟨w.heap.size, 7, none⟩ = some (.int .i64 d) ∧ w'.cell? ⟨w.heap.size, 8, none⟩ = some (.slice A n cap)) (first | (with_reducible exact ⟨c2_0, c2_1, c2_2, c2_3, c2_4, c2_5, c2_6, c2_7, c2_8⟩) | (with_reducible exact ⟨c3_0, c3_1, c3_2, c3_3, c3_4, c3_5, c3_6, c3_7, c3_8⟩) | (with_reducible exact ⟨c4_0, c4_1, c4_2, c4_3, c4_4, c4_5, c4_6, c4_7, c4_8⟩) | (with_reducible exact ⟨c5_0, c5_1, c5_2, c5_3, c5_4, c5_5, c5_6, c5_7, c5_8⟩) | (with_reducible exact ⟨c6_0, c6_1, c6_2, c6_3, c6_4, c6_5, c6_6, c6_7, c6_8⟩))
      (first
      | ( have g9 := c5_0; clear g9; go_at_call 13; (with_reducible refine (implFI g Hg.out _ T5.out).mono ?_); rw [VG.out]; rintro e w6 ⟨rfl, hb⟩; have X6 := Lib.hid (X5.out.below hb); have B6 := Lib.hid (B5.out.trans (hb.mono B5.out.size)); have T6 := Lib.hid (T5.out.below hb); have c6_0 : w6.cell? ⟨w.heap.size, 0, none⟩ = some (.int .i64 k) := X6.out.cell 0; have c6_1 : w6.cell? ⟨w.heap.size, 1, none⟩ = some (.int .i64 f) := X6.out.cell 1; have c6_2 : w6.cell? ⟨w.heap.size, 2, none⟩ = some (.int .i64 t) := X6.out.cell 2; have c6_3 : w6.cell? ⟨w.heap.size, 3, none⟩ = some (.int .i64 s) := X6.out.cell 3; have c6_4 : w6.cell? ⟨w.heap.size, 4, none⟩ = some (.int .i64 g) := X6.out.cell 4; have c6_5 : w6.cell? ⟨w.heap.size, 5, none⟩ = some (.bool m) := X6.out.cell 5; have c6_6 : w6.cell? ⟨w.heap.size, 6, none⟩ = some (.bool r) := X6.out.cell 6; have c6_7 : w6.cell? ⟨w.heap.size, 7, none⟩ = some (.int .i64 d) := X6.out.cell 7; have c6_8 : w6.cell? ⟨w.heap.size, 8, none⟩ = some (.slice A n cap) := X6.out.cell 8; clear hb)
      | ( have g9 := c4_0; clear g9; go_at_call 13; (with_reducible refine (implFI s Hs.out _ T4.out).mono ?_); rw [VS.out]; rintro e w5 ⟨rfl, hb⟩; have X5 := Lib.hid (X4.out.below hb); have B5 := Lib.hid (B4.out.trans (hb.mono B4.out.size)); have T5 := Lib.hid (T4.out.below hb); have c5_0 : w5.cell? ⟨w.heap.size, 0, none⟩ = some (.int .i64 k) := X5.out.cell 0; have c5_1 : w5.cell? ⟨w.heap.size, 1, none⟩ = some (.int .i64 f) := X5.out.cell 1; have c5_2 : w5.cell? ⟨w.heap.size, 2, none⟩ = some (.int .i64 t) := X5.out.cell 2; have c5_3 : w5.cell? ⟨w.heap.size, 3, none⟩ = some (.int .i64 s) := X5.out.cell 3; have c5_4 : w5.cell? ⟨w.heap.size, 4, none⟩ = some (.int .i64 g) := X5.out.cell 4; have c5_5 : w5.cell? ⟨w.heap.size, 5, none⟩ = some (.bool m) := X5.out.cell 5; have c5_6 : w5.cell? ⟨w.heap.size, 6, none⟩ = some (.bool r) := X5.out.cell 6; have c5_7 : w5.cell? ⟨w.heap.size, 7, none⟩ = some (.int .i64 d) := X5.out.cell 7; have c5_8 : w5.cell? ⟨w.heap.size, 8, none⟩ = some (.slice A n cap) := X5.out.cell 8; clear hb)
      | ( have g9 := c3_0; clear g9; go_at_call 13; (with_reducible refine (implFI f Hf.out _ T3.out).mono ?_); rw [VF.out]; rintro e w4 ⟨rfl, hb⟩; have X4 := Lib.hid (X3.out.below hb); have B4 := Lib.hid (B3.out.trans (hb.mono B3.out.size)); have T4 := Lib.hid (T3.out.below hb); have c4_0 : w4.cell? ⟨w.heap.size, 0, none⟩ = some (.int .i64 k) := X4.out.cell 0; have c4_1 : w4.cell? ⟨w.heap.size, 1, none⟩ = some (.int .i64 f) := X4.out.cell 1; have c4_2 : w4.cell? ⟨w.heap.size, 2, none⟩ = some (.int .i64 t) := X4.out.cell 2; have c4_3 : w4.cell? ⟨w.heap.size, 3, none⟩ = some (.int .i64 s) := X4.out.cell 3; have c4_4 : w4.cell? ⟨w.heap.size, 4, none⟩ = some (.int .i64 g) := X4.out.cell 4; have c4_5 : w4.cell? ⟨w.heap.size, 5, none⟩ = some (.bool m) := X4.out.cell 5; have c4_6 : w4.cell? ⟨w.heap.size, 6, none⟩ = some (.bool r) := X4.out.cell 6; have c4_7 : w4.cell? ⟨w.heap.size, 7, none⟩ = some (.int .i64 d) := X4.out.cell 7; have c4_8 : w4.cell? ⟨w.heap.size, 8, none⟩ = some (.slice A n cap) := X4.out.cell 8; clear hb)
      | ( go_at_call 14; (with_reducible refine (implKn k _).mono ?_); rw [VN.out]; rintro e w3 ⟨rfl, hb⟩; have X3 := Lib.hid (X2.out.below hb); have B3 := Lib.hid (B2.out.trans (hb.mono B2.out.size)); have T3 := Lib.hid (T2.out.below hb); have c3_0 : w3.cell? ⟨w.heap.size, 0, none⟩ = some (.int .i64 k) := X3.out.cell 0; have c3_1 : w3.cell? ⟨w.heap.size, 1, none⟩ = some (.int .i64 f) := X3.out.cell 1; have c3_2 : w3.cell? ⟨w.heap.size, 2, none⟩ = some (.int .i64 t) := X3.out.cell 2; have c3_3 : w3.cell? ⟨w.heap.size, 3, none⟩ = some (.int .i64 s) := X3.out.cell 3; have c3_4 : w3.cell? ⟨w.heap.size, 4, none⟩ = some (.int .i64 g) := X3.out.cell 4; have c3_5 : w3.cell? ⟨w.heap.size, 5, none⟩ = some (.bool m) := X3.out.cell 5; have c3_6 : w3.cell? ⟨w.heap.size, 6, none⟩ = some (.bool r) := X3.out.cell 6; have c3_7 : w3.cell? ⟨w.heap.size, 7, none⟩ = some (.int .i64 d) := X3.out.cell 7; have c3_8 : w3.cell? ⟨w.heap.size, 8, none⟩ = some (.slice A n cap) := X3.out.cell 8; clear hb))
    clear c2_0 c2_1 c2_2 c2_3 c2_4 c2_5 c2_6 c2_7 c2_8
    clear c3_0 c3_1 c3_2 c3_3 c3_4 c3_5 c3_6 c3_7 c3_8
    clear c4_0 c4_1 c4_2 c4_3 c4_4 c4_5 c4_6 c4_7 c4_8
    clear c5_0 c5_1 c5_2 c5_3 c5_4 c5_5 c5_6 c5_7 c5_8
    cases m <;> cases r
    all_goals
      go_wp2_with fail
      go_ret
      exact ⟨HE.out, B6.out⟩
  · have e63 : (t == 63) = false := by simpa using h63
    have ER := Lib.hid (show R = NT by rw [← VR.out]; unfold rcv; rw [if_neg h63]; exact VT.out)
    clear h63
    have b_0 : w2.cell? ⟨w.heap.size, 0, none⟩ = some (.int .i64 k) := X0.out.cell 0
    have b_1 : w2.cell? ⟨w.heap.size, 1, none⟩ = some (.int .i64 f) := X0.out.cell 1
    have b_2 : w2.cell? ⟨w.heap.size, 2, none⟩ = some (.int .i64 t) := X0.out.cell 2
    have b_3 : w2.cell? ⟨w.heap.size, 3, none⟩ = some (.int .i64 s) := X0.out.cell 3
    have b_4 : w2.cell? ⟨w.heap.size, 4, none⟩ = some (.int .i64 g) := X0.out.cell 4
    have b_5 : w2.cell? ⟨w.heap.size, 5, none⟩ = some (.bool m) := X0.out.cell 5
    have b_6 : w2.cell? ⟨w.heap.size, 6, none⟩ = some (.bool r) := X0.out.cell 6
    have b_7 : w2.cell? ⟨w.heap.size, 7, none⟩ = some (.int .i64 d) := X0.out.cell 7
    have b_8 : w2.cell? ⟨w.heap.size, 8, none⟩ = some (.slice A n cap) := X0.out.cell 8
    go_wp2_with fail
    clear b_0 b_1 b_2 b_3 b_4 b_5 b_6 b_7 b_8
    rw [← ER.out]
    have X2 := Lib.hid (show Bx 27 w2.drew w.heap.size #[.int .i64 k, .int .i64 f, .int .i64 t, .int .i64 s, .int .i64 g, .bool m, .bool r, .int .i64 d, .slice A n cap] from X0.out.same rfl)
    have B2 := Lib.hid (own.below_drew B0.out)
    have T2 := Lib.hid (T0.out.below (own.below_drew (Below.refl w2.heap.size w2)))
    have c2_0 : w2.drew.cell? ⟨w.heap.size, 0, none⟩ = some (.int .i64 k) := X2.out.cell 0
    have c2_1 : w2.drew.cell? ⟨w.heap.size, 1, none⟩ = some (.int .i64 f) := X2.out.cell 1
    have c2_2 : w2.drew.cell? ⟨w.heap.size, 2, none⟩ = some (.int .i64 t) := X2.out.cell 2
    have c2_3 : w2.drew.cell? ⟨w.heap.size, 3, none⟩ = some (.int .i64 s) := X2.out.cell 3
    have c2_4 : w2.drew.cell? ⟨w.heap.size, 4, none⟩ = some (.int .i64 g) := X2.out.cell 4
    have c2_5 : w2.drew.cell? ⟨w.heap.size, 5, none⟩ = some (.bool m) := X2.out.cell 5
    have c2_6 : w2.drew.cell? ⟨w.heap.size, 6, none⟩ = some (.bool r) := X2.out.cell 6
    have c2_7 : w2.drew.cell? ⟨w.heap.size, 7, none⟩ = some (.int .i64 d) := X2.out.cell 7
    have c2_8 : w2.drew.cell? ⟨w.heap.size, 8, none⟩ = some (.slice A n cap) := X2.out.cell 8
    clear X0 B0 T0
    go_region_held3 (fun w' => w'.cell? ⟨w.heap.size, 0, none⟩ = some (.int .i64 k) ∧ w'.cell? ⟨w.heap.size, 1, none⟩ = some (.int .i64 f) ∧ w'.cell? ⟨w.heap.size, 2, none⟩ = some (.int .i64 t) ∧ w'.cell? ⟨w.heap.size, 3, none⟩ = some (.int .i64 s) ∧ w'.cell? ⟨w.heap.size, 4, none⟩ = some (.int .i64 g) ∧ w'.cell? ⟨w.heap.size, 5, none⟩ = some (.bool m) ∧ w'.cell? ⟨w.heap.size, 6, none⟩ = some (.bool r) ∧ w'.cell? ⟨w.heap.size, 7, none⟩ = some (.int .i64 d) ∧ w'.cell? ⟨w.heap.size, 8, none⟩ = some (.slice A n cap)) (first | (with_reducible exact ⟨c2_0, c2_1, c2_2, c2_3, c2_4, c2_5, c2_6, c2_7, c2_8⟩) | (with_reducible exact ⟨c3_0, c3_1, c3_2, c3_3, c3_4, c3_5, c3_6, c3_7, c3_8⟩) | (with_reducible exact ⟨c4_0, c4_1, c4_2, c4_3, c4_4, c4_5, c4_6, c4_7, c4_8⟩) | (with_reducible exact ⟨c5_0, c5_1, c5_2, c5_3, c5_4, c5_5, c5_6, c5_7, c5_8⟩) | (with_reducible exact ⟨c6_0, c6_1, c6_2, c6_3, c6_4, c6_5, c6_6, c6_7, c6_8⟩))
      (first
      | ( have g9 := c5_0; clear g9; go_at_call 13; (with_reducible refine (implFI g Hg.out _ T5.out).mono ?_); rw [VG.out]; rintro e w6 ⟨rfl, hb⟩; have X6 := Lib.hid (X5.out.below hb); have B6 := Lib.hid (B5.out.trans (hb.mono B5.out.size)); have T6 := Lib.hid (T5.out.below hb); have c6_0 : w6.cell? ⟨w.heap.size, 0, none⟩ = some (.int .i64 k) := X6.out.cell 0; have c6_1 : w6.cell? ⟨w.heap.size, 1, none⟩ = some (.int .i64 f) := X6.out.cell 1; have c6_2 : w6.cell? ⟨w.heap.size, 2, none⟩ = some (.int .i64 t) := X6.out.cell 2; have c6_3 : w6.cell? ⟨w.heap.size, 3, none⟩ = some (.int .i64 s) := X6.out.cell 3; have c6_4 : w6.cell? ⟨w.heap.size, 4, none⟩ = some (.int .i64 g) := X6.out.cell 4; have c6_5 : w6.cell? ⟨w.heap.size, 5, none⟩ = some (.bool m) := X6.out.cell 5; have c6_6 : w6.cell? ⟨w.heap.size, 6, none⟩ = some (.bool r) := X6.out.cell 6; have c6_7 : w6.cell? ⟨w.heap.size, 7, none⟩ = some (.int .i64 d) := X6.out.cell 7; have c6_8 : w6.cell? ⟨w.heap.size, 8, none⟩ = some (.slice A n cap) := X6.out.cell 8; clear hb)
      | ( have g9 := c4_0; clear g9; go_at_call 13; (with_reducible refine (implFI s Hs.out _ T4.out).mono ?_); rw [VS.out]; rintro e w5 ⟨rfl, hb⟩; have X5 := Lib.hid (X4.out.below hb); have B5 := Lib.hid (B4.out.trans (hb.mono B4.out.size)); have T5 := Lib.hid (T4.out.below hb); have c5_0 : w5.cell? ⟨w.heap.size, 0, none⟩ = some (.int .i64 k) := X5.out.cell 0; have c5_1 : w5.cell? ⟨w.heap.size, 1, none⟩ = some (.int .i64 f) := X5.out.cell 1; have c5_2 : w5.cell? ⟨w.heap.size, 2, none⟩ = some (.int .i64 t) := X5.out.cell 2; have c5_3 : w5.cell? ⟨w.heap.size, 3, none⟩ = some (.int .i64 s) := X5.out.cell 3; have c5_4 : w5.cell? ⟨w.heap.size, 4, none⟩ = some (.int .i64 g) := X5.out.cell 4; have c5_5 : w5.cell? ⟨w.heap.size, 5, none⟩ = some (.bool m) := X5.out.cell 5; have c5_6 : w5.cell? ⟨w.heap.size, 6, none⟩ = some (.bool r) := X5.out.cell 6; have c5_7 : w5.cell? ⟨w.heap.size, 7, none⟩ = some (.int .i64 d) := X5.out.cell 7; have c5_8 : w5.cell? ⟨w.heap.size, 8, none⟩ = some (.slice A n cap) := X5.out.cell 8; clear hb)
      | ( have g9 := c3_0; clear g9; go_at_call 13; (with_reducible refine (implFI f Hf.out _ T3.out).mono ?_); rw [VF.out]; rintro e w4 ⟨rfl, hb⟩; have X4 := Lib.hid (X3.out.below hb); have B4 := Lib.hid (B3.out.trans (hb.mono B3.out.size)); have T4 := Lib.hid (T3.out.below hb); have c4_0 : w4.cell? ⟨w.heap.size, 0, none⟩ = some (.int .i64 k) := X4.out.cell 0; have c4_1 : w4.cell? ⟨w.heap.size, 1, none⟩ = some (.int .i64 f) := X4.out.cell 1; have c4_2 : w4.cell? ⟨w.heap.size, 2, none⟩ = some (.int .i64 t) := X4.out.cell 2; have c4_3 : w4.cell? ⟨w.heap.size, 3, none⟩ = some (.int .i64 s) := X4.out.cell 3; have c4_4 : w4.cell? ⟨w.heap.size, 4, none⟩ = some (.int .i64 g) := X4.out.cell 4; have c4_5 : w4.cell? ⟨w.heap.size, 5, none⟩ = some (.bool m) := X4.out.cell 5; have c4_6 : w4.cell? ⟨w.heap.size, 6, none⟩ = some (.bool r) := X4.out.cell 6; have c4_7 : w4.cell? ⟨w.heap.size, 7, none⟩ = some (.int .i64 d) := X4.out.cell 7; have c4_8 : w4.cell? ⟨w.heap.size, 8, none⟩ = some (.slice A n cap) := X4.out.cell 8; clear hb)
      | ( go_at_call 14; (with_reducible refine (implKn k _).mono ?_); rw [VN.out]; rintro e w3 ⟨rfl, hb⟩; have X3 := Lib.hid (X2.out.below hb); have B3 := Lib.hid (B2.out.trans (hb.mono B2.out.size)); have T3 := Lib.hid (T2.out.below hb); have c3_0 : w3.cell? ⟨w.heap.size, 0, none⟩ = some (.int .i64 k) := X3.out.cell 0; have c3_1 : w3.cell? ⟨w.heap.size, 1, none⟩ = some (.int .i64 f) := X3.out.cell 1; have c3_2 : w3.cell? ⟨w.heap.size, 2, none⟩ = some (.int .i64 t) := X3.out.cell 2; have c3_3 : w3.cell? ⟨w.heap.size, 3, none⟩ = some (.int .i64 s) := X3.out.cell 3; have c3_4 : w3.cell? ⟨w.heap.size, 4, none⟩ = some (.int .i64 g) := X3.out.cell 4; have c3_5 : w3.cell? ⟨w.heap.size, 5, none⟩ = some (.bool m) := X3.out.cell 5; have c3_6 : w3.cell? ⟨w.heap.size, 6, none⟩ = some (.bool r) := X3.out.cell 6; have c3_7 : w3.cell? ⟨w.heap.size, 7, none⟩ = some (.int .i64 d) := X3.out.cell 7; have c3_8 : w3.cell? ⟨w.heap.size, 8, none⟩ = some (.slice A n cap) := X3.out.cell 8; clear hb))
    clear c2_0 c2_1 c2_2 c2_3 c2_4 c2_5 c2_6 c2_7 c2_8
    clear c3_0 c3_1 c3_2 c3_3 c3_4 c3_5 c3_6 c3_7 c3_8
    clear c4_0 c4_1 c4_2 c4_3 c4_4 c4_5 c4_6 c4_7 c4_8
    clear c5_0 c5_1 c5_2 c5_3 c5_4 c5_5 c5_6 c5_7 c5_8
    cases m <;> cases r
    all_goals
      go_wp2_with fail
      go_ret
      exact ⟨HE.out, B6.out⟩
end Go.Proofs.YtnnlkkohbjolaaaDoor.fmt
