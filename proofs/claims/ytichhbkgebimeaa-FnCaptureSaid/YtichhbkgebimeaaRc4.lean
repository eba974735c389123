/- Who is received, and exposed stations: the program's functions. Condition: positions within 2^30 and at most 2^26 of them. -/
import Derived.Test.YtichhbkgebimeaaRc3
namespace Go.Proofs.Ytichhbkgebimeaa.bx
open Go.RowKit sl harn rng plm rfm
set_option linter.unusedVariables false

theorem rf_of_rcp {z : List Int} {r s : Int} {l : List Int} {q x c : Int} (hs : Sm z) (hq : q ∉ l) (h : Rcp z r q (sen z s l q z.length) x c) : Rf z r s l q (if c = 3 then x else -1) := by
  rcases h with ⟨h1, rfl⟩ | ⟨hf, h⟩
  · refine .inl ⟨by simp, .inr (.inl fun y hy => ?_)⟩
    cases hw : win z s y q with
    | false => rfl
    | true => have := (sen_all z s l q y).2 ⟨hy, hw⟩; rw [h1] at this; cases this
  · have hb := best_of_first rfl hf
    have hx := win_sm hs hb.2.1
    rcases h with ⟨h1, rfl⟩ | ⟨h1, ⟨y, hy, hn, hd⟩, rfl⟩ | ⟨h1, h2, rfl⟩
    · exact .inl ⟨by simp, .inr (.inr ⟨x, hb, .inl h1⟩)⟩
    · obtain ⟨g1, g2⟩ := (sen_all _ _ _ _ _).1 hy
      rw [dis_sm (win_sm hs g2) hx] at hd
      exact .inl ⟨by simp, .inr (.inr ⟨x, hb, .inr ⟨y, g1, g2, hn, of_decide_eq_true hd⟩⟩)⟩
    · refine .inr ⟨hq, by simpa using hb, by simpa using h1, fun y hy hw hn => ?_⟩
      simp only [if_true] at hn ⊢
      have hd := h2 y ((sen_all _ _ _ _ _).2 ⟨hy, hw⟩) hn
      rw [dis_sm (win_sm hs hw) hx] at hd
      have := of_decide_eq_false hd
      omega
def RfPost (z : List Int) (r s : Int) (l : List Int) (q : Int) (w : World) (e : Ending) (w' : World) : Prop := ∃ v : Int, e = .returned (.int .i64 v) ∧ Rf z r s l q v ∧ Below w.heap.size w w'
set_option maxRecDepth 100000 in
set_option maxHeartbeats 4000000 in
theorem implRf (A : Option Addr) (n cap : Nat) (r s : Int) (z : List Int) (A2 : Option Addr) (n2 cap2 : Nat) (l : List Int) (q : Int) (lo hi lo2 hi2 : Nat) (w : World) (h : Rd .i64 w lo hi A n cap z) (h2 : Rd .i64 w lo2 hi2 A2 n2 cap2 l) (hn : n ≤ 67108864) (hs : Sm z) :
    Calls Try.prog 22 #[.agg #[.slice A n cap, .int .i64 r, .int .i64 s], .slice A2 n2 cap2, .int .i64 q] w (RfPost z r s l q w) := by
  have HR := Lib.hid h
  have HS := Lib.hid h2
  have HM := Lib.hid hs
  clear h h2 hs
  go_enter Try.func22, Try.ntmps22
  go_wp2_with fail
  obtain ⟨w0, hW⟩ : ∃ w0, w.alloc (.cells #[.slice A n cap, .int .i64 r, .int .i64 s] 26) = w0 := ⟨_, rfl⟩
  rw [hW]
  have B0 := Lib.hid (show Below w.heap.size w w0 by rw [← hW]; exact below_box _ _)
  have X0 := Lib.hid (show Bx 26 w0 w.heap.size #[.slice A n cap, .int .i64 r, .int .i64 s] by rw [← hW]; exact Bx.made _ _ _)
  have R0 := Lib.hid (HR.out.below B0.out)
  have S0 := Lib.hid (HS.out.below B0.out)
  clear hW HR HS
  (with_reducible refine (containsI l q _ _ A2 n2 cap2 _ S0.out).mono ?_)
  rintro e w1 ⟨rfl, rfl⟩
  by_cases hq : q ∈ l
  · rw [decide_eq_true hq]
    have HQ := Lib.hid hq
    clear hq
    go_wp2_with fail
    go_ret
    exact ⟨-1, rfl, .inl ⟨rfl, .inl HQ.out⟩, B0.out⟩
  · rw [decide_eq_false hq]
    have HQ := Lib.hid hq
    clear hq
    go_wp2_with fail
    have hbd : Below w0.heap.size w0 w0.drew := own.below_drew (Below.refl _ _)
    have B1 := Lib.hid (B0.out.trans (hbd.mono B0.out.size))
    have X1 := Lib.hid (X0.out.below hbd)
    have R1 := Lib.hid (R0.out.below hbd)
    have S1 := Lib.hid (S0.out.below hbd)
    clear hbd B0 X0 R0 S0
    have c0_0 : w0.drew.cell? ⟨w.heap.size, 0, none⟩ = some (.slice A n cap) := X1.out.cell 0
    have c0_1 : w0.drew.cell? ⟨w.heap.size, 1, none⟩ = some (.int .i64 r) := X1.out.cell 1
    have c0_2 : w0.drew.cell? ⟨w.heap.size, 2, none⟩ = some (.int .i64 s) := X1.out.cell 2
    go_region_held3 (fun w' => w'.cell? ⟨w.heap.size, 0, none⟩ = some (.slice A n cap) ∧ w'.cell? ⟨w.heap.size, 1, none⟩ = some (.int .i64 r) ∧ w'.cell? ⟨w.heap.size, 2, none⟩ = some (.int .i64 s)) (first | (with_reducible exact ⟨c0_0, c0_1, c0_2⟩) | (with_reducible exact ⟨c1_0, c1_1, c1_2⟩) | (with_reducible exact ⟨c2_0, c2_1, c2_2⟩))
      (first
      | (go_at_call 51; refine (implSn A n cap r s z A2 n2 cap2 l q _ _ _ _ _ R1.out S1.out hn).mono ?_; rintro e w2 ⟨A3, n3, cap3, rfl, ho, hb⟩; have O2 := Lib.hid ho; have B2 := Lib.hid (B1.out.trans (hb.mono B1.out.size)); have X2 := Lib.hid (X1.out.below hb); have R2 := Lib.hid (R1.out.below hb); clear ho hb B1 X1 R1 S1; have c1_0 : w2.cell? ⟨w.heap.size, 0, none⟩ = some (.slice A n cap) := X2.out.cell 0; have c1_1 : w2.cell? ⟨w.heap.size, 1, none⟩ = some (.int .i64 r) := X2.out.cell 1; have c1_2 : w2.cell? ⟨w.heap.size, 2, none⟩ = some (.int .i64 s) := X2.out.cell 2)
      | (go_at_call 50; refine (implRc A n cap r s z A3 n3 cap3 _ q _ _ _ _ _ R2.out O2.out.rd).mono ?_; rintro e w3 ⟨x, c, rfl, hr, hb⟩; have HC := Lib.hid hr; have B3 := Lib.hid (B2.out.trans (hb.mono B2.out.size)); have X3 := Lib.hid (X2.out.below hb); clear hr hb B2 X2 R2 O2; have c2_0 : w3.cell? ⟨w.heap.size, 0, none⟩ = some (.slice A n cap) := X3.out.cell 0; have c2_1 : w3.cell? ⟨w.heap.size, 1, none⟩ = some (.int .i64 r) := X3.out.cell 1; have c2_2 : w3.cell? ⟨w.heap.size, 2, none⟩ = some (.int .i64 s) := X3.out.cell 2))
    clear c0_0 c0_1 c0_2 c1_0 c1_1 c1_2 c2_0 c2_1 c2_2
    have HF := Lib.hid (rf_of_rcp HM.out HQ.out HC.out)
    by_cases hc : c = 3
    · have HF2 := Lib.hid (show Rf z r s l q x by have hh := HF.out; rw [if_pos hc] at hh; exact hh)
      have hc1 : (c != 3) = false := by simp [hc]
      clear hc HF HC
      go_wp2_with fail
      go_ret
      exact ⟨x, rfl, HF2.out, B3.out⟩
    · have HF2 := Lib.hid (show Rf z r s l q (-1) by have hh := HF.out; rw [if_neg hc] at hh; exact hh)
      have hc1 : (c != 3) = true := by simpa using hc
      clear hc HF HC
      go_wp2_with fail
      go_ret
      exact ⟨-1, rfl, HF2.out, B3.out⟩
/-- What an exposed pair says. -/
def ExPost (z : List Int) (r s a b x : Int) (w : World) (e : Ending) (w' : World) : Prop := ∃ v : Bool, e = .returned (.bool v) ∧ (v = true → win z s a b = true ∧ Rf z r s [a, b] x a) ∧ Below w.heap.size w w'
theorem wf_two {a b : Int} (ha : (Lit.int .i64 a).wf = true) (hb : (Lit.int .i64 b).wf = true) : Wf .i64 [a, b] := fun z hz => by
  simp at hz
  rcases hz with rfl | rfl <;> assumption
set_option maxRecDepth 100000 in
set_option maxHeartbeats 4000000 in
theorem implEx (A : Option Addr) (n cap : Nat) (r s : Int) (z : List Int) (a b x y : Int) (lo hi : Nat) (w : World) (h : Rd .i64 w lo hi A n cap z) (hn : n ≤ 67108864) (hs : Sm z) (ha : (Lit.int .i64 a).wf = true) (hb : (Lit.int .i64 b).wf = true) :
    Calls Try.prog 26 #[.agg #[.slice A n cap, .int .i64 r, .int .i64 s], .int .i64 a, .int .i64 b, .int .i64 x, .int .i64 y] w (ExPost z r s a b x w) := by
  have HR := Lib.hid h
  have HM := Lib.hid hs
  have HW := Lib.hid (wf_two ha hb)
  clear h hs ha hb
  go_enter Try.func26, Try.ntmps26
  go_wp2_with fail
  obtain ⟨w0, hW⟩ : ∃ w0, (w.alloc (.cells #[.slice A n cap, .int .i64 r, .int .i64 s] 26)).alloc (.cells #[.int .i64 a, .int .i64 b] 3) = w0 := ⟨_, rfl⟩
  rw [hW]
  have B0 := Lib.hid (show Below w.heap.size w w0 by rw [← hW]; exact below_box2 _ _ _)
  have X0 := Lib.hid (show Bx 26 w0 w.heap.size #[.slice A n cap, .int .i64 r, .int .i64 s] by rw [← hW]; exact (Bx.made _ _ _).below (below_box _ _))
  have L0 := Lib.hid (show Rd .i64 w0 (w.heap.size + 1) (w.heap.size + 1 + 1) (some ⟨w.heap.size + 1, 0, none⟩) 2 2 [a, b] by
    rw [← hW]
    have hh := Ow.lit (E := 3) (k := .i64) (n := 2) (w.alloc (.cells #[.slice A n cap, .int .i64 r, .int .i64 s] 26)) #[.int .i64 a, .int .i64 b] [a, b] rfl HW.out (by simp [maxLen]) rfl
    simpa using hh.rd)
  have R0 := Lib.hid (HR.out.below B0.out)
  clear hW HR
  have c0 : w0.cell? ⟨w.heap.size, 0, none⟩ = some (.slice A n cap) := X0.out.cell 0
  have c1 : w0.cell? ⟨w.heap.size, 1, none⟩ = some (.int .i64 r) := X0.out.cell 1
  have c2 : w0.cell? ⟨w.heap.size, 2, none⟩ = some (.int .i64 s) := X0.out.cell 2
  go_wp2_with fail
  clear c0 c1 c2
  (with_reducible refine (implCs A n cap r s z a b _ _ _ R0.out).mono ?_)
  rintro e w1 ⟨rfl, hb⟩
  have B1 := Lib.hid (B0.out.trans (hb.mono B0.out.size))
  have X1 := Lib.hid (X0.out.below hb)
  have L1 := Lib.hid (L0.out.below hb)
  have R1 := Lib.hid (R0.out.below hb)
  clear hb B0 X0 L0 R0
  have c0 : w1.cell? ⟨w.heap.size, 0, none⟩ = some (.slice A n cap) := X1.out.cell 0
  have c1 : w1.cell? ⟨w.heap.size, 1, none⟩ = some (.int .i64 r) := X1.out.cell 1
  have c2 : w1.cell? ⟨w.heap.size, 2, none⟩ = some (.int .i64 s) := X1.out.cell 2
  cases hw : win z s a b with
  | false =>
    clear hw
    go_wp2_with fail
    go_ret
    exact ⟨false, rfl, fun h => absurd h Bool.false_ne_true, B1.out⟩
  | true =>
    have HV := Lib.hid hw
    clear hw
    go_wp2_with fail
    clear c0 c1 c2
    (with_reducible refine (implRf A n cap r s z _ 2 2 [a, b] x _ _ _ _ _ R1.out L1.out hn HM.out).mono ?_)
    rintro e w2 ⟨v, rfl, hr, hb⟩
    have HF := Lib.hid hr
    have B2 := Lib.hid (B1.out.trans (hb.mono B1.out.size))
    have X2 := Lib.hid (X1.out.below hb)
    have L2 := Lib.hid (L1.out.below hb)
    have R2 := Lib.hid (R1.out.below hb)
    clear hb hr B1 X1 L1 R1
    have c0 : w2.cell? ⟨w.heap.size, 0, none⟩ = some (.slice A n cap) := X2.out.cell 0
    have c1 : w2.cell? ⟨w.heap.size, 1, none⟩ = some (.int .i64 r) := X2.out.cell 1
    have c2 : w2.cell? ⟨w.heap.size, 2, none⟩ = some (.int .i64 s) := X2.out.cell 2
    by_cases hv : v = a
    · have hv1 : (v == a) = true := by simpa using hv
      have HG := Lib.hid (show Rf z r s [a, b] x a by have hh := HF.out; rw [hv] at hh; exact hh)
      clear hv HF
      go_wp2_with fail
      clear c0 c1 c2
      (with_reducible refine (implRf A n cap r s z _ 2 2 [a, b] y _ _ _ _ _ R2.out L2.out hn HM.out).mono ?_)
      rintro e w3 ⟨u, rfl, hr, hb⟩
      have B3 := Lib.hid (B2.out.trans (hb.mono B2.out.size))
      clear hb hr
      go_wp2_with fail
      go_ret
      exact ⟨_, rfl, fun _ => ⟨HV.out, HG.out⟩, B3.out⟩
    · have hv1 : (v == a) = false := by simpa using hv
      clear hv HF
      go_wp2_with fail
      go_ret
      exact ⟨false, rfl, fun h => absurd h Bool.false_ne_true, B2.out⟩
end Go.Proofs.Ytichhbkgebimeaa.bx
