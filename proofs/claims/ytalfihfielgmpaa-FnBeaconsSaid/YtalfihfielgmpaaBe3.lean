/- The map written from an announcement, and SetTim, program and specification. Condition: none. -/
import Derived.Test.YtalfihfielgmpaaBe2
namespace Go.Proofs.Ytalfihfielgmpaa.be
open Go.RowKit sl harn rng bx stw bcm
set_option linter.unusedVariables false
set_option linter.unusedSimpArgs false

set_option maxRecDepth 100000 in
set_option maxHeartbeats 4000000 in
theorem implWr (f s c d : Int) (g : Bool) (t : Int) (k : Nat) (v : Bool) (m : Int) (q qs qk qa : Nat) (w : World) (hX : Bx 25 w q #[.int .i64 f, .int .i64 s, .int .i64 c, .int .i64 d, .bool g, .int .i64 t]) (hP : Bx 3 w qs #[.int .i64 (k : Int)]) (hK : Bx 4 w qk #[.bool v]) (hA : Bx 58 w qa #[.int .i64 f, .int .i64 s, .int .i64 c, .int .i64 d, .bool g, .int .i64 t, .func (.func 68) #[] #[.pointer (some ⟨q, 0, none⟩)]]) (h16 : acc t k v 16 = m) :
    Calls Try.prog 53 #[.agg #[.int .i64 f, .int .i64 s, .int .i64 c, .int .i64 d, .bool g, .int .i64 t, .func (.func 69) #[] #[.pointer (some ⟨qs, 0, none⟩), .pointer (some ⟨qk, 0, none⟩), .pointer (some ⟨qa, 0, none⟩)]]] w (fun e w' => e = .returned (.agg #[.int .i64 f, .int .i64 s, .int .i64 c, .int .i64 d, .bool g, .int .i64 m]) ∧ Below w.heap.size w w') := by
  have h16 := Lib.hid h16
  obtain ⟨n0, hn⟩ : ∃ x, bits .andNot .i64 t 65535 = x := ⟨_, rfl⟩
  have HN0 := Lib.hid (show acc t k v 0 = n0 from hn)
  have XH := Lib.hid hX
  have PH := Lib.hid hP
  have KH := Lib.hid hK
  have AH := Lib.hid hA
  clear hX hP hK hA
  go_enter Try.func53, Try.ntmps53
  go_upto_region 1 with fail
  obtain ⟨w0, hW⟩ : ∃ w0, (w.alloc (.cells #[.int .i64 f, .int .i64 s, .int .i64 c, .int .i64 d, .bool g, .int .i64 t, .func (.func 69) #[] #[.pointer (some ⟨qs, 0, none⟩), .pointer (some ⟨qk, 0, none⟩), .pointer (some ⟨qa, 0, none⟩)]] 58)).alloc (.cells #[.int .i64 0, .int .i64 0, .int .i64 0, .int .i64 0, .bool false, .int .i64 0] 25) = w0 := ⟨_, rfl⟩
  rw [hW]
  have B0 := Lib.hid (show Below w.heap.size w w0 by rw [← hW]; exact ((Below.refl _ _).alloc (by simp <;> omega) _).alloc (by simp <;> omega) _)
  have W0 := Lib.hid (show Bx 58 w0 (w.heap.size) #[.int .i64 f, .int .i64 s, .int .i64 c, .int .i64 d, .bool g, .int .i64 t, .func (.func 69) #[] #[.pointer (some ⟨qs, 0, none⟩), .pointer (some ⟨qk, 0, none⟩), .pointer (some ⟨qa, 0, none⟩)]] by
      rw [← hW]
      have hh := Bx.made 58 w #[.int .i64 f, .int .i64 s, .int .i64 c, .int .i64 d, .bool g, .int .i64 t, .func (.func 69) #[] #[.pointer (some ⟨qs, 0, none⟩), .pointer (some ⟨qk, 0, none⟩), .pointer (some ⟨qa, 0, none⟩)]]
      exact (hh.below (below_box _ _)))
  have Z0 := Lib.hid (show Bx 25 w0 (w.heap.size + 1) #[.int .i64 0, .int .i64 0, .int .i64 0, .int .i64 0, .bool false, .int .i64 0] by
      rw [← hW]
      have hh : Bx 25 ((w.alloc (.cells #[.int .i64 f, .int .i64 s, .int .i64 c, .int .i64 d, .bool g, .int .i64 t, .func (.func 69) #[] #[.pointer (some ⟨qs, 0, none⟩), .pointer (some ⟨qk, 0, none⟩), .pointer (some ⟨qa, 0, none⟩)]] 58)).alloc (.cells #[.int .i64 0, .int .i64 0, .int .i64 0, .int .i64 0, .bool false, .int .i64 0] 25)) (w.heap.size + 1) #[.int .i64 0, .int .i64 0, .int .i64 0, .int .i64 0, .bool false, .int .i64 0] := by have hh := Bx.made 25 (w.alloc (.cells #[.int .i64 f, .int .i64 s, .int .i64 c, .int .i64 d, .bool g, .int .i64 t, .func (.func 69) #[] #[.pointer (some ⟨qs, 0, none⟩), .pointer (some ⟨qk, 0, none⟩), .pointer (some ⟨qa, 0, none⟩)]] 58)) #[.int .i64 0, .int .i64 0, .int .i64 0, .int .i64 0, .bool false, .int .i64 0]; simpa using hh
      exact hh)
  clear hW
  have LTW := Lib.hid W0.out.lt
  have LTZ := Lib.hid Z0.out.lt
  have X0 := Lib.hid (XH.out.below B0.out)
  have P0 := Lib.hid (PH.out.below B0.out)
  have K0 := Lib.hid (KH.out.below B0.out)
  have A0 := Lib.hid (AH.out.below B0.out)
  have LO := Lib.hid (show q < w.heap.size ∧ qs < w.heap.size ∧ qk < w.heap.size ∧ qa < w.heap.size from ⟨XH.out.lt, PH.out.lt, KH.out.lt, AH.out.lt⟩)
  clear XH PH KH AH
  obtain ⟨bY, hbb⟩ : ∃ b, w0.heap.size = b := ⟨_, rfl⟩
  have cW0 : w0.cell? ⟨w.heap.size, 0, none⟩ = some (.int .i64 f) := W0.out.cell 0
  have cW1 : w0.cell? ⟨w.heap.size, 1, none⟩ = some (.int .i64 s) := W0.out.cell 1
  have cW2 : w0.cell? ⟨w.heap.size, 2, none⟩ = some (.int .i64 c) := W0.out.cell 2
  have cW3 : w0.cell? ⟨w.heap.size, 3, none⟩ = some (.int .i64 d) := W0.out.cell 3
  have cW4 : w0.cell? ⟨w.heap.size, 4, none⟩ = some (.bool g) := W0.out.cell 4
  have cW5 : w0.cell? ⟨w.heap.size, 5, none⟩ = some (.int .i64 t) := W0.out.cell 5
  go_upto_region 3 with fail
  clear cW0 cW1 cW2 cW3 cW4 cW5
  generalize hW : w0.alloc (.cells #[.int .i64 f, .int .i64 s, .int .i64 c, .int .i64 d, .bool g, .int .i64 n0] 25) = w1
  have LY := Lib.hid (show w.heap.size ≤ bY ∧ w.heap.size < bY ∧ w.heap.size + 1 < bY ∧ q < bY ∧ qs < bY ∧ qk < bY ∧ qa < bY by have h1 := B0.out.size; have h2W := W0.out.lt; have h2Z := Z0.out.lt; have h2X := X0.out.lt; have h2P := P0.out.lt; have h2K := K0.out.lt; have h2A := A0.out.lt; have h3 := hbb; omega)
  have Y1 := Lib.hid (show Bx 25 w1 bY #[.int .i64 f, .int .i64 s, .int .i64 c, .int .i64 d, .bool g, .int .i64 n0] by rw [← hW, ← hbb]; exact Bx.made _ _ _)
  have hb : Below w0.heap.size w0 w1 := by rw [← hW]; exact below_box _ _
  (try rw [hbb])
  clear hW hbb
  have SS1 := Lib.hid hb.size
  have B1 := Lib.hid (B0.out.trans (hb.mono B0.out.size))
  have W1 := Lib.hid (W0.out.below hb)
  have Z1 := Lib.hid (Z0.out.below hb)
  have X1 := Lib.hid (X0.out.below hb)
  have P1 := Lib.hid (P0.out.below hb)
  have K1 := Lib.hid (K0.out.below hb)
  have A1 := Lib.hid (A0.out.below hb)
  clear hb B0 W0 Z0 X0 P0 K0 A0
  have LWY := Lib.hid Y1.out.lt
  go_wp2_with fail
  clear hn
  go_loopw [11] (fun v0 wr => ∃ (i : Nat) (n : Int), v0 = .int .i64 (i : Int) ∧ (i ≤ 16) ∧ (acc t k v i = n) ∧ Below w.heap.size w wr ∧ Bx 58 wr w.heap.size #[.int .i64 f, .int .i64 s, .int .i64 c, .int .i64 d, .bool g, .int .i64 t, .func (.func 69) #[] #[.pointer (some ⟨qs, 0, none⟩), .pointer (some ⟨qk, 0, none⟩), .pointer (some ⟨qa, 0, none⟩)]] ∧ Bx 25 wr (w.heap.size + 1) #[.int .i64 0, .int .i64 0, .int .i64 0, .int .i64 0, .bool false, .int .i64 0] ∧ Bx 25 wr q #[.int .i64 f, .int .i64 s, .int .i64 c, .int .i64 d, .bool g, .int .i64 t] ∧ Bx 3 wr qs #[.int .i64 (k : Int)] ∧ Bx 4 wr qk #[.bool v] ∧ Bx 58 wr qa #[.int .i64 f, .int .i64 s, .int .i64 c, .int .i64 d, .bool g, .int .i64 t, .func (.func 68) #[] #[.pointer (some ⟨q, 0, none⟩)]] ∧ Bx 25 wr bY #[.int .i64 f, .int .i64 s, .int .i64 c, .int .i64 d, .bool g, .int .i64 n]) ((fun i _ => 16 - (intOf i).toNat))
  case atStart => exact ⟨0, n0, rfl, by omega, HN0.out, B1.out, W1.out, Z1.out, X1.out, P1.out, K1.out, A1.out, Y1.out⟩
  case round =>
    obtain ⟨i, n, rfl, ghi, ghn, gB2, gW2, gZ2, gX2, gP2, gK2, gA2, gY2⟩ := hrel
    have B2 := Lib.hid gB2
    have W2 := Lib.hid gW2
    have Z2 := Lib.hid gZ2
    have X2 := Lib.hid gX2
    have P2 := Lib.hid gP2
    have K2 := Lib.hid gK2
    have A2 := Lib.hid gA2
    have Y2 := Lib.hid gY2
    have hi := Lib.hid ghi
    have hn := Lib.hid ghn
    clear gB2 gW2 gZ2 gX2 gP2 gK2 gA2 gY2 ghi ghn
    have LUW2 := Lib.hid W2.out.lt
    have LUZ2 := Lib.hid Z2.out.lt
    have LUX2 := Lib.hid X2.out.lt
    have LUP2 := Lib.hid P2.out.lt
    have LUK2 := Lib.hid K2.out.lt
    have LUA2 := Lib.hid A2.out.lt
    have LUY2 := Lib.hid Y2.out.lt
    have SBR2 := Lib.hid B2.out.size
    have hi := hi.out
    by_cases hlt : i < 16
    · have hlt2 : (i : Int) < 16 := by omega
      obtain ⟨y, hy⟩ : ∃ y, an t k v i = y := ⟨_, rfl⟩
      have HY := Lib.hid hy
      have HLT := Lib.hid hlt
      clear hy
      have cW6 : wr.cell? ⟨w.heap.size, 6, none⟩ = some (.func (.func 69) #[] #[.pointer (some ⟨qs, 0, none⟩), .pointer (some ⟨qk, 0, none⟩), .pointer (some ⟨qa, 0, none⟩)]) := W2.out.cell 6
      go_wp2_with fail
      clear cW6
      (with_reducible refine (call2 i k v y f s c d g t q qs qk qa _ HLT.out X2.out P2.out K2.out A2.out HY.out).mono ?_)
      rintro e wq ⟨rfl, rfl⟩
      cases y with
      | true =>
        have hpw := wrap_pow (k := i) (by have := HLT.out; omega)
        obtain ⟨p, hp⟩ : ∃ p, (2 : Int) ^ i = p := ⟨_, rfl⟩
        rw [hp] at hpw
        have hpw2 : IntKind.i64.wrap p = p := by rw [IntKind.wrap_i64]; unfold wrap64 at hpw; omega
        obtain ⟨n2, hn2⟩ : ∃ x, bits .or .i64 n p = x := ⟨_, rfl⟩
        have HN2 := Lib.hid (show acc t k v (i + 1) = n2 by rw [acc_yes HY.out, hn.out, hp]; exact hn2)
        have hik : (i : Int) ≤ 64 := by omega
        go_upto_region 7 with fail
        have DY := Lib.hid (show Bx 25 wr.drew (bY) #[.int .i64 f, .int .i64 s, .int .i64 c, .int .i64 d, .bool g, .int .i64 n] from Y2.out.same rfl)
        have xY5 : wr.drew.cell? ⟨bY, 5, none⟩ = some (.int .i64 n) := DY.out.cell 5
        have xY5' : wr.cell? ⟨bY, 5, none⟩ = some (.int .i64 n) := Y2.out.cell 5
        have fY5 : wr.drew.frozen? ⟨bY, 5, none⟩ = false := DY.out.free 5
        have fY5' : wr.frozen? ⟨bY, 5, none⟩ = false := Y2.out.free 5
        go_region
        clear xY5 xY5' fY5 fY5' DY
        obtain ⟨w3, hW⟩ : ∃ wy, (wr.setCell ⟨bY, 5, none⟩ (.int .i64 n2)).drew = wy := ⟨_, rfl⟩
        rw [hW]
        have B3 := Lib.hid (show Below w.heap.size w w3 by rw [← hW]; exact own.below_drew (B2.out.setCell (p := ⟨bY, 5, none⟩) (by have hlY := LY.out; have hs0 := LO.out; have hs1 := SS1.out; have hs2 := LWY.out; have hs3 := LUW2.out; have hs4 := LUZ2.out; have hs5 := LUX2.out; have hs6 := LUP2.out; have hs7 := LUK2.out; have hs8 := LUA2.out; have hs9 := LUY2.out; have hs10 := SBR2.out; first | omega | (simp <;> omega)) _))
        have W3 := Lib.hid (show Bx 58 w3 (w.heap.size) #[.int .i64 f, .int .i64 s, .int .i64 c, .int .i64 d, .bool g, .int .i64 t, .func (.func 69) #[] #[.pointer (some ⟨qs, 0, none⟩), .pointer (some ⟨qk, 0, none⟩), .pointer (some ⟨qa, 0, none⟩)]] by rw [← hW]; exact Bx.same (W2.out.other (by have hlY := LY.out; have hs0 := LO.out; have hs1 := SS1.out; have hs2 := LWY.out; have hs3 := LUW2.out; have hs4 := LUZ2.out; have hs5 := LUX2.out; have hs6 := LUP2.out; have hs7 := LUK2.out; have hs8 := LUA2.out; have hs9 := LUY2.out; have hs10 := SBR2.out; first | omega | (simp <;> omega)) _ _) rfl)
        have Z3 := Lib.hid (show Bx 25 w3 (w.heap.size + 1) #[.int .i64 0, .int .i64 0, .int .i64 0, .int .i64 0, .bool false, .int .i64 0] by rw [← hW]; exact Bx.same (Z2.out.other (by have hlY := LY.out; have hs0 := LO.out; have hs1 := SS1.out; have hs2 := LWY.out; have hs3 := LUW2.out; have hs4 := LUZ2.out; have hs5 := LUX2.out; have hs6 := LUP2.out; have hs7 := LUK2.out; have hs8 := LUA2.out; have hs9 := LUY2.out; have hs10 := SBR2.out; first | omega | (simp <;> omega)) _ _) rfl)
        have X3 := Lib.hid (show Bx 25 w3 (q) #[.int .i64 f, .int .i64 s, .int .i64 c, .int .i64 d, .bool g, .int .i64 t] by rw [← hW]; exact Bx.same (X2.out.other (by have hlY := LY.out; have hs0 := LO.out; have hs1 := SS1.out; have hs2 := LWY.out; have hs3 := LUW2.out; have hs4 := LUZ2.out; have hs5 := LUX2.out; have hs6 := LUP2.out; have hs7 := LUK2.out; have hs8 := LUA2.out; have hs9 := LUY2.out; have hs10 := SBR2.out; first | omega | (simp <;> omega)) _ _) rfl)
        have P3 := Lib.hid (show Bx 3 w3 (qs) #[.int .i64 (k : Int)] by rw [← hW]; exact Bx.same (P2.out.other (by have hlY := LY.out; have hs0 := LO.out; have hs1 := SS1.out; have hs2 := LWY.out; have hs3 := LUW2.out; have hs4 := LUZ2.out; have hs5 := LUX2.out; have hs6 := LUP2.out; have hs7 := LUK2.out; have hs8 := LUA2.out; have hs9 := LUY2.out; have hs10 := SBR2.out; first | omega | (simp <;> omega)) _ _) rfl)
        have K3 := Lib.hid (show Bx 4 w3 (qk) #[.bool v] by rw [← hW]; exact Bx.same (K2.out.other (by have hlY := LY.out; have hs0 := LO.out; have hs1 := SS1.out; have hs2 := LWY.out; have hs3 := LUW2.out; have hs4 := LUZ2.out; have hs5 := LUX2.out; have hs6 := LUP2.out; have hs7 := LUK2.out; have hs8 := LUA2.out; have hs9 := LUY2.out; have hs10 := SBR2.out; first | omega | (simp <;> omega)) _ _) rfl)
        have A3 := Lib.hid (show Bx 58 w3 (qa) #[.int .i64 f, .int .i64 s, .int .i64 c, .int .i64 d, .bool g, .int .i64 t, .func (.func 68) #[] #[.pointer (some ⟨q, 0, none⟩)]] by rw [← hW]; exact Bx.same (A2.out.other (by have hlY := LY.out; have hs0 := LO.out; have hs1 := SS1.out; have hs2 := LWY.out; have hs3 := LUW2.out; have hs4 := LUZ2.out; have hs5 := LUX2.out; have hs6 := LUP2.out; have hs7 := LUK2.out; have hs8 := LUA2.out; have hs9 := LUY2.out; have hs10 := SBR2.out; first | omega | (simp <;> omega)) _ _) rfl)
        have Y3 := Lib.hid (show Bx 25 w3 (bY) #[.int .i64 f, .int .i64 s, .int .i64 c, .int .i64 d, .bool g, .int .i64 n2] by rw [← hW]; exact Bx.same (Y2.out.set 5 _) rfl)
        clear hW B2 W2 Z2 X2 P2 K2 A2 Y2
        clear hp hpw hpw2 hn2
        go_wp2_with fail
        go_roundw
        case rel => exact ⟨i + 1, n2, by go_num, by omega, HN2.out, B3.out, W3.out, Z3.out, X3.out, P3.out, K3.out, A3.out, Y3.out⟩
        case measure => simp [intOf]; omega
      | false =>
        have hn2 : acc t k v (i + 1) = n := by rw [acc_no HY.out]; exact hn.out
        go_wp2_with fail
        go_roundw
        case rel => exact ⟨i + 1, n, by go_num, by omega, hn2, B2.out, W2.out, Z2.out, X2.out, P2.out, K2.out, A2.out, Y2.out⟩
        case measure => simp [intOf]; omega
    · obtain rfl : i = 16 := by omega
      have HE := Lib.hid (h16.out.symm.trans hn.out)
      have hlt2 : ¬ (16 : Int) < 16 := by omega
      go_wp2_with (first | (refine stw.list_load rfl 25 _ rfl (bY) rfl 25 _ Y2.out Try.underlying25 rfl szB ?_) | (refine stw.list_store rfl 25 _ _ rfl (w.heap.size + 1) #[.int .i64 f, .int .i64 s, .int .i64 c, .int .i64 d, .bool g, .int .i64 n] rfl rfl 25 _ Z2.out rfl szB (oneB _ _ _ _ _ _) ?_; intro wz3 hz))
      have B3 := Lib.hid (hz.on B2.out (by have hlY := LY.out; have hs0 := LO.out; have hs1 := SS1.out; have hs2 := LWY.out; have hs3 := LUW2.out; have hs4 := LUZ2.out; have hs5 := LUX2.out; have hs6 := LUP2.out; have hs7 := LUK2.out; have hs8 := LUA2.out; have hs9 := LUY2.out; have hs10 := SBR2.out; first | omega | (simp <;> omega)))
      have W3 := Lib.hid (hz.keep W2.out (by have hlY := LY.out; have hs0 := LO.out; have hs1 := SS1.out; have hs2 := LWY.out; have hs3 := LUW2.out; have hs4 := LUZ2.out; have hs5 := LUX2.out; have hs6 := LUP2.out; have hs7 := LUK2.out; have hs8 := LUA2.out; have hs9 := LUY2.out; have hs10 := SBR2.out; first | omega | (simp <;> omega)))
      have Z3 := Lib.hid (hz.box)
      have X3 := Lib.hid (hz.keep X2.out (by have hlY := LY.out; have hs0 := LO.out; have hs1 := SS1.out; have hs2 := LWY.out; have hs3 := LUW2.out; have hs4 := LUZ2.out; have hs5 := LUX2.out; have hs6 := LUP2.out; have hs7 := LUK2.out; have hs8 := LUA2.out; have hs9 := LUY2.out; have hs10 := SBR2.out; first | omega | (simp <;> omega)))
      have P3 := Lib.hid (hz.keep P2.out (by have hlY := LY.out; have hs0 := LO.out; have hs1 := SS1.out; have hs2 := LWY.out; have hs3 := LUW2.out; have hs4 := LUZ2.out; have hs5 := LUX2.out; have hs6 := LUP2.out; have hs7 := LUK2.out; have hs8 := LUA2.out; have hs9 := LUY2.out; have hs10 := SBR2.out; first | omega | (simp <;> omega)))
      have K3 := Lib.hid (hz.keep K2.out (by have hlY := LY.out; have hs0 := LO.out; have hs1 := SS1.out; have hs2 := LWY.out; have hs3 := LUW2.out; have hs4 := LUZ2.out; have hs5 := LUX2.out; have hs6 := LUP2.out; have hs7 := LUK2.out; have hs8 := LUA2.out; have hs9 := LUY2.out; have hs10 := SBR2.out; first | omega | (simp <;> omega)))
      have A3 := Lib.hid (hz.keep A2.out (by have hlY := LY.out; have hs0 := LO.out; have hs1 := SS1.out; have hs2 := LWY.out; have hs3 := LUW2.out; have hs4 := LUZ2.out; have hs5 := LUX2.out; have hs6 := LUP2.out; have hs7 := LUK2.out; have hs8 := LUA2.out; have hs9 := LUY2.out; have hs10 := SBR2.out; first | omega | (simp <;> omega)))
      have Y3 := Lib.hid (hz.keep Y2.out (by have hlY := LY.out; have hs0 := LO.out; have hs1 := SS1.out; have hs2 := LWY.out; have hs3 := LUW2.out; have hs4 := LUZ2.out; have hs5 := LUX2.out; have hs6 := LUP2.out; have hs7 := LUK2.out; have hs8 := LUA2.out; have hs9 := LUY2.out; have hs10 := SBR2.out; first | omega | (simp <;> omega)))
      clear hz B2 W2 Z2 X2 P2 K2 A2 Y2
      (try simp only [Exit.inBlock, Exit.then])
      refine bodyPost_ret (v := .agg #[.int .i64 f, .int .i64 s, .int .i64 c, .int .i64 d, .bool g, .int .i64 n]) ?_ rfl ?_
      · rw [results_cell1 rfl]
        exact stw.back Z3.out Try.underlying25 rfl szB
      · exact ⟨by rw [HE.out], B3.out⟩
set_option maxRecDepth 100000 in
set_option maxHeartbeats 4000000 in
theorem implSm (f s c d : Int) (g : Bool) (t : Int) (i : Int) (v : Bool) (w : World) :
    Calls Try.prog 19 #[.agg #[.int .i64 f, .int .i64 s, .int .i64 c, .int .i64 d, .bool g, .int .i64 t], .int .i64 i, .bool v] w (CPost (stm ⟨f, s, c, d, g, t⟩ i v) w) := by
  obtain ⟨r, hr⟩ : ∃ x, decide (St i) = x := ⟨_, rfl⟩
  have HR := Lib.hid hr
  clear hr
  go_enter Try.func19, Try.ntmps19
  go_upto_region 1 with fail
  obtain ⟨w0, hW⟩ : ∃ w0, (w.alloc (.cells #[.int .i64 f, .int .i64 s, .int .i64 c, .int .i64 d, .bool g, .int .i64 t] 25)).alloc (.cells #[.int .i64 0, .int .i64 0, .int .i64 0, .int .i64 0, .bool false, .int .i64 0] 25) = w0 := ⟨_, rfl⟩
  rw [hW]
  have B0 := Lib.hid (show Below w.heap.size w w0 by rw [← hW]; exact ((Below.refl _ _).alloc (by simp <;> omega) _).alloc (by simp <;> omega) _)
  have X0 := Lib.hid (show Bx 25 w0 (w.heap.size) #[.int .i64 f, .int .i64 s, .int .i64 c, .int .i64 d, .bool g, .int .i64 t] by
      rw [← hW]
      have hh := Bx.made 25 w #[.int .i64 f, .int .i64 s, .int .i64 c, .int .i64 d, .bool g, .int .i64 t]
      exact (hh.below (below_box _ _)))
  have Z0 := Lib.hid (show Bx 25 w0 (w.heap.size + 1) #[.int .i64 0, .int .i64 0, .int .i64 0, .int .i64 0, .bool false, .int .i64 0] by
      rw [← hW]
      have hh : Bx 25 ((w.alloc (.cells #[.int .i64 f, .int .i64 s, .int .i64 c, .int .i64 d, .bool g, .int .i64 t] 25)).alloc (.cells #[.int .i64 0, .int .i64 0, .int .i64 0, .int .i64 0, .bool false, .int .i64 0] 25)) (w.heap.size + 1) #[.int .i64 0, .int .i64 0, .int .i64 0, .int .i64 0, .bool false, .int .i64 0] := by have hh := Bx.made 25 (w.alloc (.cells #[.int .i64 f, .int .i64 s, .int .i64 c, .int .i64 d, .bool g, .int .i64 t] 25)) #[.int .i64 0, .int .i64 0, .int .i64 0, .int .i64 0, .bool false, .int .i64 0]; simpa using hh
      exact hh)
  clear hW
  have LTX := Lib.hid X0.out.lt
  have LTZ := Lib.hid Z0.out.lt
  go_wp2_with fail
  (with_reducible refine (isSt i r _ HR.out).mono ?_)
  rintro e wq ⟨rfl, rfl⟩
  cases r with
  | true =>
    have hs : St i := of_decide_eq_true HR.out
    obtain ⟨k, rfl⟩ : ∃ k : Nat, i = k := ⟨i.toNat, by unfold St at hs; omega⟩
    have HS := Lib.hid (show k < 16 by unfold St at hs; omega)
    obtain ⟨m, hm⟩ : ∃ m, sb t k v = m := ⟨_, rfl⟩
    have HM := Lib.hid hm
    have HE := Lib.hid (show stm ⟨f, s, c, d, g, t⟩ k v = ⟨f, s, c, d, g, m⟩ by unfold stm; rw [if_pos hs, Int.toNat_natCast, ← hm])
    clear hs hm
    go_wp2_with (refine stw.list_load rfl 25 _ rfl (w.heap.size) rfl 25 _ X0.out Try.underlying25 rfl szB ?_)
    (with_reducible refine (implAo f s c d g t _).mono ?_)
    rintro e w1 ⟨rfl, hb, hx⟩
    obtain ⟨q, hq⟩ : ∃ q, w0.heap.size = q := ⟨_, rfl⟩
    have HX := Lib.hid hx
    have LQ := Lib.hid (show w.heap.size + 1 < q by rw [← hq]; exact Z0.out.lt)
    have SS1 := Lib.hid hb.size
    have B1 := Lib.hid (B0.out.trans (hb.mono B0.out.size))
    have X1 := Lib.hid (X0.out.below hb)
    have Z1 := Lib.hid (Z0.out.below hb)
    clear hb hx B0 X0 Z0
    have Q1 := Lib.hid (show Bx 25 w1 q #[.int .i64 f, .int .i64 s, .int .i64 c, .int .i64 d, .bool g, .int .i64 t] by rw [← hq]; exact HX.out)
    rw [hq]
    clear HX hq
    go_wp2_with fail
    (with_reducible refine (implWi f s c d g t (k : Int) v q _).mono ?_)
    rintro e w2 ⟨rfl, hb, hp, hk, ha⟩
    obtain ⟨q1, hq⟩ : ∃ q, w1.heap.size = q := ⟨_, rfl⟩
    have HP1 := Lib.hid hp
    have HK1 := Lib.hid hk
    have HA1 := Lib.hid ha
    have SS2 := Lib.hid hb.size
    have B2 := Lib.hid (B1.out.trans (hb.mono B1.out.size))
    have X2 := Lib.hid (X1.out.below hb)
    have Z2 := Lib.hid (Z1.out.below hb)
    have Q2 := Lib.hid (Q1.out.below hb)
    clear hb hp hk ha B1 X1 Z1 Q1
    have P1 := Lib.hid (show Bx 3 w2 (q1 + 1) #[.int .i64 (k : Int)] by rw [← hq]; exact HP1.out)
    have K1 := Lib.hid (show Bx 4 w2 (q1 + 1 + 1) #[.bool v] by rw [← hq]; exact HK1.out)
    have A1 := Lib.hid (show Bx 58 w2 q1 #[.int .i64 f, .int .i64 s, .int .i64 c, .int .i64 d, .bool g, .int .i64 t, .func (.func 68) #[] #[.pointer (some ⟨q, 0, none⟩)]] by rw [← hq]; exact HA1.out)
    rw [hq]
    clear HP1 HK1 HA1 hq
    go_wp2_with fail
    (with_reducible refine (implWr f s c d g t k v m q (q1 + 1) (q1 + 1 + 1) q1 _ Q2.out P1.out K1.out A1.out (by rw [acc_sb t HS.out v, HM.out])).mono ?_)
    rintro e w3 ⟨rfl, hb⟩
    have SS3 := Lib.hid hb.size
    have B3 := Lib.hid (B2.out.trans (hb.mono B2.out.size))
    have X3 := Lib.hid (X2.out.below hb)
    have Z3 := Lib.hid (Z2.out.below hb)
    have Q3 := Lib.hid (Q2.out.below hb)
    clear hb P1 K1 A1 B2 X2 Z2 Q2
    go_wp2_with (first | (refine stw.list_store rfl 25 _ _ rfl (w.heap.size + 1) #[.int .i64 f, .int .i64 s, .int .i64 c, .int .i64 d, .bool g, .int .i64 m] rfl rfl 25 _ Z3.out rfl szB (oneB _ _ _ _ _ _) ?_; intro wz4 hz))
    have B4 := Lib.hid (hz.on B3.out (by have hs0 := LTX.out; have hs1 := LTZ.out; have hs2 := SS1.out; have hs3 := LQ.out; have hs4 := SS2.out; have hs5 := SS3.out; first | omega | (simp <;> omega)))
    have X4 := Lib.hid (hz.keep X3.out (by have hs0 := LTX.out; have hs1 := LTZ.out; have hs2 := SS1.out; have hs3 := LQ.out; have hs4 := SS2.out; have hs5 := SS3.out; first | omega | (simp <;> omega)))
    have Z4 := Lib.hid (hz.box)
    have Q4 := Lib.hid (hz.keep Q3.out (by have hs0 := LTX.out; have hs1 := LTZ.out; have hs2 := SS1.out; have hs3 := LQ.out; have hs4 := SS2.out; have hs5 := SS3.out; first | omega | (simp <;> omega)))
    clear hz B3 X3 Z3 Q3
    (try simp only [Exit.inBlock, Exit.then])
    refine bodyPost_ret (v := .agg #[.int .i64 f, .int .i64 s, .int .i64 c, .int .i64 d, .bool g, .int .i64 m]) ?_ rfl ?_
    · rw [results_cell1 rfl]
      exact stw.back Z4.out Try.underlying25 rfl szB
    · exact ⟨by rw [HE.out], B4.out⟩
  | false =>
    have HE := Lib.hid (show stm ⟨f, s, c, d, g, t⟩ i v = ⟨f, s, c, d, g, t⟩ by unfold stm; exact if_neg (of_decide_eq_false HR.out))
    go_wp2_with (first | (refine stw.list_load rfl 25 _ rfl (w.heap.size) rfl 25 _ X0.out Try.underlying25 rfl szB ?_) | (refine stw.list_store rfl 25 _ _ rfl (w.heap.size + 1) #[.int .i64 f, .int .i64 s, .int .i64 c, .int .i64 d, .bool g, .int .i64 t] rfl rfl 25 _ Z0.out rfl szB (oneB _ _ _ _ _ _) ?_; intro wz1 hz))
    have B1 := Lib.hid (hz.on B0.out (by have hs0 := LTX.out; have hs1 := LTZ.out; first | omega | (simp <;> omega)))
    have X1 := Lib.hid (hz.keep X0.out (by have hs0 := LTX.out; have hs1 := LTZ.out; first | omega | (simp <;> omega)))
    have Z1 := Lib.hid (hz.box)
    clear hz B0 X0 Z0
    (try simp only [Exit.inBlock, Exit.then])
    refine bodyPost_ret (v := .agg #[.int .i64 f, .int .i64 s, .int .i64 c, .int .i64 d, .bool g, .int .i64 t]) ?_ rfl ?_
    · rw [results_cell1 rfl]
      exact stw.back Z1.out Try.underlying25 rfl szB
    · exact ⟨by rw [HE.out], B1.out⟩
set_option maxRecDepth 100000 in
set_option maxHeartbeats 4000000 in
theorem specSm (f s c d : Int) (g : Bool) (t : Int) (i : Int) (v : Bool) (w : World) :
    Calls Try.prog 32 #[.agg #[.int .i64 f, .int .i64 s, .int .i64 c, .int .i64 d, .bool g, .int .i64 t], .int .i64 i, .bool v] w (CPost (stm ⟨f, s, c, d, g, t⟩ i v) w) := by
  obtain ⟨r, hr⟩ : ∃ x, decide (St i) = x := ⟨_, rfl⟩
  have HR := Lib.hid hr
  clear hr
  go_enter Try.func32, Try.ntmps32
  go_upto_region 1 with fail
  obtain ⟨w0, hW⟩ : ∃ w0, (w.alloc (.cells #[.int .i64 f, .int .i64 s, .int .i64 c, .int .i64 d, .bool g, .int .i64 t] 25)).alloc (.cells #[.int .i64 0, .int .i64 0, .int .i64 0, .int .i64 0, .bool false, .int .i64 0] 25) = w0 := ⟨_, rfl⟩
  rw [hW]
  have B0 := Lib.hid (show Below w.heap.size w w0 by rw [← hW]; exact ((Below.refl _ _).alloc (by simp <;> omega) _).alloc (by simp <;> omega) _)
  have X0 := Lib.hid (show Bx 25 w0 (w.heap.size) #[.int .i64 f, .int .i64 s, .int .i64 c, .int .i64 d, .bool g, .int .i64 t] by
      rw [← hW]
      have hh := Bx.made 25 w #[.int .i64 f, .int .i64 s, .int .i64 c, .int .i64 d, .bool g, .int .i64 t]
      exact (hh.below (below_box _ _)))
  have Z0 := Lib.hid (show Bx 25 w0 (w.heap.size + 1) #[.int .i64 0, .int .i64 0, .int .i64 0, .int .i64 0, .bool false, .int .i64 0] by
      rw [← hW]
      have hh : Bx 25 ((w.alloc (.cells #[.int .i64 f, .int .i64 s, .int .i64 c, .int .i64 d, .bool g, .int .i64 t] 25)).alloc (.cells #[.int .i64 0, .int .i64 0, .int .i64 0, .int .i64 0, .bool false, .int .i64 0] 25)) (w.heap.size + 1) #[.int .i64 0, .int .i64 0, .int .i64 0, .int .i64 0, .bool false, .int .i64 0] := by have hh := Bx.made 25 (w.alloc (.cells #[.int .i64 f, .int .i64 s, .int .i64 c, .int .i64 d, .bool g, .int .i64 t] 25)) #[.int .i64 0, .int .i64 0, .int .i64 0, .int .i64 0, .bool false, .int .i64 0]; simpa using hh
      exact hh)
  clear hW
  have LTX := Lib.hid X0.out.lt
  have LTZ := Lib.hid Z0.out.lt
  obtain ⟨bY, hbb⟩ : ∃ b, w0.heap.size = b := ⟨_, rfl⟩
  go_upto_region 2 with (refine stw.list_load rfl 25 _ rfl (w.heap.size) rfl 25 _ X0.out Try.underlying25 rfl szB ?_)
  generalize hW : w0.alloc (.cells #[.int .i64 f, .int .i64 s, .int .i64 c, .int .i64 d, .bool g, .int .i64 t] 25) = w1
  have LY := Lib.hid (show w.heap.size ≤ bY ∧ w.heap.size < bY ∧ w.heap.size + 1 < bY by have h1 := B0.out.size; have h2X := X0.out.lt; have h2Z := Z0.out.lt; have h3 := hbb; omega)
  have Y1 := Lib.hid (show Bx 25 w1 bY #[.int .i64 f, .int .i64 s, .int .i64 c, .int .i64 d, .bool g, .int .i64 t] by rw [← hW, ← hbb]; exact Bx.made _ _ _)
  have hb : Below w0.heap.size w0 w1 := by rw [← hW]; exact below_box _ _
  (try rw [hbb])
  clear hW hbb
  have SS1 := Lib.hid hb.size
  have B1 := Lib.hid (B0.out.trans (hb.mono B0.out.size))
  have X1 := Lib.hid (X0.out.below hb)
  have Z1 := Lib.hid (Z0.out.below hb)
  clear hb B0 X0 Z0
  have LWY := Lib.hid Y1.out.lt
  go_wp2_with fail
  (with_reducible refine (l1R i 0 15 r _ (dec_ HR.out Iff.rfl)).mono ?_)
  rintro e wq ⟨rfl, rfl⟩
  cases r with
  | true =>
    have hs : St i := of_decide_eq_true HR.out
    obtain ⟨k, rfl⟩ : ∃ k : Nat, i = k := ⟨i.toNat, by unfold St at hs; omega⟩
    have HS := Lib.hid (show k < 16 by unfold St at hs; omega)
    obtain ⟨m, hm⟩ : ∃ m, sb t k v = m := ⟨_, rfl⟩
    have HM := Lib.hid hm
    have HE := Lib.hid (show stm ⟨f, s, c, d, g, t⟩ k v = ⟨f, s, c, d, g, m⟩ by unfold stm; rw [if_pos hs, Int.toNat_natCast, ← hm])
    clear hs hm
    have hpw := wrap_pow (k := k) (by have := HS.out; omega)
    obtain ⟨p, hp⟩ : ∃ p, (2 : Int) ^ k = p := ⟨_, rfl⟩
    rw [hp] at hpw
    have hpw2 : IntKind.i64.wrap p = p := by rw [IntKind.wrap_i64]; unfold wrap64 at hpw; omega
    have HP := Lib.hid hp
    have hik : (k : Int) ≤ 64 := by have := HS.out; omega
    obtain ⟨n1, hn1⟩ : ∃ x, bits .andNot .i64 t p = x := ⟨_, rfl⟩
    obtain ⟨n2, hn2⟩ : ∃ x, bits .or .i64 t p = x := ⟨_, rfl⟩
    have HN1 := Lib.hid hn1
    have HN2 := Lib.hid hn2
    go_upto_region 4 with fail
    have DX := Lib.hid (show Bx 25 w1.drew (w.heap.size) #[.int .i64 f, .int .i64 s, .int .i64 c, .int .i64 d, .bool g, .int .i64 t] from X1.out.same rfl)
    have xX5 : w1.drew.cell? ⟨w.heap.size, 5, none⟩ = some (.int .i64 t) := DX.out.cell 5
    have xX5' : w1.cell? ⟨w.heap.size, 5, none⟩ = some (.int .i64 t) := X1.out.cell 5
    have DY := Lib.hid (show Bx 25 w1.drew (bY) #[.int .i64 f, .int .i64 s, .int .i64 c, .int .i64 d, .bool g, .int .i64 t] from Y1.out.same rfl)
    have xY5 : w1.drew.cell? ⟨bY, 5, none⟩ = some (.int .i64 t) := DY.out.cell 5
    have xY5' : w1.cell? ⟨bY, 5, none⟩ = some (.int .i64 t) := Y1.out.cell 5
    have fY5 : w1.drew.frozen? ⟨bY, 5, none⟩ = false := DY.out.free 5
    have fY5' : w1.frozen? ⟨bY, 5, none⟩ = false := Y1.out.free 5
    go_region
    clear xX5 xX5' DX xY5 xY5' fY5 fY5' DY
    obtain ⟨w2, hW⟩ : ∃ wy, (w1.setCell ⟨bY, 5, none⟩ (.int .i64 n1)).drew = wy := ⟨_, rfl⟩
    rw [hW]
    have B2 := Lib.hid (show Below w.heap.size w w2 by rw [← hW]; exact own.below_drew (B1.out.setCell (p := ⟨bY, 5, none⟩) (by have hlY := LY.out; have hs0 := LTX.out; have hs1 := LTZ.out; have hs2 := SS1.out; have hs3 := LWY.out; first | omega | (simp <;> omega)) _))
    have X2 := Lib.hid (show Bx 25 w2 (w.heap.size) #[.int .i64 f, .int .i64 s, .int .i64 c, .int .i64 d, .bool g, .int .i64 t] by rw [← hW]; exact Bx.same (X1.out.other (by have hlY := LY.out; have hs0 := LTX.out; have hs1 := LTZ.out; have hs2 := SS1.out; have hs3 := LWY.out; first | omega | (simp <;> omega)) _ _) rfl)
    have Z2 := Lib.hid (show Bx 25 w2 (w.heap.size + 1) #[.int .i64 0, .int .i64 0, .int .i64 0, .int .i64 0, .bool false, .int .i64 0] by rw [← hW]; exact Bx.same (Z1.out.other (by have hlY := LY.out; have hs0 := LTX.out; have hs1 := LTZ.out; have hs2 := SS1.out; have hs3 := LWY.out; first | omega | (simp <;> omega)) _ _) rfl)
    have Y2 := Lib.hid (show Bx 25 w2 (bY) #[.int .i64 f, .int .i64 s, .int .i64 c, .int .i64 d, .bool g, .int .i64 n1] by rw [← hW]; exact Bx.same (Y1.out.set 5 _) rfl)
    clear hW B1 X1 Z1 Y1
    cases v with
    | true =>
      obtain rfl : m = n2 := by rw [← HM.out, ← HN2.out]; unfold sb; rw [if_pos rfl, HP.out]
      go_upto_region 6 with fail
      have DX := Lib.hid (show Bx 25 w2.drew (w.heap.size) #[.int .i64 f, .int .i64 s, .int .i64 c, .int .i64 d, .bool g, .int .i64 t] from X2.out.same rfl)
      have xX5 : w2.drew.cell? ⟨w.heap.size, 5, none⟩ = some (.int .i64 t) := DX.out.cell 5
      have xX5' : w2.cell? ⟨w.heap.size, 5, none⟩ = some (.int .i64 t) := X2.out.cell 5
      have DY := Lib.hid (show Bx 25 w2.drew (bY) #[.int .i64 f, .int .i64 s, .int .i64 c, .int .i64 d, .bool g, .int .i64 n1] from Y2.out.same rfl)
      have xY5 : w2.drew.cell? ⟨bY, 5, none⟩ = some (.int .i64 n1) := DY.out.cell 5
      have xY5' : w2.cell? ⟨bY, 5, none⟩ = some (.int .i64 n1) := Y2.out.cell 5
      have fY5 : w2.drew.frozen? ⟨bY, 5, none⟩ = false := DY.out.free 5
      have fY5' : w2.frozen? ⟨bY, 5, none⟩ = false := Y2.out.free 5
      go_region
      clear xX5 xX5' DX xY5 xY5' fY5 fY5' DY
      obtain ⟨w3, hW⟩ : ∃ wy, (w2.setCell ⟨bY, 5, none⟩ (.int .i64 m)).drew = wy := ⟨_, rfl⟩
      rw [hW]
      have B3 := Lib.hid (show Below w.heap.size w w3 by rw [← hW]; exact own.below_drew (B2.out.setCell (p := ⟨bY, 5, none⟩) (by have hlY := LY.out; have hs0 := LTX.out; have hs1 := LTZ.out; have hs2 := SS1.out; have hs3 := LWY.out; first | omega | (simp <;> omega)) _))
      have X3 := Lib.hid (show Bx 25 w3 (w.heap.size) #[.int .i64 f, .int .i64 s, .int .i64 c, .int .i64 d, .bool g, .int .i64 t] by rw [← hW]; exact Bx.same (X2.out.other (by have hlY := LY.out; have hs0 := LTX.out; have hs1 := LTZ.out; have hs2 := SS1.out; have hs3 := LWY.out; first | omega | (simp <;> omega)) _ _) rfl)
      have Z3 := Lib.hid (show Bx 25 w3 (w.heap.size + 1) #[.int .i64 0, .int .i64 0, .int .i64 0, .int .i64 0, .bool false, .int .i64 0] by rw [← hW]; exact Bx.same (Z2.out.other (by have hlY := LY.out; have hs0 := LTX.out; have hs1 := LTZ.out; have hs2 := SS1.out; have hs3 := LWY.out; first | omega | (simp <;> omega)) _ _) rfl)
      have Y3 := Lib.hid (show Bx 25 w3 (bY) #[.int .i64 f, .int .i64 s, .int .i64 c, .int .i64 d, .bool g, .int .i64 m] by rw [← hW]; exact Bx.same (Y2.out.set 5 _) rfl)
      clear hW B2 X2 Z2 Y2
      clear hp hpw hpw2 hn2 hn1
      go_wp2_with (first | (refine stw.list_load rfl 25 _ rfl (bY) rfl 25 _ Y3.out Try.underlying25 rfl szB ?_) | (refine stw.list_store rfl 25 _ _ rfl (w.heap.size + 1) #[.int .i64 f, .int .i64 s, .int .i64 c, .int .i64 d, .bool g, .int .i64 m] rfl rfl 25 _ Z3.out rfl szB (oneB _ _ _ _ _ _) ?_; intro wz4 hz))
      have B4 := Lib.hid (hz.on B3.out (by have hlY := LY.out; have hs0 := LTX.out; have hs1 := LTZ.out; have hs2 := SS1.out; have hs3 := LWY.out; first | omega | (simp <;> omega)))
      have X4 := Lib.hid (hz.keep X3.out (by have hlY := LY.out; have hs0 := LTX.out; have hs1 := LTZ.out; have hs2 := SS1.out; have hs3 := LWY.out; first | omega | (simp <;> omega)))
      have Z4 := Lib.hid (hz.box)
      have Y4 := Lib.hid (hz.keep Y3.out (by have hlY := LY.out; have hs0 := LTX.out; have hs1 := LTZ.out; have hs2 := SS1.out; have hs3 := LWY.out; first | omega | (simp <;> omega)))
      clear hz B3 X3 Z3 Y3
      (try simp only [Exit.inBlock, Exit.then])
      refine bodyPost_ret (v := .agg #[.int .i64 f, .int .i64 s, .int .i64 c, .int .i64 d, .bool g, .int .i64 m]) ?_ rfl ?_
      · rw [results_cell1 rfl]
        exact stw.back Z4.out Try.underlying25 rfl szB
      · exact ⟨by rw [HE.out], B4.out⟩
    | false =>
      obtain rfl : m = n1 := by rw [← HM.out, ← HN1.out]; unfold sb; rw [if_neg (by decide), HP.out]
      clear hp hpw hpw2 hn2 hn1
      go_wp2_with (first | (refine stw.list_load rfl 25 _ rfl (bY) rfl 25 _ Y2.out Try.underlying25 rfl szB ?_) | (refine stw.list_store rfl 25 _ _ rfl (w.heap.size + 1) #[.int .i64 f, .int .i64 s, .int .i64 c, .int .i64 d, .bool g, .int .i64 m] rfl rfl 25 _ Z2.out rfl szB (oneB _ _ _ _ _ _) ?_; intro wz3 hz))
      have B3 := Lib.hid (hz.on B2.out (by have hlY := LY.out; have hs0 := LTX.out; have hs1 := LTZ.out; have hs2 := SS1.out; have hs3 := LWY.out; first | omega | (simp <;> omega)))
      have X3 := Lib.hid (hz.keep X2.out (by have hlY := LY.out; have hs0 := LTX.out; have hs1 := LTZ.out; have hs2 := SS1.out; have hs3 := LWY.out; first | omega | (simp <;> omega)))
      have Z3 := Lib.hid (hz.box)
      have Y3 := Lib.hid (hz.keep Y2.out (by have hlY := LY.out; have hs0 := LTX.out; have hs1 := LTZ.out; have hs2 := SS1.out; have hs3 := LWY.out; first | omega | (simp <;> omega)))
      clear hz B2 X2 Z2 Y2
      (try simp only [Exit.inBlock, Exit.then])
      refine bodyPost_ret (v := .agg #[.int .i64 f, .int .i64 s, .int .i64 c, .int .i64 d, .bool g, .int .i64 m]) ?_ rfl ?_
      · rw [results_cell1 rfl]
        exact stw.back Z3.out Try.underlying25 rfl szB
      · exact ⟨by rw [HE.out], B3.out⟩
  | false =>
    have HE := Lib.hid (show stm ⟨f, s, c, d, g, t⟩ i v = ⟨f, s, c, d, g, t⟩ by unfold stm; exact if_neg (of_decide_eq_false HR.out))
    go_wp2_with (first | (refine stw.list_load rfl 25 _ rfl (bY) rfl 25 _ Y1.out Try.underlying25 rfl szB ?_) | (refine stw.list_store rfl 25 _ _ rfl (w.heap.size + 1) #[.int .i64 f, .int .i64 s, .int .i64 c, .int .i64 d, .bool g, .int .i64 t] rfl rfl 25 _ Z1.out rfl szB (oneB _ _ _ _ _ _) ?_; intro wz2 hz))
    have B2 := Lib.hid (hz.on B1.out (by have hlY := LY.out; have hs0 := LTX.out; have hs1 := LTZ.out; have hs2 := SS1.out; have hs3 := LWY.out; first | omega | (simp <;> omega)))
    have X2 := Lib.hid (hz.keep X1.out (by have hlY := LY.out; have hs0 := LTX.out; have hs1 := LTZ.out; have hs2 := SS1.out; have hs3 := LWY.out; first | omega | (simp <;> omega)))
    have Z2 := Lib.hid (hz.box)
    have Y2 := Lib.hid (hz.keep Y1.out (by have hlY := LY.out; have hs0 := LTX.out; have hs1 := LTZ.out; have hs2 := SS1.out; have hs3 := LWY.out; first | omega | (simp <;> omega)))
    clear hz B1 X1 Z1 Y1
    (try simp only [Exit.inBlock, Exit.then])
    refine bodyPost_ret (v := .agg #[.int .i64 f, .int .i64 s, .int .i64 c, .int .i64 d, .bool g, .int .i64 t]) ?_ rfl ?_
    · rw [results_cell1 rfl]
      exact stw.back Z2.out Try.underlying25 rfl szB
    · exact ⟨by rw [HE.out], B2.out⟩
end Go.Proofs.Ytalfihfielgmpaa.be
