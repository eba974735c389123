/- Rows of outcomes, program and specification; the harness. Condition: none. -/
import Derived.Test.YtejjafmppihneaaRt3
import Derived.Test.YtejjafmppihneaaBls
namespace Go.Proofs.Ytejjafmppihneaa.ra
open Go.RowKit sl harn rng bx stw airs
set_option linter.unusedVariables false
set_option linter.unusedSimpArgs false

set_option maxRecDepth 100000 in
set_option maxHeartbeats 4000000 in
theorem implAp (r g b t : Int) (p : Bool) (l : List Bool) (A : Option Addr) (n cap lo hi : Nat) (w : World) (h0 : bls.Rb w lo hi A n cap l) :
    Calls Try.prog 26 #[.agg #[.int .i64 r, .int .i64 g, .int .i64 b, .int .i64 t, .bool p], .slice A n cap] w (RPost (app ⟨r, g, b, t, p⟩ l) w) := by
  have hcap := h0.cap_
  have hn9 : (n : Int) ≤ 9223372036854775807 := by omega
  have RW := Lib.hid h0
  have HLN := Lib.hid h0.len
  have HHI := Lib.hid h0.hi_
  clear h0 hcap
  go_enter Try.func26, Try.ntmps26
  go_wp2_with fail
  obtain ⟨w0, hW⟩ : ∃ w0, (w.alloc (.cells #[.int .i64 r, .int .i64 g, .int .i64 b, .int .i64 t, .bool p] 32)).alloc (.cells #[.int .i64 0, .int .i64 0, .int .i64 0, .int .i64 0, .bool false] 32) = w0 := ⟨_, rfl⟩
  rw [hW]
  have B0 := Lib.hid (show Below w.heap.size w w0 by rw [← hW]; exact ((Below.refl _ _).alloc (by simp <;> omega) _).alloc (by simp <;> omega) _)
  have X0 := Lib.hid (show Bx 32 w0 (w.heap.size) #[.int .i64 r, .int .i64 g, .int .i64 b, .int .i64 t, .bool p] by
      rw [← hW]
      have hh := Bx.made 32 w #[.int .i64 r, .int .i64 g, .int .i64 b, .int .i64 t, .bool p]
      exact (hh.below (below_box _ _)))
  have Z0 := Lib.hid (show Bx 32 w0 (w.heap.size + 1) #[.int .i64 0, .int .i64 0, .int .i64 0, .int .i64 0, .bool false] by
      rw [← hW]
      have hh : Bx 32 ((w.alloc (.cells #[.int .i64 r, .int .i64 g, .int .i64 b, .int .i64 t, .bool p] 32)).alloc (.cells #[.int .i64 0, .int .i64 0, .int .i64 0, .int .i64 0, .bool false] 32)) (w.heap.size + 1) #[.int .i64 0, .int .i64 0, .int .i64 0, .int .i64 0, .bool false] := by have hh := Bx.made 32 (w.alloc (.cells #[.int .i64 r, .int .i64 g, .int .i64 b, .int .i64 t, .bool p] 32)) #[.int .i64 0, .int .i64 0, .int .i64 0, .int .i64 0, .bool false]; simpa using hh
      exact hh)
  have R0 := Lib.hid (show bls.Rb w0 lo hi A n cap l by rw [← hW]; exact ((RW.out.below (below_box _ _)).below (below_box _ _)))
  clear hW
  have LTX := Lib.hid X0.out.lt
  have LTZ := Lib.hid Z0.out.lt
  go_loopw [9] (fun v0 wr => ∃ (k : Nat) (r1 : Int) (g1 : Int) (b1 : Int) (t1 : Int) (p1 : Bool), v0 = .int .i64 (k : Nat) ∧ (k ≤ n) ∧ (app ⟨r, g, b, t, p⟩ (l.take k) = ⟨r1, g1, b1, t1, p1⟩) ∧ Below w.heap.size w wr ∧ Bx 32 wr w.heap.size #[.int .i64 r1, .int .i64 g1, .int .i64 b1, .int .i64 t1, .bool p1] ∧ Bx 32 wr (w.heap.size + 1) #[.int .i64 0, .int .i64 0, .int .i64 0, .int .i64 0, .bool false] ∧ bls.Rb wr lo hi A n cap l) ((fun i _ => n - (intOf i).toNat))
  case atStart => exact ⟨0, _, _, _, _, _, rfl, by omega, rfl, B0.out, X0.out, Z0.out, R0.out⟩
  case round =>
    obtain ⟨k, r1, g1, b1, t1, p1, rfl, ghk, ghq, gB1, gX1, gZ1, gR1⟩ := hrel
    have B1 := Lib.hid gB1
    have X1 := Lib.hid gX1
    have Z1 := Lib.hid gZ1
    have R1 := Lib.hid gR1
    have hk := Lib.hid ghk
    have hq := Lib.hid ghq
    clear gB1 gX1 gZ1 gR1 ghk ghq
    have LUX1 := Lib.hid X1.out.lt
    have LUZ1 := Lib.hid Z1.out.lt
    have SBR1 := Lib.hid B1.out.size
    have hk := hk.out
    by_cases hlt : k < n
    · have hlt2 : (k : Int) < n := by omega
      obtain ⟨x, hx⟩ : ∃ x, l.getD k false = x := ⟨_, rfl⟩
      have HX := Lib.hid (show app ⟨r, g, b, t, p⟩ (l.take (k + 1)) = step ⟨r1, g1, b1, t1, p1⟩ x by rw [app_take (by rw [HLN.out]; exact hlt), hq.out, hx])
      obtain ⟨bb, off, rfl, h1, h2, hc⟩ := R1.out.at_ hlt
      rw [hx] at hc
      clear hx h1 h2
      cases x with
      | true =>
        obtain ⟨⟨r2, g2, b2, t2, p2⟩, hs⟩ : ∃ x, su ⟨r1, g1, b1, t1, p1⟩ = x := ⟨_, rfl⟩
        have HS := Lib.hid hs
        have HY := Lib.hid (show app ⟨r, g, b, t, p⟩ (l.take (k + 1)) = ⟨r2, g2, b2, t2, p2⟩ by rw [HX.out, ← hs]; rfl)
        clear hs
        go_wp2_with (refine stw.list_load rfl 32 _ rfl (w.heap.size) rfl 32 _ X1.out Try.underlying32 rfl szR ?_)
        clear hc
        (with_reducible refine (implSu r1 g1 b1 t1 p1 _).mono ?_)
        rintro e w2 hp
        obtain ⟨rfl, hb⟩ := r_parts HS.out hp
        clear hp
        have SS2 := Lib.hid hb.size
        have B2 := Lib.hid (B1.out.trans (hb.mono B1.out.size))
        have X2 := Lib.hid (X1.out.below hb)
        have Z2 := Lib.hid (Z1.out.below hb)
        have R2 := Lib.hid (R1.out.below hb)
        clear hb  B1 X1 Z1 R1
        go_wp2_with (first | (refine stw.list_store rfl 32 _ _ rfl (w.heap.size) #[.int .i64 r2, .int .i64 g2, .int .i64 b2, .int .i64 t2, .bool p2] rfl rfl 32 _ X2.out rfl szR (oneR _ _ _ _ _) ?_; intro wz3 hz))
        have B3 := Lib.hid (hz.on B2.out (by have hs0 := LTX.out; have hs1 := LTZ.out; have hs2 := HHI.out; have hs3 := LUX1.out; have hs4 := LUZ1.out; have hs5 := SBR1.out; have hs6 := SS2.out; first | omega | (simp <;> omega)))
        have X3 := Lib.hid (hz.box)
        have Z3 := Lib.hid (hz.keep Z2.out (by have hs0 := LTX.out; have hs1 := LTZ.out; have hs2 := HHI.out; have hs3 := LUX1.out; have hs4 := LUZ1.out; have hs5 := SBR1.out; have hs6 := SS2.out; first | omega | (simp <;> omega)))
        have R3 := Lib.hid (R2.out.same hz.below.size fun b h1 h2 => hz.other b (by have hs0 := LTX.out; have hs1 := LTZ.out; have hs2 := HHI.out; have hs3 := LUX1.out; have hs4 := LUZ1.out; have hs5 := SBR1.out; have hs6 := SS2.out; first | omega | (simp <;> omega)))
        clear hz B2 X2 Z2 R2
        go_roundw
        case rel => exact ⟨k + 1, r2, g2, b2, t2, p2, by go_num, by omega, HY.out, B3.out, X3.out, Z3.out, R3.out⟩
        case measure => simp [intOf]; omega
      | false =>
        obtain ⟨⟨r2, g2, b2, t2, p2⟩, hs⟩ : ∃ x, fa ⟨r1, g1, b1, t1, p1⟩ = x := ⟨_, rfl⟩
        have HS := Lib.hid hs
        have HY := Lib.hid (show app ⟨r, g, b, t, p⟩ (l.take (k + 1)) = ⟨r2, g2, b2, t2, p2⟩ by rw [HX.out, ← hs]; rfl)
        clear hs
        go_wp2_with (refine stw.list_load rfl 32 _ rfl (w.heap.size) rfl 32 _ X1.out Try.underlying32 rfl szR ?_)
        clear hc
        (with_reducible refine (implFa r1 g1 b1 t1 p1 _).mono ?_)
        rintro e w2 hp
        obtain ⟨rfl, hb⟩ := r_parts HS.out hp
        clear hp
        have SS2 := Lib.hid hb.size
        have B2 := Lib.hid (B1.out.trans (hb.mono B1.out.size))
        have X2 := Lib.hid (X1.out.below hb)
        have Z2 := Lib.hid (Z1.out.below hb)
        have R2 := Lib.hid (R1.out.below hb)
        clear hb  B1 X1 Z1 R1
        go_wp2_with (first | (refine stw.list_store rfl 32 _ _ rfl (w.heap.size) #[.int .i64 r2, .int .i64 g2, .int .i64 b2, .int .i64 t2, .bool p2] rfl rfl 32 _ X2.out rfl szR (oneR _ _ _ _ _) ?_; intro wz3 hz))
        have B3 := Lib.hid (hz.on B2.out (by have hs0 := LTX.out; have hs1 := LTZ.out; have hs2 := HHI.out; have hs3 := LUX1.out; have hs4 := LUZ1.out; have hs5 := SBR1.out; have hs6 := SS2.out; first | omega | (simp <;> omega)))
        have X3 := Lib.hid (hz.box)
        have Z3 := Lib.hid (hz.keep Z2.out (by have hs0 := LTX.out; have hs1 := LTZ.out; have hs2 := HHI.out; have hs3 := LUX1.out; have hs4 := LUZ1.out; have hs5 := SBR1.out; have hs6 := SS2.out; first | omega | (simp <;> omega)))
        have R3 := Lib.hid (R2.out.same hz.below.size fun b h1 h2 => hz.other b (by have hs0 := LTX.out; have hs1 := LTZ.out; have hs2 := HHI.out; have hs3 := LUX1.out; have hs4 := LUZ1.out; have hs5 := SBR1.out; have hs6 := SS2.out; first | omega | (simp <;> omega)))
        clear hz B2 X2 Z2 R2
        go_roundw
        case rel => exact ⟨k + 1, r2, g2, b2, t2, p2, by go_num, by omega, HY.out, B3.out, X3.out, Z3.out, R3.out⟩
        case measure => simp [intOf]; omega
    · have hlt2 : ¬ (k : Int) < n := by omega
      obtain rfl : k = n := by omega
      have HE := Lib.hid (show app ⟨r, g, b, t, p⟩ l = ⟨r1, g1, b1, t1, p1⟩ by have h := hq.out; rw [List.take_of_length_le (by rw [HLN.out]; omega)] at h; exact h)
      go_wp2_with (first | (refine stw.list_load rfl 32 _ rfl (w.heap.size) rfl 32 _ X1.out Try.underlying32 rfl szR ?_) | (refine stw.list_store rfl 32 _ _ rfl (w.heap.size + 1) #[.int .i64 r1, .int .i64 g1, .int .i64 b1, .int .i64 t1, .bool p1] rfl rfl 32 _ Z1.out rfl szR (oneR _ _ _ _ _) ?_; intro wz2 hz))
      have B2 := Lib.hid (hz.on B1.out (by have hs0 := LTX.out; have hs1 := LTZ.out; have hs2 := HHI.out; have hs3 := LUX1.out; have hs4 := LUZ1.out; have hs5 := SBR1.out; first | omega | (simp <;> omega)))
      have X2 := Lib.hid (hz.keep X1.out (by have hs0 := LTX.out; have hs1 := LTZ.out; have hs2 := HHI.out; have hs3 := LUX1.out; have hs4 := LUZ1.out; have hs5 := SBR1.out; first | omega | (simp <;> omega)))
      have Z2 := Lib.hid (hz.box)
      have R2 := Lib.hid (R1.out.same hz.below.size fun b h1 h2 => hz.other b (by have hs0 := LTX.out; have hs1 := LTZ.out; have hs2 := HHI.out; have hs3 := LUX1.out; have hs4 := LUZ1.out; have hs5 := SBR1.out; first | omega | (simp <;> omega)))
      clear hz B1 X1 Z1 R1
      (try simp only [Exit.inBlock, Exit.then])
      refine bodyPost_ret (v := .agg #[.int .i64 r1, .int .i64 g1, .int .i64 b1, .int .i64 t1, .bool p1]) ?_ rfl ?_
      · rw [results_cell1 rfl]
        exact stw.back Z2.out Try.underlying32 rfl szR
      · exact ⟨by rw [HE.out], B2.out⟩
set_option maxRecDepth 100000 in
set_option maxHeartbeats 4000000 in
theorem specAp (r g b t : Int) (p : Bool) (l : List Bool) (A : Option Addr) (n cap lo hi : Nat) (w : World) (h0 : bls.Rb w lo hi A n cap l) :
    Calls Try.prog 33 #[.agg #[.int .i64 r, .int .i64 g, .int .i64 b, .int .i64 t, .bool p], .slice A n cap] w (RPost (app ⟨r, g, b, t, p⟩ l) w) := by
  have hcap := h0.cap_
  have hn9 : (n : Int) ≤ 9223372036854775807 := by omega
  have RW := Lib.hid h0
  have HLN := Lib.hid h0.len
  have HHI := Lib.hid h0.hi_
  clear h0 hcap
  go_enter Try.func33, Try.ntmps33
  go_wp2_with fail
  obtain ⟨w0, hW⟩ : ∃ w0, (w.alloc (.cells #[.int .i64 r, .int .i64 g, .int .i64 b, .int .i64 t, .bool p] 32)).alloc (.cells #[.int .i64 0, .int .i64 0, .int .i64 0, .int .i64 0, .bool false] 32) = w0 := ⟨_, rfl⟩
  rw [hW]
  have B0 := Lib.hid (show Below w.heap.size w w0 by rw [← hW]; exact ((Below.refl _ _).alloc (by simp <;> omega) _).alloc (by simp <;> omega) _)
  have X0 := Lib.hid (show Bx 32 w0 (w.heap.size) #[.int .i64 r, .int .i64 g, .int .i64 b, .int .i64 t, .bool p] by
      rw [← hW]
      have hh := Bx.made 32 w #[.int .i64 r, .int .i64 g, .int .i64 b, .int .i64 t, .bool p]
      exact (hh.below (below_box _ _)))
  have Z0 := Lib.hid (show Bx 32 w0 (w.heap.size + 1) #[.int .i64 0, .int .i64 0, .int .i64 0, .int .i64 0, .bool false] by
      rw [← hW]
      have hh : Bx 32 ((w.alloc (.cells #[.int .i64 r, .int .i64 g, .int .i64 b, .int .i64 t, .bool p] 32)).alloc (.cells #[.int .i64 0, .int .i64 0, .int .i64 0, .int .i64 0, .bool false] 32)) (w.heap.size + 1) #[.int .i64 0, .int .i64 0, .int .i64 0, .int .i64 0, .bool false] := by have hh := Bx.made 32 (w.alloc (.cells #[.int .i64 r, .int .i64 g, .int .i64 b, .int .i64 t, .bool p] 32)) #[.int .i64 0, .int .i64 0, .int .i64 0, .int .i64 0, .bool false]; simpa using hh
      exact hh)
  have R0 := Lib.hid (show bls.Rb w0 lo hi A n cap l by rw [← hW]; exact ((RW.out.below (below_box _ _)).below (below_box _ _)))
  clear hW
  have LTX := Lib.hid X0.out.lt
  have LTZ := Lib.hid Z0.out.lt
  go_loopw [5] (fun v0 wr => ∃ (k : Nat) (r1 : Int) (g1 : Int) (b1 : Int) (t1 : Int) (p1 : Bool), v0 = .int .i64 (k : Nat) ∧ (k ≤ n) ∧ (app ⟨r, g, b, t, p⟩ (l.take k) = ⟨r1, g1, b1, t1, p1⟩) ∧ Below w.heap.size w wr ∧ Bx 32 wr w.heap.size #[.int .i64 r1, .int .i64 g1, .int .i64 b1, .int .i64 t1, .bool p1] ∧ Bx 32 wr (w.heap.size + 1) #[.int .i64 0, .int .i64 0, .int .i64 0, .int .i64 0, .bool false] ∧ bls.Rb wr lo hi A n cap l) ((fun i _ => n - (intOf i).toNat))
  case atStart => exact ⟨0, _, _, _, _, _, rfl, by omega, rfl, B0.out, X0.out, Z0.out, R0.out⟩
  case round =>
    obtain ⟨k, r1, g1, b1, t1, p1, rfl, ghk, ghq, gB1, gX1, gZ1, gR1⟩ := hrel
    have B1 := Lib.hid gB1
    have X1 := Lib.hid gX1
    have Z1 := Lib.hid gZ1
    have R1 := Lib.hid gR1
    have hk := Lib.hid ghk
    have hq := Lib.hid ghq
    clear gB1 gX1 gZ1 gR1 ghk ghq
    have LUX1 := Lib.hid X1.out.lt
    have LUZ1 := Lib.hid Z1.out.lt
    have SBR1 := Lib.hid B1.out.size
    have hk := hk.out
    by_cases hlt : k < n
    · have hlt2 : (k : Int) < n := by omega
      obtain ⟨x, hx⟩ : ∃ x, l.getD k false = x := ⟨_, rfl⟩
      have HX := Lib.hid (show app ⟨r, g, b, t, p⟩ (l.take (k + 1)) = step ⟨r1, g1, b1, t1, p1⟩ x by rw [app_take (by rw [HLN.out]; exact hlt), hq.out, hx])
      obtain ⟨bb, off, rfl, h1, h2, hc⟩ := R1.out.at_ hlt
      rw [hx] at hc
      clear hx h1 h2
      cases x with
      | true =>
        obtain ⟨⟨r2, g2, b2, t2, p2⟩, hs⟩ : ∃ x, su ⟨r1, g1, b1, t1, p1⟩ = x := ⟨_, rfl⟩
        have HS := Lib.hid hs
        have HY := Lib.hid (show app ⟨r, g, b, t, p⟩ (l.take (k + 1)) = ⟨r2, g2, b2, t2, p2⟩ by rw [HX.out, ← hs]; rfl)
        clear hs
        go_wp2_with (refine stw.list_load rfl 32 _ rfl (w.heap.size) rfl 32 _ X1.out Try.underlying32 rfl szR ?_)
        clear hc
        (with_reducible refine (specSu r1 g1 b1 t1 p1 _).mono ?_)
        rintro e w2 hp
        obtain ⟨rfl, hb⟩ := r_parts HS.out hp
        clear hp
        have SS2 := Lib.hid hb.size
        have B2 := Lib.hid (B1.out.trans (hb.mono B1.out.size))
        have X2 := Lib.hid (X1.out.below hb)
        have Z2 := Lib.hid (Z1.out.below hb)
        have R2 := Lib.hid (R1.out.below hb)
        clear hb  B1 X1 Z1 R1
        go_wp2_with (first | (refine stw.list_store rfl 32 _ _ rfl (w.heap.size) #[.int .i64 r2, .int .i64 g2, .int .i64 b2, .int .i64 t2, .bool p2] rfl rfl 32 _ X2.out rfl szR (oneR _ _ _ _ _) ?_; intro wz3 hz))
        have B3 := Lib.hid (hz.on B2.out (by have hs0 := LTX.out; have hs1 := LTZ.out; have hs2 := HHI.out; have hs3 := LUX1.out; have hs4 := LUZ1.out; have hs5 := SBR1.out; have hs6 := SS2.out; first | omega | (simp <;> omega)))
        have X3 := Lib.hid (hz.box)
        have Z3 := Lib.hid (hz.keep Z2.out (by have hs0 := LTX.out; have hs1 := LTZ.out; have hs2 := HHI.out; have hs3 := LUX1.out; have hs4 := LUZ1.out; have hs5 := SBR1.out; have hs6 := SS2.out; first | omega | (simp <;> omega)))
        have R3 := Lib.hid (R2.out.same hz.below.size fun b h1 h2 => hz.other b (by have hs0 := LTX.out; have hs1 := LTZ.out; have hs2 := HHI.out; have hs3 := LUX1.out; have hs4 := LUZ1.out; have hs5 := SBR1.out; have hs6 := SS2.out; first | omega | (simp <;> omega)))
        clear hz B2 X2 Z2 R2
        go_roundw
        case rel => exact ⟨k + 1, r2, g2, b2, t2, p2, by go_num, by omega, HY.out, B3.out, X3.out, Z3.out, R3.out⟩
        case measure => simp [intOf]; omega
      | false =>
        obtain ⟨⟨r2, g2, b2, t2, p2⟩, hs⟩ : ∃ x, fa ⟨r1, g1, b1, t1, p1⟩ = x := ⟨_, rfl⟩
        have HS := Lib.hid hs
        have HY := Lib.hid (show app ⟨r, g, b, t, p⟩ (l.take (k + 1)) = ⟨r2, g2, b2, t2, p2⟩ by rw [HX.out, ← hs]; rfl)
        clear hs
        go_wp2_with (refine stw.list_load rfl 32 _ rfl (w.heap.size) rfl 32 _ X1.out Try.underlying32 rfl szR ?_)
        clear hc
        (with_reducible refine (specFa r1 g1 b1 t1 p1 _).mono ?_)
        rintro e w2 hp
        obtain ⟨rfl, hb⟩ := r_parts HS.out hp
        clear hp
        have SS2 := Lib.hid hb.size
        have B2 := Lib.hid (B1.out.trans (hb.mono B1.out.size))
        have X2 := Lib.hid (X1.out.below hb)
        have Z2 := Lib.hid (Z1.out.below hb)
        have R2 := Lib.hid (R1.out.below hb)
        clear hb  B1 X1 Z1 R1
        go_wp2_with (first | (refine stw.list_store rfl 32 _ _ rfl (w.heap.size) #[.int .i64 r2, .int .i64 g2, .int .i64 b2, .int .i64 t2, .bool p2] rfl rfl 32 _ X2.out rfl szR (oneR _ _ _ _ _) ?_; intro wz3 hz))
        have B3 := Lib.hid (hz.on B2.out (by have hs0 := LTX.out; have hs1 := LTZ.out; have hs2 := HHI.out; have hs3 := LUX1.out; have hs4 := LUZ1.out; have hs5 := SBR1.out; have hs6 := SS2.out; first | omega | (simp <;> omega)))
        have X3 := Lib.hid (hz.box)
        have Z3 := Lib.hid (hz.keep Z2.out (by have hs0 := LTX.out; have hs1 := LTZ.out; have hs2 := HHI.out; have hs3 := LUX1.out; have hs4 := LUZ1.out; have hs5 := SBR1.out; have hs6 := SS2.out; first | omega | (simp <;> omega)))
        have R3 := Lib.hid (R2.out.same hz.below.size fun b h1 h2 => hz.other b (by have hs0 := LTX.out; have hs1 := LTZ.out; have hs2 := HHI.out; have hs3 := LUX1.out; have hs4 := LUZ1.out; have hs5 := SBR1.out; have hs6 := SS2.out; first | omega | (simp <;> omega)))
        clear hz B2 X2 Z2 R2
        go_roundw
        case rel => exact ⟨k + 1, r2, g2, b2, t2, p2, by go_num, by omega, HY.out, B3.out, X3.out, Z3.out, R3.out⟩
        case measure => simp [intOf]; omega
    · have hlt2 : ¬ (k : Int) < n := by omega
      obtain rfl : k = n := by omega
      have HE := Lib.hid (show app ⟨r, g, b, t, p⟩ l = ⟨r1, g1, b1, t1, p1⟩ by have h := hq.out; rw [List.take_of_length_le (by rw [HLN.out]; omega)] at h; exact h)
      go_wp2_with (first | (refine stw.list_load rfl 32 _ rfl (w.heap.size) rfl 32 _ X1.out Try.underlying32 rfl szR ?_) | (refine stw.list_store rfl 32 _ _ rfl (w.heap.size + 1) #[.int .i64 r1, .int .i64 g1, .int .i64 b1, .int .i64 t1, .bool p1] rfl rfl 32 _ Z1.out rfl szR (oneR _ _ _ _ _) ?_; intro wz2 hz))
      have B2 := Lib.hid (hz.on B1.out (by have hs0 := LTX.out; have hs1 := LTZ.out; have hs2 := HHI.out; have hs3 := LUX1.out; have hs4 := LUZ1.out; have hs5 := SBR1.out; first | omega | (simp <;> omega)))
      have X2 := Lib.hid (hz.keep X1.out (by have hs0 := LTX.out; have hs1 := LTZ.out; have hs2 := HHI.out; have hs3 := LUX1.out; have hs4 := LUZ1.out; have hs5 := SBR1.out; first | omega | (simp <;> omega)))
      have Z2 := Lib.hid (hz.box)
      have R2 := Lib.hid (R1.out.same hz.below.size fun b h1 h2 => hz.other b (by have hs0 := LTX.out; have hs1 := LTZ.out; have hs2 := HHI.out; have hs3 := LUX1.out; have hs4 := LUZ1.out; have hs5 := SBR1.out; first | omega | (simp <;> omega)))
      clear hz B1 X1 Z1 R1
      (try simp only [Exit.inBlock, Exit.then])
      refine bodyPost_ret (v := .agg #[.int .i64 r1, .int .i64 g1, .int .i64 b1, .int .i64 t1, .bool p1]) ?_ rfl ?_
      · rw [results_cell1 rfl]
        exact stw.back Z2.out Try.underlying32 rfl szR
      · exact ⟨by rw [HE.out], B2.out⟩
set_option maxRecDepth 100000 in
set_option maxHeartbeats 4000000 in
theorem toR (r g b t : Int) (p : Bool) (w : World) :
    Calls Try.prog 30 #[.agg #[.int .i64 r, .int .i64 g, .int .i64 b, .int .i64 t, .bool p]] w (fun e w' => e = .returned (.agg #[.int .i64 r, .int .i64 g, .int .i64 b, .int .i64 t, .bool p]) ∧ Below w.heap.size w w') := by
  go_enter Try.func30, Try.ntmps30
  go_wp2
  (try simp only [Exit.inBlock, Exit.then])
  refine bodyPost_ret (v := .agg #[.int .i64 r, .int .i64 g, .int .i64 b, .int .i64 t, .bool p]) ?_ rfl ⟨rfl, ?_⟩
  · rw [results_cell1 rfl]
    go_simp
  · (repeat' (first | exact Below.refl _ _ | refine Below.setCell ?_ (by simp) _ | refine Below.alloc ?_ (by simp <;> omega) _))
set_option maxRecDepth 100000 in
set_option maxHeartbeats 4000000 in
theorem eqR_yes (r g b t : Int) (p : Bool) (w : World) :
    Calls Try.prog 29 #[.agg #[.int .i64 r, .int .i64 g, .int .i64 b, .int .i64 t, .bool p], .agg #[.int .i64 r, .int .i64 g, .int .i64 b, .int .i64 t, .bool p]] w (fun e w' => e = .returned (.bool true) ∧ Below w.heap.size w w') := by
  cases p with
  | true =>
    go_enter Try.func29, Try.ntmps29
    go_wp2
    go_ret
    exact ⟨rfl, bx.below_box2 _ _ _⟩
  | false =>
    go_enter Try.func29, Try.ntmps29
    go_wp2
    go_ret
    exact ⟨rfl, bx.below_box2 _ _ _⟩
end Go.Proofs.Ytejjafmppihneaa.ra
