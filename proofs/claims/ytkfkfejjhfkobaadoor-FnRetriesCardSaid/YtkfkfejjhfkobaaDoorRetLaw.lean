/- The law function of the retries (FnRetries) returns true and leaves what was there. Conditions: the argument is a slice of bytes that came in; the table of parameters reads as laid. -/
import Derived.Test.YtkfkfejjhfkobaaDoorDrawV
import Derived.Test.YtkfkfejjhfkobaaDoorStv
import Derived.Test.YtkfkfejjhfkobaaDoorRgs
import Derived.Test.YtkfkfejjhfkobaaDoorAtv
namespace Go.Proofs.YtkfkfejjhfkobaaDoor.retLaw
open Go.RowKit sl harn rng acm bx bom stw lawAt
set_option linter.unusedVariables false
set_option linter.unusedSimpArgs false

theorem fai_try {q : Bo} {s y u m g : Int} (h : Vb q) (hr : ¬ q.r = 7) (hy : nw q.a q.b q.c q.d q.x = y) (hu : wt s q.n y = u) (hm : mn (q.n + 1) 1000000000000 = m) (hg : q.r + 1 = g) : fai q s = ⟨q.a, q.b, q.c, q.d, y, u, 0, g, m⟩ := by
  unfold fai
  rw [if_pos (vb_iff.2 h), if_neg hr]
  have e : nx q.b q.c q.x = y := by rw [← hy, nw_yes (vp_iff.2 h.par)]
  rw [e]; unfold red; rw [hu, hm, hg]
theorem fai_end {q : Bo} {s u m : Int} (h : Vb q) (hr : q.r = 7) (hu : wt s q.n q.b = u) (hm : mn (q.n + 1) 1000000000000 = m) : fai q s = ⟨q.a, q.b, q.c, q.d, q.b, u, 0, 0, m⟩ := by
  unfold fai
  rw [if_pos (vb_iff.2 h), if_pos hr]
  unfold red; rw [hu, hm]
theorem suc_is {q : Bo} {s u m : Int} (h : Vb q) (hu : wt s q.n q.b = u) (hm : mn (q.n + 1) 1000000000000 = m) : suc q s = ⟨q.a, q.b, q.c, q.d, q.b, u, 0, 0, m⟩ := by
  unfold suc
  rw [if_pos (vb_iff.2 h)]
  unfold red; rw [hu, hm]
theorem aga_yes {q : Bo} (h : Vb q) (hr : ¬ q.r = 7) : aga q = true := by unfold aga; rw [vb_iff.2 h, decide_eq_true hr]; rfl
theorem aga_end {q : Bo} (hr : q.r = 7) : aga q = false := by unfold aga; simp [hr]
theorem nw_low {q : Bo} {y : Int} (h : Vb q) (hy : nw q.a q.b q.c q.d q.x = y) : 1 ≤ y ∧ y ≤ 1023 := by
  rw [← hy, nw_yes (vp_iff.2 h.par)]
  have h1 := nx_in (x := q.x) (win_in h.par.low) (win_in h.par.high) h.par.le
  have h2 := win_in h.par.low
  have h3 := win_in h.par.high
  omega

set_option maxRecDepth 100000 in
set_option maxHeartbeats 16000000 in
theorem walk (A : Option Addr) (len cap : Nat) (zs : List Int) (w : World) (r0 : kit.IsRow .u8 w A len cap zs) (h : Tbl w) :
    Calls Tryd.prog 3 #[.slice A len cap] w fun e w' => e = .returned (.bool true) ∧ Below w.heap.size w w' := by
  have HC := Lib.hid (draw.code_of_row r0)
  have hlen : (len : Int) ≤ 9223372036854775807 := by have := HC.out.1; omega
  obtain ⟨ys, hr⟩ := Rd.of_row r0
  have HR0 := Lib.hid hr
  have HT := Lib.hid h
  clear r0 hr h
  by_cases hbig : 1048576 < (len : Int)
  · go_enter Tryd.func3, Tryd.ntmps3
    go_wp2
    go_ret
    exact ⟨rfl, Below.refl _ _⟩
  have HLN := Lib.hid (show len ≤ 1048576 by omega)
  go_enter Tryd.func3, Tryd.ntmps3
  go_wp2_with (go_at_call 5; go_in)
  clear hbig hlen
  go_wp2_with fail
  obtain ⟨f0, hv⟩ : ∃ v, atv ys len 0 = v := ⟨_, rfl⟩
  have HAf0 := Lib.hid hv
  have HIf0 := Lib.hid (show 0 ≤ f0 ∧ f0 ≤ 255 by rw [← hv]; exact atv_in HR0.out 0)
  clear hv
  obtain ⟨f1, hv⟩ : ∃ v, atv ys len 1 = v := ⟨_, rfl⟩
  have HAf1 := Lib.hid hv
  have HIf1 := Lib.hid (show 0 ≤ f1 ∧ f1 ≤ 255 by rw [← hv]; exact atv_in HR0.out 1)
  clear hv
  (with_reducible refine (at_v 0 0 rfl (by omega) f0 A len cap _ _ ys _ HR0.out HLN.out HAf0.out).mono ?_)
  rintro e wq ⟨rfl, rfl⟩
  obtain ⟨k, hk⟩ : ∃ k, f0 % 4 = k := ⟨_, rfl⟩
  have hk2 : f0.tmod 4 = k := by rw [Int.tmod_eq_emod_of_nonneg HIf0.out.1]; exact hk
  have HK4 := Lib.hid (show 0 ≤ k ∧ k ≤ 3 by have := HIf0.out; omega)
  have hf0 := HIf0.out
  go_wp2_with fail
  clear hk hk2 hf0
  have WS := Lib.hid (show (Lit.int .i64 f1).wf = true from WalkArith.wf_i64 (by have := HIf1.out; omega))
  (with_reducible refine (at_v 1 1 rfl (by omega) f1 A len cap _ _ ys _ HR0.out HLN.out HAf1.out).mono ?_)
  rintro e wq ⟨rfl, rfl⟩
  go_wp2_with fail
  obtain ⟨a0, b0, c0, d0, x0, t0, j0, r0, n0, h0⟩ : ∃ z0 z1 z2 z3 z4 z5 z6 z7 z8, fst k f1 = ⟨z0, z1, z2, z3, z4, z5, z6, z7, z8⟩ := ⟨_, _, _, _, _, _, _, _, _, rfl⟩
  have V0 := Lib.hid (show Vb ⟨a0, b0, c0, d0, x0, t0, j0, r0, n0⟩ by rw [← h0]; exact fst_vb HK4.out)
  have HZ0 := Lib.hid (show r0 = 0 by have := congrArg Bo.r h0; exact this.symm)
  have H0 := Lib.hid h0
  clear h0
  (with_reducible refine (implNb k f1 WS.out _ HT.out).mono ?_)
  rintro e w1 hp
  obtain ⟨rfl, hb⟩ := o_parts H0.out hp
  have B1 := Lib.hid hb
  clear hp hb HT H0
  obtain ⟨p, hbb⟩ : ∃ b, w1.heap.size = b := ⟨_, rfl⟩
  go_wp2_with fail
  generalize hW : w1.alloc (.cells #[.int .i64 a0, .int .i64 b0, .int .i64 c0, .int .i64 d0, .int .i64 x0, .int .i64 t0, .int .i64 j0, .int .i64 r0, .int .i64 n0] 28) = w2
  have B2 := Lib.hid (show Below w.heap.size w w2 by rw [← hW]; exact B1.out.alloc B1.out.size _)
  have X2 := Lib.hid (show Bx 28 w2 p #[.int .i64 a0, .int .i64 b0, .int .i64 c0, .int .i64 d0, .int .i64 x0, .int .i64 t0, .int .i64 j0, .int .i64 r0, .int .i64 n0] by rw [← hW, ← hbb]; exact Bx.made _ _ _)
  have LX := Lib.hid (show w.heap.size ≤ p by have h1 := B1.out.size;  have h3 := hbb; omega)
  (try rw [hbb])
  clear hW hbb B1 
  go_loopw [5] (fun i wr => ∃ (k : Nat) (q : Bo), i = .int .i64 k ∧ k ≤ 7 ∧ Vb q ∧ q.r = k ∧ Below w.heap.size w wr ∧ Bx 28 wr p (bv q)) (fun i _ => 7 - (intOf i).toNat)
  case atStart => exact ⟨0, ⟨a0, b0, c0, d0, x0, t0, j0, r0, n0⟩, rfl, by omega, V0.out, HZ0.out, B2.out, X2.out⟩
  case round =>
    clear B2 X2 V0 HZ0
    obtain ⟨k, ⟨a1, b1, c1, d1, x1, t1, j1, r1, n1⟩, rfl, hk, hv, hr, hB, hX⟩ := hrel
    have V1 := Lib.hid hv
    have HRK := Lib.hid (show r1 = (k : Int) from hr)
    have B20 := Lib.hid hB
    have X20 := Lib.hid (show Bx 28 wr p #[.int .i64 a1, .int .i64 b1, .int .i64 c1, .int .i64 d1, .int .i64 x1, .int .i64 t1, .int .i64 j1, .int .i64 r1, .int .i64 n1] from hX)
    clear hv hr hB hX
    by_cases hlt : k < 7
    · obtain ⟨f2, hv⟩ : ∃ v, atv ys len (k + 2) = v := ⟨_, rfl⟩
      have HAf2 := Lib.hid hv
      have HIf2 := Lib.hid (show 0 ≤ f2 ∧ f2 ≤ 255 by rw [← hv]; exact atv_in HR0.out (k + 2))
      clear hv
      have WS2 := Lib.hid (show (Lit.int .i64 f2).wf = true from WalkArith.wf_i64 (by have := HIf2.out; omega))
      obtain ⟨y, hy⟩ : ∃ y, nw a1 b1 c1 d1 x1 = y := ⟨_, rfl⟩
      obtain ⟨u, hu⟩ : ∃ u, wt f2 n1 y = u := ⟨_, rfl⟩
      obtain ⟨m, hm⟩ : ∃ m, mn (n1 + 1) 1000000000000 = m := ⟨_, rfl⟩
      obtain ⟨g, hg⟩ : ∃ g, r1 + 1 = g := ⟨_, rfl⟩
      obtain ⟨e, he⟩ : ∃ e, (k : Int) + 2 = e := ⟨_, rfl⟩
      have hr7 : ¬ r1 = 7 := by have := HRK.out; omega
      have HF := Lib.hid (show fai ⟨a1, b1, c1, d1, x1, t1, j1, r1, n1⟩ f2 = ⟨a1, b1, c1, d1, y, u, 0, g, m⟩ from fai_try V1.out hr7 hy hu hm hg)
      have HAG := Lib.hid (show aga ⟨a1, b1, c1, d1, x1, t1, j1, r1, n1⟩ = true from aga_yes V1.out hr7)
      have V2 := Lib.hid (show Vb ⟨a1, b1, c1, d1, y, u, 0, g, m⟩ by rw [← HF.out]; exact fai_vb V1.out f2)
      have hy1 := nw_low V1.out hy
      have HY := Lib.hid hy
      have HUY := Lib.hid (show u ≤ y by rw [← hu]; exact (wt_in f2 n1 y (by omega)).2)
      have HG := Lib.hid (show (k : Int) + 1 = g by have := HRK.out; omega)
      have HE := Lib.hid he
      have HWE := Lib.hid (show IntKind.i64.wrap e = e from IntWalk.i64_in _ (by omega))
      have HWG := Lib.hid (show IntKind.i64.wrap g = g from IntWalk.i64_in _ (by have := HRK.out; omega))
      have HLT := Lib.hid hlt
      have hlt2 : (k : Int) < 7 := by omega
      clear hy hu hm hg he hr7 hy1 hlt hk
      go_wp2_with fail
      clear hlt2
      refine reg.region_free (stw.E2 28 p 9 10) 131 [(10, 6)] [some [], some [], some [], some [(2, 31)], some [(1, 30), (3, 32)], some [(0, 29), (4, 33)], some [(5, 34)], some [(6, 28)], some [(6, 28)], some [], some [(9, 6), (7, 35)], some [(8, 36)]] [(0, 29), (1, 30), (2, 31), (3, 32), (4, 33), (5, 34), (6, 28), (7, 35), (8, 36), (9, 6), (11, 7)]
        (fun w' => Below w.heap.size w w' ∧ Bx 28 w' p #[.int .i64 a1, .int .i64 b1, .int .i64 c1, .int .i64 d1, .int .i64 x1, .int .i64 t1, .int .i64 j1, .int .i64 r1, .int .i64 n1])
        (stw.r2 10 [stw.is2 (.agg #[.int .i64 a1, .int .i64 b1, .int .i64 c1, .int .i64 d1, .int .i64 x1, .int .i64 t1, .int .i64 j1, .int .i64 r1, .int .i64 n1]), stw.is2 (.slice A len cap), stw.is2 (.int .i64 k), stw.is2 (.int .i64 e), stw.is2 (.int .i64 f2), stw.is2 (.tuple #[.agg #[.int .i64 a1, .int .i64 b1, .int .i64 c1, .int .i64 d1, .int .i64 y, .int .i64 u, .int .i64 0, .int .i64 g, .int .i64 m], .bool true]), stw.is2 (.tuple #[.agg #[.int .i64 a1, .int .i64 b1, .int .i64 c1, .int .i64 d1, .int .i64 y, .int .i64 u, .int .i64 0, .int .i64 g, .int .i64 m], .bool true]), stw.is2 (.agg #[.int .i64 a1, .int .i64 b1, .int .i64 c1, .int .i64 d1, .int .i64 y, .int .i64 u, .int .i64 0, .int .i64 g, .int .i64 m]), stw.is2 (.bool true), stw.mk2, stw.val2 fun _ => True, stw.is2 (.bool true)] (fun cs => cs = #[.int .i64 a1, .int .i64 b1, .int .i64 c1, .int .i64 d1, .int .i64 y, .int .i64 u, .int .i64 0, .int .i64 g, .int .i64 m]))
        (by kernel_rfl) (by kernel_rfl) rfl
        (fun i w1 w2 hc hb => hb.cases (fun hb => ⟨hb.on hc.1 (by have h1 := LX.out; omega), hb.keep hc.2 (Nat.le_refl _)⟩) (fun hb => ⟨hc.1.trans (hb.mono hc.1.size), hc.2.below hb⟩)) (stw.r2_keep 10 _ _) (⟨own.below_drew B20.out, X20.out.same rfl⟩) (by kernel_rfl) ⟨?_, ?_, ?_, ?_, ?_, ?_, ?_, ?_, ?_, ?_, ?_, ?_, trivial⟩ ?_
      · refine fun w8 hc  K hK => ?_
        (try simp only [Act.put, List.setIfInBounds_toArray, List.set_cons_zero, List.set_cons_succ])
        refine step_load rfl 28 _ rfl p rfl 28 _ hc.2 Tryd.underlying28 rfl szB ?_
        exact hK _ _ (stw.r2_ne rfl rfl) (stw.e2_ne rfl (Below.refl _ _))
      · refine fun w8 hc  K hK => ?_
        (try simp only [Act.put, List.setIfInBounds_toArray, List.set_cons_zero, List.set_cons_succ])
        go_simp
        exact hK (.slice A len cap) _ (stw.r2_ne rfl rfl) (stw.e2_ne rfl (Below.refl _ _))
      · refine fun w8 hc  K hK => ?_
        (try simp only [Act.put, List.setIfInBounds_toArray, List.set_cons_zero, List.set_cons_succ])
        go_simp
        exact hK (.int .i64 k) _ (stw.r2_ne rfl rfl) (stw.e2_ne rfl (Below.refl _ _))
      · refine fun w8 hc v2 h2 K hK => ?_
        obtain rfl : v2 = .int .i64 k := stw.r2_out rfl h2
        (try simp only [Act.put, List.setIfInBounds_toArray, List.set_cons_zero, List.set_cons_succ])
        have he := HE.out
        have hw := HWE.out
        go_simp
        exact hK (.int .i64 e) _ (stw.r2_ne rfl rfl) (stw.e2_ne rfl (Below.refl _ _))
      · refine fun w8 hc v1 h1 v3 h3 K hK => ?_
        obtain rfl : v1 = .slice A len cap := stw.r2_out rfl h1
        obtain rfl : v3 = .int .i64 e := stw.r2_out rfl h3
        (try simp only [Act.put, List.setIfInBounds_toArray, List.set_cons_zero, List.set_cons_succ])
        go_simp
        (with_reducible refine (at_v (k + 2) e (by have := HE.out; omega) (by have := HLT.out; omega) f2 A len cap _ _ ys _ (HR0.out.below hc.1) HLN.out HAf2.out).mono ?_)
        rintro e9 w3 ⟨rfl, rfl⟩
        exact hK _ _ (stw.r2_ne rfl rfl) (stw.e2_ne rfl (Below.refl _ _))
      · refine fun w8 hc v0 h0 v4 h4 K hK => ?_
        obtain rfl : v0 = .agg #[.int .i64 a1, .int .i64 b1, .int .i64 c1, .int .i64 d1, .int .i64 x1, .int .i64 t1, .int .i64 j1, .int .i64 r1, .int .i64 n1] := stw.r2_out rfl h0
        obtain rfl : v4 = .int .i64 f2 := stw.r2_out rfl h4
        (try simp only [Act.put, List.setIfInBounds_toArray, List.set_cons_zero, List.set_cons_succ])
        go_simp
        (with_reducible refine (implFl a1 b1 c1 d1 x1 t1 j1 r1 n1 f2 WS2.out _).mono ?_)
        rintro e9 w3 hp
        obtain ⟨rfl, hb⟩ := f_parts HF.out HAG.out hp
        exact hK _ _ (stw.r2_ne rfl rfl) (stw.e2_ne rfl hb)
      · refine fun w8 hc v5 h5 K hK => ?_
        obtain rfl : v5 = .tuple #[.agg #[.int .i64 a1, .int .i64 b1, .int .i64 c1, .int .i64 d1, .int .i64 y, .int .i64 u, .int .i64 0, .int .i64 g, .int .i64 m], .bool true] := stw.r2_out rfl h5
        (try simp only [Act.put, List.setIfInBounds_toArray, List.set_cons_zero, List.set_cons_succ])
        go_simp
        exact hK (.tuple #[.agg #[.int .i64 a1, .int .i64 b1, .int .i64 c1, .int .i64 d1, .int .i64 y, .int .i64 u, .int .i64 0, .int .i64 g, .int .i64 m], .bool true]) _ (stw.r2_ne rfl rfl) (stw.e2_ne rfl (Below.refl _ _))
      · refine fun w8 hc v6 h6 K hK => ?_
        obtain rfl : v6 = .tuple #[.agg #[.int .i64 a1, .int .i64 b1, .int .i64 c1, .int .i64 d1, .int .i64 y, .int .i64 u, .int .i64 0, .int .i64 g, .int .i64 m], .bool true] := stw.r2_out rfl h6
        (try simp only [Act.put, List.setIfInBounds_toArray, List.set_cons_zero, List.set_cons_succ])
        go_simp
        exact hK (.agg #[.int .i64 a1, .int .i64 b1, .int .i64 c1, .int .i64 d1, .int .i64 y, .int .i64 u, .int .i64 0, .int .i64 g, .int .i64 m]) _ (stw.r2_ne rfl rfl) (stw.e2_ne rfl (Below.refl _ _))
      · refine fun w8 hc v6 h6 K hK => ?_
        obtain rfl : v6 = .tuple #[.agg #[.int .i64 a1, .int .i64 b1, .int .i64 c1, .int .i64 d1, .int .i64 y, .int .i64 u, .int .i64 0, .int .i64 g, .int .i64 m], .bool true] := stw.r2_out rfl h6
        (try simp only [Act.put, List.setIfInBounds_toArray, List.set_cons_zero, List.set_cons_succ])
        go_simp
        exact hK (.bool true) _ (stw.r2_ne rfl rfl) (stw.e2_ne rfl (Below.refl _ _))
      · refine fun w8 hc  K hK => ?_
        (try simp only [Act.put, List.setIfInBounds_toArray, List.set_cons_zero, List.set_cons_succ])
        have hlt := hc.2.lt
        go_simp
        exact hK (.pointer (some ⟨w8.heap.size, 0, none⟩)) _ (stw.r2_ne rfl ⟨_, _, rfl, hlt, rfl, Bx.made _ _ _⟩) (stw.e2_ne rfl (below_box _ _))
      · refine fun w8 hc v9 h9 v7 h7 K hK => ?_
        obtain ⟨N, cN, rfl, hN, hcN, hXN⟩ := stw.r2_out rfl h9
        obtain rfl : v7 = .agg #[.int .i64 a1, .int .i64 b1, .int .i64 c1, .int .i64 d1, .int .i64 y, .int .i64 u, .int .i64 0, .int .i64 g, .int .i64 m] := stw.r2_out rfl h7
        (try simp only [Act.put, List.setIfInBounds_toArray, List.set_cons_zero, List.set_cons_succ])
        refine step_store rfl 28 _ _ rfl N #[.int .i64 a1, .int .i64 b1, .int .i64 c1, .int .i64 d1, .int .i64 y, .int .i64 u, .int .i64 0, .int .i64 g, .int .i64 m] rfl rfl 28 _ hXN (by rw [hcN]; rfl) szB (one9 _ _ _ _ _ _ _ _ _) ?_
        intro wz hz
        exact hK undef _ (stw.r2_own ⟨N, _, rfl, hN, rfl, hz.box⟩) (stw.e2_own ⟨N, _, hN, rfl, hz⟩)
      · refine fun w8 hc v8 h8 K hK => ?_
        obtain rfl : v8 = .bool true := stw.r2_out rfl h8
        (try simp only [Act.put, List.setIfInBounds_toArray, List.set_cons_zero, List.set_cons_succ])
        go_simp
        exact hK (.bool true) _ (stw.r2_ne rfl rfl) (stw.e2_ne rfl (Below.refl _ _))
      refine fun w9 hc v0 h0 v1 h1 v2 h2 v3 h3 v4 h4 v5 h5 v6 h6 v7 h7 v8 h8 v9 h9 v11 h11 => ?_
      obtain rfl : v0 = .agg #[.int .i64 a1, .int .i64 b1, .int .i64 c1, .int .i64 d1, .int .i64 x1, .int .i64 t1, .int .i64 j1, .int .i64 r1, .int .i64 n1] := stw.r2_out rfl h0
      obtain rfl : v1 = .slice A len cap := stw.r2_out rfl h1
      obtain rfl : v2 = .int .i64 k := stw.r2_out rfl h2
      obtain rfl : v3 = .int .i64 e := stw.r2_out rfl h3
      obtain rfl : v4 = .int .i64 f2 := stw.r2_out rfl h4
      obtain rfl : v5 = .tuple #[.agg #[.int .i64 a1, .int .i64 b1, .int .i64 c1, .int .i64 d1, .int .i64 y, .int .i64 u, .int .i64 0, .int .i64 g, .int .i64 m], .bool true] := stw.r2_out rfl h5
      obtain rfl : v6 = .tuple #[.agg #[.int .i64 a1, .int .i64 b1, .int .i64 c1, .int .i64 d1, .int .i64 y, .int .i64 u, .int .i64 0, .int .i64 g, .int .i64 m], .bool true] := stw.r2_out rfl h6
      obtain rfl : v7 = .agg #[.int .i64 a1, .int .i64 b1, .int .i64 c1, .int .i64 d1, .int .i64 y, .int .i64 u, .int .i64 0, .int .i64 g, .int .i64 m] := stw.r2_out rfl h7
      obtain rfl : v8 = .bool true := stw.r2_out rfl h8
      clear h9
      obtain rfl : v11 = .bool true := stw.r2_out rfl h11
      (try simp only [reg.Obs])
      intro hrf
      simp only [Act.put, List.setIfInBounds_toArray, List.set_cons_zero, List.set_cons_succ] at hrf ⊢
      have ho := stw.r2_got (hrf (10, 6) (by simp) rfl)
      clear hrf
      have ho : stw.Own2 28 p (fun cs => cs = #[.int .i64 a1, .int .i64 b1, .int .i64 c1, .int .i64 d1, .int .i64 y, .int .i64 u, .int .i64 0, .int .i64 g, .int .i64 m]) v9 w9 := ho
      obtain ⟨N, cN, rfl, hN, hcN, hXN⟩ := ho
      have B21 := Lib.hid hc.1
      have X21 := Lib.hid hc.2
      subst hcN
      have N21 := Lib.hid hXN
      have LN := Lib.hid hN
      clear hc hXN hN B20 X20
      go_wp2_with fail
      refine reg.region_plain reg.Bel 131 [some [], some [(0, 37)], some [(1, 38)], some [(2, 39)], some [(3, 40), (2, 39)], some [(2, 39)], some [(5, 42), (2, 39)], some [(4, 41), (6, 43), (2, 39)], some [(2, 39), (7, 44)], some [(8, 45)], some [(9, 46)], some [(10, 47), (9, 46)], some [(9, 46)], some [(12, 49), (9, 46)], some [(9, 46)], some [(14, 51), (9, 46)], some [(13, 50), (15, 52), (9, 46)], some [(11, 48), (16, 53), (9, 46)], some [(9, 46), (17, 54)], some [(18, 55)], some [(19, 56)], some [(20, 57), (19, 56)], some [(19, 56)], some [(22, 59), (19, 56)], some [(21, 58), (23, 60), (19, 56)], some [(19, 56), (24, 61)], some [(25, 62)], some [(26, 63)], some [(27, 64), (26, 63)], some [(28, 65), (26, 63)], some [(26, 63), (29, 66)], some [(30, 67)], some [(31, 68)], some [(32, 69), (31, 68)], some [(33, 70), (31, 68)], some [(31, 68), (34, 71)]] [(0, 37), (1, 38), (2, 39), (3, 40), (4, 41), (5, 42), (6, 43), (7, 44), (8, 45), (9, 46), (10, 47), (11, 48), (12, 49), (13, 50), (14, 51), (15, 52), (16, 53), (17, 54), (18, 55), (19, 56), (20, 57), (21, 58), (22, 59), (23, 60), (24, 61), (25, 62), (26, 63), (27, 64), (28, 65), (29, 66), (30, 67), (31, 68), (32, 69), (33, 70), (34, 71), (35, 72)]
        (fun w' => Below w.heap.size w w' ∧ Bx 28 w' (p) #[.int .i64 a1, .int .i64 b1, .int .i64 c1, .int .i64 d1, .int .i64 x1, .int .i64 t1, .int .i64 j1, .int .i64 r1, .int .i64 n1] ∧ Bx 28 w' (N) #[.int .i64 a1, .int .i64 b1, .int .i64 c1, .int .i64 d1, .int .i64 y, .int .i64 u, .int .i64 0, .int .i64 g, .int .i64 m])
        (reg.rl [reg.is (.bool true), reg.is (.bool false), reg.is (.bool false), reg.is (.pointer (some ⟨N, 7, none⟩)), reg.is (.int .i64 g), reg.is (.int .i64 k), reg.is (.int .i64 g), reg.is (.bool false), reg.is (.bool false), reg.is (.bool false), reg.is (.pointer (some ⟨N, 4, none⟩)), reg.is (.int .i64 y), reg.is (.pointer (some ⟨p, 0, none⟩)), reg.is (.agg #[.int .i64 a1, .int .i64 b1, .int .i64 c1, .int .i64 d1]), reg.is (.pointer (some ⟨p, 4, none⟩)), reg.is (.int .i64 x1), reg.is (.int .i64 y), reg.is (.bool false), reg.is (.bool false), reg.is (.bool false), reg.is (.pointer (some ⟨N, 5, none⟩)), reg.is (.int .i64 u), reg.is (.pointer (some ⟨N, 4, none⟩)), reg.is (.int .i64 y), reg.is (.bool false), reg.is (.bool false), reg.is (.bool false), reg.is (.pointer (some ⟨N, 6, none⟩)), reg.is (.int .i64 0), reg.is (.bool false), reg.is (.bool false), reg.is (.bool false), reg.is (.agg #[.int .i64 a1, .int .i64 b1, .int .i64 c1, .int .i64 d1, .int .i64 y, .int .i64 u, .int .i64 0, .int .i64 g, .int .i64 m]), reg.is (.bool true), reg.is (.bool false), reg.is (.bool false)])
        (by kernel_rfl) (by kernel_rfl) rfl
        (fun w1 w2 hc hb => ⟨hc.1.trans (hb.mono hc.1.size), hc.2.1.below hb, hc.2.2.below hb⟩) (reg.rl_keep _) (⟨own.below_drew B21.out, X21.out.same rfl, N21.out.same rfl⟩) (by kernel_rfl) ⟨?_, ?_, ?_, ?_, ?_, ?_, ?_, ?_, ?_, ?_, ?_, ?_, ?_, ?_, ?_, ?_, ?_, ?_, ?_, ?_, ?_, ?_, ?_, ?_, ?_, ?_, ?_, ?_, ?_, ?_, ?_, ?_, ?_, ?_, ?_, ?_, trivial⟩ ?_
      · refine fun w8 hc  K hK => ?_
        (try simp only [Act.put, List.setIfInBounds_toArray, List.set_cons_zero, List.set_cons_succ])
        go_simp
        exact hK (.bool true) _ rfl (Below.refl _ _)
      · refine fun w8 hc v0 h0 K hK => ?_
        obtain rfl : v0 = .bool true := h0
        (try simp only [Act.put, List.setIfInBounds_toArray, List.set_cons_zero, List.set_cons_succ])
        go_simp
        exact hK (.bool false) _ rfl (Below.refl _ _)
      · refine fun w8 hc v1 h1 K hK => ?_
        obtain rfl : v1 = .bool false := h1
        (try simp only [Act.put, List.setIfInBounds_toArray, List.set_cons_zero, List.set_cons_succ])
        go_simp
        exact hK (.bool false) _ rfl (Below.refl _ _)
      · refine fun w8 hc v2 h2 K hK => ?_
        obtain rfl : v2 = .bool false := h2
        (try simp only [Act.put, List.setIfInBounds_toArray, List.set_cons_zero, List.set_cons_succ])
        rw [if_pos (by rfl)]
        go_simp
        exact hK (.pointer (some ⟨N, 7, none⟩)) _ rfl (Below.refl _ _)
      · refine fun w8 hc v3 h3 v2 h2 K hK => ?_
        obtain rfl : v3 = .pointer (some ⟨N, 7, none⟩) := h3
        obtain rfl : v2 = .bool false := h2
        (try simp only [Act.put, List.setIfInBounds_toArray, List.set_cons_zero, List.set_cons_succ])
        rw [if_pos (by rfl)]
        have c0 : w8.cell? ⟨N, 7, none⟩ = some (.int .i64 g) := hc.2.2.cell 7
        go_simp
        exact hK (.int .i64 g) _ rfl (Below.refl _ _)
      · refine fun w8 hc v2 h2 K hK => ?_
        obtain rfl : v2 = .bool false := h2
        (try simp only [Act.put, List.setIfInBounds_toArray, List.set_cons_zero, List.set_cons_succ])
        rw [if_pos (by rfl)]
        go_simp
        exact hK (.int .i64 k) _ rfl (Below.refl _ _)
      · refine fun w8 hc v5 h5 v2 h2 K hK => ?_
        obtain rfl : v5 = .int .i64 k := h5
        obtain rfl : v2 = .bool false := h2
        (try simp only [Act.put, List.setIfInBounds_toArray, List.set_cons_zero, List.set_cons_succ])
        rw [if_pos (by rfl)]
        have hg := HG.out
        have hw := HWG.out
        go_simp
        exact hK (.int .i64 g) _ rfl (Below.refl _ _)
      · refine fun w8 hc v4 h4 v6 h6 v2 h2 K hK => ?_
        obtain rfl : v4 = .int .i64 g := h4
        obtain rfl : v6 = .int .i64 g := h6
        obtain rfl : v2 = .bool false := h2
        (try simp only [Act.put, List.setIfInBounds_toArray, List.set_cons_zero, List.set_cons_succ])
        rw [if_pos (by rfl)]
        go_simp
        exact hK (.bool false) _ rfl (Below.refl _ _)
      · refine fun w8 hc v2 h2 v7 h7 K hK => ?_
        obtain rfl : v2 = .bool false := h2
        obtain rfl : v7 = .bool false := h7
        (try simp only [Act.put, List.setIfInBounds_toArray, List.set_cons_zero, List.set_cons_succ])
        go_simp
        exact hK (.bool false) _ rfl (Below.refl _ _)
      · refine fun w8 hc v8 h8 K hK => ?_
        obtain rfl : v8 = .bool false := h8
        (try simp only [Act.put, List.setIfInBounds_toArray, List.set_cons_zero, List.set_cons_succ])
        go_simp
        exact hK (.bool false) _ rfl (Below.refl _ _)
      · refine fun w8 hc v9 h9 K hK => ?_
        obtain rfl : v9 = .bool false := h9
        (try simp only [Act.put, List.setIfInBounds_toArray, List.set_cons_zero, List.set_cons_succ])
        rw [if_pos (by rfl)]
        go_simp
        exact hK (.pointer (some ⟨N, 4, none⟩)) _ rfl (Below.refl _ _)
      · refine fun w8 hc v10 h10 v9 h9 K hK => ?_
        obtain rfl : v10 = .pointer (some ⟨N, 4, none⟩) := h10
        obtain rfl : v9 = .bool false := h9
        (try simp only [Act.put, List.setIfInBounds_toArray, List.set_cons_zero, List.set_cons_succ])
        rw [if_pos (by rfl)]
        have c0 : w8.cell? ⟨N, 4, none⟩ = some (.int .i64 y) := hc.2.2.cell 4
        go_simp
        exact hK (.int .i64 y) _ rfl (Below.refl _ _)
      · refine fun w8 hc v9 h9 K hK => ?_
        obtain rfl : v9 = .bool false := h9
        (try simp only [Act.put, List.setIfInBounds_toArray, List.set_cons_zero, List.set_cons_succ])
        rw [if_pos (by rfl)]
        go_simp
        exact hK (.pointer (some ⟨p, 0, none⟩)) _ rfl (Below.refl _ _)
      · refine fun w8 hc v12 h12 v9 h9 K hK => ?_
        obtain rfl : v12 = .pointer (some ⟨p, 0, none⟩) := h12
        obtain rfl : v9 = .bool false := h9
        (try simp only [Act.put, List.setIfInBounds_toArray, List.set_cons_zero, List.set_cons_succ])
        rw [if_pos (by rfl)]
        refine wp_load_mid 26 _ rfl (p) 0 rfl [.int .i64 a1, .int .i64 b1, .int .i64 c1, .int .i64 d1] _ (range_part hc.2.1 0 _ rfl) Tryd.underlying26 rfl szP ?_
        exact hK _ _ rfl (Below.refl _ _)
      · refine fun w8 hc v9 h9 K hK => ?_
        obtain rfl : v9 = .bool false := h9
        (try simp only [Act.put, List.setIfInBounds_toArray, List.set_cons_zero, List.set_cons_succ])
        rw [if_pos (by rfl)]
        go_simp
        exact hK (.pointer (some ⟨p, 4, none⟩)) _ rfl (Below.refl _ _)
      · refine fun w8 hc v14 h14 v9 h9 K hK => ?_
        obtain rfl : v14 = .pointer (some ⟨p, 4, none⟩) := h14
        obtain rfl : v9 = .bool false := h9
        (try simp only [Act.put, List.setIfInBounds_toArray, List.set_cons_zero, List.set_cons_succ])
        rw [if_pos (by rfl)]
        have c0 : w8.cell? ⟨p, 4, none⟩ = some (.int .i64 x1) := hc.2.1.cell 4
        go_simp
        exact hK (.int .i64 x1) _ rfl (Below.refl _ _)
      · refine fun w8 hc v13 h13 v15 h15 v9 h9 K hK => ?_
        obtain rfl : v13 = .agg #[.int .i64 a1, .int .i64 b1, .int .i64 c1, .int .i64 d1] := h13
        obtain rfl : v15 = .int .i64 x1 := h15
        obtain rfl : v9 = .bool false := h9
        (try simp only [Act.put, List.setIfInBounds_toArray, List.set_cons_zero, List.set_cons_succ])
        rw [if_pos (by rfl)]
        go_simp
        (with_reducible refine (implNw a1 b1 c1 d1 x1 _).mono ?_)
        rintro e w3 hp
        obtain ⟨rfl, hb⟩ := n_parts HY.out hp
        exact hK _ _ rfl hb
      · refine fun w8 hc v11 h11 v16 h16 v9 h9 K hK => ?_
        obtain rfl : v11 = .int .i64 y := h11
        obtain rfl : v16 = .int .i64 y := h16
        obtain rfl : v9 = .bool false := h9
        (try simp only [Act.put, List.setIfInBounds_toArray, List.set_cons_zero, List.set_cons_succ])
        rw [if_pos (by rfl)]
        go_simp
        exact hK (.bool false) _ rfl (Below.refl _ _)
      · refine fun w8 hc v9 h9 v17 h17 K hK => ?_
        obtain rfl : v9 = .bool false := h9
        obtain rfl : v17 = .bool false := h17
        (try simp only [Act.put, List.setIfInBounds_toArray, List.set_cons_zero, List.set_cons_succ])
        go_simp
        exact hK (.bool false) _ rfl (Below.refl _ _)
      · refine fun w8 hc v18 h18 K hK => ?_
        obtain rfl : v18 = .bool false := h18
        (try simp only [Act.put, List.setIfInBounds_toArray, List.set_cons_zero, List.set_cons_succ])
        go_simp
        exact hK (.bool false) _ rfl (Below.refl _ _)
      · refine fun w8 hc v19 h19 K hK => ?_
        obtain rfl : v19 = .bool false := h19
        (try simp only [Act.put, List.setIfInBounds_toArray, List.set_cons_zero, List.set_cons_succ])
        rw [if_pos (by rfl)]
        go_simp
        exact hK (.pointer (some ⟨N, 5, none⟩)) _ rfl (Below.refl _ _)
      · refine fun w8 hc v20 h20 v19 h19 K hK => ?_
        obtain rfl : v20 = .pointer (some ⟨N, 5, none⟩) := h20
        obtain rfl : v19 = .bool false := h19
        (try simp only [Act.put, List.setIfInBounds_toArray, List.set_cons_zero, List.set_cons_succ])
        rw [if_pos (by rfl)]
        have c0 : w8.cell? ⟨N, 5, none⟩ = some (.int .i64 u) := hc.2.2.cell 5
        go_simp
        exact hK (.int .i64 u) _ rfl (Below.refl _ _)
      · refine fun w8 hc v19 h19 K hK => ?_
        obtain rfl : v19 = .bool false := h19
        (try simp only [Act.put, List.setIfInBounds_toArray, List.set_cons_zero, List.set_cons_succ])
        rw [if_pos (by rfl)]
        go_simp
        exact hK (.pointer (some ⟨N, 4, none⟩)) _ rfl (Below.refl _ _)
      · refine fun w8 hc v22 h22 v19 h19 K hK => ?_
        obtain rfl : v22 = .pointer (some ⟨N, 4, none⟩) := h22
        obtain rfl : v19 = .bool false := h19
        (try simp only [Act.put, List.setIfInBounds_toArray, List.set_cons_zero, List.set_cons_succ])
        rw [if_pos (by rfl)]
        have c0 : w8.cell? ⟨N, 4, none⟩ = some (.int .i64 y) := hc.2.2.cell 4
        go_simp
        exact hK (.int .i64 y) _ rfl (Below.refl _ _)
      · refine fun w8 hc v21 h21 v23 h23 v19 h19 K hK => ?_
        obtain rfl : v21 = .int .i64 u := h21
        obtain rfl : v23 = .int .i64 y := h23
        obtain rfl : v19 = .bool false := h19
        (try simp only [Act.put, List.setIfInBounds_toArray, List.set_cons_zero, List.set_cons_succ])
        rw [if_pos (by rfl)]
        have huy : ¬ u > y := by have := HUY.out; omega
        go_simp
        exact hK (.bool false) _ rfl (Below.refl _ _)
      · refine fun w8 hc v19 h19 v24 h24 K hK => ?_
        obtain rfl : v19 = .bool false := h19
        obtain rfl : v24 = .bool false := h24
        (try simp only [Act.put, List.setIfInBounds_toArray, List.set_cons_zero, List.set_cons_succ])
        go_simp
        exact hK (.bool false) _ rfl (Below.refl _ _)
      · refine fun w8 hc v25 h25 K hK => ?_
        obtain rfl : v25 = .bool false := h25
        (try simp only [Act.put, List.setIfInBounds_toArray, List.set_cons_zero, List.set_cons_succ])
        go_simp
        exact hK (.bool false) _ rfl (Below.refl _ _)
      · refine fun w8 hc v26 h26 K hK => ?_
        obtain rfl : v26 = .bool false := h26
        (try simp only [Act.put, List.setIfInBounds_toArray, List.set_cons_zero, List.set_cons_succ])
        rw [if_pos (by rfl)]
        go_simp
        exact hK (.pointer (some ⟨N, 6, none⟩)) _ rfl (Below.refl _ _)
      · refine fun w8 hc v27 h27 v26 h26 K hK => ?_
        obtain rfl : v27 = .pointer (some ⟨N, 6, none⟩) := h27
        obtain rfl : v26 = .bool false := h26
        (try simp only [Act.put, List.setIfInBounds_toArray, List.set_cons_zero, List.set_cons_succ])
        rw [if_pos (by rfl)]
        have c0 : w8.cell? ⟨N, 6, none⟩ = some (.int .i64 0) := hc.2.2.cell 6
        go_simp
        exact hK (.int .i64 0) _ rfl (Below.refl _ _)
      · refine fun w8 hc v28 h28 v26 h26 K hK => ?_
        obtain rfl : v28 = .int .i64 0 := h28
        obtain rfl : v26 = .bool false := h26
        (try simp only [Act.put, List.setIfInBounds_toArray, List.set_cons_zero, List.set_cons_succ])
        rw [if_pos (by rfl)]
        go_simp
        exact hK (.bool false) _ rfl (Below.refl _ _)
      · refine fun w8 hc v26 h26 v29 h29 K hK => ?_
        obtain rfl : v26 = .bool false := h26
        obtain rfl : v29 = .bool false := h29
        (try simp only [Act.put, List.setIfInBounds_toArray, List.set_cons_zero, List.set_cons_succ])
        go_simp
        exact hK (.bool false) _ rfl (Below.refl _ _)
      · refine fun w8 hc v30 h30 K hK => ?_
        obtain rfl : v30 = .bool false := h30
        (try simp only [Act.put, List.setIfInBounds_toArray, List.set_cons_zero, List.set_cons_succ])
        go_simp
        exact hK (.bool false) _ rfl (Below.refl _ _)
      · refine fun w8 hc v31 h31 K hK => ?_
        obtain rfl : v31 = .bool false := h31
        (try simp only [Act.put, List.setIfInBounds_toArray, List.set_cons_zero, List.set_cons_succ])
        rw [if_pos (by rfl)]
        refine wp_load_bx 28 _ rfl (N) rfl 28 _ hc.2.2 Tryd.underlying28 rfl szB ?_
        exact hK _ _ rfl (Below.refl _ _)
      · refine fun w8 hc v32 h32 v31 h31 K hK => ?_
        obtain rfl : v32 = .agg #[.int .i64 a1, .int .i64 b1, .int .i64 c1, .int .i64 d1, .int .i64 y, .int .i64 u, .int .i64 0, .int .i64 g, .int .i64 m] := h32
        obtain rfl : v31 = .bool false := h31
        (try simp only [Act.put, List.setIfInBounds_toArray, List.set_cons_zero, List.set_cons_succ])
        rw [if_pos (by rfl)]
        go_simp
        (with_reducible refine (implVb a1 b1 c1 d1 y u 0 g m _).mono ?_)
        rintro e w3 hp
        obtain ⟨rfl, hb⟩ := b_parts (vb_iff.2 V2.out) hp
        exact hK _ _ rfl hb
      · refine fun w8 hc v33 h33 v31 h31 K hK => ?_
        obtain rfl : v33 = .bool true := h33
        obtain rfl : v31 = .bool false := h31
        (try simp only [Act.put, List.setIfInBounds_toArray, List.set_cons_zero, List.set_cons_succ])
        rw [if_pos (by rfl)]
        go_simp
        exact hK (.bool false) _ rfl (Below.refl _ _)
      · refine fun w8 hc v31 h31 v34 h34 K hK => ?_
        obtain rfl : v31 = .bool false := h31
        obtain rfl : v34 = .bool false := h34
        (try simp only [Act.put, List.setIfInBounds_toArray, List.set_cons_zero, List.set_cons_succ])
        go_simp
        exact hK (.bool false) _ rfl (Below.refl _ _)
      refine fun w9 hc v0 h0 v1 h1 v2 h2 v3 h3 v4 h4 v5 h5 v6 h6 v7 h7 v8 h8 v9 h9 v10 h10 v11 h11 v12 h12 v13 h13 v14 h14 v15 h15 v16 h16 v17 h17 v18 h18 v19 h19 v20 h20 v21 h21 v22 h22 v23 h23 v24 h24 v25 h25 v26 h26 v27 h27 v28 h28 v29 h29 v30 h30 v31 h31 v32 h32 v33 h33 v34 h34 v35 h35 => ?_
      obtain rfl : v0 = .bool true := h0
      obtain rfl : v1 = .bool false := h1
      obtain rfl : v2 = .bool false := h2
      obtain rfl : v3 = .pointer (some ⟨N, 7, none⟩) := h3
      obtain rfl : v4 = .int .i64 g := h4
      obtain rfl : v5 = .int .i64 k := h5
      obtain rfl : v6 = .int .i64 g := h6
      obtain rfl : v7 = .bool false := h7
      obtain rfl : v8 = .bool false := h8
      obtain rfl : v9 = .bool false := h9
      obtain rfl : v10 = .pointer (some ⟨N, 4, none⟩) := h10
      obtain rfl : v11 = .int .i64 y := h11
      obtain rfl : v12 = .pointer (some ⟨p, 0, none⟩) := h12
      obtain rfl : v13 = .agg #[.int .i64 a1, .int .i64 b1, .int .i64 c1, .int .i64 d1] := h13
      obtain rfl : v14 = .pointer (some ⟨p, 4, none⟩) := h14
      obtain rfl : v15 = .int .i64 x1 := h15
      obtain rfl : v16 = .int .i64 y := h16
      obtain rfl : v17 = .bool false := h17
      obtain rfl : v18 = .bool false := h18
      obtain rfl : v19 = .bool false := h19
      obtain rfl : v20 = .pointer (some ⟨N, 5, none⟩) := h20
      obtain rfl : v21 = .int .i64 u := h21
      obtain rfl : v22 = .pointer (some ⟨N, 4, none⟩) := h22
      obtain rfl : v23 = .int .i64 y := h23
      obtain rfl : v24 = .bool false := h24
      obtain rfl : v25 = .bool false := h25
      obtain rfl : v26 = .bool false := h26
      obtain rfl : v27 = .pointer (some ⟨N, 6, none⟩) := h27
      obtain rfl : v28 = .int .i64 0 := h28
      obtain rfl : v29 = .bool false := h29
      obtain rfl : v30 = .bool false := h30
      obtain rfl : v31 = .bool false := h31
      obtain rfl : v32 = .agg #[.int .i64 a1, .int .i64 b1, .int .i64 c1, .int .i64 d1, .int .i64 y, .int .i64 u, .int .i64 0, .int .i64 g, .int .i64 m] := h32
      obtain rfl : v33 = .bool true := h33
      obtain rfl : v34 = .bool false := h34
      obtain rfl : v35 = .bool false := h35
      (try simp only [reg.Obs])
      (try simp only [Act.put, List.setIfInBounds_toArray, List.set_cons_zero, List.set_cons_succ])
      have B22 := Lib.hid hc.1
      have X22 := Lib.hid hc.2.1
      have N22 := Lib.hid hc.2.2
      clear hc B21 X21 N21
      have hg := HG.out
      have hw := HWG.out
      go_wp2_with (first
        | (refine list_load rfl 28 _ rfl N rfl 28 _ N22.out Tryd.underlying28 rfl szB ?_)
        | (refine list_store rfl 28 _ _ rfl p #[.int .i64 a1, .int .i64 b1, .int .i64 c1, .int .i64 d1, .int .i64 y, .int .i64 u, .int .i64 0, .int .i64 g, .int .i64 m] rfl rfl 28 _ X22.out rfl szB (one9 _ _ _ _ _ _ _ _ _) ?_; intro wz hz))
      go_roundw
      case rel => exact ⟨k + 1, ⟨a1, b1, c1, d1, y, u, 0, g, m⟩, by go_num, by have := HLT.out; omega, V2.out, by show g = _; have := HG.out; omega, hz.on B22.out (by have h1 := LX.out; omega), hz.box⟩
      case measure => have := HLT.out; simp [intOf]; omega
    · obtain rfl : k = 7 := by omega
      have hr7 : r1 = 7 := HRK.out
      clear HRK hk hlt
      obtain ⟨u, hu⟩ : ∃ u, wt f1 n1 b1 = u := ⟨_, rfl⟩
      obtain ⟨m, hm⟩ : ∃ m, mn (n1 + 1) 1000000000000 = m := ⟨_, rfl⟩
      have HF := Lib.hid (show fai ⟨a1, b1, c1, d1, x1, t1, j1, r1, n1⟩ f1 = ⟨a1, b1, c1, d1, b1, u, 0, 0, m⟩ from fai_end V1.out hr7 hu hm)
      have HSC := Lib.hid (show suc ⟨a1, b1, c1, d1, x1, t1, j1, r1, n1⟩ f1 = ⟨a1, b1, c1, d1, b1, u, 0, 0, m⟩ from suc_is V1.out hu hm)
      have HAG := Lib.hid (show aga ⟨a1, b1, c1, d1, x1, t1, j1, r1, n1⟩ = false from aga_end hr7)
      have V3 := Lib.hid (show Vb ⟨a1, b1, c1, d1, b1, u, 0, 0, m⟩ by rw [← HF.out]; exact fai_vb V1.out f1)
      have HLT := Lib.hid (show 0 < 1 by omega)
      clear hr7 hu hm
      go_wp2_with fail
      refine reg.region_free (stw.E2 28 p 9 8) 131 [(8, 8)] [some [], some [], some [(1, 76)], some [(0, 75), (2, 77)], some [(3, 78)], some [(4, 74)], some [(4, 74)], some [], some [(7, 8), (5, 79)], some [(6, 80)]] [(0, 75), (1, 76), (2, 77), (3, 78), (4, 74), (5, 79), (6, 80), (7, 8), (9, 9)]
        (fun w' => Below w.heap.size w w' ∧ Bx 28 w' p #[.int .i64 a1, .int .i64 b1, .int .i64 c1, .int .i64 d1, .int .i64 x1, .int .i64 t1, .int .i64 j1, .int .i64 r1, .int .i64 n1])
        (stw.r2 8 [stw.is2 (.agg #[.int .i64 a1, .int .i64 b1, .int .i64 c1, .int .i64 d1, .int .i64 x1, .int .i64 t1, .int .i64 j1, .int .i64 r1, .int .i64 n1]), stw.is2 (.slice A len cap), stw.is2 (.int .i64 f1), stw.is2 (.tuple #[.agg #[.int .i64 a1, .int .i64 b1, .int .i64 c1, .int .i64 d1, .int .i64 b1, .int .i64 u, .int .i64 0, .int .i64 0, .int .i64 m], .bool false]), stw.is2 (.tuple #[.agg #[.int .i64 a1, .int .i64 b1, .int .i64 c1, .int .i64 d1, .int .i64 b1, .int .i64 u, .int .i64 0, .int .i64 0, .int .i64 m], .bool false]), stw.is2 (.agg #[.int .i64 a1, .int .i64 b1, .int .i64 c1, .int .i64 d1, .int .i64 b1, .int .i64 u, .int .i64 0, .int .i64 0, .int .i64 m]), stw.is2 (.bool false), stw.mk2, stw.val2 fun _ => True, stw.is2 (.bool false)] (fun cs => cs = #[.int .i64 a1, .int .i64 b1, .int .i64 c1, .int .i64 d1, .int .i64 b1, .int .i64 u, .int .i64 0, .int .i64 0, .int .i64 m]))
        (by kernel_rfl) (by kernel_rfl) rfl
        (fun i w1 w2 hc hb => hb.cases (fun hb => ⟨hb.on hc.1 (by have h1 := LX.out; omega), hb.keep hc.2 (Nat.le_refl _)⟩) (fun hb => ⟨hc.1.trans (hb.mono hc.1.size), hc.2.below hb⟩)) (stw.r2_keep 8 _ _) (⟨own.below_drew B20.out, X20.out.same rfl⟩) (by kernel_rfl) ⟨?_, ?_, ?_, ?_, ?_, ?_, ?_, ?_, ?_, ?_, trivial⟩ ?_
      · refine fun w8 hc  K hK => ?_
        (try simp only [Act.put, List.setIfInBounds_toArray, List.set_cons_zero, List.set_cons_succ])
        refine step_load rfl 28 _ rfl p rfl 28 _ hc.2 Tryd.underlying28 rfl szB ?_
        exact hK _ _ (stw.r2_ne rfl rfl) (stw.e2_ne rfl (Below.refl _ _))
      · refine fun w8 hc  K hK => ?_
        (try simp only [Act.put, List.setIfInBounds_toArray, List.set_cons_zero, List.set_cons_succ])
        go_simp
        exact hK (.slice A len cap) _ (stw.r2_ne rfl rfl) (stw.e2_ne rfl (Below.refl _ _))
      · refine fun w8 hc v1 h1 K hK => ?_
        obtain rfl : v1 = .slice A len cap := stw.r2_out rfl h1
        (try simp only [Act.put, List.setIfInBounds_toArray, List.set_cons_zero, List.set_cons_succ])
        go_simp
        (with_reducible refine (at_v 1 1 rfl (by have := HLT.out; omega) f1 A len cap _ _ ys _ (HR0.out.below hc.1) HLN.out HAf1.out).mono ?_)
        rintro e9 w3 ⟨rfl, rfl⟩
        exact hK _ _ (stw.r2_ne rfl rfl) (stw.e2_ne rfl (Below.refl _ _))
      · refine fun w8 hc v0 h0 v2 h2 K hK => ?_
        obtain rfl : v0 = .agg #[.int .i64 a1, .int .i64 b1, .int .i64 c1, .int .i64 d1, .int .i64 x1, .int .i64 t1, .int .i64 j1, .int .i64 r1, .int .i64 n1] := stw.r2_out rfl h0
        obtain rfl : v2 = .int .i64 f1 := stw.r2_out rfl h2
        (try simp only [Act.put, List.setIfInBounds_toArray, List.set_cons_zero, List.set_cons_succ])
        go_simp
        (with_reducible refine (implFl a1 b1 c1 d1 x1 t1 j1 r1 n1 f1 WS.out _).mono ?_)
        rintro e9 w3 hp
        obtain ⟨rfl, hb⟩ := f_parts HF.out HAG.out hp
        exact hK _ _ (stw.r2_ne rfl rfl) (stw.e2_ne rfl hb)
      · refine fun w8 hc v3 h3 K hK => ?_
        obtain rfl : v3 = .tuple #[.agg #[.int .i64 a1, .int .i64 b1, .int .i64 c1, .int .i64 d1, .int .i64 b1, .int .i64 u, .int .i64 0, .int .i64 0, .int .i64 m], .bool false] := stw.r2_out rfl h3
        (try simp only [Act.put, List.setIfInBounds_toArray, List.set_cons_zero, List.set_cons_succ])
        go_simp
        exact hK (.tuple #[.agg #[.int .i64 a1, .int .i64 b1, .int .i64 c1, .int .i64 d1, .int .i64 b1, .int .i64 u, .int .i64 0, .int .i64 0, .int .i64 m], .bool false]) _ (stw.r2_ne rfl rfl) (stw.e2_ne rfl (Below.refl _ _))
      · refine fun w8 hc v4 h4 K hK => ?_
        obtain rfl : v4 = .tuple #[.agg #[.int .i64 a1, .int .i64 b1, .int .i64 c1, .int .i64 d1, .int .i64 b1, .int .i64 u, .int .i64 0, .int .i64 0, .int .i64 m], .bool false] := stw.r2_out rfl h4
        (try simp only [Act.put, List.setIfInBounds_toArray, List.set_cons_zero, List.set_cons_succ])
        go_simp
        exact hK (.agg #[.int .i64 a1, .int .i64 b1, .int .i64 c1, .int .i64 d1, .int .i64 b1, .int .i64 u, .int .i64 0, .int .i64 0, .int .i64 m]) _ (stw.r2_ne rfl rfl) (stw.e2_ne rfl (Below.refl _ _))
      · refine fun w8 hc v4 h4 K hK => ?_
        obtain rfl : v4 = .tuple #[.agg #[.int .i64 a1, .int .i64 b1, .int .i64 c1, .int .i64 d1, .int .i64 b1, .int .i64 u, .int .i64 0, .int .i64 0, .int .i64 m], .bool false] := stw.r2_out rfl h4
        (try simp only [Act.put, List.setIfInBounds_toArray, List.set_cons_zero, List.set_cons_succ])
        go_simp
        exact hK (.bool false) _ (stw.r2_ne rfl rfl) (stw.e2_ne rfl (Below.refl _ _))
      · refine fun w8 hc  K hK => ?_
        (try simp only [Act.put, List.setIfInBounds_toArray, List.set_cons_zero, List.set_cons_succ])
        have hlt := hc.2.lt
        go_simp
        exact hK (.pointer (some ⟨w8.heap.size, 0, none⟩)) _ (stw.r2_ne rfl ⟨_, _, rfl, hlt, rfl, Bx.made _ _ _⟩) (stw.e2_ne rfl (below_box _ _))
      · refine fun w8 hc v7 h7 v5 h5 K hK => ?_
        obtain ⟨N, cN, rfl, hN, hcN, hXN⟩ := stw.r2_out rfl h7
        obtain rfl : v5 = .agg #[.int .i64 a1, .int .i64 b1, .int .i64 c1, .int .i64 d1, .int .i64 b1, .int .i64 u, .int .i64 0, .int .i64 0, .int .i64 m] := stw.r2_out rfl h5
        (try simp only [Act.put, List.setIfInBounds_toArray, List.set_cons_zero, List.set_cons_succ])
        refine step_store rfl 28 _ _ rfl N #[.int .i64 a1, .int .i64 b1, .int .i64 c1, .int .i64 d1, .int .i64 b1, .int .i64 u, .int .i64 0, .int .i64 0, .int .i64 m] rfl rfl 28 _ hXN (by rw [hcN]; rfl) szB (one9 _ _ _ _ _ _ _ _ _) ?_
        intro wz hz
        exact hK undef _ (stw.r2_own ⟨N, _, rfl, hN, rfl, hz.box⟩) (stw.e2_own ⟨N, _, hN, rfl, hz⟩)
      · refine fun w8 hc v6 h6 K hK => ?_
        obtain rfl : v6 = .bool false := stw.r2_out rfl h6
        (try simp only [Act.put, List.setIfInBounds_toArray, List.set_cons_zero, List.set_cons_succ])
        go_simp
        exact hK (.bool false) _ (stw.r2_ne rfl rfl) (stw.e2_ne rfl (Below.refl _ _))
      refine fun w9 hc v0 h0 v1 h1 v2 h2 v3 h3 v4 h4 v5 h5 v6 h6 v7 h7 v9 h9 => ?_
      obtain rfl : v0 = .agg #[.int .i64 a1, .int .i64 b1, .int .i64 c1, .int .i64 d1, .int .i64 x1, .int .i64 t1, .int .i64 j1, .int .i64 r1, .int .i64 n1] := stw.r2_out rfl h0
      obtain rfl : v1 = .slice A len cap := stw.r2_out rfl h1
      obtain rfl : v2 = .int .i64 f1 := stw.r2_out rfl h2
      obtain rfl : v3 = .tuple #[.agg #[.int .i64 a1, .int .i64 b1, .int .i64 c1, .int .i64 d1, .int .i64 b1, .int .i64 u, .int .i64 0, .int .i64 0, .int .i64 m], .bool false] := stw.r2_out rfl h3
      obtain rfl : v4 = .tuple #[.agg #[.int .i64 a1, .int .i64 b1, .int .i64 c1, .int .i64 d1, .int .i64 b1, .int .i64 u, .int .i64 0, .int .i64 0, .int .i64 m], .bool false] := stw.r2_out rfl h4
      obtain rfl : v5 = .agg #[.int .i64 a1, .int .i64 b1, .int .i64 c1, .int .i64 d1, .int .i64 b1, .int .i64 u, .int .i64 0, .int .i64 0, .int .i64 m] := stw.r2_out rfl h5
      obtain rfl : v6 = .bool false := stw.r2_out rfl h6
      clear h7
      obtain rfl : v9 = .bool false := stw.r2_out rfl h9
      (try simp only [reg.Obs])
      intro hrf
      simp only [Act.put, List.setIfInBounds_toArray, List.set_cons_zero, List.set_cons_succ] at hrf ⊢
      have ho := stw.r2_got (hrf (8, 8) (by simp) rfl)
      clear hrf
      have ho : stw.Own2 28 p (fun cs => cs = #[.int .i64 a1, .int .i64 b1, .int .i64 c1, .int .i64 d1, .int .i64 b1, .int .i64 u, .int .i64 0, .int .i64 0, .int .i64 m]) v7 w9 := ho
      obtain ⟨N, cN, rfl, hN, hcN, hXN⟩ := ho
      have B21 := Lib.hid hc.1
      have X21 := Lib.hid hc.2
      subst hcN
      have Y21 := Lib.hid hXN
      have LY := Lib.hid hN
      clear hc hXN hN B20 X20
      go_wp2_with fail
      refine reg.region_tail reg.Bel 5 131 [some [], some [], some [(1, 82)], some [(0, 81), (2, 83)], some [], none] [(0, 81), (1, 82), (2, 83), (3, 84), (4, 10)]
        (fun w' => Below w.heap.size w w' ∧ Bx 28 w' (p) #[.int .i64 a1, .int .i64 b1, .int .i64 c1, .int .i64 d1, .int .i64 x1, .int .i64 t1, .int .i64 j1, .int .i64 r1, .int .i64 n1] ∧ Bx 28 w' (N) #[.int .i64 a1, .int .i64 b1, .int .i64 c1, .int .i64 d1, .int .i64 b1, .int .i64 u, .int .i64 0, .int .i64 0, .int .i64 m])
        (reg.rl [reg.is (.agg #[.int .i64 a1, .int .i64 b1, .int .i64 c1, .int .i64 d1, .int .i64 x1, .int .i64 t1, .int .i64 j1, .int .i64 r1, .int .i64 n1]), reg.is (.slice A len cap), reg.is (.int .i64 f1), reg.is (.agg #[.int .i64 a1, .int .i64 b1, .int .i64 c1, .int .i64 d1, .int .i64 b1, .int .i64 u, .int .i64 0, .int .i64 0, .int .i64 m]), stw.mk 28 N #[.int .i64 0, .int .i64 0, .int .i64 0, .int .i64 0, .int .i64 0, .int .i64 0, .int .i64 0, .int .i64 0, .int .i64 0], reg.free])
        (by kernel_rfl) rfl (by kernel_rfl) (by kernel_rfl) rfl
        (fun w1 w2 hc hb => ⟨hc.1.trans (hb.mono hc.1.size), hc.2.1.below hb, hc.2.2.below hb⟩) (reg.rl_keep _) (⟨own.below_drew B21.out, X21.out.same rfl, Y21.out.same rfl⟩) (by kernel_rfl) ⟨?_, ?_, ?_, ?_, ?_, trivial⟩ ?_
      · refine fun w8 hc  K hK => ?_
        (try simp only [Act.put, List.setIfInBounds_toArray, List.set_cons_zero, List.set_cons_succ])
        refine step_load rfl 28 _ rfl (p) rfl 28 _ hc.2.1 Tryd.underlying28 rfl szB ?_
        exact hK _ _ rfl (Below.refl _ _)
      · refine fun w8 hc  K hK => ?_
        (try simp only [Act.put, List.setIfInBounds_toArray, List.set_cons_zero, List.set_cons_succ])
        go_simp
        exact hK (.slice A len cap) _ rfl (Below.refl _ _)
      · refine fun w8 hc v1 h1 K hK => ?_
        obtain rfl : v1 = .slice A len cap := h1
        (try simp only [Act.put, List.setIfInBounds_toArray, List.set_cons_zero, List.set_cons_succ])
        go_simp
        (with_reducible refine (at_v 1 1 rfl (by omega) f1 A len cap _ _ ys _ (HR0.out.below hc.1) HLN.out HAf1.out).mono ?_)
        rintro e9 w3 ⟨rfl, rfl⟩
        exact hK _ _ rfl (Below.refl _ _)
      · refine fun w8 hc v0 h0 v2 h2 K hK => ?_
        obtain rfl : v0 = .agg #[.int .i64 a1, .int .i64 b1, .int .i64 c1, .int .i64 d1, .int .i64 x1, .int .i64 t1, .int .i64 j1, .int .i64 r1, .int .i64 n1] := h0
        obtain rfl : v2 = .int .i64 f1 := h2
        (try simp only [Act.put, List.setIfInBounds_toArray, List.set_cons_zero, List.set_cons_succ])
        go_simp
        (with_reducible refine (implSc a1 b1 c1 d1 x1 t1 j1 r1 n1 f1 WS.out _).mono ?_)
        rintro e w3 hp
        obtain ⟨rfl, hb⟩ := o_parts HSC.out hp
        exact hK _ _ rfl hb
      · refine fun w8 hc  K hK => ?_
        (try simp only [Act.put, List.setIfInBounds_toArray, List.set_cons_zero, List.set_cons_succ])
        have hlt := hc.2.2.lt
        go_simp
        exact hK (.pointer (some ⟨w8.heap.size, 0, none⟩)) _ ⟨w8.heap.size, rfl, hlt, Bx.made _ _ _⟩ (below_box _ _)
      refine fun w9 hc v0 h0 v1 h1 v2 h2 v3 h3 v4 h4 => ?_
      obtain rfl : v0 = .agg #[.int .i64 a1, .int .i64 b1, .int .i64 c1, .int .i64 d1, .int .i64 x1, .int .i64 t1, .int .i64 j1, .int .i64 r1, .int .i64 n1] := h0
      obtain rfl : v1 = .slice A len cap := h1
      obtain rfl : v2 = .int .i64 f1 := h2
      obtain rfl : v3 = .agg #[.int .i64 a1, .int .i64 b1, .int .i64 c1, .int .i64 d1, .int .i64 b1, .int .i64 u, .int .i64 0, .int .i64 0, .int .i64 m] := h3
      obtain ⟨M, rfl, hM, hP⟩ : ∃ M, v4 = .pointer (some ⟨M, 0, none⟩) ∧ N < M ∧ Bx 28 w9 M #[.int .i64 0, .int .i64 0, .int .i64 0, .int .i64 0, .int .i64 0, .int .i64 0, .int .i64 0, .int .i64 0, .int .i64 0] := h4
      (try simp only [reg.Obs])
      (try simp only [Act.put, List.setIfInBounds_toArray, List.set_cons_zero, List.set_cons_succ])
      simp only [List.drop_succ_cons, List.drop_zero]
      have B22 := Lib.hid hc.1
      have X22 := Lib.hid hc.2.1
      have Y22 := Lib.hid hc.2.2
      clear hc B21 X21 Y21
      have M22 := Lib.hid hP
      have LM := Lib.hid hM
      clear hP hM
      refine list_store rfl 28 _ _ rfl (M) #[.int .i64 a1, .int .i64 b1, .int .i64 c1, .int .i64 d1, .int .i64 b1, .int .i64 u, .int .i64 0, .int .i64 0, .int .i64 m] rfl rfl 28 _ M22.out rfl szB (one9 _ _ _ _ _ _ _ _ _) ?_
      intro wz hz
      (try simp only [Act.put])
      have B23 := Lib.hid (hz.on B22.out (by have hlX := LX.out; have hlY := LY.out; have hlM := LM.out; first | omega | (simp <;> omega)))
      have X23 := Lib.hid (hz.keep X22.out (by have hlX := LX.out; have hlY := LY.out; have hlM := LM.out; first | omega | (simp <;> omega)))
      have Y23 := Lib.hid (hz.keep Y22.out (by have hlX := LX.out; have hlY := LY.out; have hlM := LM.out; first | omega | (simp <;> omega)))
      have M23 := Lib.hid (hz.box)
      clear hz B22 X22 Y22 M22
      go_wp2_with fail
      (with_reducible refine (draw.drawFl _ A len cap (draw.code_later HC.out B23.out)).mono ?_)
      rintro e w30 ⟨⟨a4, b4, c4, d4, x4, t4, j4, r4, n4⟩, f4, rfl, hn4, hb⟩
      have WS4 := Lib.hid hn4
      clear hn4
      have B24 := Lib.hid (B23.out.trans (hb.mono B23.out.size))
      have X24 := Lib.hid (X23.out.below hb)
      have Y24 := Lib.hid (Y23.out.below hb)
      have M24 := Lib.hid (M23.out.below hb)
      clear hb B23 X23 Y23 M23
      obtain ⟨S, hbb⟩ : ∃ b, w30.heap.size = b := ⟨_, rfl⟩
      go_wp2_with fail
      generalize hW : w30.alloc (.cells #[.int .i64 a4, .int .i64 b4, .int .i64 c4, .int .i64 d4, .int .i64 x4, .int .i64 t4, .int .i64 j4, .int .i64 r4, .int .i64 n4] 28) = w25
      have B25 := Lib.hid (show Below w.heap.size w w25 by rw [← hW]; exact B24.out.alloc B24.out.size _)
      have X25 := Lib.hid (show Bx 28 w25 (p) #[.int .i64 a1, .int .i64 b1, .int .i64 c1, .int .i64 d1, .int .i64 x1, .int .i64 t1, .int .i64 j1, .int .i64 r1, .int .i64 n1] by rw [← hW]; exact X24.out.below (below_box _ _))
      have Y25 := Lib.hid (show Bx 28 w25 (N) #[.int .i64 a1, .int .i64 b1, .int .i64 c1, .int .i64 d1, .int .i64 b1, .int .i64 u, .int .i64 0, .int .i64 0, .int .i64 m] by rw [← hW]; exact Y24.out.below (below_box _ _))
      have M25 := Lib.hid (show Bx 28 w25 (M) #[.int .i64 a1, .int .i64 b1, .int .i64 c1, .int .i64 d1, .int .i64 b1, .int .i64 u, .int .i64 0, .int .i64 0, .int .i64 m] by rw [← hW]; exact M24.out.below (below_box _ _))
      have W25 := Lib.hid (show Bx 28 w25 S #[.int .i64 a4, .int .i64 b4, .int .i64 c4, .int .i64 d4, .int .i64 x4, .int .i64 t4, .int .i64 j4, .int .i64 r4, .int .i64 n4] by rw [← hW, ← hbb]; exact Bx.made _ _ _)
      have LW := Lib.hid (show w.heap.size ≤ S ∧ p < S ∧ N < S ∧ M < S by have h1 := B24.out.size; have h2X := X24.out.lt; have h2Y := Y24.out.lt; have h2M := M24.out.lt; have h3 := hbb; omega)
      (try rw [hbb])
      clear hW hbb B24 X24 Y24 M24
      obtain ⟨a5, b5, c5, d5, x5, t5, j5, r5, n5, h5⟩ : ∃ z0 z1 z2 z3 z4 z5 z6 z7 z8, fai ⟨a4, b4, c4, d4, x4, t4, j4, r4, n4⟩ f4 = ⟨z0, z1, z2, z3, z4, z5, z6, z7, z8⟩ := ⟨_, _, _, _, _, _, _, _, _, rfl⟩
      obtain ⟨g5, hg5⟩ : ∃ g, aga ⟨a4, b4, c4, d4, x4, t4, j4, r4, n4⟩ = g := ⟨_, rfl⟩
      have H5 := Lib.hid h5
      have HG5 := Lib.hid hg5
      obtain ⟨vv, hvv⟩ : ∃ v, vb ⟨a4, b4, c4, d4, x4, t4, j4, r4, n4⟩ = v := ⟨_, rfl⟩
      have HV4 := Lib.hid hvv
      have HV5 := Lib.hid (show vb ⟨a5, b5, c5, d5, x5, t5, j5, r5, n5⟩ = vv by rw [← h5, fai_vb_eq]; exact hvv)
      clear h5 hg5 hvv
      go_wp2_with (refine list_load rfl 28 _ rfl (S) rfl 28 _ W25.out Tryd.underlying28 rfl szB ?_)
      (with_reducible refine (implFl a4 b4 c4 d4 x4 t4 j4 r4 n4 f4 WS4.out _).mono ?_)
      rintro e w31 hp
      obtain ⟨rfl, hb⟩ := f_parts H5.out HG5.out hp
      clear hp
      have B26 := Lib.hid (B25.out.trans (hb.mono B25.out.size))
      have X26 := Lib.hid (X25.out.below hb)
      have Y26 := Lib.hid (Y25.out.below hb)
      have M26 := Lib.hid (M25.out.below hb)
      have W26 := Lib.hid (W25.out.below hb)
      clear hb B25 X25 Y25 M25 W25
      obtain ⟨U, hbb⟩ : ∃ b, w31.heap.size = b := ⟨_, rfl⟩
      go_wp2_with fail
      generalize hW : w31.alloc (.cells #[.int .i64 a5, .int .i64 b5, .int .i64 c5, .int .i64 d5, .int .i64 x5, .int .i64 t5, .int .i64 j5, .int .i64 r5, .int .i64 n5] 28) = w27
      have B27 := Lib.hid (show Below w.heap.size w w27 by rw [← hW]; exact B26.out.alloc B26.out.size _)
      have X27 := Lib.hid (show Bx 28 w27 (p) #[.int .i64 a1, .int .i64 b1, .int .i64 c1, .int .i64 d1, .int .i64 x1, .int .i64 t1, .int .i64 j1, .int .i64 r1, .int .i64 n1] by rw [← hW]; exact X26.out.below (below_box _ _))
      have Y27 := Lib.hid (show Bx 28 w27 (N) #[.int .i64 a1, .int .i64 b1, .int .i64 c1, .int .i64 d1, .int .i64 b1, .int .i64 u, .int .i64 0, .int .i64 0, .int .i64 m] by rw [← hW]; exact Y26.out.below (below_box _ _))
      have M27 := Lib.hid (show Bx 28 w27 (M) #[.int .i64 a1, .int .i64 b1, .int .i64 c1, .int .i64 d1, .int .i64 b1, .int .i64 u, .int .i64 0, .int .i64 0, .int .i64 m] by rw [← hW]; exact M26.out.below (below_box _ _))
      have W27 := Lib.hid (show Bx 28 w27 (S) #[.int .i64 a4, .int .i64 b4, .int .i64 c4, .int .i64 d4, .int .i64 x4, .int .i64 t4, .int .i64 j4, .int .i64 r4, .int .i64 n4] by rw [← hW]; exact W26.out.below (below_box _ _))
      have V27 := Lib.hid (show Bx 28 w27 U #[.int .i64 a5, .int .i64 b5, .int .i64 c5, .int .i64 d5, .int .i64 x5, .int .i64 t5, .int .i64 j5, .int .i64 r5, .int .i64 n5] by rw [← hW, ← hbb]; exact Bx.made _ _ _)
      have LV := Lib.hid (show w.heap.size ≤ U ∧ p < U ∧ N < U ∧ M < U ∧ S < U by have h1 := B26.out.size; have h2X := X26.out.lt; have h2Y := Y26.out.lt; have h2M := M26.out.lt; have h2W := W26.out.lt; have h3 := hbb; omega)
      (try rw [hbb])
      clear hW hbb B26 X26 Y26 M26 W26
      go_wp2_with fail
      have HRW := Lib.hid (show wt 5 3 1024 = 0 by unfold wt; rw [if_neg (by omega)])
      refine reg.region_plain reg.Bel 131 [some [], some [(0, 96)], some [(1, 97)], some [(2, 98)], some [(2, 98)], some [(3, 99), (4, 100), (2, 98)], some [(2, 98), (5, 101)], some [(6, 102)], some [(7, 103)], some [(8, 104), (7, 103)], some [(7, 103)], some [(10, 106), (7, 103)], some [(11, 107), (7, 103)], some [(9, 105), (12, 108), (7, 103)], some [(7, 103), (13, 109)], some [(14, 110)], some [(15, 111)], some [(16, 112), (15, 111)], some [(17, 113), (15, 111)], some [(15, 111), (18, 114)], some [(19, 115)], some [(20, 116)], some [(21, 117), (20, 116)], some [(20, 116), (22, 118)], some [(23, 119)], some [(24, 120)], some [(25, 121), (24, 120)], some [(24, 120)], some [(27, 123), (24, 120)], some [(26, 122), (28, 124), (24, 120)], some [(24, 120), (29, 125)], some [(30, 126)], some [(31, 127)], some [(32, 128), (31, 127)], some [(31, 127), (33, 129)], some [(34, 130)]] [(0, 96), (1, 97), (2, 98), (3, 99), (4, 100), (5, 101), (6, 102), (7, 103), (8, 104), (9, 105), (10, 106), (11, 107), (12, 108), (13, 109), (14, 110), (15, 111), (16, 112), (17, 113), (18, 114), (19, 115), (20, 116), (21, 117), (22, 118), (23, 119), (24, 120), (25, 121), (26, 122), (27, 123), (28, 124), (29, 125), (30, 126), (31, 127), (32, 128), (33, 129), (34, 130), (35, 2)]
        (fun w' => Below w.heap.size w w' ∧ Bx 28 w' (p) #[.int .i64 a1, .int .i64 b1, .int .i64 c1, .int .i64 d1, .int .i64 x1, .int .i64 t1, .int .i64 j1, .int .i64 r1, .int .i64 n1] ∧ Bx 28 w' (N) #[.int .i64 a1, .int .i64 b1, .int .i64 c1, .int .i64 d1, .int .i64 b1, .int .i64 u, .int .i64 0, .int .i64 0, .int .i64 m] ∧ Bx 28 w' (M) #[.int .i64 a1, .int .i64 b1, .int .i64 c1, .int .i64 d1, .int .i64 b1, .int .i64 u, .int .i64 0, .int .i64 0, .int .i64 m] ∧ Bx 28 w' (S) #[.int .i64 a4, .int .i64 b4, .int .i64 c4, .int .i64 d4, .int .i64 x4, .int .i64 t4, .int .i64 j4, .int .i64 r4, .int .i64 n4] ∧ Bx 28 w' (U) #[.int .i64 a5, .int .i64 b5, .int .i64 c5, .int .i64 d5, .int .i64 x5, .int .i64 t5, .int .i64 j5, .int .i64 r5, .int .i64 n5])
        (reg.rl [reg.is (.bool false), reg.is (.bool true), reg.is (.bool true), reg.is (.agg #[.int .i64 a1, .int .i64 b1, .int .i64 c1, .int .i64 d1, .int .i64 b1, .int .i64 u, .int .i64 0, .int .i64 0, .int .i64 m]), reg.is (.agg #[.int .i64 a1, .int .i64 b1, .int .i64 c1, .int .i64 d1, .int .i64 b1, .int .i64 u, .int .i64 0, .int .i64 0, .int .i64 m]), reg.is (.bool true), reg.is (.bool true), reg.is (.bool true), reg.is (.pointer (some ⟨M, 4, none⟩)), reg.is (.int .i64 b1), reg.is (.pointer (some ⟨M, 0, none⟩)), reg.is (.pointer (some ⟨M, 1, none⟩)), reg.is (.int .i64 b1), reg.is (.bool true), reg.is (.bool true), reg.is (.bool true), reg.is (.pointer (some ⟨M, 7, none⟩)), reg.is (.int .i64 0), reg.is (.bool true), reg.is (.bool true), reg.is (.bool true), reg.is (.agg #[.int .i64 a1, .int .i64 b1, .int .i64 c1, .int .i64 d1, .int .i64 b1, .int .i64 u, .int .i64 0, .int .i64 0, .int .i64 m]), reg.is (.bool true), reg.is (.bool true), reg.is (.bool true), reg.is (.agg #[.int .i64 a5, .int .i64 b5, .int .i64 c5, .int .i64 d5, .int .i64 x5, .int .i64 t5, .int .i64 j5, .int .i64 r5, .int .i64 n5]), reg.is (.bool vv), reg.is (.agg #[.int .i64 a4, .int .i64 b4, .int .i64 c4, .int .i64 d4, .int .i64 x4, .int .i64 t4, .int .i64 j4, .int .i64 r4, .int .i64 n4]), reg.is (.bool vv), reg.is (.bool true), reg.is (.bool true), reg.is (.bool true), reg.is (.int .i64 0), reg.is (.bool true), reg.is (.bool true), reg.is (.bool true)])
        (by kernel_rfl) (by kernel_rfl) rfl
        (fun w1 w2 hc hb => ⟨hc.1.trans (hb.mono hc.1.size), hc.2.1.below hb, hc.2.2.1.below hb, hc.2.2.2.1.below hb, hc.2.2.2.2.1.below hb, hc.2.2.2.2.2.below hb⟩) (reg.rl_keep _) (⟨own.below_drew B27.out, X27.out.same rfl, Y27.out.same rfl, M27.out.same rfl, W27.out.same rfl, V27.out.same rfl⟩) (by kernel_rfl) ⟨?_, ?_, ?_, ?_, ?_, ?_, ?_, ?_, ?_, ?_, ?_, ?_, ?_, ?_, ?_, ?_, ?_, ?_, ?_, ?_, ?_, ?_, ?_, ?_, ?_, ?_, ?_, ?_, ?_, ?_, ?_, ?_, ?_, ?_, ?_, ?_, trivial⟩ ?_
      · refine fun w8 hc  K hK => ?_
        (try simp only [Act.put, List.setIfInBounds_toArray, List.set_cons_zero, List.set_cons_succ])
        go_simp
        exact hK (.bool false) _ rfl (Below.refl _ _)
      · refine fun w8 hc v0 h0 K hK => ?_
        obtain rfl : v0 = .bool false := h0
        (try simp only [Act.put, List.setIfInBounds_toArray, List.set_cons_zero, List.set_cons_succ])
        go_simp
        exact hK (.bool true) _ rfl (Below.refl _ _)
      · refine fun w8 hc v1 h1 K hK => ?_
        obtain rfl : v1 = .bool true := h1
        (try simp only [Act.put, List.setIfInBounds_toArray, List.set_cons_zero, List.set_cons_succ])
        go_simp
        exact hK (.bool true) _ rfl (Below.refl _ _)
      · refine fun w8 hc v2 h2 K hK => ?_
        obtain rfl : v2 = .bool true := h2
        (try simp only [Act.put, List.setIfInBounds_toArray, List.set_cons_zero, List.set_cons_succ])
        rw [if_pos (by rfl)]
        refine wp_load_bx 28 _ rfl (N) rfl 28 _ hc.2.2.1 Tryd.underlying28 rfl szB ?_
        exact hK _ _ rfl (Below.refl _ _)
      · refine fun w8 hc v2 h2 K hK => ?_
        obtain rfl : v2 = .bool true := h2
        (try simp only [Act.put, List.setIfInBounds_toArray, List.set_cons_zero, List.set_cons_succ])
        rw [if_pos (by rfl)]
        refine wp_load_bx 28 _ rfl (M) rfl 28 _ hc.2.2.2.1 Tryd.underlying28 rfl szB ?_
        exact hK _ _ rfl (Below.refl _ _)
      · refine fun w8 hc v3 h3 v4 h4 v2 h2 K hK => ?_
        obtain rfl : v3 = .agg #[.int .i64 a1, .int .i64 b1, .int .i64 c1, .int .i64 d1, .int .i64 b1, .int .i64 u, .int .i64 0, .int .i64 0, .int .i64 m] := h3
        obtain rfl : v4 = .agg #[.int .i64 a1, .int .i64 b1, .int .i64 c1, .int .i64 d1, .int .i64 b1, .int .i64 u, .int .i64 0, .int .i64 0, .int .i64 m] := h4
        obtain rfl : v2 = .bool true := h2
        (try simp only [Act.put, List.setIfInBounds_toArray, List.set_cons_zero, List.set_cons_succ])
        rw [if_pos (by rfl)]
        go_simp
        exact hK (.bool true) _ rfl (Below.refl _ _)
      · refine fun w8 hc v2 h2 v5 h5 K hK => ?_
        obtain rfl : v2 = .bool true := h2
        obtain rfl : v5 = .bool true := h5
        (try simp only [Act.put, List.setIfInBounds_toArray, List.set_cons_zero, List.set_cons_succ])
        go_simp
        exact hK (.bool true) _ rfl (Below.refl _ _)
      · refine fun w8 hc v6 h6 K hK => ?_
        obtain rfl : v6 = .bool true := h6
        (try simp only [Act.put, List.setIfInBounds_toArray, List.set_cons_zero, List.set_cons_succ])
        go_simp
        exact hK (.bool true) _ rfl (Below.refl _ _)
      · refine fun w8 hc v7 h7 K hK => ?_
        obtain rfl : v7 = .bool true := h7
        (try simp only [Act.put, List.setIfInBounds_toArray, List.set_cons_zero, List.set_cons_succ])
        rw [if_pos (by rfl)]
        go_simp
        exact hK (.pointer (some ⟨M, 4, none⟩)) _ rfl (Below.refl _ _)
      · refine fun w8 hc v8 h8 v7 h7 K hK => ?_
        obtain rfl : v8 = .pointer (some ⟨M, 4, none⟩) := h8
        obtain rfl : v7 = .bool true := h7
        (try simp only [Act.put, List.setIfInBounds_toArray, List.set_cons_zero, List.set_cons_succ])
        rw [if_pos (by rfl)]
        have c0 : w8.cell? ⟨M, 4, none⟩ = some (.int .i64 b1) := hc.2.2.2.1.cell 4
        go_simp
        exact hK (.int .i64 b1) _ rfl (Below.refl _ _)
      · refine fun w8 hc v7 h7 K hK => ?_
        obtain rfl : v7 = .bool true := h7
        (try simp only [Act.put, List.setIfInBounds_toArray, List.set_cons_zero, List.set_cons_succ])
        rw [if_pos (by rfl)]
        go_simp
        exact hK (.pointer (some ⟨M, 0, none⟩)) _ rfl (Below.refl _ _)
      · refine fun w8 hc v10 h10 v7 h7 K hK => ?_
        obtain rfl : v10 = .pointer (some ⟨M, 0, none⟩) := h10
        obtain rfl : v7 = .bool true := h7
        (try simp only [Act.put, List.setIfInBounds_toArray, List.set_cons_zero, List.set_cons_succ])
        rw [if_pos (by rfl)]
        go_simp
        exact hK (.pointer (some ⟨M, 1, none⟩)) _ rfl (Below.refl _ _)
      · refine fun w8 hc v11 h11 v7 h7 K hK => ?_
        obtain rfl : v11 = .pointer (some ⟨M, 1, none⟩) := h11
        obtain rfl : v7 = .bool true := h7
        (try simp only [Act.put, List.setIfInBounds_toArray, List.set_cons_zero, List.set_cons_succ])
        rw [if_pos (by rfl)]
        have c0 : w8.cell? ⟨M, 1, none⟩ = some (.int .i64 b1) := hc.2.2.2.1.cell 1
        go_simp
        exact hK (.int .i64 b1) _ rfl (Below.refl _ _)
      · refine fun w8 hc v9 h9 v12 h12 v7 h7 K hK => ?_
        obtain rfl : v9 = .int .i64 b1 := h9
        obtain rfl : v12 = .int .i64 b1 := h12
        obtain rfl : v7 = .bool true := h7
        (try simp only [Act.put, List.setIfInBounds_toArray, List.set_cons_zero, List.set_cons_succ])
        rw [if_pos (by rfl)]
        go_simp
        exact hK (.bool true) _ rfl (Below.refl _ _)
      · refine fun w8 hc v7 h7 v13 h13 K hK => ?_
        obtain rfl : v7 = .bool true := h7
        obtain rfl : v13 = .bool true := h13
        (try simp only [Act.put, List.setIfInBounds_toArray, List.set_cons_zero, List.set_cons_succ])
        go_simp
        exact hK (.bool true) _ rfl (Below.refl _ _)
      · refine fun w8 hc v14 h14 K hK => ?_
        obtain rfl : v14 = .bool true := h14
        (try simp only [Act.put, List.setIfInBounds_toArray, List.set_cons_zero, List.set_cons_succ])
        go_simp
        exact hK (.bool true) _ rfl (Below.refl _ _)
      · refine fun w8 hc v15 h15 K hK => ?_
        obtain rfl : v15 = .bool true := h15
        (try simp only [Act.put, List.setIfInBounds_toArray, List.set_cons_zero, List.set_cons_succ])
        rw [if_pos (by rfl)]
        go_simp
        exact hK (.pointer (some ⟨M, 7, none⟩)) _ rfl (Below.refl _ _)
      · refine fun w8 hc v16 h16 v15 h15 K hK => ?_
        obtain rfl : v16 = .pointer (some ⟨M, 7, none⟩) := h16
        obtain rfl : v15 = .bool true := h15
        (try simp only [Act.put, List.setIfInBounds_toArray, List.set_cons_zero, List.set_cons_succ])
        rw [if_pos (by rfl)]
        have c0 : w8.cell? ⟨M, 7, none⟩ = some (.int .i64 0) := hc.2.2.2.1.cell 7
        go_simp
        exact hK (.int .i64 0) _ rfl (Below.refl _ _)
      · refine fun w8 hc v17 h17 v15 h15 K hK => ?_
        obtain rfl : v17 = .int .i64 0 := h17
        obtain rfl : v15 = .bool true := h15
        (try simp only [Act.put, List.setIfInBounds_toArray, List.set_cons_zero, List.set_cons_succ])
        rw [if_pos (by rfl)]
        go_simp
        exact hK (.bool true) _ rfl (Below.refl _ _)
      · refine fun w8 hc v15 h15 v18 h18 K hK => ?_
        obtain rfl : v15 = .bool true := h15
        obtain rfl : v18 = .bool true := h18
        (try simp only [Act.put, List.setIfInBounds_toArray, List.set_cons_zero, List.set_cons_succ])
        go_simp
        exact hK (.bool true) _ rfl (Below.refl _ _)
      · refine fun w8 hc v19 h19 K hK => ?_
        obtain rfl : v19 = .bool true := h19
        (try simp only [Act.put, List.setIfInBounds_toArray, List.set_cons_zero, List.set_cons_succ])
        go_simp
        exact hK (.bool true) _ rfl (Below.refl _ _)
      · refine fun w8 hc v20 h20 K hK => ?_
        obtain rfl : v20 = .bool true := h20
        (try simp only [Act.put, List.setIfInBounds_toArray, List.set_cons_zero, List.set_cons_succ])
        rw [if_pos (by rfl)]
        refine wp_load_bx 28 _ rfl (M) rfl 28 _ hc.2.2.2.1 Tryd.underlying28 rfl szB ?_
        exact hK _ _ rfl (Below.refl _ _)
      · refine fun w8 hc v21 h21 v20 h20 K hK => ?_
        obtain rfl : v21 = .agg #[.int .i64 a1, .int .i64 b1, .int .i64 c1, .int .i64 d1, .int .i64 b1, .int .i64 u, .int .i64 0, .int .i64 0, .int .i64 m] := h21
        obtain rfl : v20 = .bool true := h20
        (try simp only [Act.put, List.setIfInBounds_toArray, List.set_cons_zero, List.set_cons_succ])
        rw [if_pos (by rfl)]
        go_simp
        (with_reducible refine (implVb a1 b1 c1 d1 b1 u 0 0 m _).mono ?_)
        rintro e w3 hp
        obtain ⟨rfl, hb⟩ := b_parts (vb_iff.2 V3.out) hp
        exact hK _ _ rfl hb
      · refine fun w8 hc v20 h20 v22 h22 K hK => ?_
        obtain rfl : v20 = .bool true := h20
        obtain rfl : v22 = .bool true := h22
        (try simp only [Act.put, List.setIfInBounds_toArray, List.set_cons_zero, List.set_cons_succ])
        go_simp
        exact hK (.bool true) _ rfl (Below.refl _ _)
      · refine fun w8 hc v23 h23 K hK => ?_
        obtain rfl : v23 = .bool true := h23
        (try simp only [Act.put, List.setIfInBounds_toArray, List.set_cons_zero, List.set_cons_succ])
        go_simp
        exact hK (.bool true) _ rfl (Below.refl _ _)
      · refine fun w8 hc v24 h24 K hK => ?_
        obtain rfl : v24 = .bool true := h24
        (try simp only [Act.put, List.setIfInBounds_toArray, List.set_cons_zero, List.set_cons_succ])
        rw [if_pos (by rfl)]
        refine wp_load_bx 28 _ rfl (U) rfl 28 _ hc.2.2.2.2.2 Tryd.underlying28 rfl szB ?_
        exact hK _ _ rfl (Below.refl _ _)
      · refine fun w8 hc v25 h25 v24 h24 K hK => ?_
        obtain rfl : v25 = .agg #[.int .i64 a5, .int .i64 b5, .int .i64 c5, .int .i64 d5, .int .i64 x5, .int .i64 t5, .int .i64 j5, .int .i64 r5, .int .i64 n5] := h25
        obtain rfl : v24 = .bool true := h24
        (try simp only [Act.put, List.setIfInBounds_toArray, List.set_cons_zero, List.set_cons_succ])
        rw [if_pos (by rfl)]
        go_simp
        (with_reducible refine (implVb a5 b5 c5 d5 x5 t5 j5 r5 n5 _).mono ?_)
        rintro e w3 hp
        obtain ⟨rfl, hb⟩ := b_parts HV5.out hp
        exact hK _ _ rfl hb
      · refine fun w8 hc v24 h24 K hK => ?_
        obtain rfl : v24 = .bool true := h24
        (try simp only [Act.put, List.setIfInBounds_toArray, List.set_cons_zero, List.set_cons_succ])
        rw [if_pos (by rfl)]
        refine wp_load_bx 28 _ rfl (S) rfl 28 _ hc.2.2.2.2.1 Tryd.underlying28 rfl szB ?_
        exact hK _ _ rfl (Below.refl _ _)
      · refine fun w8 hc v27 h27 v24 h24 K hK => ?_
        obtain rfl : v27 = .agg #[.int .i64 a4, .int .i64 b4, .int .i64 c4, .int .i64 d4, .int .i64 x4, .int .i64 t4, .int .i64 j4, .int .i64 r4, .int .i64 n4] := h27
        obtain rfl : v24 = .bool true := h24
        (try simp only [Act.put, List.setIfInBounds_toArray, List.set_cons_zero, List.set_cons_succ])
        rw [if_pos (by rfl)]
        go_simp
        (with_reducible refine (specVb a4 b4 c4 d4 x4 t4 j4 r4 n4 _).mono ?_)
        rintro e w3 hp
        obtain ⟨rfl, hb⟩ := b_parts HV4.out hp
        exact hK _ _ rfl hb
      · refine fun w8 hc v26 h26 v28 h28 v24 h24 K hK => ?_
        obtain rfl : v26 = .bool vv := h26
        obtain rfl : v28 = .bool vv := h28
        obtain rfl : v24 = .bool true := h24
        (try simp only [Act.put, List.setIfInBounds_toArray, List.set_cons_zero, List.set_cons_succ])
        rw [if_pos (by rfl)]
        go_simp
        exact hK (.bool true) _ rfl (Below.refl _ _)
      · refine fun w8 hc v24 h24 v29 h29 K hK => ?_
        obtain rfl : v24 = .bool true := h24
        obtain rfl : v29 = .bool true := h29
        (try simp only [Act.put, List.setIfInBounds_toArray, List.set_cons_zero, List.set_cons_succ])
        go_simp
        exact hK (.bool true) _ rfl (Below.refl _ _)
      · refine fun w8 hc v30 h30 K hK => ?_
        obtain rfl : v30 = .bool true := h30
        (try simp only [Act.put, List.setIfInBounds_toArray, List.set_cons_zero, List.set_cons_succ])
        go_simp
        exact hK (.bool true) _ rfl (Below.refl _ _)
      · refine fun w8 hc v31 h31 K hK => ?_
        obtain rfl : v31 = .bool true := h31
        (try simp only [Act.put, List.setIfInBounds_toArray, List.set_cons_zero, List.set_cons_succ])
        rw [if_pos (by rfl)]
        go_simp
        (with_reducible refine (implRw 5 3 1024 rfl rfl _).mono ?_)
        rintro e w3 hp
        obtain ⟨rfl, hb⟩ := n_parts HRW.out hp
        exact hK _ _ rfl hb
      · refine fun w8 hc v32 h32 v31 h31 K hK => ?_
        obtain rfl : v32 = .int .i64 0 := h32
        obtain rfl : v31 = .bool true := h31
        (try simp only [Act.put, List.setIfInBounds_toArray, List.set_cons_zero, List.set_cons_succ])
        rw [if_pos (by rfl)]
        go_simp
        exact hK (.bool true) _ rfl (Below.refl _ _)
      · refine fun w8 hc v31 h31 v33 h33 K hK => ?_
        obtain rfl : v31 = .bool true := h31
        obtain rfl : v33 = .bool true := h33
        (try simp only [Act.put, List.setIfInBounds_toArray, List.set_cons_zero, List.set_cons_succ])
        go_simp
        exact hK (.bool true) _ rfl (Below.refl _ _)
      · refine fun w8 hc v34 h34 K hK => ?_
        obtain rfl : v34 = .bool true := h34
        (try simp only [Act.put, List.setIfInBounds_toArray, List.set_cons_zero, List.set_cons_succ])
        go_simp
        exact hK (.bool true) _ rfl (Below.refl _ _)
      refine fun w9 hc v0 h0 v1 h1 v2 h2 v3 h3 v4 h4 v5 h5 v6 h6 v7 h7 v8 h8 v9 h9 v10 h10 v11 h11 v12 h12 v13 h13 v14 h14 v15 h15 v16 h16 v17 h17 v18 h18 v19 h19 v20 h20 v21 h21 v22 h22 v23 h23 v24 h24 v25 h25 v26 h26 v27 h27 v28 h28 v29 h29 v30 h30 v31 h31 v32 h32 v33 h33 v34 h34 v35 h35 => ?_
      obtain rfl : v0 = .bool false := h0
      obtain rfl : v1 = .bool true := h1
      obtain rfl : v2 = .bool true := h2
      obtain rfl : v3 = .agg #[.int .i64 a1, .int .i64 b1, .int .i64 c1, .int .i64 d1, .int .i64 b1, .int .i64 u, .int .i64 0, .int .i64 0, .int .i64 m] := h3
      obtain rfl : v4 = .agg #[.int .i64 a1, .int .i64 b1, .int .i64 c1, .int .i64 d1, .int .i64 b1, .int .i64 u, .int .i64 0, .int .i64 0, .int .i64 m] := h4
      obtain rfl : v5 = .bool true := h5
      obtain rfl : v6 = .bool true := h6
      obtain rfl : v7 = .bool true := h7
      obtain rfl : v8 = .pointer (some ⟨M, 4, none⟩) := h8
      obtain rfl : v9 = .int .i64 b1 := h9
      obtain rfl : v10 = .pointer (some ⟨M, 0, none⟩) := h10
      obtain rfl : v11 = .pointer (some ⟨M, 1, none⟩) := h11
      obtain rfl : v12 = .int .i64 b1 := h12
      obtain rfl : v13 = .bool true := h13
      obtain rfl : v14 = .bool true := h14
      obtain rfl : v15 = .bool true := h15
      obtain rfl : v16 = .pointer (some ⟨M, 7, none⟩) := h16
      obtain rfl : v17 = .int .i64 0 := h17
      obtain rfl : v18 = .bool true := h18
      obtain rfl : v19 = .bool true := h19
      obtain rfl : v20 = .bool true := h20
      obtain rfl : v21 = .agg #[.int .i64 a1, .int .i64 b1, .int .i64 c1, .int .i64 d1, .int .i64 b1, .int .i64 u, .int .i64 0, .int .i64 0, .int .i64 m] := h21
      obtain rfl : v22 = .bool true := h22
      obtain rfl : v23 = .bool true := h23
      obtain rfl : v24 = .bool true := h24
      obtain rfl : v25 = .agg #[.int .i64 a5, .int .i64 b5, .int .i64 c5, .int .i64 d5, .int .i64 x5, .int .i64 t5, .int .i64 j5, .int .i64 r5, .int .i64 n5] := h25
      obtain rfl : v26 = .bool vv := h26
      obtain rfl : v27 = .agg #[.int .i64 a4, .int .i64 b4, .int .i64 c4, .int .i64 d4, .int .i64 x4, .int .i64 t4, .int .i64 j4, .int .i64 r4, .int .i64 n4] := h27
      obtain rfl : v28 = .bool vv := h28
      obtain rfl : v29 = .bool true := h29
      obtain rfl : v30 = .bool true := h30
      obtain rfl : v31 = .bool true := h31
      obtain rfl : v32 = .int .i64 0 := h32
      obtain rfl : v33 = .bool true := h33
      obtain rfl : v34 = .bool true := h34
      obtain rfl : v35 = .bool true := h35
      (try simp only [reg.Obs])
      (try simp only [Act.put, List.setIfInBounds_toArray, List.set_cons_zero, List.set_cons_succ])
      have B28 := Lib.hid hc.1
      have X28 := Lib.hid hc.2.1
      have Y28 := Lib.hid hc.2.2.1
      have M28 := Lib.hid hc.2.2.2.1
      have W28 := Lib.hid hc.2.2.2.2.1
      have V28 := Lib.hid hc.2.2.2.2.2
      clear hc B27 X27 Y27 M27 W27 V27
      go_wp2_with fail
      go_ret
      exact ⟨rfl, B28.out⟩
end Go.Proofs.YtkfkfejjhfkobaaDoor.retLaw
