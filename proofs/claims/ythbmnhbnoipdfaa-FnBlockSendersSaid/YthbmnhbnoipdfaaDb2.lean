/- The draw of a sender and an acknowledgment. Condition: the bytes that are drawn from are a slice that came in. -/
import Derived.Test.YthbmnhbnoipdfaaDbs
namespace Go.Proofs.Ythbmnhbnoipdfaa.bs
open Go.RowKit sl harn rng bx drk stw draw
set_option linter.unusedVariables false
set_option linter.unusedSimpArgs false

theorem keep_low {p B : Nat} {w wb wc : World} (h : Below B w wb) (k : Keep p wb wc) (hp : B ≤ p) (hs : p < wb.heap.size) : Below B w wc := h.trans (k.below hp hs)
set_option maxRecDepth 100000 in
set_option maxHeartbeats 4000000 in
theorem dRb (w : World) (a : Option Addr) (len cap : Nat) (hc : draw.Code w w.heap.size a len) :
    Calls Try.prog 13 #[.slice a len cap] w (RbPost w) := by
  have HC := Lib.hid hc
  clear hc
  go_enter Try.func13, Try.ntmps13
  go_upto_region 1 with fail
  obtain ⟨w0, hW⟩ : ∃ w0, (w.alloc (.cells #[.int .i64 0, .int .i64 0, .int .i64 0] 25)).alloc (.cells #[.int .i64 0, .int .i64 0] 27) = w0 := ⟨_, rfl⟩
  rw [hW]
  have B0 := Lib.hid (show Below w.heap.size w w0 by rw [← hW]; exact ((Below.refl _ _).alloc (by simp <;> omega) _).alloc (by simp <;> omega) _)
  have Y0 := Lib.hid (show Bx 25 w0 (w.heap.size) #[.int .i64 0, .int .i64 0, .int .i64 0] by
      rw [← hW]
      have hh := Bx.made 25 w #[.int .i64 0, .int .i64 0, .int .i64 0]
      exact (hh.below (below_box _ _)))
  have Z0 := Lib.hid (show Bx 27 w0 (w.heap.size + 1) #[.int .i64 0, .int .i64 0] by
      rw [← hW]
      have hh : Bx 27 ((w.alloc (.cells #[.int .i64 0, .int .i64 0, .int .i64 0] 25)).alloc (.cells #[.int .i64 0, .int .i64 0] 27)) (w.heap.size + 1) #[.int .i64 0, .int .i64 0] := by have hh := Bx.made 27 (w.alloc (.cells #[.int .i64 0, .int .i64 0, .int .i64 0] 25)) #[.int .i64 0, .int .i64 0]; simpa using hh
      exact hh)
  clear hW
  have LTY := Lib.hid Y0.out.lt
  have LTZ := Lib.hid Z0.out.lt
  go_wp2_with fail
  (with_reducible refine (draw.new _ a len cap (code_later HC.out B0.out)).mono ?_)
  rintro e wb ⟨rfl, hk, hs, hc⟩
  have HB := Lib.hid (keep_bel B0.out B0.out.size hk)
  obtain ⟨p, hp⟩ : ∃ p, w0.heap.size = p := ⟨_, rfl⟩
  have LP := Lib.hid (show w.heap.size ≤ p ∧ p < wb.heap.size ∧ w.heap.size < p ∧ w.heap.size + 1 < p by have h0 := B0.out.size; have hY := Y0.out.lt; have hZ := Z0.out.lt; first | omega | (simp at hs ⊢ <;> omega))
  rw [hp] at hk hs hc ⊢
  have Y1 := Lib.hid (drk.bx_keep Y0.out hk (by have h1 := LP.out; omega))
  have Z1 := Lib.hid (drk.bx_keep Z0.out hk (by have h1 := LP.out; omega))
  have P0 := Lib.hid hs
  have C1 := Lib.hid hc
  have CW := Lib.hid hc
  have K1 := Lib.hid (Keep.refl p wb)
  clear hk hs hc hp B0 Y0 Z0
  go_wp2_with fail
  (with_reducible refine (dSa _ p a len cap C1.out).mono ?_)
  rintro e w2 ⟨s, n, x, rfl, hs, hk, hc⟩
  have HS := Lib.hid hs
  have SS2 := Lib.hid hk.size
  have K2 := Lib.hid (K1.out.trans hk)
  have C2 := Lib.hid (hc)
  have Y2 := Lib.hid (drk.bx_keep Y1.out hk (by have hlP := LP.out; have h0 := P0.out; have hs0 := LTY.out; have hs1 := LTZ.out; have hs2 := LP.out; have hs3 := SS2.out; first | omega | (simp <;> omega)))
  have Z2 := Lib.hid (drk.bx_keep Z1.out hk (by have hlP := LP.out; have h0 := P0.out; have hs0 := LTY.out; have hs1 := LTZ.out; have hs2 := LP.out; have hs3 := SS2.out; first | omega | (simp <;> omega)))
  clear hk hc hs K1 C1 Y1 Z1
  obtain ⟨b2, hbb⟩ : ∃ b, w2.heap.size = b := ⟨_, rfl⟩
  go_upto_region 3 with fail
  generalize hW : w2.alloc (.cells #[.int .i64 s, .int .i64 n, .int .i64 x] 25) = w3
  have LS := Lib.hid (show wb.heap.size ≤ b2 ∧ w.heap.size < b2 ∧ w.heap.size + 1 < b2 by have h1 := K2.out.size; have h2Y := Y2.out.lt; have h2Z := Z2.out.lt; have h3 := hbb; omega)
  have S3 := Lib.hid (show Bx 25 w3 b2 #[.int .i64 s, .int .i64 n, .int .i64 x] by rw [← hW, ← hbb]; exact Bx.made _ _ _)
  have hb : Below w2.heap.size w2 w3 := by rw [← hW]; exact below_box _ _
  (try rw [hbb])
  clear hW hbb
  have SS3 := Lib.hid hb.size
  have K3 := Lib.hid (drk.later K2.out K2.out.size hb)
  have C3 := Lib.hid (drk.cur_below C2.out hb)
  have Y3 := Lib.hid (Y2.out.below hb)
  have Z3 := Lib.hid (Z2.out.below hb)
  clear hb K2 C2 Y2 Z2
  have LWS := Lib.hid S3.out.lt
  refine reg.region_tail (drk.Dr p a len cap) 4 14 [some [], some [], some [], some [(1, 11), (2, 12)], none, none] [(0, 10), (1, 11), (2, 12), (3, 13)]
    (fun w' => Keep p wb w' ∧ Cur w' p a len cap ∧ Bx 25 w' (w.heap.size) #[.int .i64 0, .int .i64 0, .int .i64 0] ∧ Bx 27 w' (w.heap.size + 1) #[.int .i64 0, .int .i64 0] ∧ Bx 25 w' (b2) #[.int .i64 s, .int .i64 n, .int .i64 x] ∧ True)
    (reg.rl [reg.is (.agg #[.int .i64 s, .int .i64 n, .int .i64 x]), reg.is (.pointer (some ⟨p, 0, none⟩)), reg.is (.agg #[.int .i64 s, .int .i64 n, .int .i64 x]), reg.val (fun v => ∃ c b : Int, v = .agg #[.int .i64 c, .int .i64 b]), reg.free, reg.free])
    (by kernel_rfl) rfl (by kernel_rfl) (by kernel_rfl) rfl
    (fun w1 w2 hc hb => ⟨hc.1.trans hb.1, hb.2, drk.bx_keep hc.2.2.1 hb.1 (by have hlP := LP.out; have hlS := LS.out; have h0 := P0.out; have hs0 := LTY.out; have hs1 := LTZ.out; have hs2 := LP.out; have hs3 := SS2.out; have hs4 := SS3.out; have hs5 := LWS.out; first | omega | (simp <;> omega)), drk.bx_keep hc.2.2.2.1 hb.1 (by have hlP := LP.out; have hlS := LS.out; have h0 := P0.out; have hs0 := LTY.out; have hs1 := LTZ.out; have hs2 := LP.out; have hs3 := SS2.out; have hs4 := SS3.out; have hs5 := LWS.out; first | omega | (simp <;> omega)), drk.bx_keep hc.2.2.2.2.1 hb.1 (by have hlP := LP.out; have hlS := LS.out; have h0 := P0.out; have hs0 := LTY.out; have hs1 := LTZ.out; have hs2 := LP.out; have hs3 := SS2.out; have hs4 := SS3.out; have hs5 := LWS.out; first | omega | (simp <;> omega)), trivial⟩) (reg.rl_keep _) (⟨Keep.drew K3.out, show Cur w3.drew p a len cap from C3.out, Y3.out.same rfl, Z3.out.same rfl, S3.out.same rfl, trivial⟩) (by kernel_rfl) ⟨?_, ?_, ?_, ?_, trivial⟩ ?_
  · refine fun w8 hc  K hK => ?_
    (try simp only [Act.put, List.setIfInBounds_toArray, List.set_cons_zero, List.set_cons_succ])
    rw [if_pos (by rfl)]
    refine stw.wp_load_bx 25 _ rfl (b2) rfl 25 _ hc.2.2.2.2.1 Try.underlying25 rfl szS ?_
    exact hK _ _ rfl ⟨Keep.refl _ _, hc.2.1⟩
  · refine fun w8 hc  K hK => ?_
    (try simp only [Act.put, List.setIfInBounds_toArray, List.set_cons_zero, List.set_cons_succ])
    go_simp
    exact hK (.pointer (some ⟨p, 0, none⟩)) _ rfl ⟨Keep.refl _ _, hc.2.1⟩
  · refine fun w8 hc  K hK => ?_
    (try simp only [Act.put, List.setIfInBounds_toArray, List.set_cons_zero, List.set_cons_succ])
    rw [if_pos (by rfl)]
    refine stw.wp_load_bx 25 _ rfl (b2) rfl 25 _ hc.2.2.2.2.1 Try.underlying25 rfl szS ?_
    exact hK _ _ rfl ⟨Keep.refl _ _, hc.2.1⟩
  · refine fun w8 hc v1 h1 v2 h2 K hK => ?_
    obtain rfl : v1 = .pointer (some ⟨p, 0, none⟩) := h1
    obtain rfl : v2 = .agg #[.int .i64 s, .int .i64 n, .int .i64 x] := h2
    (try simp only [Act.put, List.setIfInBounds_toArray, List.set_cons_zero, List.set_cons_succ])
    go_simp
    (with_reducible refine (dAk s n x HS.out _ p a len cap hc.2.1).mono ?_)
    rintro e w3 ⟨c, b, rfl, hk, hcc⟩
    exact hK (.agg #[.int .i64 c, .int .i64 b]) _ ⟨_, _, rfl⟩ ⟨hk, hcc⟩
  refine fun wg4 hc v0 h0 v1 h1 v2 h2 v3 h3 => ?_
  obtain rfl : v0 = .agg #[.int .i64 s, .int .i64 n, .int .i64 x] := h0
  obtain rfl : v1 = .pointer (some ⟨p, 0, none⟩) := h1
  obtain rfl : v2 = .agg #[.int .i64 s, .int .i64 n, .int .i64 x] := h2
  obtain ⟨c, b, rfl⟩ : ∃ c b : Int, v3 = .agg #[.int .i64 c, .int .i64 b] := h3
  (try simp only [reg.Obs])
  (try simp only [Act.put, List.setIfInBounds_toArray, List.set_cons_zero, List.set_cons_succ])
  simp only [List.drop_succ_cons, List.drop_zero]
  have K4 := Lib.hid hc.1
  have C4 := Lib.hid hc.2.1
  have Y4 := Lib.hid hc.2.2.1
  have Z4 := Lib.hid hc.2.2.2.1
  have S4 := Lib.hid hc.2.2.2.2.1
  clear hc K3 C3 Y3 Z3 S3
  have HBS := Lib.hid HB.out.size
  have B4 := Lib.hid (keep_low HB.out K4.out (by have h1 := LP.out; omega) (by have h1 := LP.out; omega))
  clear K4 C4
  refine stw.list_store rfl 25 _ _ rfl (w.heap.size) #[.int .i64 s, .int .i64 n, .int .i64 x] rfl rfl 25 _ Y4.out rfl szS (oneS _ _ _) ?_
  intro wz5 hz
  (try simp only [Act.put])
  have B5 := Lib.hid (hz.on B4.out (by have hlS := LS.out; have hs0 := LTY.out; have hs1 := LTZ.out; have hs2 := LP.out; have hs3 := SS2.out; have hs4 := SS3.out; have hs5 := LWS.out; have hs6 := HBS.out; first | omega | (simp <;> omega)))
  have Y5 := Lib.hid (hz.box)
  have Z5 := Lib.hid (hz.keep Z4.out (by have hlS := LS.out; have hs0 := LTY.out; have hs1 := LTZ.out; have hs2 := LP.out; have hs3 := SS2.out; have hs4 := SS3.out; have hs5 := LWS.out; have hs6 := HBS.out; first | omega | (simp <;> omega)))
  have S5 := Lib.hid (hz.keep S4.out (by have hlS := LS.out; have hs0 := LTY.out; have hs1 := LTZ.out; have hs2 := LP.out; have hs3 := SS2.out; have hs4 := SS3.out; have hs5 := LWS.out; have hs6 := HBS.out; first | omega | (simp <;> omega)))
  clear hz B4 Y4 Z4 S4
  refine stw.list_store rfl 27 _ _ rfl (w.heap.size + 1) #[.int .i64 c, .int .i64 b] rfl rfl 27 _ Z5.out rfl szA (oneA _ _) ?_
  intro wz6 hz
  (try simp only [Act.put])
  have B6 := Lib.hid (hz.on B5.out (by have hlS := LS.out; have hs0 := LTY.out; have hs1 := LTZ.out; have hs2 := LP.out; have hs3 := SS2.out; have hs4 := SS3.out; have hs5 := LWS.out; have hs6 := HBS.out; first | omega | (simp <;> omega)))
  have Y6 := Lib.hid (hz.keep Y5.out (by have hlS := LS.out; have hs0 := LTY.out; have hs1 := LTZ.out; have hs2 := LP.out; have hs3 := SS2.out; have hs4 := SS3.out; have hs5 := LWS.out; have hs6 := HBS.out; first | omega | (simp <;> omega)))
  have Z6 := Lib.hid (hz.box)
  have S6 := Lib.hid (hz.keep S5.out (by have hlS := LS.out; have hs0 := LTY.out; have hs1 := LTZ.out; have hs2 := LP.out; have hs3 := SS2.out; have hs4 := SS3.out; have hs5 := LWS.out; have hs6 := HBS.out; first | omega | (simp <;> omega)))
  clear hz B5 Y5 Z5 S5
  go_wp2_with fail
  (try simp only [Exit.inBlock, Exit.then])
  refine bodyPost_ret (v := .tuple #[.agg #[.int .i64 s, .int .i64 n, .int .i64 x], .agg #[.int .i64 c, .int .i64 b]]) ?_ rfl ?_
  · rw [results_cc rfl]
    refine back_to Y6.out Try.underlying25 rfl szS ?_
    exact back_to Z6.out Try.underlying27 rfl szA rfl
  · exact ⟨s, n, x, c, b, rfl, B6.out⟩
end Go.Proofs.Ythbmnhbnoipdfaa.bs
