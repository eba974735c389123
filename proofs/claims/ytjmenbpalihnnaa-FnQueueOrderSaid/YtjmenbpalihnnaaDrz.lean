/- Draws of stage 17: a queue beside a message. Condition: the bytes that are drawn from are a slice that came in. -/
import Derived.Test.YtjmenbpalihnnaaDry
namespace Go.Proofs.Ytjmenbpalihnnaa.mq
open Go.RowKit sl harn bx mrw drk stw draw
set_option linter.unusedVariables false
set_option linter.unusedSimpArgs false

/-- A drawn queue that a function of the code hands back. -/
def QnPost (w : World) (e : Ending) (w' : World) : Prop :=
  ∃ (A : Option Addr) (n c : Nat) (es : List (El Msg)) (d : Int), e = .returned (qV A n c d) ∧ Qdr (es.map (fun e : El Msg => e.x)) d ∧ Oe msg w' w.heap.size w'.heap.size A n c es ∧ Below w.heap.size w w'
/-- A drawn queue and a drawn message. -/
def EqPost (w : World) (e : Ending) (w' : World) : Prop :=
  ∃ (A : Option Addr) (n c : Nat) (es : List (El Msg)) (d : Int) (x : Msg) (A2 : Option Addr) (n2 c2 lo hi lo2 hi2 : Nat), e = .returned (.tuple #[qV A n c d, mV x A2 n2 c2]) ∧ Qdr (es.map (fun e : El Msg => e.x)) d ∧ Oe msg w' lo hi A n c es ∧ n2 ≤ 101 ∧ Ow 5 .u8 w' lo2 hi2 A2 n2 c2 x.2.2.2 ∧ w.heap.size ≤ lo ∧ w.heap.size ≤ lo2 ∧ Below w.heap.size w w'
theorem results_cc {fn : Func} {p q : Tmp} {t1 t2 : TypeId} (h : fn.results = #[.cell p t1, .cell q t2]) (tmps : Array Value) (P : Program) (w : World) :
    (results fn tmps).run P w = ((asAddr (tmps.getD p undef)).run P w).andThen fun a w₁ => ((loadVar t1 a).run P w₁).andThen fun v w₂ => ((asAddr (tmps.getD q undef)).run P w₂).andThen fun a2 w₃ => ((loadVar t2 a2).run P w₃).andThen fun v2 w₄ => .ok (.tuple #[v, v2]) w₄ := by
  simp only [results, h]
  simp [Sem.run_bind, Result.andThen]
theorem back_cc {P : Program} {w : World} {b1 b2 : Nat} {t1 t2 T1 T2 : TypeId} {c1 c2 : Array Value} {d1 d2 : TypeDesc} (h1 : Bx T1 w b1 c1) (hu1 : P.underlying t1 = some d1) (hd1 : d1.isRow = true) (hi1 : (P.info? t1).map (·.size) = some c1.size) (h2 : Bx T2 w b2 c2) (hu2 : P.underlying t2 = some d2) (hd2 : d2.isRow = true) (hi2 : (P.info? t2).map (·.size) = some c2.size) :
    (((asAddr (.pointer (some ⟨b1, 0, none⟩))).run P w).andThen fun a w₁ => ((loadVar t1 a).run P w₁).andThen fun v w₂ => ((asAddr (.pointer (some ⟨b2, 0, none⟩))).run P w₂).andThen fun a2 w₃ => ((loadVar t2 a2).run P w₃).andThen fun v2 w₄ => Result.ok (Value.tuple #[v, v2]) w₄) = .ok (.tuple #[.agg c1, .agg c2]) w := by
  have e1 := run_loadVar_mid w b1 0 t1 c1.toList d1 (stw.range_of h1) hu1 hd1 (by simpa using hi1)
  have e2 := run_loadVar_mid w b2 0 t2 c2.toList d2 (stw.range_of h2) hu2 hd2 (by simpa using hi2)
  simp [asAddr, e1, e2, Result.andThen]
theorem keep_low {p B : Nat} {w wb wc : World} (h : Below B w wb) (k : Keep p wb wc) (hp : B ≤ p) (hs : p < wb.heap.size) : Below B w wc := h.trans (k.below hp hs)
set_option maxRecDepth 100000 in
set_option maxHeartbeats 4000000 in
theorem drawVq (w : World) (a : Option Addr) (len cap : Nat) (hc : draw.Code w w.heap.size a len) :
    Calls Try.prog 70 #[.slice a len cap] w (QnPost w) := by
  have HC := Lib.hid hc
  clear hc
  go_enter Try.func70, Try.ntmps70
  go_upto_region 1 with fail
  obtain ⟨w0, hW⟩ : ∃ w0, w.alloc (.cells #[.slice none 0 0, .int .i64 0] 26) = w0 := ⟨_, rfl⟩
  rw [hW]
  have B0 := Lib.hid (show Below w.heap.size w w0 by rw [← hW]; exact (Below.refl _ _).alloc (by simp <;> omega) _)
  have Z0 := Lib.hid (show Bx 26 w0 (w.heap.size) #[.slice none 0 0, .int .i64 0] by
      rw [← hW]
      have hh := Bx.made 26 w #[.slice none 0 0, .int .i64 0]
      exact hh)
  clear hW
  have LTZ := Lib.hid Z0.out.lt
  go_wp2_with fail
  have CC := Lib.hid (code_later HC.out B0.out)
  (with_reducible refine (draw.new _ a len cap CC.out).mono ?_)
  rintro e wb ⟨rfl, hk, hs, hc⟩
  have HB := Lib.hid (keep_bel B0.out B0.out.size hk)
  obtain ⟨p, hp⟩ : ∃ p, w0.heap.size = p := ⟨_, rfl⟩
  have LP := Lib.hid (show w.heap.size < p ∧ p < wb.heap.size by have hZ := Z0.out.lt; omega)
  rw [hp] at hk hs hc ⊢
  have Z1 := Lib.hid (bx_keep Z0.out hk (by have h1 := LP.out; omega))
  have P0 := Lib.hid hs
  have C1 := Lib.hid hc
  have CW := Lib.hid hc
  have K1 := Lib.hid (Keep.refl p wb)
  clear hk hs hc CC hp B0 Z0
  go_wp2_with fail
  (with_reducible refine (l17queue _ p a len cap C1.out).mono ?_)
  rintro e w2 ⟨A, n, c, es, d, rfl, hq, ho, hk, hc⟩
  have HQ := Lib.hid hq
  clear hq
  have SS2 := Lib.hid hk.size
  have K2 := Lib.hid (K1.out.trans hk)
  have C2 := Lib.hid (hc)
  have Z2 := Lib.hid (drk.bx_keep Z1.out hk (by have hlP := LP.out; have h0 := P0.out; have hs0 := LP.out; have hs1 := SS2.out; first | omega | (simp <;> omega)))
  clear hk hc K1 C1 Z1
  have O2 := Lib.hid ho
  clear ho
  have B2 := Lib.hid (keep_low HB.out K2.out (by have h1 := LP.out; omega) (by have h1 := LP.out; have h2 := HB.out.size; omega))
  clear K2 C2
  have HBS := Lib.hid HB.out.size
  go_wp2_with (first | (refine stw.list_store rfl 26 _ _ rfl (w.heap.size) #[.slice A n c, .int .i64 d] rfl rfl 26 _ Z2.out rfl szQ (oneQ _ _ _ _) ?_; intro wz3 hz))
  have B3 := Lib.hid (hz.on B2.out (by have hlP := LP.out; have hs0 := LP.out; have hs1 := SS2.out; have hs2 := HBS.out; first | omega | (simp <;> omega)))
  have Z3 := Lib.hid (hz.box)
  have O3 := Lib.hid (rgp.oe_set O2.out Z2.out (by decide) (by decide) hz.below.size (fun k hk => hz.other k hk))
  clear hz B2 Z2 O2
  (try simp only [Exit.inBlock, Exit.then])
  refine bodyPost_ret (v := .agg #[.slice A n c, .int .i64 d]) ?_ rfl ?_
  · rw [results_cell1 rfl]
    exact stw.back Z3.out Try.underlying26 rfl szQ
  · exact ⟨_, _, _, _, _, rfl, HQ.out, (O3.out).up.down (by have h2 := HB.out.size; omega), B3.out⟩
set_option maxRecDepth 100000 in
set_option maxHeartbeats 4000000 in
theorem drawNm (w : World) (a : Option Addr) (len cap : Nat) (hc : draw.Code w w.heap.size a len) :
    Calls Try.prog 22 #[.slice a len cap] w (QnPost w) := by
  have HC := Lib.hid hc
  clear hc
  go_enter Try.func22, Try.ntmps22
  go_upto_region 1 with fail
  obtain ⟨w0, hW⟩ : ∃ w0, w.alloc (.cells #[.slice none 0 0, .int .i64 0] 26) = w0 := ⟨_, rfl⟩
  rw [hW]
  have B0 := Lib.hid (show Below w.heap.size w w0 by rw [← hW]; exact (Below.refl _ _).alloc (by simp <;> omega) _)
  have Z0 := Lib.hid (show Bx 26 w0 (w.heap.size) #[.slice none 0 0, .int .i64 0] by
      rw [← hW]
      have hh := Bx.made 26 w #[.slice none 0 0, .int .i64 0]
      exact hh)
  clear hW
  have LTZ := Lib.hid Z0.out.lt
  go_wp2_with fail
  (with_reducible refine (drawVq _ a len cap (code_later HC.out B0.out)).mono ?_)
  rintro e w1 ⟨A, n, c, es, d, rfl, hq, ho, hb⟩
  have HQ := Lib.hid hq
  clear hq
  have SS1 := Lib.hid hb.size
  have B1 := Lib.hid (B0.out.trans (hb.mono B0.out.size))
  have Z1 := Lib.hid (Z0.out.below hb)
  clear hb B0 Z0
  have O1 := Lib.hid ho
  clear ho
  have HS0 := Lib.hid (show w.heap.size ≤ w0.heap.size by have := LTZ.out; omega)
  go_wp2_with (first | (refine stw.list_store rfl 26 _ _ rfl (w.heap.size) #[.slice A n c, .int .i64 d] rfl rfl 26 _ Z1.out rfl szQ (oneQ _ _ _ _) ?_; intro wz2 hz))
  have B2 := Lib.hid (hz.on B1.out (by have hs0 := LTZ.out; have hs1 := SS1.out; first | omega | (simp <;> omega)))
  have Z2 := Lib.hid (hz.box)
  have O2 := Lib.hid (rgp.oe_set O1.out Z1.out (by decide) (by decide) hz.below.size (fun k hk => hz.other k hk))
  clear hz B1 Z1 O1
  (try simp only [Exit.inBlock, Exit.then])
  refine bodyPost_ret (v := .agg #[.slice A n c, .int .i64 d]) ?_ rfl ?_
  · rw [results_cell1 rfl]
    exact stw.back Z2.out Try.underlying26 rfl szQ
  · exact ⟨_, _, _, _, _, rfl, HQ.out, (O2.out).up.down (by have := HS0.out; omega), B2.out⟩
set_option maxRecDepth 100000 in
set_option maxHeartbeats 4000000 in
theorem drawEq (w : World) (a : Option Addr) (len cap : Nat) (hc : draw.Code w w.heap.size a len) :
    Calls Try.prog 13 #[.slice a len cap] w (EqPost w) := by
  have HC := Lib.hid hc
  clear hc
  go_enter Try.func13, Try.ntmps13
  go_upto_region 1 with fail
  obtain ⟨w0, hW⟩ : ∃ w0, (w.alloc (.cells #[.slice none 0 0, .int .i64 0] 26)).alloc (.cells #[.int .i64 0, .int .i64 0, .int .i64 0, .slice none 0 0] 28) = w0 := ⟨_, rfl⟩
  rw [hW]
  have B0 := Lib.hid (show Below w.heap.size w w0 by rw [← hW]; exact ((Below.refl _ _).alloc (by simp <;> omega) _).alloc (by simp <;> omega) _)
  have Z0 := Lib.hid (show Bx 26 w0 (w.heap.size) #[.slice none 0 0, .int .i64 0] by
      rw [← hW]
      have hh := Bx.made 26 w #[.slice none 0 0, .int .i64 0]
      exact (hh.below (below_box _ _)))
  have Y0 := Lib.hid (show Bx 28 w0 (w.heap.size + 1) #[.int .i64 0, .int .i64 0, .int .i64 0, .slice none 0 0] by
      rw [← hW]
      have hh : Bx 28 ((w.alloc (.cells #[.slice none 0 0, .int .i64 0] 26)).alloc (.cells #[.int .i64 0, .int .i64 0, .int .i64 0, .slice none 0 0] 28)) (w.heap.size + 1) #[.int .i64 0, .int .i64 0, .int .i64 0, .slice none 0 0] := by have hh := Bx.made 28 (w.alloc (.cells #[.slice none 0 0, .int .i64 0] 26)) #[.int .i64 0, .int .i64 0, .int .i64 0, .slice none 0 0]; simpa using hh
      exact hh)
  clear hW
  have LTZ := Lib.hid Z0.out.lt
  have LTY := Lib.hid Y0.out.lt
  go_wp2_with fail
  have CC := Lib.hid (code_later HC.out B0.out)
  (with_reducible refine (draw.new _ a len cap CC.out).mono ?_)
  rintro e wb ⟨rfl, hk, hs, hc⟩
  have HB := Lib.hid (keep_bel B0.out B0.out.size hk)
  obtain ⟨p, hp⟩ : ∃ p, w0.heap.size = p := ⟨_, rfl⟩
  have LP := Lib.hid (show w.heap.size < p ∧ w.heap.size + 1 < p ∧ p < wb.heap.size by have hZ := Z0.out.lt; have hY := Y0.out.lt; omega)
  rw [hp] at hk hs hc ⊢
  have Z1 := Lib.hid (bx_keep Z0.out hk (by have h1 := LP.out; omega))
  have Y1 := Lib.hid (bx_keep Y0.out hk (by have h1 := LP.out; omega))
  have P0 := Lib.hid hs
  have C1 := Lib.hid hc
  have CW := Lib.hid hc
  have K1 := Lib.hid (Keep.refl p wb)
  clear hk hs hc CC hp B0 Z0 Y0
  go_wp2_with fail
  (with_reducible refine (l17queue _ p a len cap C1.out).mono ?_)
  rintro e w2 ⟨A, n, c, es, d, rfl, hq, ho, hk, hc⟩
  have HQ := Lib.hid hq
  clear hq
  have SS2 := Lib.hid hk.size
  have K2 := Lib.hid (K1.out.trans hk)
  have C2 := Lib.hid (hc)
  have Z2 := Lib.hid (drk.bx_keep Z1.out hk (by have hlP := LP.out; have h0 := P0.out; have hs0 := LP.out; have hs1 := SS2.out; first | omega | (simp <;> omega)))
  have Y2 := Lib.hid (drk.bx_keep Y1.out hk (by have hlP := LP.out; have h0 := P0.out; have hs0 := LP.out; have hs1 := SS2.out; first | omega | (simp <;> omega)))
  clear hk hc K1 C1 Z1 Y1
  have O2 := Lib.hid ho
  clear ho
  go_upto_region 3 with fail
  obtain ⟨bq, hbb⟩ : ∃ b, w2.heap.size = b := ⟨_, rfl⟩
  generalize hW : w2.alloc (.cells #[.slice A n c, .int .i64 d] 26) = w3
  have LQ := Lib.hid (show wb.heap.size ≤ bq ∧ w.heap.size < bq ∧ w.heap.size + 1 < bq ∧ w2.heap.size ≤ bq by have h1 := K2.out.size; have h2Z := Z2.out.lt; have h2Y := Y2.out.lt; have h2O := O2.out.hi_; have h3 := hbb; omega)
  have Q3 := Lib.hid (show Bx 26 w3 bq #[.slice A n c, .int .i64 d] by rw [← hW, ← hbb]; exact Bx.made _ _ _)
  have hb : Below w2.heap.size w2 w3 := by rw [← hW]; exact below_box _ _
  (try rw [hbb])
  clear hW hbb
  have SS3 := Lib.hid hb.size
  have K3 := Lib.hid (drk.later K2.out K2.out.size hb)
  have C3 := Lib.hid (drk.cur_below C2.out hb)
  have Z3 := Lib.hid (Z2.out.below hb)
  have Y3 := Lib.hid (Y2.out.below hb)
  have O3 := Lib.hid (O2.out.below hb)
  clear hb K2 C2 Z2 Y2 O2
  have LWQ := Lib.hid Q3.out.lt
  refine reg.region_tail (drk.Dr p a len cap) 3 13 [some [], some [], some [(1, 11)], none, none] [(0, 10), (1, 11), (2, 12)]
    (fun w' => Keep p wb w' ∧ Cur w' p a len cap ∧ Bx 26 w' (w.heap.size) #[.slice none 0 0, .int .i64 0] ∧ Bx 28 w' (w.heap.size + 1) #[.int .i64 0, .int .i64 0, .int .i64 0, .slice none 0 0] ∧ Bx 26 w' (bq) #[.slice A n c, .int .i64 d] ∧ Oe msg w' wb.heap.size w2.heap.size A n c es ∧ True)
    (reg.rl [reg.is (.agg #[.slice A n c, .int .i64 d]), reg.is (.pointer (some ⟨p, 0, none⟩)), mrowK p (w.heap.size) a len cap, reg.free, reg.free])
    (by kernel_rfl) rfl (by kernel_rfl) (by kernel_rfl) rfl
    (fun w1 w2 hc hb => ⟨hc.1.trans hb.1, hb.2, drk.bx_keep hc.2.2.1 hb.1 (by have hlP := LP.out; have hlQ := LQ.out; have h0 := P0.out; have hs0 := LP.out; have hs1 := SS2.out; have hs2 := SS3.out; have hs3 := LWQ.out; first | omega | (simp <;> omega)), drk.bx_keep hc.2.2.2.1 hb.1 (by have hlP := LP.out; have hlQ := LQ.out; have h0 := P0.out; have hs0 := LP.out; have hs1 := SS2.out; have hs2 := SS3.out; have hs3 := LWQ.out; first | omega | (simp <;> omega)), drk.bx_keep hc.2.2.2.2.1 hb.1 (by have hlP := LP.out; have hlQ := LQ.out; have h0 := P0.out; have hs0 := LP.out; have hs1 := SS2.out; have hs2 := SS3.out; have hs3 := LWQ.out; first | omega | (simp <;> omega)), oe_keep hc.2.2.2.2.2.1 hb.1 (by have hlP := LP.out; have hlQ := LQ.out; have h0 := P0.out; have hs0 := LP.out; have hs1 := SS2.out; have hs2 := SS3.out; have hs3 := LWQ.out; first | omega | (simp <;> omega)), trivial⟩) (reg.rl_keep _) (⟨Keep.drew K3.out, show Cur w3.drew p a len cap from C3.out, Z3.out.same rfl, Y3.out.same rfl, Q3.out.same rfl, O3.out.same (Nat.le_refl _) (fun _ _ _ => rfl), trivial⟩) (by kernel_rfl) ⟨?_, ?_, ?_, trivial⟩ ?_
  · refine fun w8 hc  K hK => ?_
    (try simp only [Act.put, List.setIfInBounds_toArray, List.set_cons_zero, List.set_cons_succ])
    rw [if_pos (by rfl)]
    refine stw.wp_load_bx 26 _ rfl (bq) rfl 26 _ hc.2.2.2.2.1 Try.underlying26 rfl szQ ?_
    exact hK _ _ rfl ⟨Keep.refl _ _, hc.2.1⟩
  · refine fun w8 hc  K hK => ?_
    (try simp only [Act.put, List.setIfInBounds_toArray, List.set_cons_zero, List.set_cons_succ])
    go_simp
    exact hK (.pointer (some ⟨p, 0, none⟩)) _ rfl ⟨Keep.refl _ _, hc.2.1⟩
  · refine fun w8 hc v1 h1 K hK => ?_
    obtain rfl : v1 = .pointer (some ⟨p, 0, none⟩) := h1
    (try simp only [Act.put, List.setIfInBounds_toArray, List.set_cons_zero, List.set_cons_succ])
    go_simp
    have hpl := hc.2.1.lt
    have hql := hc.2.2.1.lt
    (with_reducible refine (l17any _ p a len cap hc.2.1).mono ?_)
    rintro e w3 ⟨x, A, n3, c3, rfl, hn, ho, hk, hcc⟩
    exact hK _ _ ⟨x, A, n3, c3, _, _, rfl, hn, hpl, (by omega), ho⟩ ⟨hk, hcc⟩
  refine fun wg4 hc v0 h0 v1 h1 v2 h2 => ?_
  obtain rfl : v0 = .agg #[.slice A n c, .int .i64 d] := h0
  obtain rfl : v1 = .pointer (some ⟨p, 0, none⟩) := h1
  obtain ⟨x2, A2, n2, c2, lo2, hi2, rfl, hn2, hp2, hB2, hO2⟩ := h2
  (try simp only [reg.Obs])
  (try simp only [Act.put, List.setIfInBounds_toArray, List.set_cons_zero, List.set_cons_succ])
  simp only [List.drop_succ_cons, List.drop_zero]
  have K4 := Lib.hid hc.1
  have C4 := Lib.hid hc.2.1
  have Z4 := Lib.hid hc.2.2.1
  have Y4 := Lib.hid hc.2.2.2.1
  have Q4 := Lib.hid hc.2.2.2.2.1
  have O4 := Lib.hid hc.2.2.2.2.2.1
  clear hc K3 C3 Z3 Y3 Q3 O3
  have M4 := Lib.hid hO2
  have HN2 := Lib.hid hn2
  have HP2 := Lib.hid hp2
  have HB2 := Lib.hid hB2
  have HH2 := Lib.hid hO2.hi_
  clear hO2 hn2 hp2 hB2
  have B4 := Lib.hid (keep_low HB.out K4.out (by have h1 := LP.out; omega) (by have h1 := LP.out; have h2 := HB.out.size; omega))
  clear K4 C4
  have HBS := Lib.hid HB.out.size
  refine stw.list_store rfl 26 _ _ rfl (w.heap.size) #[.slice A n c, .int .i64 d] rfl rfl 26 _ Z4.out rfl szQ (oneQ _ _ _ _) ?_
  intro wz5 hz
  (try simp only [Act.put])
  have B5 := Lib.hid (hz.on B4.out (by have hlP := LP.out; have hlQ := LQ.out; have hs0 := LP.out; have hs1 := SS2.out; have hs2 := SS3.out; have hs3 := LWQ.out; have hs4 := HP2.out; have hs5 := HB2.out; have hs6 := HH2.out; have hs7 := HBS.out; first | omega | (simp <;> omega)))
  have Z5 := Lib.hid (hz.box)
  have Y5 := Lib.hid (hz.keep Y4.out (by have hlP := LP.out; have hlQ := LQ.out; have hs0 := LP.out; have hs1 := SS2.out; have hs2 := SS3.out; have hs3 := LWQ.out; have hs4 := HP2.out; have hs5 := HB2.out; have hs6 := HH2.out; have hs7 := HBS.out; first | omega | (simp <;> omega)))
  have Q5 := Lib.hid (hz.keep Q4.out (by have hlP := LP.out; have hlQ := LQ.out; have hs0 := LP.out; have hs1 := SS2.out; have hs2 := SS3.out; have hs3 := LWQ.out; have hs4 := HP2.out; have hs5 := HB2.out; have hs6 := HH2.out; have hs7 := HBS.out; first | omega | (simp <;> omega)))
  have O5 := Lib.hid (rgp.oe_set O4.out Z4.out (by decide) (by decide) hz.below.size (fun k hk => hz.other k hk))
  have M5 := Lib.hid (M4.out.same hz.below.size fun b h1 h2 => hz.other b (by have hlP := LP.out; have hlQ := LQ.out; have hs0 := LP.out; have hs1 := SS2.out; have hs2 := SS3.out; have hs3 := LWQ.out; have hs4 := HP2.out; have hs5 := HB2.out; have hs6 := HH2.out; have hs7 := HBS.out; first | omega | (simp <;> omega)))
  clear hz B4 Z4 Y4 Q4 O4 M4
  refine stw.list_store rfl 28 _ _ rfl (w.heap.size + 1) #[.int .i64 x2.1, .int .i64 x2.2.1, .int .i64 x2.2.2.1, .slice A2 n2 c2] rfl rfl 28 _ Y5.out rfl szM (oneM _ _ _ _ _ _) ?_
  intro wz6 hz
  (try simp only [Act.put])
  have B6 := Lib.hid (hz.on B5.out (by have hlP := LP.out; have hlQ := LQ.out; have hs0 := LP.out; have hs1 := SS2.out; have hs2 := SS3.out; have hs3 := LWQ.out; have hs4 := HP2.out; have hs5 := HB2.out; have hs6 := HH2.out; have hs7 := HBS.out; first | omega | (simp <;> omega)))
  have Z6 := Lib.hid (hz.keep Z5.out (by have hlP := LP.out; have hlQ := LQ.out; have hs0 := LP.out; have hs1 := SS2.out; have hs2 := SS3.out; have hs3 := LWQ.out; have hs4 := HP2.out; have hs5 := HB2.out; have hs6 := HH2.out; have hs7 := HBS.out; first | omega | (simp <;> omega)))
  have Y6 := Lib.hid (hz.box)
  have Q6 := Lib.hid (hz.keep Q5.out (by have hlP := LP.out; have hlQ := LQ.out; have hs0 := LP.out; have hs1 := SS2.out; have hs2 := SS3.out; have hs3 := LWQ.out; have hs4 := HP2.out; have hs5 := HB2.out; have hs6 := HH2.out; have hs7 := HBS.out; first | omega | (simp <;> omega)))
  have O6 := Lib.hid (O5.out.same hz.below.size fun b h1 h2 => hz.other b (by have hlP := LP.out; have hlQ := LQ.out; have hs0 := LP.out; have hs1 := SS2.out; have hs2 := SS3.out; have hs3 := LWQ.out; have hs4 := HP2.out; have hs5 := HB2.out; have hs6 := HH2.out; have hs7 := HBS.out; first | omega | (simp <;> omega)))
  have M6 := Lib.hid (M5.out.same hz.below.size fun b h1 h2 => hz.other b (by have hlP := LP.out; have hlQ := LQ.out; have hs0 := LP.out; have hs1 := SS2.out; have hs2 := SS3.out; have hs3 := LWQ.out; have hs4 := HP2.out; have hs5 := HB2.out; have hs6 := HH2.out; have hs7 := HBS.out; first | omega | (simp <;> omega)))
  clear hz B5 Z5 Y5 Q5 O5 M5
  go_wp2_with fail
  (try simp only [Exit.inBlock, Exit.then])
  refine bodyPost_ret (v := .tuple #[qV A n c d, mV x2 A2 n2 c2]) ?_ rfl ?_
  · rw [results_cc rfl]
    exact back_cc Z6.out Try.underlying26 rfl szQ Y6.out Try.underlying28 rfl szM
  · exact ⟨A, n, c, es, d, x2, A2, n2, c2, _, _, _, _, rfl, HQ.out, O6.out, HN2.out, M6.out, (by have h1 := LP.out; have h2 := HB.out.size; omega), HB2.out, B6.out⟩
end Go.Proofs.Ytjmenbpalihnnaa.mq
