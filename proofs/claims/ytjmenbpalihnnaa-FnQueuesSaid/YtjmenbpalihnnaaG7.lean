/- Merged texts of this seat. Drz: Draws of stage 17: a queue beside a message. Condition: the bytes that are drawn from are a slice that came in. | Shelf: The library contracts that the proofs use, laid at this program by the kit's own command. Conditions: those that each theorem names. | Eq: EqualBytes and EqualInts, program and specification. Condition: none. | Qca: EqualQueues of both sides. Condition: none. | Qmn: Queues as data: what a full queue loses, which message is chosen, how many are expired. Condition: none. | Same: The comparisons of the laws: sameBytes, sameInts. Condition: none. | Qsm: The laws' comparison of messages; a slice in a region that only reads. Condition: none. | QueLaw: The law function of the queues (FnQueues) returns true and leaves what was there. Condition: the argument is a slice of bytes that came in. -/
import Derived.Shelf.Bytes.SlEqualAll
import Derived.Shelf.Bytes.Small
import Derived.Test.YtjmenbpalihnnaaProg
import Derived.Deep.Cut
import Derived.Test.YtjmenbpalihnnaaG1
import Derived.Test.YtjmenbpalihnnaaG5
import Derived.Test.YtjmenbpalihnnaaG6
section
namespace Go.Proofs.Ytjmenbpalihnnaa.mq
open Go.RowKit sl harn bx mrw drk stw draw
set_option linter.unusedVariables false
set_option linter.unusedSimpArgs false

/-- A drawn queue that a function of the code hands back. -/
def QnPost (w : World) (e : Ending) (w' : World) : Prop :=
  ∃ (A : Option Addr) (n c : Nat) (es : List (El Msg)) (d : Int), e = .returned (qV A n c d) ∧ Qdr (es.map (fun e : El Msg => e.x)) d ∧ Oe msg w' w.heap.size w'.heap.size A n c es ∧ Below w.heap.size w w'
/-- A drawn queue and a drawn message. -/
def EqPost (w : World) (e : Ending) (w' : World) : Prop :=
  ∃ (A : Option Addr) (n c : Nat) (es : List (El Msg)) (d : Int) (x : Msg) (A2 : Option Addr) (n2 c2 lo hi lo2 hi2 : Nat), e = .returned (.tuple #[qV A n c d, mV x A2 n2 c2]) ∧ Qdr (es.map (fun e : El Msg => e.x)) d ∧ Oe msg w' lo hi A n c es ∧ n2 ≤ 101 ∧ Ow 5 .u8 w' lo2 hi2 A2 n2 c2 x.2.2.2 ∧ w.heap.size ≤ lo ∧ w.heap.size ≤ lo2 ∧ Below w.heap.size w w'
theorem results_cc {fn : Func} {p q : Tmp} {t1 t2 : TypeId} (h : fn.results = #[.cell p t1, .cell q t2]) (tmps : Array Value) (P : Program) (w : World) :
    (results fn tmps).run P w = ((asAddr (tmps.getD p undef)).run P w).andThen fun a w₁ => ((loadVar t1 a).run P w₁).andThen fun v w₂ => ((asAddr (tmps.getD q undef)).run P w₂).andThen fun a2 w₃ => ((loadVar t2 a2).run P w₃).andThen fun v2 w₄ => .ok (.tuple #[v, v2]) w₄ := by
  simp only [results, h]
  simp [Sem.run_bind, Result.andThen]
theorem back_cc {P : Program} {w : World} {b1 b2 : Nat} {t1 t2 T1 T2 : TypeId} {c1 c2 : Array Value} {d1 d2 : TypeDesc} (h1 : Bx T1 w b1 c1) (hu1 : P.underlying t1 = some d1) (hd1 : d1.isRow = true) (hi1 : (P.info? t1).map (·.size) = some c1.size) (h2 : Bx T2 w b2 c2) (hu2 : P.underlying t2 = some d2) (hd2 : d2.isRow = true) (hi2 : (P.info? t2).map (·.size) = some c2.size) :
    (((asAddr (.pointer (some ⟨b1, 0, none⟩))).run P w).andThen fun a w₁ => ((loadVar t1 a).run P w₁).andThen fun v w₂ => ((asAddr (.pointer (some ⟨b2, 0, none⟩))).run P w₂).andThen fun a2 w₃ => ((loadVar t2 a2).run P w₃).andThen fun v2 w₄ => Result.ok (Value.tuple #[v, v2]) w₄) = .ok (.tuple #[.agg c1, .agg c2]) w := by
  have e1 := run_loadVar_mid w b1 0 t1 c1.toList d1 (stw.range_of h1) hu1 hd1 (by simpa using hi1)
  have e2 := run_loadVar_mid w b2 0 t2 c2.toList d2 (stw.range_of h2) hu2 hd2 (by simpa using hi2)
  simp [asAddr, e1, e2, Result.andThen]
theorem keep_low {p B : Nat} {w wb wc : World} (h : Below B w wb) (k : Keep p wb wc) (hp : B ≤ p) (hs : p < wb.heap.size) : Below B w wc := h.trans (k.below hp hs)
set_option maxRecDepth 100000 in
set_option maxHeartbeats 4000000 in
theorem drawVq (w : World) (a : Option Addr) (len cap : Nat) (hc : draw.Code w w.heap.size a len) :
    Calls Try.prog 70 #[.slice a len cap] w (QnPost w) := by
  have HC := Lib.hid hc
  clear hc
  go_enter Try.func70, Try.ntmps70
  go_upto_region 1 with fail
  obtain ⟨w0, hW⟩ : ∃ w0, w.alloc (.cells #[.slice none 0 0, .int .i64 0] 26) = w0 := ⟨_, rfl⟩
  rw [hW]
  have B0 := Lib.hid (show Below w.heap.size w w0 by rw [← hW]; exact (Below.refl _ _).alloc (by simp <;> omega) _)
  have Z0 := Lib.hid (show Bx 26 w0 (w.heap.size) #[.slice none 0 0, .int .i64 0] by
      rw [← hW]
      have hh := Bx.made 26 w #[.slice none 0 0, .int .i64 0]
      exact hh)
  clear hW
  have LTZ := Lib.hid Z0.out.lt
  go_wp2_with fail
  have CC := Lib.hid (code_later HC.out B0.out)
  (with_reducible refine (draw.new _ a len cap CC.out).mono ?_)
  rintro e wb ⟨rfl, hk, hs, hc⟩
  have HB := Lib.hid (keep_bel B0.out B0.out.size hk)
  obtain ⟨p, hp⟩ : ∃ p, w0.heap.size = p := ⟨_, rfl⟩
  have LP := Lib.hid (show w.heap.size < p ∧ p < wb.heap.size by have hZ := Z0.out.lt; omega)
  rw [hp] at hk hs hc ⊢
  have Z1 := Lib.hid (bx_keep Z0.out hk (by have h1 := LP.out; omega))
  have P0 := Lib.hid hs
  have C1 := Lib.hid hc
  have CW := Lib.hid hc
  have K1 := Lib.hid (Keep.refl p wb)
  clear hk hs hc CC hp B0 Z0
  go_wp2_with fail
  (with_reducible refine (l17queue _ p a len cap C1.out).mono ?_)
  rintro e w2 ⟨A, n, c, es, d, rfl, hq, ho, hk, hc⟩
  have HQ := Lib.hid hq
  clear hq
  have SS2 := Lib.hid hk.size
  have K2 := Lib.hid (K1.out.trans hk)
  have C2 := Lib.hid (hc)
  have Z2 := Lib.hid (drk.bx_keep Z1.out hk (by have hlP := LP.out; have h0 := P0.out; have hs0 := LP.out; have hs1 := SS2.out; first | omega | (simp <;> omega)))
  clear hk hc K1 C1 Z1
  have O2 := Lib.hid ho
  clear ho
  have B2 := Lib.hid (keep_low HB.out K2.out (by have h1 := LP.out; omega) (by have h1 := LP.out; have h2 := HB.out.size; omega))
  clear K2 C2
  have HBS := Lib.hid HB.out.size
  go_wp2_with (first | (refine stw.list_store rfl 26 _ _ rfl (w.heap.size) #[.slice A n c, .int .i64 d] rfl rfl 26 _ Z2.out rfl szQ (oneQ _ _ _ _) ?_; intro wz3 hz))
  have B3 := Lib.hid (hz.on B2.out (by have hlP := LP.out; have hs0 := LP.out; have hs1 := SS2.out; have hs2 := HBS.out; first | omega | (simp <;> omega)))
  have Z3 := Lib.hid (hz.box)
  have O3 := Lib.hid (rgp.oe_set O2.out Z2.out (by decide) (by decide) hz.below.size (fun k hk => hz.other k hk))
  clear hz B2 Z2 O2
  (try simp only [Exit.inBlock, Exit.then])
  refine bodyPost_ret (v := .agg #[.slice A n c, .int .i64 d]) ?_ rfl ?_
  · rw [results_cell1 rfl]
    exact stw.back Z3.out Try.underlying26 rfl szQ
  · exact ⟨_, _, _, _, _, rfl, HQ.out, (O3.out).up.down (by have h2 := HB.out.size; omega), B3.out⟩
set_option maxRecDepth 100000 in
set_option maxHeartbeats 4000000 in
theorem drawNm (w : World) (a : Option Addr) (len cap : Nat) (hc : draw.Code w w.heap.size a len) :
    Calls Try.prog 22 #[.slice a len cap] w (QnPost w) := by
  have HC := Lib.hid hc
  clear hc
  go_enter Try.func22, Try.ntmps22
  go_upto_region 1 with fail
  obtain ⟨w0, hW⟩ : ∃ w0, w.alloc (.cells #[.slice none 0 0, .int .i64 0] 26) = w0 := ⟨_, rfl⟩
  rw [hW]
  have B0 := Lib.hid (show Below w.heap.size w w0 by rw [← hW]; exact (Below.refl _ _).alloc (by simp <;> omega) _)
  have Z0 := Lib.hid (show Bx 26 w0 (w.heap.size) #[.slice none 0 0, .int .i64 0] by
      rw [← hW]
      have hh := Bx.made 26 w #[.slice none 0 0, .int .i64 0]
      exact hh)
  clear hW
  have LTZ := Lib.hid Z0.out.lt
  go_wp2_with fail
  (with_reducible refine (drawVq _ a len cap (code_later HC.out B0.out)).mono ?_)
  rintro e w1 ⟨A, n, c, es, d, rfl, hq, ho, hb⟩
  have HQ := Lib.hid hq
  clear hq
  have SS1 := Lib.hid hb.size
  have B1 := Lib.hid (B0.out.trans (hb.mono B0.out.size))
  have Z1 := Lib.hid (Z0.out.below hb)
  clear hb B0 Z0
  have O1 := Lib.hid ho
  clear ho
  have HS0 := Lib.hid (show w.heap.size ≤ w0.heap.size by have := LTZ.out; omega)
  go_wp2_with (first | (refine stw.list_store rfl 26 _ _ rfl (w.heap.size) #[.slice A n c, .int .i64 d] rfl rfl 26 _ Z1.out rfl szQ (oneQ _ _ _ _) ?_; intro wz2 hz))
  have B2 := Lib.hid (hz.on B1.out (by have hs0 := LTZ.out; have hs1 := SS1.out; first | omega | (simp <;> omega)))
  have Z2 := Lib.hid (hz.box)
  have O2 := Lib.hid (rgp.oe_set O1.out Z1.out (by decide) (by decide) hz.below.size (fun k hk => hz.other k hk))
  clear hz B1 Z1 O1
  (try simp only [Exit.inBlock, Exit.then])
  refine bodyPost_ret (v := .agg #[.slice A n c, .int .i64 d]) ?_ rfl ?_
  · rw [results_cell1 rfl]
    exact stw.back Z2.out Try.underlying26 rfl szQ
  · exact ⟨_, _, _, _, _, rfl, HQ.out, (O2.out).up.down (by have := HS0.out; omega), B2.out⟩
set_option maxRecDepth 100000 in
set_option maxHeartbeats 4000000 in
theorem drawEq (w : World) (a : Option Addr) (len cap : Nat) (hc : draw.Code w w.heap.size a len) :
    Calls Try.prog 13 #[.slice a len cap] w (EqPost w) := by
  have HC := Lib.hid hc
  clear hc
  go_enter Try.func13, Try.ntmps13
  go_upto_region 1 with fail
  obtain ⟨w0, hW⟩ : ∃ w0, (w.alloc (.cells #[.slice none 0 0, .int .i64 0] 26)).alloc (.cells #[.int .i64 0, .int .i64 0, .int .i64 0, .slice none 0 0] 28) = w0 := ⟨_, rfl⟩
  rw [hW]
  have B0 := Lib.hid (show Below w.heap.size w w0 by rw [← hW]; exact ((Below.refl _ _).alloc (by simp <;> omega) _).alloc (by simp <;> omega) _)
  have Z0 := Lib.hid (show Bx 26 w0 (w.heap.size) #[.slice none 0 0, .int .i64 0] by
      rw [← hW]
      have hh := Bx.made 26 w #[.slice none 0 0, .int .i64 0]
      exact (hh.below (below_box _ _)))
  have Y0 := Lib.hid (show Bx 28 w0 (w.heap.size + 1) #[.int .i64 0, .int .i64 0, .int .i64 0, .slice none 0 0] by
      rw [← hW]
      have hh : Bx 28 ((w.alloc (.cells #[.slice none 0 0, .int .i64 0] 26)).alloc (.cells #[.int .i64 0, .int .i64 0, .int .i64 0, .slice none 0 0] 28)) (w.heap.size + 1) #[.int .i64 0, .int .i64 0, .int .i64 0, .slice none 0 0] := by have hh := Bx.made 28 (w.alloc (.cells #[.slice none 0 0, .int .i64 0] 26)) #[.int .i64 0, .int .i64 0, .int .i64 0, .slice none 0 0]; simpa using hh
      exact hh)
  clear hW
  have LTZ := Lib.hid Z0.out.lt
  have LTY := Lib.hid Y0.out.lt
  go_wp2_with fail
  have CC := Lib.hid (code_later HC.out B0.out)
  (with_reducible refine (draw.new _ a len cap CC.out).mono ?_)
  rintro e wb ⟨rfl, hk, hs, hc⟩
  have HB := Lib.hid (keep_bel B0.out B0.out.size hk)
  obtain ⟨p, hp⟩ : ∃ p, w0.heap.size = p := ⟨_, rfl⟩
  have LP := Lib.hid (show w.heap.size < p ∧ w.heap.size + 1 < p ∧ p < wb.heap.size by have hZ := Z0.out.lt; have hY := Y0.out.lt; omega)
  rw [hp] at hk hs hc ⊢
  have Z1 := Lib.hid (bx_keep Z0.out hk (by have h1 := LP.out; omega))
  have Y1 := Lib.hid (bx_keep Y0.out hk (by have h1 := LP.out; omega))
  have P0 := Lib.hid hs
  have C1 := Lib.hid hc
  have CW := Lib.hid hc
  have K1 := Lib.hid (Keep.refl p wb)
  clear hk hs hc CC hp B0 Z0 Y0
  go_wp2_with fail
  (with_reducible refine (l17queue _ p a len cap C1.out).mono ?_)
  rintro e w2 ⟨A, n, c, es, d, rfl, hq, ho, hk, hc⟩
  have HQ := Lib.hid hq
  clear hq
  have SS2 := Lib.hid hk.size
  have K2 := Lib.hid (K1.out.trans hk)
  have C2 := Lib.hid (hc)
  have Z2 := Lib.hid (drk.bx_keep Z1.out hk (by have hlP := LP.out; have h0 := P0.out; have hs0 := LP.out; have hs1 := SS2.out; first | omega | (simp <;> omega)))
  have Y2 := Lib.hid (drk.bx_keep Y1.out hk (by have hlP := LP.out; have h0 := P0.out; have hs0 := LP.out; have hs1 := SS2.out; first | omega | (simp <;> omega)))
  clear hk hc K1 C1 Z1 Y1
  have O2 := Lib.hid ho
  clear ho
  go_upto_region 3 with fail
  obtain ⟨bq, hbb⟩ : ∃ b, w2.heap.size = b := ⟨_, rfl⟩
  generalize hW : w2.alloc (.cells #[.slice A n c, .int .i64 d] 26) = w3
  have LQ := Lib.hid (show wb.heap.size ≤ bq ∧ w.heap.size < bq ∧ w.heap.size + 1 < bq ∧ w2.heap.size ≤ bq by have h1 := K2.out.size; have h2Z := Z2.out.lt; have h2Y := Y2.out.lt; have h2O := O2.out.hi_; have h3 := hbb; omega)
  have Q3 := Lib.hid (show Bx 26 w3 bq #[.slice A n c, .int .i64 d] by rw [← hW, ← hbb]; exact Bx.made _ _ _)
  have hb : Below w2.heap.size w2 w3 := by rw [← hW]; exact below_box _ _
  (try rw [hbb])
  clear hW hbb
  have SS3 := Lib.hid hb.size
  have K3 := Lib.hid (drk.later K2.out K2.out.size hb)
  have C3 := Lib.hid (drk.cur_below C2.out hb)
  have Z3 := Lib.hid (Z2.out.below hb)
  have Y3 := Lib.hid (Y2.out.below hb)
  have O3 := Lib.hid (O2.out.below hb)
  clear hb K2 C2 Z2 Y2 O2
  have LWQ := Lib.hid Q3.out.lt
  refine reg.region_tail (drk.Dr p a len cap) 3 13 [some [], some [], some [(1, 11)], none, none] [(0, 10), (1, 11), (2, 12)]
    (fun w' => Keep p wb w' ∧ Cur w' p a len cap ∧ Bx 26 w' (w.heap.size) #[.slice none 0 0, .int .i64 0] ∧ Bx 28 w' (w.heap.size + 1) #[.int .i64 0, .int .i64 0, .int .i64 0, .slice none 0 0] ∧ Bx 26 w' (bq) #[.slice A n c, .int .i64 d] ∧ Oe msg w' wb.heap.size w2.heap.size A n c es ∧ True)
    (reg.rl [reg.is (.agg #[.slice A n c, .int .i64 d]), reg.is (.pointer (some ⟨p, 0, none⟩)), mrowK p (w.heap.size) a len cap, reg.free, reg.free])
    (by kernel_rfl) rfl (by kernel_rfl) (by kernel_rfl) rfl
    (fun w1 w2 hc hb => ⟨hc.1.trans hb.1, hb.2, drk.bx_keep hc.2.2.1 hb.1 (by have hlP := LP.out; have hlQ := LQ.out; have h0 := P0.out; have hs0 := LP.out; have hs1 := SS2.out; have hs2 := SS3.out; have hs3 := LWQ.out; first | omega | (simp <;> omega)), drk.bx_keep hc.2.2.2.1 hb.1 (by have hlP := LP.out; have hlQ := LQ.out; have h0 := P0.out; have hs0 := LP.out; have hs1 := SS2.out; have hs2 := SS3.out; have hs3 := LWQ.out; first | omega | (simp <;> omega)), drk.bx_keep hc.2.2.2.2.1 hb.1 (by have hlP := LP.out; have hlQ := LQ.out; have h0 := P0.out; have hs0 := LP.out; have hs1 := SS2.out; have hs2 := SS3.out; have hs3 := LWQ.out; first | omega | (simp <;> omega)), oe_keep hc.2.2.2.2.2.1 hb.1 (by have hlP := LP.out; have hlQ := LQ.out; have h0 := P0.out; have hs0 := LP.out; have hs1 := SS2.out; have hs2 := SS3.out; have hs3 := LWQ.out; first | omega | (simp <;> omega)), trivial⟩) (reg.rl_keep _) (⟨Keep.drew K3.out, show Cur w3.drew p a len cap from C3.out, Z3.out.same rfl, Y3.out.same rfl, Q3.out.same rfl, O3.out.same (Nat.le_refl _) (fun _ _ _ => rfl), trivial⟩) (by kernel_rfl) ⟨?_, ?_, ?_, trivial⟩ ?_
  · refine fun w8 hc  K hK => ?_
    (try simp only [Act.put, List.setIfInBounds_toArray, List.set_cons_zero, List.set_cons_succ])
    rw [if_pos (by rfl)]
    refine stw.wp_load_bx 26 _ rfl (bq) rfl 26 _ hc.2.2.2.2.1 Try.underlying26 rfl szQ ?_
    exact hK _ _ rfl ⟨Keep.refl _ _, hc.2.1⟩
  · refine fun w8 hc  K hK => ?_
    (try simp only [Act.put, List.setIfInBounds_toArray, List.set_cons_zero, List.set_cons_succ])
    go_simp
    exact hK (.pointer (some ⟨p, 0, none⟩)) _ rfl ⟨Keep.refl _ _, hc.2.1⟩
  · refine fun w8 hc v1 h1 K hK => ?_
    obtain rfl : v1 = .pointer (some ⟨p, 0, none⟩) := h1
    (try simp only [Act.put, List.setIfInBounds_toArray, List.set_cons_zero, List.set_cons_succ])
    go_simp
    have hpl := hc.2.1.lt
    have hql := hc.2.2.1.lt
    (with_reducible refine (l17any _ p a len cap hc.2.1).mono ?_)
    rintro e w3 ⟨x, A, n3, c3, rfl, hn, ho, hk, hcc⟩
    exact hK _ _ ⟨x, A, n3, c3, _, _, rfl, hn, hpl, (by omega), ho⟩ ⟨hk, hcc⟩
  refine fun wg4 hc v0 h0 v1 h1 v2 h2 => ?_
  obtain rfl : v0 = .agg #[.slice A n c, .int .i64 d] := h0
  obtain rfl : v1 = .pointer (some ⟨p, 0, none⟩) := h1
  obtain ⟨x2, A2, n2, c2, lo2, hi2, rfl, hn2, hp2, hB2, hO2⟩ := h2
  (try simp only [reg.Obs])
  (try simp only [Act.put, List.setIfInBounds_toArray, List.set_cons_zero, List.set_cons_succ])
  simp only [List.drop_succ_cons, List.drop_zero]
  have K4 := Lib.hid hc.1
  have C4 := Lib.hid hc.2.1
  have Z4 := Lib.hid hc.2.2.1
  have Y4 := Lib.hid hc.2.2.2.1
  have Q4 := Lib.hid hc.2.2.2.2.1
  have O4 := Lib.hid hc.2.2.2.2.2.1
  clear hc K3 C3 Z3 Y3 Q3 O3
  have M4 := Lib.hid hO2
  have HN2 := Lib.hid hn2
  have HP2 := Lib.hid hp2
  have HB2 := Lib.hid hB2
  have HH2 := Lib.hid hO2.hi_
  clear hO2 hn2 hp2 hB2
  have B4 := Lib.hid (keep_low HB.out K4.out (by have h1 := LP.out; omega) (by have h1 := LP.out; have h2 := HB.out.size; omega))
  clear K4 C4
  have HBS := Lib.hid HB.out.size
  refine stw.list_store rfl 26 _ _ rfl (w.heap.size) #[.slice A n c, .int .i64 d] rfl rfl 26 _ Z4.out rfl szQ (oneQ _ _ _ _) ?_
  intro wz5 hz
  (try simp only [Act.put])
  have B5 := Lib.hid (hz.on B4.out (by have hlP := LP.out; have hlQ := LQ.out; have hs0 := LP.out; have hs1 := SS2.out; have hs2 := SS3.out; have hs3 := LWQ.out; have hs4 := HP2.out; have hs5 := HB2.out; have hs6 := HH2.out; have hs7 := HBS.out; first | omega | (simp <;> omega)))
  have Z5 := Lib.hid (hz.box)
  have Y5 := Lib.hid (hz.keep Y4.out (by have hlP := LP.out; have hlQ := LQ.out; have hs0 := LP.out; have hs1 := SS2.out; have hs2 := SS3.out; have hs3 := LWQ.out; have hs4 := HP2.out; have hs5 := HB2.out; have hs6 := HH2.out; have hs7 := HBS.out; first | omega | (simp <;> omega)))
  have Q5 := Lib.hid (hz.keep Q4.out (by have hlP := LP.out; have hlQ := LQ.out; have hs0 := LP.out; have hs1 := SS2.out; have hs2 := SS3.out; have hs3 := LWQ.out; have hs4 := HP2.out; have hs5 := HB2.out; have hs6 := HH2.out; have hs7 := HBS.out; first | omega | (simp <;> omega)))
  have O5 := Lib.hid (rgp.oe_set O4.out Z4.out (by decide) (by decide) hz.below.size (fun k hk => hz.other k hk))
  have M5 := Lib.hid (M4.out.same hz.below.size fun b h1 h2 => hz.other b (by have hlP := LP.out; have hlQ := LQ.out; have hs0 := LP.out; have hs1 := SS2.out; have hs2 := SS3.out; have hs3 := LWQ.out; have hs4 := HP2.out; have hs5 := HB2.out; have hs6 := HH2.out; have hs7 := HBS.out; first | omega | (simp <;> omega)))
  clear hz B4 Z4 Y4 Q4 O4 M4
  refine stw.list_store rfl 28 _ _ rfl (w.heap.size + 1) #[.int .i64 x2.1, .int .i64 x2.2.1, .int .i64 x2.2.2.1, .slice A2 n2 c2] rfl rfl 28 _ Y5.out rfl szM (oneM _ _ _ _ _ _) ?_
  intro wz6 hz
  (try simp only [Act.put])
  have B6 := Lib.hid (hz.on B5.out (by have hlP := LP.out; have hlQ := LQ.out; have hs0 := LP.out; have hs1 := SS2.out; have hs2 := SS3.out; have hs3 := LWQ.out; have hs4 := HP2.out; have hs5 := HB2.out; have hs6 := HH2.out; have hs7 := HBS.out; first | omega | (simp <;> omega)))
  have Z6 := Lib.hid (hz.keep Z5.out (by have hlP := LP.out; have hlQ := LQ.out; have hs0 := LP.out; have hs1 := SS2.out; have hs2 := SS3.out; have hs3 := LWQ.out; have hs4 := HP2.out; have hs5 := HB2.out; have hs6 := HH2.out; have hs7 := HBS.out; first | omega | (simp <;> omega)))
  have Y6 := Lib.hid (hz.box)
  have Q6 := Lib.hid (hz.keep Q5.out (by have hlP := LP.out; have hlQ := LQ.out; have hs0 := LP.out; have hs1 := SS2.out; have hs2 := SS3.out; have hs3 := LWQ.out; have hs4 := HP2.out; have hs5 := HB2.out; have hs6 := HH2.out; have hs7 := HBS.out; first | omega | (simp <;> omega)))
  have O6 := Lib.hid (O5.out.same hz.below.size fun b h1 h2 => hz.other b (by have hlP := LP.out; have hlQ := LQ.out; have hs0 := LP.out; have hs1 := SS2.out; have hs2 := SS3.out; have hs3 := LWQ.out; have hs4 := HP2.out; have hs5 := HB2.out; have hs6 := HH2.out; have hs7 := HBS.out; first | omega | (simp <;> omega)))
  have M6 := Lib.hid (M5.out.same hz.below.size fun b h1 h2 => hz.other b (by have hlP := LP.out; have hlQ := LQ.out; have hs0 := LP.out; have hs1 := SS2.out; have hs2 := SS3.out; have hs3 := LWQ.out; have hs4 := HP2.out; have hs5 := HB2.out; have hs6 := HH2.out; have hs7 := HBS.out; first | omega | (simp <;> omega)))
  clear hz B5 Z5 Y5 Q5 O5 M5
  go_wp2_with fail
  (try simp only [Exit.inBlock, Exit.then])
  refine bodyPost_ret (v := .tuple #[qV A n c d, mV x2 A2 n2 c2]) ?_ rfl ?_
  · rw [results_cc rfl]
    exact back_cc Z6.out Try.underlying26 rfl szQ Y6.out Try.underlying28 rfl szM
  · exact ⟨A, n, c, es, d, x2, A2, n2, c2, _, _, _, _, rfl, HQ.out, O6.out, HN2.out, M6.out, (by have h1 := LP.out; have h2 := HB.out.size; omega), HB2.out, B6.out⟩
end Go.Proofs.Ytjmenbpalihnnaa.mq
end

section
namespace Go.Proofs
open Go.Shelf
def Try.laysnb115_ren : Go.Shelf.Ren := ⟨fun | 115 => 112 | n => n, fun | 37 => 22 | 4 => 4 | 9 => 9 | 5 => 5 | n => n, fun | n => n⟩
theorem Try.laysnb115 : Go.Proofs.Lays.nb115 Try.prog Try.laysnb115_ren := {
  mixed := by kernel_rfl
  f115 := Try.func112.trans (congrArg some (by kernel_rfl))
  t4 := Try.underlying4
  a4 := Try.isAgg4
  z4 := Try.sizeOf4
  v4 := Try.zeroValue4
  t9 := Try.underlying9
  a9 := Try.isAgg9
  z9 := Try.sizeOf9
  v9 := Try.zeroValue9
  t37 := Try.underlying22
  a37 := Try.isAgg22
  z37 := Try.sizeOf22
  v37 := Try.zeroValue22
  t5 := Try.underlying5
  a5 := Try.isAgg5
  z5 := Try.sizeOf5
  v5 := Try.zeroValue5 }
theorem Try.bytes_Equal_all (p1 p2 : Option Addr) (n c m d : Nat) (xs ys : List Int) (w : World) (hx : xs.length = n) (hy : ys.length = m) (h1 : Lib.BytesIn w p1 n xs) (h2 : Lib.BytesIn w p2 m ys) :
    Calls Try.prog 112 #[.slice p1 n c, .slice p2 m d] w fun e w' => e = .returned (.bool (Lib.bytesOf xs == Lib.bytesOf ys)) ∧ w' = w := Any.bytes_Equal_all Try.laysnb115 p1 p2 n c m d xs ys w hx hy h1 h2
end Go.Proofs
end

section
namespace Go.Proofs.Ytjmenbpalihnnaa.eqs
open Go.RowKit sl harn

theorem bytesIn {w : World} {lo hi n cap : Nat} {A : Option Addr} {zs : List Int} (h : Rd .u8 w lo hi A n cap zs) : Lib.BytesIn w A n zs := fun hn => by
  obtain ⟨b, off, e, _, _, hc⟩ := h.2.2.2.2.2 hn
  exact ⟨b, off, e, hc⟩
theorem bytesOf_inj : ∀ {xs ys : List Int}, Wf .u8 xs → Wf .u8 ys → Lib.bytesOf xs = Lib.bytesOf ys → xs = ys
  | [], [], _, _, _ => rfl
  | [], _ :: _, _, _, h => by simp [Lib.bytesOf] at h
  | _ :: _, [], _, _, h => by simp [Lib.bytesOf] at h
  | x :: xs, y :: ys, hx, hy, h => by
    simp only [Lib.bytesOf, List.map_cons, List.cons.injEq] at h
    have h1 := hx.u8 x (List.mem_cons_self ..)
    have h2 := hy.u8 y (List.mem_cons_self ..)
    have e : x = y := by
      have := congrArg UInt8.toNat h.1
      simp at this
      omega
    rw [e, bytesOf_inj (xs := xs) (ys := ys) (fun z hz => hx z (List.mem_cons_of_mem _ hz)) (fun z hz => hy z (List.mem_cons_of_mem _ hz)) h.2]
theorem bytesOf_eq {xs ys : List Int} (hx : Wf .u8 xs) (hy : Wf .u8 ys) : (Lib.bytesOf xs == Lib.bytesOf ys) = decide (xs = ys) := by
  by_cases h : xs = ys
  · subst h; simp
  · have : ¬ Lib.bytesOf xs = Lib.bytesOf ys := fun e => h (bytesOf_inj hx hy e)
    simp [h, this]
theorem ret_bool {a b : Bool} (h : a = b) : Ending.returned (.bool a) = .returned (.bool b) := by rw [h]

theorem implEqB (zs ys : List Int) (lo hi lo2 hi2 : Nat) (A A2 : Option Addr) (n cap n2 cap2 : Nat) (w : World) (h : Rd .u8 w lo hi A n cap zs) (h2 : Rd .u8 w lo2 hi2 A2 n2 cap2 ys) :
    Calls Try.prog 104 #[.slice A n cap, .slice A2 n2 cap2] w (EqPost zs ys w) := by
  have hc := Try.bytes_Equal_all A A2 n cap n2 cap2 zs ys w h.len h2.len (bytesIn h) (bytesIn h2)
  rw [bytesOf_eq h.wf h2.wf] at hc
  obtain ⟨b, hb⟩ : ∃ b, decide (zs = ys) = b := ⟨_, rfl⟩
  rw [hb] at hc
  have HB := Lib.hid hb
  have HC := Lib.hid hc
  clear h h2 hb hc
  go_enter Try.func104, Try.ntmps104
  go_wp2_with (go_at_call 112; refine HC.out.mono ?_; rintro e w1 ⟨rfl, rfl⟩)
  go_ret
  exact ⟨ret_bool HB.out.symm, Below.refl _ _⟩
theorem specEqB (zs ys : List Int) (lo hi lo2 hi2 : Nat) (A A2 : Option Addr) (n cap n2 cap2 : Nat) (w : World) (h : Rd .u8 w lo hi A n cap zs) (h2 : Rd .u8 w lo2 hi2 A2 n2 cap2 ys) :
    Calls Try.prog 98 #[.slice A n cap, .slice A2 n2 cap2] w (EqPost zs ys w) := by
  have k1 := (bytesIn h).convert h.len cap 22 5 9 Try.underlying22 Try.underlying5 Try.underlying9
  have k2 := (bytesIn h2).convert h2.len cap2 22 5 9 Try.underlying22 Try.underlying5 Try.underlying9
  have HB : Hid (((strOfNums zs).toList == (strOfNums ys).toList) = decide (zs = ys)) := by
    unfold Hid
    rw [Lib.strOfNums_toList, Lib.strOfNums_toList]; exact bytesOf_eq h.wf h2.wf
  obtain ⟨s1, hs1⟩ : ∃ s, strOfNums zs = s := ⟨_, rfl⟩
  obtain ⟨s2, hs2⟩ : ∃ s, strOfNums ys = s := ⟨_, rfl⟩
  rw [hs1] at k1 HB
  rw [hs2] at k2 HB
  clear h h2 hs1 hs2
  go_enter Try.func98, Try.ntmps98
  go_wp2
  go_ret
  exact ⟨ret_bool HB.out, Below.refl _ _⟩
theorem EqPost_parts {zs ys : List Int} {b : Bool} (ht : decide (zs = ys) = b) {w : World} {e : Ending} {w' : World} (h : EqPost zs ys w e w') : e = .returned (.bool b) ∧ Below w.heap.size w w' := by
  unfold EqPost at h; rw [ht] at h; exact h
end Go.Proofs.Ytjmenbpalihnnaa.eqs
end

section
namespace Go.Proofs.Ytjmenbpalihnnaa.mq
open Go.RowKit sl harn bx mrw
set_option linter.unusedVariables false
set_option linter.unusedSimpArgs false

theorem msg_eq (x y : Msg) (v : Bool) (h1 : x.1 = y.1) (h2 : x.2.1 = y.2.1) (h3 : x.2.2.1 = y.2.2.1) (h4 : decide (x.2.2.2 = y.2.2.2) = v) : decide (x = y) = v := by
  obtain ⟨a, b, c, d⟩ := x
  obtain ⟨a2, b2, c2, d2⟩ := y
  simp only at h1 h2 h3 h4
  subst h1 h2 h3
  rw [← h4]
  simp
theorem msg_ne1 (x y : Msg) (h : ¬ x.1 = y.1) : decide (x = y) = false := decide_eq_false fun e => h (by rw [e])
theorem msg_ne2 (x y : Msg) (h : ¬ x.2.1 = y.2.1) : decide (x = y) = false := decide_eq_false fun e => h (by rw [e])
theorem msg_ne3 (x y : Msg) (h : ¬ x.2.2.1 = y.2.2.1) : decide (x = y) = false := decide_eq_false fun e => h (by rw [e])
theorem ms_ne {a b : List Msg} {k : Nat} {x y : Msg} (h1 : a[k]? = some x) (h2 : b[k]? = some y) (h : decide (x = y) = false) : decide (a = b) = false := decide_eq_false fun e => (of_decide_eq_false h) (by rw [e] at h1; exact Option.some.inj (h1.symm.trans h2))
theorem ms_step {a b : List Msg} {k : Nat} {x y : Msg} (h0 : a.take k = b.take k) (h1 : a[k]? = some x) (h2 : b[k]? = some y) (h : decide (x = y) = true) : a.take (k + 1) = b.take (k + 1) := by
  rw [take_snoc h1, take_snoc h2, h0, of_decide_eq_true h]
theorem ms_all {a b : List Msg} {n : Nat} (ha : a.length = n) (hb : b.length = n) (h : a.take n = b.take n) : decide (a = b) = true := by
  rw [List.take_of_length_le (by omega), List.take_of_length_le (by omega)] at h
  exact decide_eq_true h
theorem ms_len {a b : List Msg} {n m : Nat} (ha : a.length = n) (hb : b.length = m) (h : ¬ n = m) : decide (a = b) = false := decide_eq_false fun e => h (by rw [← ha, ← hb, e])
theorem q_ne {a b : List Msg} {d e : Int} (h : ¬ d = e) : (decide (a = b) && decide (d = e)) = false := by rw [decide_eq_false h, Bool.and_false]
theorem q_eq {a b : List Msg} {d e : Int} {v : Bool} (h : d = e) (hv : decide (a = b) = v) : (decide (a = b) && decide (d = e)) = v := by rw [decide_eq_true h, Bool.and_true, hv]
set_option maxRecDepth 100000 in
set_option maxHeartbeats 4000000 in
theorem implMe (x y : Msg) (A : Option Addr) (n c : Nat) (A' : Option Addr) (n' c' : Nat) (lo hi lo2 hi2 : Nat) (w : World) (h : Rd .u8 w lo hi A n c x.2.2.2) (h2 : Rd .u8 w lo2 hi2 A' n' c' y.2.2.2) :
    Calls Try.prog 69 #[mV x A n c, mV y A' n' c'] w (BPost (decide (x = y)) w) := by
  have PW := Lib.hid h
  have RW := Lib.hid h2
  have qa := h.hi_
  have qb := h2.hi_
  clear h h2
  go_enter Try.func69, Try.ntmps69
  go_upto_region 1 with fail
  obtain ⟨w0, hW⟩ : ∃ w0, (w.alloc (.cells #[.int .i64 x.1, .int .i64 x.2.1, .int .i64 x.2.2.1, .slice A n c] 28)).alloc (.cells #[.int .i64 y.1, .int .i64 y.2.1, .int .i64 y.2.2.1, .slice A' n' c'] 28) = w0 := ⟨_, rfl⟩
  rw [hW]
  have B0 := Lib.hid (show Below w.heap.size w w0 by rw [← hW]; exact ((Below.refl _ _).alloc (by simp <;> omega) _).alloc (by simp <;> omega) _)
  have X0 := Lib.hid (show Bx 28 w0 (w.heap.size) #[.int .i64 x.1, .int .i64 x.2.1, .int .i64 x.2.2.1, .slice A n c] by
      rw [← hW]
      have hh := Bx.made 28 w #[.int .i64 x.1, .int .i64 x.2.1, .int .i64 x.2.2.1, .slice A n c]
      exact (hh.below (below_box _ _)))
  have Y0 := Lib.hid (show Bx 28 w0 (w.heap.size + 1) #[.int .i64 y.1, .int .i64 y.2.1, .int .i64 y.2.2.1, .slice A' n' c'] by
      rw [← hW]
      have hh : Bx 28 ((w.alloc (.cells #[.int .i64 x.1, .int .i64 x.2.1, .int .i64 x.2.2.1, .slice A n c] 28)).alloc (.cells #[.int .i64 y.1, .int .i64 y.2.1, .int .i64 y.2.2.1, .slice A' n' c'] 28)) (w.heap.size + 1) #[.int .i64 y.1, .int .i64 y.2.1, .int .i64 y.2.2.1, .slice A' n' c'] := by have hh := Bx.made 28 (w.alloc (.cells #[.int .i64 x.1, .int .i64 x.2.1, .int .i64 x.2.2.1, .slice A n c] 28)) #[.int .i64 y.1, .int .i64 y.2.1, .int .i64 y.2.2.1, .slice A' n' c']; simpa using hh
      exact hh)
  have P0 := Lib.hid (show Rd .u8 w0 (lo) (hi) A n c x.2.2.2 by rw [← hW]; exact ((PW.out.below (below_box _ _)).below (below_box _ _)))
  have R0 := Lib.hid (show Rd .u8 w0 (lo2) (hi2) A' n' c' y.2.2.2 by rw [← hW]; exact ((RW.out.below (below_box _ _)).below (below_box _ _)))
  clear hW
  have LTX := Lib.hid X0.out.lt
  have LTY := Lib.hid Y0.out.lt
  by_cases h1 : x.1 = y.1
  · by_cases h2 : x.2.1 = y.2.1
    · by_cases h3 : x.2.2.1 = y.2.2.1
      · have cX0 : w0.cell? ⟨w.heap.size, 0, none⟩ = some (.int .i64 x.1) := X0.out.cell 0
        have cX1 : w0.cell? ⟨w.heap.size, 1, none⟩ = some (.int .i64 x.2.1) := X0.out.cell 1
        have cX2 : w0.cell? ⟨w.heap.size, 2, none⟩ = some (.int .i64 x.2.2.1) := X0.out.cell 2
        have cX3 : w0.cell? ⟨w.heap.size, 3, none⟩ = some (.slice A n c) := X0.out.cell 3
        have cY0 : w0.cell? ⟨w.heap.size + 1, 0, none⟩ = some (.int .i64 y.1) := Y0.out.cell 0
        have cY1 : w0.cell? ⟨w.heap.size + 1, 1, none⟩ = some (.int .i64 y.2.1) := Y0.out.cell 1
        have cY2 : w0.cell? ⟨w.heap.size + 1, 2, none⟩ = some (.int .i64 y.2.2.1) := Y0.out.cell 2
        have cY3 : w0.cell? ⟨w.heap.size + 1, 3, none⟩ = some (.slice A' n' c') := Y0.out.cell 3
        go_wp2_with fail
        (with_reducible refine (eqs.implEqB x.2.2.2 y.2.2.2 _ _ _ _ A A' n c n' c' _ P0.out R0.out).mono ?_)
        rintro e w1 ⟨rfl, hb⟩
        have B1 := Lib.hid (B0.out.trans (hb.mono B0.out.size))
        clear hb
        obtain ⟨v, hv⟩ : ∃ v, decide (x.2.2.2 = y.2.2.2) = v := ⟨_, rfl⟩
        have HE := Lib.hid (msg_eq x y v h1 h2 h3 hv)
        rw [hv]
        clear hv
        go_wp2_with fail
        go_ret
        exact ⟨by rw [HE.out]; try rfl, B1.out⟩
      · have cX0 : w0.cell? ⟨w.heap.size, 0, none⟩ = some (.int .i64 x.1) := X0.out.cell 0
        have cX1 : w0.cell? ⟨w.heap.size, 1, none⟩ = some (.int .i64 x.2.1) := X0.out.cell 1
        have cX2 : w0.cell? ⟨w.heap.size, 2, none⟩ = some (.int .i64 x.2.2.1) := X0.out.cell 2
        have cX3 : w0.cell? ⟨w.heap.size, 3, none⟩ = some (.slice A n c) := X0.out.cell 3
        have cY0 : w0.cell? ⟨w.heap.size + 1, 0, none⟩ = some (.int .i64 y.1) := Y0.out.cell 0
        have cY1 : w0.cell? ⟨w.heap.size + 1, 1, none⟩ = some (.int .i64 y.2.1) := Y0.out.cell 1
        have cY2 : w0.cell? ⟨w.heap.size + 1, 2, none⟩ = some (.int .i64 y.2.2.1) := Y0.out.cell 2
        have cY3 : w0.cell? ⟨w.heap.size + 1, 3, none⟩ = some (.slice A' n' c') := Y0.out.cell 3
        have HE := Lib.hid (msg_ne3 x y h3)
        go_wp2_with fail
        go_ret
        exact ⟨by rw [HE.out]; try rfl, B0.out⟩
    · have cX0 : w0.cell? ⟨w.heap.size, 0, none⟩ = some (.int .i64 x.1) := X0.out.cell 0
      have cX1 : w0.cell? ⟨w.heap.size, 1, none⟩ = some (.int .i64 x.2.1) := X0.out.cell 1
      have cX2 : w0.cell? ⟨w.heap.size, 2, none⟩ = some (.int .i64 x.2.2.1) := X0.out.cell 2
      have cX3 : w0.cell? ⟨w.heap.size, 3, none⟩ = some (.slice A n c) := X0.out.cell 3
      have cY0 : w0.cell? ⟨w.heap.size + 1, 0, none⟩ = some (.int .i64 y.1) := Y0.out.cell 0
      have cY1 : w0.cell? ⟨w.heap.size + 1, 1, none⟩ = some (.int .i64 y.2.1) := Y0.out.cell 1
      have cY2 : w0.cell? ⟨w.heap.size + 1, 2, none⟩ = some (.int .i64 y.2.2.1) := Y0.out.cell 2
      have cY3 : w0.cell? ⟨w.heap.size + 1, 3, none⟩ = some (.slice A' n' c') := Y0.out.cell 3
      have HE := Lib.hid (msg_ne2 x y h2)
      go_wp2_with fail
      go_ret
      exact ⟨by rw [HE.out]; try rfl, B0.out⟩
  · have cX0 : w0.cell? ⟨w.heap.size, 0, none⟩ = some (.int .i64 x.1) := X0.out.cell 0
    have cX1 : w0.cell? ⟨w.heap.size, 1, none⟩ = some (.int .i64 x.2.1) := X0.out.cell 1
    have cX2 : w0.cell? ⟨w.heap.size, 2, none⟩ = some (.int .i64 x.2.2.1) := X0.out.cell 2
    have cX3 : w0.cell? ⟨w.heap.size, 3, none⟩ = some (.slice A n c) := X0.out.cell 3
    have cY0 : w0.cell? ⟨w.heap.size + 1, 0, none⟩ = some (.int .i64 y.1) := Y0.out.cell 0
    have cY1 : w0.cell? ⟨w.heap.size + 1, 1, none⟩ = some (.int .i64 y.2.1) := Y0.out.cell 1
    have cY2 : w0.cell? ⟨w.heap.size + 1, 2, none⟩ = some (.int .i64 y.2.2.1) := Y0.out.cell 2
    have cY3 : w0.cell? ⟨w.heap.size + 1, 3, none⟩ = some (.slice A' n' c') := Y0.out.cell 3
    have HE := Lib.hid (msg_ne1 x y h1)
    go_wp2_with fail
    go_ret
    exact ⟨by rw [HE.out]; try rfl, B0.out⟩
set_option maxRecDepth 100000 in
set_option maxHeartbeats 4000000 in
theorem eqFn (ms ms2 : List Msg) (A : Option Addr) (n cap lo hi : Nat) (A2 : Option Addr) (n2 cap2 lo2 hi2 : Nat) (w : World) (h : Rq msg w lo hi A n cap ms) (h2 : Rq msg w lo2 hi2 A2 n2 cap2 ms2) :
    Calls Try.prog 68 #[.slice A n cap, .slice A2 n2 cap2, .func (.func 69) #[] #[]] w (BPost (decide (ms = ms2)) w) := by
  have QW := Lib.hid h
  have RW := Lib.hid h2
  have qa := h.hi_
  have qb := h2.hi_
  have qc := h.cap_
  have qd := h2.cap_
  have HL1 := Lib.hid h.len
  have HL2 := Lib.hid h2.len
  clear h h2
  go_enter Try.func68, Try.ntmps68
  by_cases hne : n = n2
  · subst hne
    have B0 := Lib.hid (Below.refl w.heap.size w)
    have Q0 := QW
    have R0 := RW
    go_wp2_with fail
    go_loopw [17] (fun v0 wr => ∃ (k : Nat), v0 = .int .i64 ((k : Int)) ∧ (k ≤ n) ∧ (ms.take k = ms2.take k) ∧ Below w.heap.size w wr ∧ Rq msg wr lo hi A n cap ms ∧ Rq msg wr lo2 hi2 A2 n cap2 ms2) (fun i _ => n - (intOf i).toNat)
    case atStart => exact ⟨0, rfl, by omega, by simp, B0.out, Q0.out, R0.out⟩
    case round =>
      obtain ⟨k, rfl, ghk, ghe, gB1, gQ1, gR1⟩ := hrel
      have B1 := Lib.hid gB1
      have Q1 := Lib.hid gQ1
      have R1 := Lib.hid gR1
      have hk := Lib.hid ghk
      have he := Lib.hid ghe
      clear gB1 gQ1 gR1 ghk ghe
      have hk := hk.out
      by_cases hlt : k < n
      · have hlt2 : (k : Int) < n := by omega
        obtain ⟨b, off, y, hA, hy, h1, h2, A', n', c', hd, ce0, ce1, ce2, ce3⟩ := at_ Q1.out hlt
        have HY := Lib.hid hy
        have D1 := Lib.hid hd
        clear hy hd
        subst hA
        go_upto_region 6 with fail
        clear ce0 ce1 ce2 ce3
        obtain ⟨bv, hbb⟩ : ∃ b, wr.heap.size = b := ⟨_, rfl⟩
        generalize hW : wr.alloc (.cells #[.int .i64 y.1, .int .i64 y.2.1, .int .i64 y.2.2.1, .slice A' n' c'] 28) = w2
        have LV := Lib.hid (show w.heap.size ≤ bv ∧ hi ≤ bv ∧ hi2 ≤ bv ∧ hi ≤ bv by have h1 := B1.out.size; have h2Q := Q1.out.hi_; have h2R := R1.out.hi_; have h2D := D1.out.hi_; have h3 := hbb; omega)
        have V2 := Lib.hid (show Bx 28 w2 bv #[.int .i64 y.1, .int .i64 y.2.1, .int .i64 y.2.2.1, .slice A' n' c'] by rw [← hW, ← hbb]; exact Bx.made _ _ _)
        have hb : Below wr.heap.size wr w2 := by rw [← hW]; exact below_box _ _
        (try rw [hbb])
        clear hW hbb
        have SS2 := Lib.hid hb.size
        have B2 := Lib.hid (B1.out.trans (hb.mono B1.out.size))
        have Q2 := Lib.hid (Q1.out.below hb)
        have R2 := Lib.hid (R1.out.below hb)
        have D2 := Lib.hid (D1.out.below hb)
        clear hb B1 Q1 R1 D1
        have LWV := Lib.hid V2.out.lt
        obtain ⟨bx, offx, x, hAx, hyx, h1x, h2x, Ax', nx', cx', hdx, ce0x, ce1x, ce2x, ce3x⟩ := at_ R2.out hlt
        have HYx := Lib.hid hyx
        have E2 := Lib.hid hdx
        clear hyx hdx
        subst hAx
        go_upto_region 7 with fail
        clear ce0x ce1x ce2x ce3x
        obtain ⟨bu, hbb⟩ : ∃ b, w2.heap.size = b := ⟨_, rfl⟩
        generalize hW : w2.alloc (.cells #[.int .i64 x.1, .int .i64 x.2.1, .int .i64 x.2.2.1, .slice Ax' nx' cx'] 28) = w3
        have LU := Lib.hid (show w.heap.size ≤ bu ∧ bv < bu ∧ hi ≤ bu ∧ hi2 ≤ bu ∧ hi ≤ bu ∧ hi2 ≤ bu by have h1 := B2.out.size; have h2V := V2.out.lt; have h2Q := Q2.out.hi_; have h2R := R2.out.hi_; have h2D := D2.out.hi_; have h2E := E2.out.hi_; have h3 := hbb; omega)
        have U3 := Lib.hid (show Bx 28 w3 bu #[.int .i64 x.1, .int .i64 x.2.1, .int .i64 x.2.2.1, .slice Ax' nx' cx'] by rw [← hW, ← hbb]; exact Bx.made _ _ _)
        have hb : Below w2.heap.size w2 w3 := by rw [← hW]; exact below_box _ _
        (try rw [hbb])
        clear hW hbb
        have SS3 := Lib.hid hb.size
        have B3 := Lib.hid (B2.out.trans (hb.mono B2.out.size))
        have V3 := Lib.hid (V2.out.below hb)
        have Q3 := Lib.hid (Q2.out.below hb)
        have R3 := Lib.hid (R2.out.below hb)
        have D3 := Lib.hid (D2.out.below hb)
        have E3 := Lib.hid (E2.out.below hb)
        clear hb B2 V2 Q2 R2 D2 E2
        have LWU := Lib.hid U3.out.lt
        have cV0 : w3.cell? ⟨bv, 0, none⟩ = some (.int .i64 y.1) := V3.out.cell 0
        have cV1 : w3.cell? ⟨bv, 1, none⟩ = some (.int .i64 y.2.1) := V3.out.cell 1
        have cV2 : w3.cell? ⟨bv, 2, none⟩ = some (.int .i64 y.2.2.1) := V3.out.cell 2
        have cV3 : w3.cell? ⟨bv, 3, none⟩ = some (.slice A' n' c') := V3.out.cell 3
        have cU0 : w3.cell? ⟨bu, 0, none⟩ = some (.int .i64 x.1) := U3.out.cell 0
        have cU1 : w3.cell? ⟨bu, 1, none⟩ = some (.int .i64 x.2.1) := U3.out.cell 1
        have cU2 : w3.cell? ⟨bu, 2, none⟩ = some (.int .i64 x.2.2.1) := U3.out.cell 2
        have cU3 : w3.cell? ⟨bu, 3, none⟩ = some (.slice Ax' nx' cx') := U3.out.cell 3
        go_wp2_with fail
        clear cV0 cV1 cV2 cV3 cU0 cU1 cU2 cU3
        obtain ⟨v, hv⟩ : ∃ v, decide (y = x) = v := ⟨_, rfl⟩
        have HV := Lib.hid hv
        clear hv
        (with_reducible refine (implMe y x A' n' c' Ax' nx' cx' _ _ _ _ _ D3.out E3.out).mono ?_)
        rintro e w4 hp
        obtain ⟨rfl, hb⟩ := b_parts HV.out hp
        clear hp
        have SS4 := Lib.hid hb.size
        have B4 := Lib.hid (B3.out.trans (hb.mono B3.out.size))
        have V4 := Lib.hid (V3.out.below hb)
        have U4 := Lib.hid (U3.out.below hb)
        have Q4 := Lib.hid (Q3.out.below hb)
        have R4 := Lib.hid (R3.out.below hb)
        have D4 := Lib.hid (D3.out.below hb)
        have E4 := Lib.hid (E3.out.below hb)
        clear hb  B3 V3 U3 Q3 R3 D3 E3
        cases v with
        | true =>
          have HT := Lib.hid (ms_step he.out HY.out HYx.out HV.out)
          go_wp2_with fail
          go_roundw
          case rel => exact ⟨k + 1, by go_num, by omega, HT.out, B4.out, Q4.out, R4.out⟩
          case measure => simp [intOf]; omega
        | false =>
          have HE := Lib.hid (ms_ne HY.out HYx.out HV.out)
          go_wp2_with fail
          go_ret
          exact ⟨by rw [HE.out]; try rfl, B4.out⟩
      · have hlt2 : ¬ (k : Int) < n := by omega
        obtain rfl : n = k := by omega
        have HE := Lib.hid (ms_all HL1.out HL2.out he.out)
        go_wp2_with fail
        go_ret
        exact ⟨by rw [HE.out]; try rfl, B1.out⟩
  · have hn2 : ¬ (n : Int) = (n2 : Int) := by omega
    have HE := Lib.hid (ms_len HL1.out HL2.out hne)
    go_wp2_with fail
    go_ret
    exact ⟨by rw [HE.out]; try rfl, Below.refl _ _⟩
set_option maxRecDepth 100000 in
set_option maxHeartbeats 4000000 in
theorem implEq (ms ms2 : List Msg) (d d2 : Int) (A : Option Addr) (n cap lo hi : Nat) (A2 : Option Addr) (n2 cap2 lo2 hi2 : Nat) (w : World) (h : Rq msg w lo hi A n cap ms) (h2 : Rq msg w lo2 hi2 A2 n2 cap2 ms2) :
    Calls Try.prog 17 #[qV A n cap d, qV A2 n2 cap2 d2] w (BPost (decide (ms = ms2) && decide (d = d2)) w) := by
  have HB := Lib.hid (below_box2 w (.cells #[.slice A n cap, .int .i64 d] 26) (.cells #[.slice A2 n2 cap2, .int .i64 d2] 26))
  have HR := Lib.hid (h.below HB.out)
  have HS := Lib.hid (h2.below HB.out)
  clear h h2
  obtain ⟨r, hr⟩ : ∃ r, (decide (ms = ms2) && decide (d = d2)) = r := ⟨_, rfl⟩
  rw [hr]
  go_enter Try.func17, Try.ntmps17
  by_cases hd : d = d2
  · obtain ⟨v, hv⟩ : ∃ v, decide (ms = ms2) = v := ⟨_, rfl⟩
    have HE := Lib.hid (show r = v by rw [← hr]; exact q_eq hd hv)
    have HV := Lib.hid hv
    clear hr hv
    subst hd
    go_wp2_with fail
    (with_reducible refine (eqFn ms ms2 A n cap _ _ A2 n2 cap2 _ _ _ HR.out HS.out).mono ?_)
    rintro e w1 hp
    obtain ⟨rfl, hb⟩ := b_parts HV.out hp
    have B1 := Lib.hid (HB.out.trans (hb.mono HB.out.size))
    clear hb hp
    go_wp2_with fail
    go_ret
    exact ⟨by rw [HE.out]; try rfl, B1.out⟩
  · have HE := Lib.hid (show r = false by rw [← hr]; exact q_ne hd)
    clear hr
    go_wp2_with fail
    go_ret
    exact ⟨by rw [HE.out]; try rfl, HB.out⟩
end Go.Proofs.Ytjmenbpalihnnaa.mq
end

section
namespace Go.Proofs.Ytjmenbpalihnnaa.mq
open Go.RowKit sl harn bx mrw
set_option linter.unusedVariables false

theorem cnt_take (x : Int) (ms : List Msg) : ∀ k, k ≤ ms.length → cnt x ms k = (ms.take k).countP (fun m => decide (m.2.1 = x))
  | 0, _ => by simp [cnt]
  | k + 1, hk => by
    have hin : k < ms.length := by omega
    rw [take_snoc (List.getElem?_eq_getElem hin), List.countP_append, cnt, getD_of (List.getElem?_eq_getElem hin), cnt_take x ms k (by omega)]
    by_cases h : (ms[k]).2.1 = x
    · rw [if_pos h]; simp [h]
    · rw [if_neg h]; simp [h]
theorem cnt_all (x : Int) {ms : List Msg} {n : Nat} (h : ms.length = n) : cnt x ms n = ms.countP (fun m => decide (m.2.1 = x)) := by
  rw [cnt_take x ms n (by omega), List.take_of_length_le (by omega)]
theorem countP_erase {α : Type} (p : α → Bool) (l : List α) (i : Nat) (h : i < l.length) : (l.eraseIdx i).countP p + (if p l[i] then 1 else 0) = l.countP p := by
  have e : l.take i ++ l[i] :: l.drop (i + 1) = l := by
    rw [← List.drop_eq_getElem_cons h]; exact List.take_append_drop i l
  have h2 : l.countP p = (l.take i).countP p + ((l.drop (i + 1)).countP p + (if p l[i] then 1 else 0)) := by
    conv => lhs; rw [← e]
    rw [List.countP_append, List.countP_cons]
  rw [h2, List.eraseIdx_eq_take_drop_succ, List.countP_append]
  omega
theorem bst_le (ms : List Msg) : ∀ k, ∀ j, j < k → (ms.getD (bst le ms k).toNat zm).2.1 ≤ (ms.getD j zm).2.1
  | 0, j, h => by omega
  | k + 1, j, h => by
    have hr := bst_range le ms k
    unfold bst
    split
    · rename_i hn
      have hk0 : k = 0 := by
        rcases Nat.eq_zero_or_pos k with h0 | h0
        · exact h0
        · have := hr.2.2 h0; omega
      have : j = k := by omega
      subst this
      simp
    · split
      · rename_i hn hl
        have hl := of_decide_eq_true hl
        rcases Nat.lt_or_ge j k with hj | hj
        · have := bst_le ms k j hj
          simp only [Int.toNat_natCast]
          omega
        · have : j = k := by omega
          subst this
          simp
      · rename_i hn hl
        have hl : ¬ (ms.getD k zm).2.1 ≤ (ms.getD (bst le ms k).toNat zm).2.1 := fun h => hl (decide_eq_true h)
        rcases Nat.lt_or_ge j k with hj | hj
        · exact bst_le ms k j hj
        · have : j = k := by omega
          subst this
          omega
theorem bst_gt (ms : List Msg) : ∀ k, ∀ j, j < k → (ms.getD j zm).2.1 ≤ (ms.getD (bst gt ms k).toNat zm).2.1 ∧ (j < (bst gt ms k).toNat → (ms.getD j zm).2.1 ≠ (ms.getD (bst gt ms k).toNat zm).2.1)
  | 0, j, h => by omega
  | k + 1, j, h => by
    have hr := bst_range gt ms k
    unfold bst
    split
    · rename_i hn
      have hk0 : k = 0 := by
        rcases Nat.eq_zero_or_pos k with h0 | h0
        · exact h0
        · have := hr.2.2 h0; omega
      have : j = k := by omega
      subst this
      simp
    · split
      · rename_i hn hl
        have hl := of_decide_eq_true hl
        simp only [Int.toNat_natCast]
        rcases Nat.lt_or_ge j k with hj | hj
        · have := (bst_gt ms k j hj).1
          exact ⟨by omega, fun _ => by omega⟩
        · have : j = k := by omega
          subst this
          exact ⟨Int.le_refl _, fun h => by omega⟩
      · rename_i hn hl
        have hl : ¬ (ms.getD (bst gt ms k).toNat zm).2.1 < (ms.getD k zm).2.1 := fun h => hl (decide_eq_true h)
        rcases Nat.lt_or_ge j k with hj | hj
        · exact bst_gt ms k j hj
        · have : j = k := by omega
          subst this
          exact ⟨by omega, fun h => by omega⟩
theorem vm_cat {x : Msg} (h : vm x = true) : 0 ≤ x.2.1 ∧ x.2.1 ≤ 3 := by
  unfold vm at h
  simp only [Bool.and_eq_true] at h
  exact of_decide_eq_true h.2.1
theorem vq_parts {ms : List Msg} {d : Int} (h : vq ms d = true) : ms.length ≤ 12 ∧ 0 ≤ d ∧ ∀ x ∈ ms, vm x = true := by
  unfold vq at h
  simp only [Bool.and_eq_true] at h
  exact ⟨of_decide_eq_true h.1, of_decide_eq_true h.2.1, List.all_eq_true.1 h.2.2⟩
theorem vq_make {ms : List Msg} {d : Int} (h1 : ms.length ≤ 12) (h2 : 0 ≤ d) (h3 : ∀ x ∈ ms, vm x = true) : vq ms d = true := by
  unfold vq
  rw [decide_eq_true h1, decide_eq_true h2, List.all_eq_true.2 h3]
  rfl
/-- A queue and a message that are both valid. -/
theorem enq_facts {ms l : List Msg} {d d1 : Int} {x : Msg} (hv : vq ms d = true) (hx : vm x = true) (hd : d ≤ 14) (he : enq ms d x = (l, d1)) :
    vq l d1 = true ∧ (l.length : Int) + d1 = ms.length + d + 1 ∧ 0 ≤ d1 ∧ d1 ≤ 15 ∧ l.length ≤ 12 ∧ ((ms.length < 12 ∧ l = ms ++ [x] ∧ d1 = d) ∨
      (ms.length = 12 ∧ l.length = 12 ∧ d1 = d + 1 ∧ ∃ z : Int, 0 ≤ z ∧ z ≤ 3 ∧ (∀ k, cnt k ms 12 + (if x.2.1 = k then 1 else 0) = cnt k l 12 + (if k = z then 1 else 0)) ∧ ∀ k, k < z → cnt k l 12 = 0)) := by
  obtain ⟨h1, h2, h3⟩ := vq_parts hv
  have hall : ∀ y ∈ ms ++ [x], vm y = true := fun y hy => by
    rcases List.mem_append.1 hy with hy | hy
    · exact h3 y hy
    · obtain rfl : y = x := by simpa using hy
      exact hx
  have hlen : (ms ++ [x]).length = ms.length + 1 := by simp
  unfold enq at he
  rw [hv, hx, if_pos (show (true && true) = true from rfl)] at he
  split at he
  · rename_i hl
    injection he with e1 e2
    subst e1 e2
    exact ⟨vq_make hl h2 hall, by rw [hlen]; omega, h2, by omega, hl, .inl ⟨by omega, rfl, rfl⟩⟩
  · rename_i hl
    have hw : IntKind.i64.wrap (d + 1) = d + 1 := IntWalk.i64_in _ (by omega)
    rw [hw] at he
    injection he with e1 e2
    subst e2
    have hr := bst_range le (ms ++ [x]) (ms ++ [x]).length
    have h6 := hr.2.2 (by omega)
    obtain ⟨i, hi⟩ : ∃ i, (bst le (ms ++ [x]) (ms ++ [x]).length).toNat = i := ⟨_, rfl⟩
    have hil : i < (ms ++ [x]).length := by omega
    have hbl := bst_le (ms ++ [x]) (ms ++ [x]).length
    rw [hi] at e1 hbl
    have hl1 : l.length = 12 := by rw [← e1, List.length_eraseIdx, if_pos hil]; omega
    have hz := vm_cat (hall _ (List.getElem_mem hil))
    have hgz : ((ms ++ [x]).getD i zm).2.1 = (ms ++ [x])[i].2.1 := by rw [getD_of (List.getElem?_eq_getElem hil)]
    refine ⟨vq_make (by omega) (by omega) (fun y hy => hall y (by rw [← e1] at hy; exact List.mem_of_mem_eraseIdx hy)), by omega, by omega, by omega, by omega, .inr ⟨by omega, hl1, rfl, (ms ++ [x])[i].2.1, hz.1, hz.2, fun k => ?_, fun k hk => ?_⟩⟩
    · rw [cnt_all k (show ms.length = 12 by omega), cnt_all k hl1]
      have h7 := countP_erase (fun m : Msg => decide (m.2.1 = k)) (ms ++ [x]) i hil
      rw [e1, List.countP_append] at h7
      simp only [List.countP_cons, List.countP_nil, decide_eq_true_eq] at h7
      by_cases ha : x.2.1 = k <;> by_cases hb : (ms ++ [x])[i].2.1 = k
      · rw [if_pos ha] at h7 ⊢; rw [if_pos hb] at h7; rw [if_pos hb.symm]; omega
      · rw [if_pos ha] at h7 ⊢; rw [if_neg hb] at h7; rw [if_neg (fun e => hb e.symm)]; omega
      · rw [if_neg ha] at h7 ⊢; rw [if_pos hb] at h7; rw [if_pos hb.symm]; omega
      · rw [if_neg ha] at h7 ⊢; rw [if_neg hb] at h7; rw [if_neg (fun e => hb e.symm)]; omega
    · rw [cnt_all k hl1, List.countP_eq_zero]
      intro y hy
      rw [← e1] at hy
      obtain ⟨j, hj, hye⟩ := List.getElem_of_mem (List.mem_of_mem_eraseIdx hy)
      have h8 := hbl j hj
      rw [hgz, getD_of (List.getElem?_eq_getElem hj), hye] at h8
      simp only [decide_eq_true_eq]
      omega
theorem keep_mem (t : Int) (ms : List Msg) : ∀ k, ∀ y ∈ keep t ms k, ¬ y.2.2.1 < t
  | 0, y, h => by cases h
  | k + 1, y, h => by
    unfold keep at h
    split at h
    · exact keep_mem t ms k y h
    · rename_i hn
      rcases List.mem_append.1 h with h | h
      · exact keep_mem t ms k y h
      · obtain rfl : y = ms.getD k zm := by simpa using h
        exact hn
theorem drp_keep (t : Int) (ms : List Msg) (d : Int) (hd : -1 ≤ d ∧ d ≤ 14) : ∀ k, k ≤ 1000 → drp t ms d k = d + ((k : Int) - (keep t ms k).length)
  | 0, _ => by simp [drp, keep]
  | k + 1, hk => by
    have ih := drp_keep t ms d hd k (by omega)
    have hl := keep_len t ms k
    unfold drp keep
    split
    · rw [ih]
      have e : IntKind.i64.wrap (d + ((k : Int) - (keep t ms k).length) + 1) = d + ((k : Int) - (keep t ms k).length) + 1 := IntWalk.i64_in _ (by omega)
      rw [e]
      omega
    · rw [ih, List.length_append, List.length_singleton]
      omega
end Go.Proofs.Ytjmenbpalihnnaa.mq
end

section
namespace Go.Proofs.Ytjmenbpalihnnaa.harn
open Go.RowKit sl

theorem sameB (zs ys : List Int) (lo hi lo2 hi2 : Nat) (A A2 : Option Addr) (n cap n2 cap2 : Nat) (w : World) (h : Rd .u8 w lo hi A n cap zs) (h2 : Rd .u8 w lo2 hi2 A2 n2 cap2 ys) :
    Calls Try.prog 32 #[.slice A n cap, .slice A2 n2 cap2] w (EqPost zs ys w) := by
  have hb := h.cap_
  have hb2 := h2.cap_
  have HR := Lib.hid h
  have HS := Lib.hid h2
  clear h h2
  by_cases hnn : n = n2
  · subst hnn
    go_enter Try.func32, Try.ntmps32
    go_wp2
    go_loopw [5] (fun i wr => ∃ k m : Nat, i = .int .i64 k ∧ k ≤ n ∧ wr = w.drewN m ∧ ∀ j, j < k → zs.getD j 0 = ys.getD j 0) (fun i _ => n - (intOf i).toNat)
    case atStart => exact ⟨0, 0, rfl, by omega, rfl, fun j h => absurd h (by omega)⟩
    case round =>
      obtain ⟨k, m, rfl, hk, rfl, hall⟩ := hrel
      have HA := Lib.hid hall
      clear hall
      by_cases hlt : k < n
      · obtain ⟨b, off, rfl, h1, h2, hc⟩ := HR.out.at_ hlt
        obtain ⟨b2, off2, rfl, h3, h4, hc2⟩ := HS.out.at_ hlt
        obtain ⟨x, hx⟩ : ∃ x, zs.getD k 0 = x := ⟨_, rfl⟩
        obtain ⟨y, hy⟩ : ∃ y, ys.getD k 0 = y := ⟨_, rfl⟩
        rw [hx] at hc
        rw [hy] at hc2
        have HX := Lib.hid (And.intro hx hy)
        clear hx hy
        have hlt2 : (k : Int) < n := by omega
        by_cases hxy : x = y
        · subst hxy
          go_wp2
          go_quiet (fail)
          go_wp2
          go_roundw
          case rel =>
            refine ⟨k + 1, _, by go_num, by omega, rfl, fun j hj => ?_⟩
            rcases Nat.lt_or_ge j k with hjk | hjk
            · exact HA.out j hjk
            · obtain rfl : j = k := by omega
              rw [HX.out.1, HX.out.2]
          case measure => simp [intOf]; omega
        · have hne : (x == y) = false := by simpa using hxy
          go_wp2
          go_quiet (fail)
          go_wp2
          go_ret
          refine ⟨?_, ⟨rfl, rfl, rfl, Nat.le_refl _, fun _ _ => rfl⟩⟩
          rw [eq_false (ne_at (k := k) (by rw [HX.out.1, HX.out.2]; exact hxy))]; rfl
      · have hlt2 : ¬ (k : Int) < n := by omega
        obtain rfl : k = n := by omega
        go_wp2
        go_ret
        refine ⟨?_, ⟨rfl, rfl, rfl, Nat.le_refl _, fun _ _ => rfl⟩⟩
        rw [eq_true (eq_all HR.out.len HS.out.len HA.out)]; rfl
  · have hne : ¬ (n : Int) = n2 := by omega
    have HN : Hid (¬ zs = ys) := by
      intro e
      have h1 := HR.out.len
      have h2 := HS.out.len
      rw [e] at h1
      omega
    go_enter Try.func32, Try.ntmps32
    go_wp2
    go_ret
    exact ⟨by rw [eq_false HN.out]; rfl, Below.refl _ _⟩

theorem sameB_yes (zs : List Int) (lo hi lo2 hi2 : Nat) (A A2 : Option Addr) (n cap n2 cap2 : Nat) (w : World) (h : Rd .u8 w lo hi A n cap zs) (h2 : Rd .u8 w lo2 hi2 A2 n2 cap2 zs) :
    Calls Try.prog 32 #[.slice A n cap, .slice A2 n2 cap2] w fun e w' => e = .returned (.bool true) ∧ Below w.heap.size w w' :=
  (sameB zs zs lo hi lo2 hi2 A A2 n cap n2 cap2 w h h2).mono fun e w' ⟨he, hb⟩ => ⟨by rw [he, eq_true rfl], hb⟩

end Go.Proofs.Ytjmenbpalihnnaa.harn
end

section
namespace Go.Proofs.Ytjmenbpalihnnaa.mq
open Go.RowKit sl harn bx mrw
set_option linter.unusedVariables false
set_option linter.unusedSimpArgs false

theorem quiet_slice {P : Program} {C : World → Prop} {a : Act} {o : Oper} {K : Act → Prop} (t : TypeId) (x y : Operand) (h : o.op = .slice t x none (some y) none) (v yv r : Value) (hx : a.eval x = v) (hy : a.eval y = yv)
    (hr : ∀ W, (Instr.sliceAt t v none (some yv) none).run P W = .ok r W) (hk : K (a.put o.dst r)) : o.quiet P a C K := by
  refine ⟨r, fun w _ => ?_, hk⟩
  unfold Oper.quietAt Oper.quietUpon execOp
  simp only [h, Option.map_some, Option.map_none, hx, hy]
  simp [Sem.run_bind, hr]
theorem rq_take {w : World} {lo hi n cap : Nat} {A : Option Addr} {xs : List Msg} (h : Rq msg w lo hi A n cap xs) {k : Nat} (hk : k ≤ n) : Rq msg w lo hi A k cap (xs.take k) := by
  obtain ⟨h1, h2, h3, h4, h5⟩ := h
  refine ⟨by rw [List.length_take]; omega, by omega, h3, h4, fun h0 => ?_⟩
  obtain ⟨b, off, e, g1, g2, g3⟩ := h5 (by omega)
  exact ⟨b, off, e, g1, g2, fun i x hx => g3 i x (by rw [List.getElem?_take] at hx; split at hx; exact hx; cases hx)⟩
set_option maxRecDepth 100000 in
set_option maxHeartbeats 4000000 in
theorem sameM_yes (x : Msg) (A : Option Addr) (n c : Nat) (A' : Option Addr) (n' c' : Nat) (lo hi lo2 hi2 : Nat) (w : World) (h : Rd .u8 w lo hi A n c x.2.2.2) (h2 : Rd .u8 w lo2 hi2 A' n' c' x.2.2.2) :
    Calls Try.prog 20 #[mV x A n c, mV x A' n' c'] w (BPost true w) := by
  have HB := Lib.hid (below_box2 w (.cells #[.int .i64 x.1, .int .i64 x.2.1, .int .i64 x.2.2.1, .slice A n c] 28) (.cells #[.int .i64 x.1, .int .i64 x.2.1, .int .i64 x.2.2.1, .slice A' n' c'] 28))
  have HR := Lib.hid (h.below HB.out)
  have HS := Lib.hid (h2.below HB.out)
  clear h h2
  go_enter Try.func20, Try.ntmps20
  go_wp2_with fail
  (with_reducible refine (harn.sameB_yes x.2.2.2 _ _ _ _ A A' n c n' c' _ HR.out HS.out).mono ?_)
  rintro e w1 ⟨rfl, hb⟩
  have B1 := Lib.hid (HB.out.trans (hb.mono HB.out.size))
  clear hb
  go_wp2_with fail
  go_ret
  exact ⟨rfl, B1.out⟩
set_option maxRecDepth 100000 in
set_option maxHeartbeats 4000000 in
theorem sameMs_yes (ms : List Msg) (A A2 : Option Addr) (n cap n2 cap2 lo hi lo2 hi2 : Nat) (w : World) (h : Rq msg w lo hi A n cap ms) (h2 : Rq msg w lo2 hi2 A2 n2 cap2 ms) :
    Calls Try.prog 19 #[.slice A n cap, .slice A2 n2 cap2] w (BPost true w) := by
  have hc := h.cap_
  have hc2 := h2.cap_
  have HQ := Lib.hid h
  have HP := Lib.hid h2
  obtain rfl : n = n2 := by rw [← h.len, ← h2.len]
  clear h h2
  go_enter Try.func19, Try.ntmps19
  go_wp2_with fail
  go_loopw [5] (fun i wr => ∃ k : Nat, i = .int .i64 k ∧ k ≤ n ∧ Below w.heap.size w wr) (fun i _ => n - (intOf i).toNat)
  case atStart => exact ⟨0, rfl, by omega, Below.refl _ _⟩
  case round =>
    obtain ⟨k, rfl, hk, hb⟩ := hrel
    have HB := Lib.hid hb
    have HR := Lib.hid (HQ.out.below hb)
    have HS := Lib.hid (HP.out.below hb)
    clear hb
    by_cases hlt : k < n
    · obtain ⟨b, off, y, hA, hy, h1, h2, A', n', c', hd, c0, c1, c2, c3⟩ := at_ HR.out hlt
      obtain ⟨b2, off2, y2, hA2, hy2, h12, h22, A2', n2', c2', hd2, c20, c21, c22, c23⟩ := at_ HS.out hlt
      obtain rfl : y = y2 := Option.some.inj (hy.symm.trans hy2)
      subst hA hA2
      have HD := Lib.hid hd
      have HD2 := Lib.hid hd2
      clear hy hy2 hd hd2
      have hlt2 : (k : Int) < n := by omega
      go_upto_region 6 with fail
      have d0 : ∀ m : Af wr, m.w.cell? ⟨b, off + k * 4, none⟩ = some (.int .i64 y.1) := fun m => by rw [m.below.cell (World.block_lt_of_cell? _ _ c0)]; exact c0
      have d1 : ∀ m : Af wr, m.w.cell? ⟨b, off + k * 4 + 1, none⟩ = some (.int .i64 y.2.1) := fun m => by rw [m.below.cell (World.block_lt_of_cell? _ _ c1)]; exact c1
      have d2 : ∀ m : Af wr, m.w.cell? ⟨b, off + k * 4 + 2, none⟩ = some (.int .i64 y.2.2.1) := fun m => by rw [m.below.cell (World.block_lt_of_cell? _ _ c2)]; exact c2
      have d3 : ∀ m : Af wr, m.w.cell? ⟨b, off + k * 4 + 3, none⟩ = some (.slice A' n' c') := fun m => by rw [m.below.cell (World.block_lt_of_cell? _ _ c3)]; exact c3
      have e0 : ∀ m : Af wr, m.w.cell? ⟨b2, off2 + k * 4, none⟩ = some (.int .i64 y.1) := fun m => by rw [m.below.cell (World.block_lt_of_cell? _ _ c20)]; exact c20
      have e1 : ∀ m : Af wr, m.w.cell? ⟨b2, off2 + k * 4 + 1, none⟩ = some (.int .i64 y.2.1) := fun m => by rw [m.below.cell (World.block_lt_of_cell? _ _ c21)]; exact c21
      have e2 : ∀ m : Af wr, m.w.cell? ⟨b2, off2 + k * 4 + 2, none⟩ = some (.int .i64 y.2.2.1) := fun m => by rw [m.below.cell (World.block_lt_of_cell? _ _ c22)]; exact c22
      have e3 : ∀ m : Af wr, m.w.cell? ⟨b2, off2 + k * 4 + 3, none⟩ = some (.slice A2' n2' c2') := fun m => by rw [m.below.cell (World.block_lt_of_cell? _ _ c23)]; exact c23
      have q0 := Lib.hid (fun m => sameM_yes y A' n' c' A2' n2' c2' _ _ _ _ m.w (Af.rd HD.out m) (Af.rd HD2.out m) : ∀ m : Af wr, Calls Try.prog 20 #[mV y A' n' c', mV y A2' n2' c2'] m.w fun e w' => e = .returned (.bool true) ∧ Below m.w.heap.size m.w w')
      clear c0 c1 c2 c3 c20 c21 c22 c23
      refine region_after (by kernel_rfl) (by kernel_rfl) ?_
      repeat (go_big_quiet_step ((go_at_call 20; with_reducible exact Af.call (q0.out _))))
      refine wpQuiet_nil ?_
      intro _ hw'
      obtain ⟨nq, hw''⟩ := hw'
      subst hw''
      clear d0 d1 d2 d3 e0 e1 e2 e3 q0
      obtain ⟨w5, hw5⟩ : ∃ w5, nq.w = w5 := ⟨_, rfl⟩
      have NB := Lib.hid nq.below
      rw [hw5] at NB
      (try rw [hw5])
      clear hw5
      have HB5 := Lib.hid (HB.out.trans (NB.out.mono HB.out.size))
      clear NB nq HB
      go_wp2_with fail
      go_roundw
      case rel => exact ⟨k + 1, by go_num, by omega, HB5.out⟩
      case measure => simp [intOf]; omega
    · have hlt2 : ¬ (k : Int) < n := by omega
      go_wp2_with fail
      go_ret
      exact ⟨rfl, HB.out⟩
end Go.Proofs.Ytjmenbpalihnnaa.mq
end

section
namespace Go.Proofs.Ytjmenbpalihnnaa.queLaw
open Go.RowKit sl harn bx mrw mq
set_option linter.unusedVariables false
set_option linter.unusedSimpArgs false

set_option maxRecDepth 100000 in
set_option maxHeartbeats 16000000 in
theorem walk (a : Option Addr) (len cap : Nat) (zz : List Int) (w : World) (r0 : kit.IsRow .u8 w a len cap zz) :
    Calls Try.prog 3 #[.slice a len cap] w fun e w' => e = .returned (.bool true) ∧ Below w.heap.size w w' := by
  obtain ⟨i0, hi0, hz0, hz1, hz2⟩ := info_parts infoM
  have HZ := Lib.hid (And.intro hi0 (And.intro hz0 (And.intro hz1 hz2)))
  clear hi0 hz0 hz1 hz2
  have HC := Lib.hid (draw.code_of_row r0)
  have hlen : (len : Int) ≤ 9223372036854775807 := by have := HC.out.1; omega
  have HLEN := Lib.hid hlen
  have R0 := Lib.hid r0
  clear r0
  by_cases hbig : 1048576 < (len : Int)
  · go_enter Try.func3, Try.ntmps3
    go_wp2
    go_ret
    exact ⟨rfl, Below.refl _ _⟩
  have HBG := Lib.hid hbig
  go_enter Try.func3, Try.ntmps3
  go_wp2_with (go_at_call 12; go_in)
  clear hbig
  go_wp2_with fail
  (with_reducible refine (drawEq _ a len cap HC.out).mono ?_)
  rintro e w1 ⟨A, n, c, es, d, x, Am, nm, cm, lo, hi, lo2, hi2, rfl, hq, ho, hnm, hm, hl1, hl2, hb⟩
  obtain ⟨ms, hms⟩ : ∃ ms, es.map (fun e : El Msg => e.x) = ms := ⟨_, rfl⟩
  rw [hms] at hq
  have HQD := Lib.hid hq
  have Q1 := Lib.hid (show Rq msg w1 lo hi A n c ms from hms ▸ ho.rq)
  have M1 := Lib.hid hm.rd
  have B1 := Lib.hid hb
  have HNM := Lib.hid (show nm ≤ 67108864 by omega)
  have HLN := Lib.hid Q1.out.len
  have HN := Lib.hid (show n ≤ 67108864 by have h1 := hq.1; have h2 := HLN.out; omega)
  have HBD := Lib.hid hq.bd
  have HXL := Lib.hid M1.out.len
  have hdd := hq.2.2
  have hnl : n ≤ 13 := by have h1 := hq.1; have h2 := HLN.out; omega
  obtain ⟨⟨l, d1⟩, hvb⟩ : ∃ p, enq ms d x = p := ⟨_, rfl⟩
  have VQ := Lib.hid hvb
  clear hms hq ho hm hb hvb hl1 hl2 hnm HC
  obtain ⟨bx, hbb⟩ : ∃ b, w1.heap.size = b := ⟨_, rfl⟩
  go_upto_region 4 with fail
  generalize hW : (w1.alloc (.cells #[.slice A n c, .int .i64 d] 26)).alloc (.cells #[.int .i64 x.1, .int .i64 x.2.1, .int .i64 x.2.2.1, .slice Am nm cm] 28) = w2
  have LX := Lib.hid (show w.heap.size ≤ bx ∧ hi ≤ bx ∧ hi2 ≤ bx by have h1 := B1.out.size; have h2Q := Q1.out.hi_; have h2M := M1.out.hi_; have h3 := hbb; omega)
  have X2 := Lib.hid (show Bx 26 w2 (bx) #[.slice A n c, .int .i64 d] by
      rw [← hW, ← hbb]
      have hh : Bx 26 (w1.alloc (.cells #[.slice A n c, .int .i64 d] 26)) (w1.heap.size) #[.slice A n c, .int .i64 d] := by have hh := Bx.made 26 w1 #[.slice A n c, .int .i64 d]; simpa using hh
      exact (hh.below (below_box _ _)))
  have LY := Lib.hid (show w.heap.size ≤ bx + 1 ∧ hi ≤ bx + 1 ∧ hi2 ≤ bx + 1 by have h1 := B1.out.size; have h2Q := Q1.out.hi_; have h2M := M1.out.hi_; have h3 := hbb; omega)
  have Y2 := Lib.hid (show Bx 28 w2 (bx + 1) #[.int .i64 x.1, .int .i64 x.2.1, .int .i64 x.2.2.1, .slice Am nm cm] by
      rw [← hW, ← hbb]
      have hh : Bx 28 ((w1.alloc (.cells #[.slice A n c, .int .i64 d] 26)).alloc (.cells #[.int .i64 x.1, .int .i64 x.2.1, .int .i64 x.2.2.1, .slice Am nm cm] 28)) (w1.heap.size + 1) #[.int .i64 x.1, .int .i64 x.2.1, .int .i64 x.2.2.1, .slice Am nm cm] := by have hh := Bx.made 28 (w1.alloc (.cells #[.slice A n c, .int .i64 d] 26)) #[.int .i64 x.1, .int .i64 x.2.1, .int .i64 x.2.2.1, .slice Am nm cm]; simpa using hh
      exact hh)
  have hb : Below w1.heap.size w1 w2 := by rw [← hW]; exact ((Below.refl _ _).alloc (by simp <;> omega) _).alloc (by simp <;> omega) _
  (try rw [hbb])
  clear hW hbb
  have SS2 := Lib.hid hb.size
  have B2 := Lib.hid (B1.out.trans (hb.mono B1.out.size))
  have Q2 := Lib.hid (Q1.out.below hb)
  have M2 := Lib.hid (M1.out.below hb)
  clear hb B1 Q1 M1
  go_wp2_with (first | (refine stw.list_load rfl 26 _ rfl (bx) rfl 26 _ X2.out Try.underlying26 rfl szQ ?_) | (refine stw.list_load rfl 28 _ rfl (bx + 1) rfl 28 _ Y2.out Try.underlying28 rfl szM ?_))
  (with_reducible refine (implEn x Am nm cm _ _ ms d A n c _ _ HN.out HBD.out _ Q2.out M2.out HNM.out).mono ?_)
  rw [VQ.out]
  rintro e w3 hp
  obtain ⟨A1, n1, c1, es1, rfl, g9, ho, hb⟩ := q_parts2 hp
  clear hp
  have SS3 := Lib.hid hb.size
  have B3 := Lib.hid (B2.out.trans (hb.mono B2.out.size))
  have X3 := Lib.hid (X2.out.below hb)
  have Y3 := Lib.hid (Y2.out.below hb)
  have Q3 := Lib.hid (Q2.out.below hb)
  have M3 := Lib.hid (M2.out.below hb)
  clear hb B2 X2 Y2 Q2 M2
  have L3 := Lib.hid (show Rq msg w3 w2.heap.size w3.heap.size A1 n1 c1 l from g9 ▸ ho.rq)
  have HLL := Lib.hid L3.out.len
  have HOF := Lib.hid ho.form
  clear ho g9
  obtain ⟨be, hbb⟩ : ∃ b, w3.heap.size = b := ⟨_, rfl⟩
  go_upto_region 5 with fail
  generalize hW : w3.alloc (.cells #[.slice A1 n1 c1, .int .i64 d1] 26) = w4
  have LE := Lib.hid (show w.heap.size ≤ be ∧ bx < be ∧ bx + 1 < be ∧ hi ≤ be ∧ hi2 ≤ be ∧ w3.heap.size ≤ be by have h1 := B3.out.size; have h2X := X3.out.lt; have h2Y := Y3.out.lt; have h2Q := Q3.out.hi_; have h2M := M3.out.hi_; have h2L := L3.out.hi_; have h3 := hbb; omega)
  have E4 := Lib.hid (show Bx 26 w4 be #[.slice A1 n1 c1, .int .i64 d1] by rw [← hW, ← hbb]; exact Bx.made _ _ _)
  have hb : Below w3.heap.size w3 w4 := by rw [← hW]; exact below_box _ _
  (try rw [hbb])
  clear hW hbb
  have SS4 := Lib.hid hb.size
  have B4 := Lib.hid (B3.out.trans (hb.mono B3.out.size))
  have X4 := Lib.hid (X3.out.below hb)
  have Y4 := Lib.hid (Y3.out.below hb)
  have Q4 := Lib.hid (Q3.out.below hb)
  have M4 := Lib.hid (M3.out.below hb)
  have L4 := Lib.hid (L3.out.below hb)
  clear hb B3 X3 Y3 Q3 M3 L3
  have LWE := Lib.hid E4.out.lt
  obtain ⟨v0, h0⟩ : ∃ v, vq ms d = v := ⟨_, rfl⟩
  obtain ⟨v1, h1⟩ : ∃ v, vm x = v := ⟨_, rfl⟩
  have HV0 := Lib.hid h0
  have HV1 := Lib.hid h1
  clear h0 h1
  have cX0 : w4.cell? ⟨bx, 0, none⟩ = some (.slice A n c) := X4.out.cell 0
  have cX1 : w4.cell? ⟨bx, 1, none⟩ = some (.int .i64 d) := X4.out.cell 1
  go_wp2_with fail
  clear cX0 cX1
  (with_reducible refine (specVq ms d A n c _ _ _ Q4.out).mono ?_)
  rintro e w5 hp
  obtain ⟨rfl, hb⟩ := b_parts HV0.out hp
  clear hp
  have SS5 := Lib.hid hb.size
  have B5 := Lib.hid (B4.out.trans (hb.mono B4.out.size))
  have X5 := Lib.hid (X4.out.below hb)
  have Y5 := Lib.hid (Y4.out.below hb)
  have E5 := Lib.hid (E4.out.below hb)
  have Q5 := Lib.hid (Q4.out.below hb)
  have M5 := Lib.hid (M4.out.below hb)
  have L5 := Lib.hid (L4.out.below hb)
  clear hb  B4 X4 Y4 E4 Q4 M4 L4
  cases v0 with
  | true =>
    have cY0 : w5.cell? ⟨bx + 1, 0, none⟩ = some (.int .i64 x.1) := Y5.out.cell 0
    have cY1 : w5.cell? ⟨bx + 1, 1, none⟩ = some (.int .i64 x.2.1) := Y5.out.cell 1
    have cY2 : w5.cell? ⟨bx + 1, 2, none⟩ = some (.int .i64 x.2.2.1) := Y5.out.cell 2
    have cY3 : w5.cell? ⟨bx + 1, 3, none⟩ = some (.slice Am nm cm) := Y5.out.cell 3
    go_wp2_with fail
    clear cY0 cY1 cY2 cY3
    (with_reducible refine (specVm x Am nm cm HXL.out _).mono ?_)
    rintro e w6 hp
    obtain ⟨rfl, hb⟩ := b_parts HV1.out hp
    clear hp
    have SS6 := Lib.hid hb.size
    have B6 := Lib.hid (B5.out.trans (hb.mono B5.out.size))
    have X6 := Lib.hid (X5.out.below hb)
    have Y6 := Lib.hid (Y5.out.below hb)
    have E6 := Lib.hid (E5.out.below hb)
    have Q6 := Lib.hid (Q5.out.below hb)
    have M6 := Lib.hid (M5.out.below hb)
    have L6 := Lib.hid (L5.out.below hb)
    clear hb  B5 X5 Y5 E5 Q5 M5 L5
    cases v1 with
    | true =>
      obtain ⟨hvl, hsum, hd0, hd15, hl12, hcase⟩ := enq_facts HV0.out HV1.out hdd.2 VQ.out
      have HVL := Lib.hid hvl
      have HCS := Lib.hid hcase
      rw [HLN.out, HLL.out] at hsum
      rw [HLL.out] at hl12
      obtain ⟨t, ht⟩ : ∃ t : Int, (n1 : Int) + d1 = t := ⟨_, rfl⟩
      obtain ⟨t2, ht2⟩ : ∃ t : Int, (n : Int) + d = t := ⟨_, rfl⟩
      have ht3 : t2 + 1 = t := by omega
      have m1 : IntKind.i64.wrap t = t := IntWalk.i64_in _ (by omega)
      have m2 : IntKind.i64.wrap t2 = t2 := IntWalk.i64_in _ (by omega)
      clear hvl hcase
      go_wp2_with (refine stw.list_load rfl 26 _ rfl (be) rfl 26 _ E6.out Try.underlying26 rfl szQ ?_)
      (with_reducible refine (implVq l d1 A1 n1 c1 _ _ _ L6.out).mono ?_)
      rintro e w7 hp
      obtain ⟨rfl, hb⟩ := b_parts HVL.out hp
      clear hp
      have SS7 := Lib.hid hb.size
      have B7 := Lib.hid (B6.out.trans (hb.mono B6.out.size))
      have X7 := Lib.hid (X6.out.below hb)
      have Y7 := Lib.hid (Y6.out.below hb)
      have E7 := Lib.hid (E6.out.below hb)
      have Q7 := Lib.hid (Q6.out.below hb)
      have M7 := Lib.hid (M6.out.below hb)
      have L7 := Lib.hid (L6.out.below hb)
      clear hb  B6 X6 Y6 E6 Q6 M6 L6
      have cE0 : w7.cell? ⟨be, 0, none⟩ = some (.slice A1 n1 c1) := E7.out.cell 0
      have cE1 : w7.cell? ⟨be, 1, none⟩ = some (.int .i64 d1) := E7.out.cell 1
      have cX0 : w7.cell? ⟨bx, 0, none⟩ = some (.slice A n c) := X7.out.cell 0
      have cX1 : w7.cell? ⟨bx, 1, none⟩ = some (.int .i64 d) := X7.out.cell 1
      go_upto_region 9 with fail
      clear cE0 cE1 cX0 cX1
      clear m1 m2 ht3 ht ht2
      by_cases hlt : n < 12
      · have hlt2 : (n : Int) < 12 := by omega
        have hC : l = ms ++ [x] ∧ d1 = d := by
          rcases HCS.out with ⟨_, h1, h2⟩ | ⟨h1, _⟩
          · exact ⟨h1, h2⟩
          · rw [HLN.out] at h1; omega
        obtain ⟨hl, hdq⟩ := hC
        have hdq := hdq.symm
        subst hl
        subst hdq
        have hn1 := Lib.hid (show n1 = n + 1 by have h1 := HLL.out; rw [List.length_append, HLN.out] at h1; simpa using h1.symm)
        have hlt3 : n < n1 := by have := hn1.out; omega
        obtain ⟨b, off, y, hA, hy, h1, h2, A', n', c', hd, ce0, ce1, ce2, ce3⟩ := at_ L7.out hlt3
        have HY := Lib.hid hy
        have D7 := Lib.hid hd
        clear hy hd
        obtain rfl : x = y := by have h1 := HY.out; rw [List.getElem?_append_right (by rw [HLN.out]; exact Nat.le_refl _), HLN.out, Nat.sub_self] at h1; exact Option.some.inj h1
        obtain ⟨g, hgA⟩ : ∃ g, A1 = some ⟨g, 0, none⟩ := by rcases HOF.out with ⟨_, h0, _⟩ | ⟨g, cur, h0, _⟩; omega; exact ⟨g, h0⟩
        rw [hgA] at hA
        injection hA with hA
        injection hA with hb1 ho1
        subst hgA
        subst hb1
        subst ho1
        simp only [Nat.zero_add] at ce0 ce1 ce2 ce3
        have cX0 : w7.cell? ⟨bx, 0, none⟩ = some (.slice A n c) := X7.out.cell 0
        go_upto_region 10 with fail
        clear cX0
        have e1 : (n1 : Int) - 1 = (n : Int) := by have := hn1.out; omega
        have e2 : IntKind.i64.wrap (n : Int) = (n : Int) := IntWalk.i64_in _ (by omega)
        have e3 : (n : Int) < n1 := by omega
        have e4 : IntKind.i64.wrap ((n1 : Int) - 1) = (n : Int) := by rw [e1]; exact e2
        have qE0 : ∀ m : Af w7, m.w.cell? ⟨be, 0, none⟩ = some (.slice (some ⟨g, 0, none⟩) n1 c1) := fun m => (Af.cells E7.out m).cell 0
        have qE1 : ∀ m : Af w7, m.w.cell? ⟨be, 1, none⟩ = some (.int .i64 d) := fun m => (Af.cells E7.out m).cell 1
        have qX0 : ∀ m : Af w7, m.w.cell? ⟨bx, 0, none⟩ = some (.slice A n c) := fun m => (Af.cells X7.out m).cell 0
        have qX1 : ∀ m : Af w7, m.w.cell? ⟨bx, 1, none⟩ = some (.int .i64 d) := fun m => (Af.cells X7.out m).cell 1
        have qY0 : ∀ m : Af w7, m.w.cell? ⟨bx + 1, 0, none⟩ = some (.int .i64 x.1) := fun m => (Af.cells Y7.out m).cell 0
        have qY1 : ∀ m : Af w7, m.w.cell? ⟨bx + 1, 1, none⟩ = some (.int .i64 x.2.1) := fun m => (Af.cells Y7.out m).cell 1
        have qY2 : ∀ m : Af w7, m.w.cell? ⟨bx + 1, 2, none⟩ = some (.int .i64 x.2.2.1) := fun m => (Af.cells Y7.out m).cell 2
        have qY3 : ∀ m : Af w7, m.w.cell? ⟨bx + 1, 3, none⟩ = some (.slice Am nm cm) := fun m => (Af.cells Y7.out m).cell 3
        have qd0 : ∀ m : Af w7, m.w.cell? ⟨g, n * 4, none⟩ = some (.int .i64 x.1) := fun m => by rw [m.below.cell (World.block_lt_of_cell? _ _ ce0)]; exact ce0
        have qd1 : ∀ m : Af w7, m.w.cell? ⟨g, n * 4 + 1, none⟩ = some (.int .i64 x.2.1) := fun m => by rw [m.below.cell (World.block_lt_of_cell? _ _ ce1)]; exact ce1
        have qd2 : ∀ m : Af w7, m.w.cell? ⟨g, n * 4 + 2, none⟩ = some (.int .i64 x.2.2.1) := fun m => by rw [m.below.cell (World.block_lt_of_cell? _ _ ce2)]; exact ce2
        have qd3 : ∀ m : Af w7, m.w.cell? ⟨g, n * 4 + 3, none⟩ = some (.slice A' n' c') := fun m => by rw [m.below.cell (World.block_lt_of_cell? _ _ ce3)]; exact ce3
        have hs1 := Lib.hid (fun W => sliceS_pre (P := Try.prog) 24 28 i0 4 Try.underlying24 HZ.out.1 HZ.out.2.2.1 g n1 c1 n (by have := L7.out.cap_.1; omega) W : ∀ W, (Instr.slice 24 (.slice (some ⟨g, 0, none⟩) n1 c1) none (some (.int .i64 n)) none).run Try.prog W = .ok (.slice (some ⟨g, 0, none⟩) n c1) W)
        have qs := Lib.hid (fun m => sameMs_yes ms _ _ _ _ _ _ _ _ _ _ m.w (show Rq msg m.w _ _ (some ⟨g, 0, none⟩) n c1 ms by have hh := rq_take (L7.out.below m.below) (k := n) (by omega); rw [List.take_left' HLN.out] at hh; exact hh) (Q7.out.below m.below) : ∀ m : Af w7, Calls Try.prog 19 #[.slice (some ⟨g, 0, none⟩) n c1, .slice A n c] m.w fun e w' => e = .returned (.bool true) ∧ Below m.w.heap.size m.w w')
        have qm := Lib.hid (fun m => sameM_yes x A' n' c' Am nm cm _ _ _ _ m.w (Af.rd D7.out m) (Af.rd M7.out m) : ∀ m : Af w7, Calls Try.prog 20 #[mV x A' n' c', mV x Am nm cm] m.w fun e w' => e = .returned (.bool true) ∧ Below m.w.heap.size m.w w')
        refine region_after (by kernel_rfl) (by kernel_rfl) ?_
        repeat (first
          | (go_big_quiet_want; refine quiet_slice 24 _ _ rfl (.slice (some ⟨g, 0, none⟩) n1 c1) (.int .i64 (n : Int)) (.slice (some ⟨g, 0, none⟩) n c1) rfl rfl (fun W => by rw [at_slice _ _ Try.underlying24]; exact hs1.out W) ?_; simp only [Act.put, List.setIfInBounds_toArray, List.set_cons_zero, List.set_cons_succ]; go_big_quiet_on)
          | (go_big_quiet_step ((first | (go_at_call 19; with_reducible exact Af.call (qs.out _)) | (go_at_call 20; with_reducible exact Af.call (qm.out _))))))
        refine wpQuiet_nil ?_
        intro _ hw'
        obtain ⟨nq, hw''⟩ := hw'
        subst hw''
        clear ce0 ce1 ce2 ce3 qd0 qd1 qd2 qd3 hs1 qs qm e1 e2 e3 e4 qE0 qE1 qX0 qX1 qY0 qY1 qY2 qY3
        obtain ⟨w8, hw5⟩ : ∃ w5, nq.w = w5 := ⟨_, rfl⟩
        have hb := nq.below
        rw [hw5] at hb
        (try rw [hw5])
        clear hw5
        have SS8 := Lib.hid hb.size
        have B8 := Lib.hid (B7.out.trans (hb.mono B7.out.size))
        have X8 := Lib.hid (X7.out.below hb)
        have Y8 := Lib.hid (Y7.out.below hb)
        have E8 := Lib.hid (E7.out.below hb)
        have Q8 := Lib.hid (Q7.out.below hb)
        have M8 := Lib.hid (M7.out.below hb)
        have L8 := Lib.hid (L7.out.below hb)
        have D8 := Lib.hid (D7.out.below hb)
        clear hb nq B7 X7 Y7 E7 Q7 M7 L7 D7
        go_wp2_with fail
        go_ret
        exact ⟨rfl, B8.out⟩
      · have hlt2 : ¬ (n : Int) < 12 := by omega
        have hC : n = 12 ∧ n1 = 12 ∧ d1 = d + 1 ∧ ∃ z : Int, 0 ≤ z ∧ z ≤ 3 ∧ (∀ k, cnt k ms 12 + (if x.2.1 = k then 1 else 0) = cnt k l 12 + (if k = z then 1 else 0)) ∧ ∀ k, k < z → cnt k l 12 = 0 := by
          rcases HCS.out with ⟨h1, _⟩ | ⟨h1, h2, h3⟩
          · rw [HLN.out] at h1; omega
          · rw [HLN.out] at h1; rw [HLL.out] at h2; exact ⟨h1, h2, h3⟩
        obtain ⟨hn12, hm12, hdq, z0, hz0, hz3, hcn, hc0⟩ := hC
        have HN12 := Lib.hid hn12
        have HM12 := Lib.hid hm12
        have HDQ := Lib.hid hdq
        clear hn12 hm12 hdq
        have HCN := Lib.hid hcn
        have HC0 := Lib.hid hc0
        clear hcn hc0
        have cX0 : w7.cell? ⟨bx, 0, none⟩ = some (.slice A n c) := X7.out.cell 0
        go_wp2_with fail
        clear cX0
        go_loopw [6] (fun v0 wr => ∃ (k : Nat), v0 = .int .i64 ((k : Int)) ∧ ((k : Int) ≤ z0) ∧ Below w.heap.size w wr ∧ Bx 26 wr bx #[.slice A n c, .int .i64 d] ∧ Bx 28 wr (bx + 1) #[.int .i64 x.1, .int .i64 x.2.1, .int .i64 x.2.2.1, .slice Am nm cm] ∧ Bx 26 wr be #[.slice A1 n1 c1, .int .i64 d1] ∧ Rq msg wr lo hi A n c ms ∧ Rd .u8 wr (lo2) (hi2) Am nm cm x.2.2.2 ∧ Rq msg wr w2.heap.size w3.heap.size A1 n1 c1 l) (fun i _ => 4 - (intOf i).toNat)
        case atStart => exact ⟨0, rfl, by simpa using hz0, B7.out, X7.out, Y7.out, E7.out, Q7.out, M7.out, L7.out⟩
        case round =>
          obtain ⟨k, rfl, ghk, gB8, gX8, gY8, gE8, gQ8, gM8, gL8⟩ := hrel
          have B8 := Lib.hid gB8
          have X8 := Lib.hid gX8
          have Y8 := Lib.hid gY8
          have E8 := Lib.hid gE8
          have Q8 := Lib.hid gQ8
          have M8 := Lib.hid gM8
          have L8 := Lib.hid gL8
          have hk := Lib.hid ghk
          clear gB8 gX8 gY8 gE8 gQ8 gM8 gL8 ghk
          have LUX8 := Lib.hid X8.out.lt
          have LUY8 := Lib.hid Y8.out.lt
          have LUE8 := Lib.hid E8.out.lt
          have hk := hk.out
          have hk3 : (k : Int) ≤ 3 := by omega
          obtain ⟨ca, hca⟩ : ∃ ca, cnt (k : Int) ms n = ca := ⟨_, rfl⟩
          obtain ⟨cb, hcb⟩ : ∃ cb, cnt (k : Int) l n1 = cb := ⟨_, rfl⟩
          have hcl : ca ≤ n ∧ cb ≤ n1 := ⟨by rw [← hca]; exact cnt_le _ _ _, by rw [← hcb]; exact cnt_le _ _ _⟩
          have hrel2 := HCN.out (k : Int)
          have hrel3 := HC0.out (k : Int)
          have ea : cnt (k : Int) ms 12 = ca := by rw [← hca, HN12.out]
          have eb : cnt (k : Int) l 12 = cb := by rw [← hcb, HM12.out]
          rw [ea, eb] at hrel2
          rw [eb] at hrel3
          have HCA := Lib.hid (show ((cnt (k : Int) ms n : Nat) : Int) = (ca : Int) by rw [hca])
          have HCB := Lib.hid (show ((cnt (k : Int) l n1 : Nat) : Int) = (cb : Int) by rw [hcb])
          obtain ⟨lost, hlost⟩ : ∃ lost : Int, (ca : Int) - (cb : Int) = lost := ⟨_, rfl⟩
          have m1 : IntKind.i64.wrap lost = lost := IntWalk.i64_in _ (by have h1 := HN12.out; have h2 := HM12.out; omega)
          clear hca hcb ea eb
          go_upto_region 14 with fail
          have qX0 : ∀ m : Af wr, m.w.cell? ⟨bx, 0, none⟩ = some (.slice A n c) := fun m => (Af.cells X8.out m).cell 0
          have qX1 : ∀ m : Af wr, m.w.cell? ⟨bx, 1, none⟩ = some (.int .i64 d) := fun m => (Af.cells X8.out m).cell 1
          have qE0 : ∀ m : Af wr, m.w.cell? ⟨be, 0, none⟩ = some (.slice A1 n1 c1) := fun m => (Af.cells E8.out m).cell 0
          have qE1 : ∀ m : Af wr, m.w.cell? ⟨be, 1, none⟩ = some (.int .i64 d1) := fun m => (Af.cells E8.out m).cell 1
          have qa := Lib.hid (fun m => by have hh := implCc (k : Int) ms d A n c _ _ m.w (Q8.out.below m.below); unfold NPost at hh; rw [HCA.out] at hh; exact hh : ∀ m : Af wr, Calls Try.prog 21 #[qV A n c d, .int .i64 (k : Int)] m.w fun e w' => e = .returned (.int .i64 (ca : Int)) ∧ Below m.w.heap.size m.w w')
          have qb := Lib.hid (fun m => by have hh := implCc (k : Int) l d1 A1 n1 c1 _ _ m.w (L8.out.below m.below); unfold NPost at hh; rw [HCB.out] at hh; exact hh : ∀ m : Af wr, Calls Try.prog 21 #[qV A1 n1 c1 d1, .int .i64 (k : Int)] m.w fun e w' => e = .returned (.int .i64 (cb : Int)) ∧ Below m.w.heap.size m.w w')
          refine region_after (by kernel_rfl) (by kernel_rfl) ?_
          repeat (go_big_quiet_step ((first | (go_at_call 21; with_reducible exact Af.call (qa.out _)) | (go_at_call 21; with_reducible exact Af.call (qb.out _)))))
          refine wpQuiet_nil ?_
          intro _ hw'
          obtain ⟨nq, hw''⟩ := hw'
          subst hw''
          clear qa qb m1 qX0 qX1 qE0 qE1
          obtain ⟨w9, hw5⟩ : ∃ w5, nq.w = w5 := ⟨_, rfl⟩
          have hb := nq.below
          rw [hw5] at hb
          (try rw [hw5])
          clear hw5
          have SS9 := Lib.hid hb.size
          have B9 := Lib.hid (B8.out.trans (hb.mono B8.out.size))
          have X9 := Lib.hid (X8.out.below hb)
          have Y9 := Lib.hid (Y8.out.below hb)
          have E9 := Lib.hid (E8.out.below hb)
          have Q9 := Lib.hid (Q8.out.below hb)
          have M9 := Lib.hid (M8.out.below hb)
          have L9 := Lib.hid (L8.out.below hb)
          clear hb nq B8 X8 Y8 E8 Q8 M8 L8
          by_cases hxk : x.2.1 = (k : Int)
          · have hxe : (x.2.1 == (k : Int)) = true := by simp [hxk]
            by_cases hkz : (k : Int) = z0
            · obtain rfl : lost = 0 := by rw [if_pos hxk, if_pos hkz] at hrel2; omega
              clear hlost hrel2 hxk
              clear hrel3 hkz
              have cY1 : w9.cell? ⟨bx + 1, 1, none⟩ = some (.int .i64 x.2.1) := Y9.out.cell 1
              have cE1 : w9.cell? ⟨be, 1, none⟩ = some (.int .i64 d1) := E9.out.cell 1
              have cX1 : w9.cell? ⟨bx, 1, none⟩ = some (.int .i64 d) := X9.out.cell 1
              have m3 : IntKind.i64.wrap d1 = d1 := IntWalk.i64_in _ (by omega)
              have m4 : d + 1 = d1 := HDQ.out.symm
              go_wp2_with fail
              clear cY1 cE1 cX1
              go_ret
              exact ⟨rfl, B9.out⟩
            · obtain rfl : lost = -1 := by rw [if_pos hxk, if_neg hkz] at hrel2; omega
              clear hlost hrel2 hxk
              obtain rfl : cb = 0 := hrel3 (by omega)
              skip
              have hk2 : ((k : Int) == 3) = false := by simp; omega
              clear hrel3
              have cY1 : w9.cell? ⟨bx + 1, 1, none⟩ = some (.int .i64 x.2.1) := Y9.out.cell 1
              have cE0 : w9.cell? ⟨be, 0, none⟩ = some (.slice A1 n1 c1) := E9.out.cell 0
              have cE1 : w9.cell? ⟨be, 1, none⟩ = some (.int .i64 d1) := E9.out.cell 1
              go_wp2_with fail
              clear cY1 cE0 cE1
              (with_reducible refine (implCc (k : Int) l d1 A1 n1 c1 _ _ _ L9.out).mono ?_)
              rintro e w10 hp
              obtain ⟨rfl, hb⟩ := n_parts HCB.out hp
              clear hp
              have SS10 := Lib.hid hb.size
              have B10 := Lib.hid (B9.out.trans (hb.mono B9.out.size))
              have X10 := Lib.hid (X9.out.below hb)
              have Y10 := Lib.hid (Y9.out.below hb)
              have E10 := Lib.hid (E9.out.below hb)
              have Q10 := Lib.hid (Q9.out.below hb)
              have M10 := Lib.hid (M9.out.below hb)
              have L10 := Lib.hid (L9.out.below hb)
              clear hb  B9 X9 Y9 E9 Q9 M9 L9
              go_wp2_with fail
              go_roundw
              case rel => exact ⟨k + 1, by go_num, by omega, B10.out, X10.out, Y10.out, E10.out, Q10.out, M10.out, L10.out⟩
              case measure => simp [intOf]; omega
          · have hxe : (x.2.1 == (k : Int)) = false := by simp [hxk]
            by_cases hkz : (k : Int) = z0
            · obtain rfl : lost = 1 := by rw [if_neg hxk, if_pos hkz] at hrel2; omega
              clear hlost hrel2 hxk
              clear hrel3 hkz
              have cY1 : w9.cell? ⟨bx + 1, 1, none⟩ = some (.int .i64 x.2.1) := Y9.out.cell 1
              have cE1 : w9.cell? ⟨be, 1, none⟩ = some (.int .i64 d1) := E9.out.cell 1
              have cX1 : w9.cell? ⟨bx, 1, none⟩ = some (.int .i64 d) := X9.out.cell 1
              have m3 : IntKind.i64.wrap d1 = d1 := IntWalk.i64_in _ (by omega)
              have m4 : d + 1 = d1 := HDQ.out.symm
              go_wp2_with fail
              clear cY1 cE1 cX1
              go_ret
              exact ⟨rfl, B9.out⟩
            · obtain rfl : lost = 0 := by rw [if_neg hxk, if_neg hkz] at hrel2; omega
              clear hlost hrel2 hxk
              obtain rfl : cb = 0 := hrel3 (by omega)
              skip
              have hk2 : ((k : Int) == 3) = false := by simp; omega
              clear hrel3
              have cY1 : w9.cell? ⟨bx + 1, 1, none⟩ = some (.int .i64 x.2.1) := Y9.out.cell 1
              have cE0 : w9.cell? ⟨be, 0, none⟩ = some (.slice A1 n1 c1) := E9.out.cell 0
              have cE1 : w9.cell? ⟨be, 1, none⟩ = some (.int .i64 d1) := E9.out.cell 1
              go_wp2_with fail
              clear cY1 cE0 cE1
              (with_reducible refine (implCc (k : Int) l d1 A1 n1 c1 _ _ _ L9.out).mono ?_)
              rintro e w10 hp
              obtain ⟨rfl, hb⟩ := n_parts HCB.out hp
              clear hp
              have SS10 := Lib.hid hb.size
              have B10 := Lib.hid (B9.out.trans (hb.mono B9.out.size))
              have X10 := Lib.hid (X9.out.below hb)
              have Y10 := Lib.hid (Y9.out.below hb)
              have E10 := Lib.hid (E9.out.below hb)
              have Q10 := Lib.hid (Q9.out.below hb)
              have M10 := Lib.hid (M9.out.below hb)
              have L10 := Lib.hid (L9.out.below hb)
              clear hb  B9 X9 Y9 E9 Q9 M9 L9
              go_wp2_with fail
              go_roundw
              case rel => exact ⟨k + 1, by go_num, by omega, B10.out, X10.out, Y10.out, E10.out, Q10.out, M10.out, L10.out⟩
              case measure => simp [intOf]; omega
    | false =>
      have VB := Lib.hid (show (decide (l = ms) && decide (d1 = d)) = true by
        have h1 := VQ.out; unfold enq at h1
        rw [HV0.out, HV1.out] at h1
        rw [if_neg (by simp)] at h1
        injection h1 with e1 e2
        rw [← e1, ← e2]; simp)
      go_wp2_with (first | (refine stw.list_load rfl 26 _ rfl (be) rfl 26 _ E6.out Try.underlying26 rfl szQ ?_) | (refine stw.list_load rfl 26 _ rfl (bx) rfl 26 _ X6.out Try.underlying26 rfl szQ ?_))
      (with_reducible refine (implEq l ms d1 d A1 n1 c1 _ _ A n c _ _ _ L6.out Q6.out).mono ?_)
      rintro e w7 hp
      obtain ⟨rfl, hb⟩ := b_parts VB.out hp
      clear hp
      have SS7 := Lib.hid hb.size
      have B7 := Lib.hid (B6.out.trans (hb.mono B6.out.size))
      have X7 := Lib.hid (X6.out.below hb)
      have Y7 := Lib.hid (Y6.out.below hb)
      have E7 := Lib.hid (E6.out.below hb)
      have Q7 := Lib.hid (Q6.out.below hb)
      have M7 := Lib.hid (M6.out.below hb)
      have L7 := Lib.hid (L6.out.below hb)
      clear hb  B6 X6 Y6 E6 Q6 M6 L6
      go_wp2_with fail
      go_ret
      exact ⟨rfl, B7.out⟩
  | false =>
    have VB := Lib.hid (show (decide (l = ms) && decide (d1 = d)) = true by
      have h1 := VQ.out; unfold enq at h1
      rw [HV0.out] at h1
      rw [if_neg (by simp)] at h1
      injection h1 with e1 e2
      rw [← e1, ← e2]; simp)
    go_wp2_with (first | (refine stw.list_load rfl 26 _ rfl (be) rfl 26 _ E5.out Try.underlying26 rfl szQ ?_) | (refine stw.list_load rfl 26 _ rfl (bx) rfl 26 _ X5.out Try.underlying26 rfl szQ ?_))
    (with_reducible refine (implEq l ms d1 d A1 n1 c1 _ _ A n c _ _ _ L5.out Q5.out).mono ?_)
    rintro e w6 hp
    obtain ⟨rfl, hb⟩ := b_parts VB.out hp
    clear hp
    have SS6 := Lib.hid hb.size
    have B6 := Lib.hid (B5.out.trans (hb.mono B5.out.size))
    have X6 := Lib.hid (X5.out.below hb)
    have Y6 := Lib.hid (Y5.out.below hb)
    have E6 := Lib.hid (E5.out.below hb)
    have Q6 := Lib.hid (Q5.out.below hb)
    have M6 := Lib.hid (M5.out.below hb)
    have L6 := Lib.hid (L5.out.below hb)
    clear hb  B5 X5 Y5 E5 Q5 M5 L5
    go_wp2_with fail
    go_ret
    exact ⟨rfl, B6.out⟩
end Go.Proofs.Ytjmenbpalihnnaa.queLaw
end
