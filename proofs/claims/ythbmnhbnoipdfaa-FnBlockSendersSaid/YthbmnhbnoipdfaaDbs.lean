/- Draws of stage 21: a sender, an acknowledgment, both. Condition: the bytes that are drawn from are a slice that came in. -/
import Derived.Test.YthbmnhbnoipdfaaBs6
import Derived.Test.YthbmnhbnoipdfaaDraw2
import Derived.Test.YthbmnhbnoipdfaaDrk
import Derived.Test.YthbmnhbnoipdfaaRgk
import Derived.Deep.Cut
namespace Go.Proofs.Ythbmnhbnoipdfaa.bs
open Go.RowKit sl harn rng bx drk stw draw
set_option linter.unusedVariables false
set_option linter.unusedSimpArgs false

def SnIn (s n : Int) : Prop := (0 ≤ s ∧ s ≤ 4095) ∧ (0 ≤ n ∧ n ≤ 4095)
theorem SnIn.s {s n : Int} (h : SnIn s n) : 0 ≤ s ∧ s ≤ 4095 := h.1
theorem SnIn.n {s n : Int} (h : SnIn s n) : 0 ≤ n ∧ n ≤ 4095 := h.2
theorem rcv_in {s n x c b : Int} (h : SnIn s n) : SnIn (rcv ⟨s, n, x⟩ c b).st (rcv ⟨s, n, x⟩ c b).nx := by
  cases hv : vs ⟨s, n, x⟩
  · have e : rcv ⟨s, n, x⟩ c b = ⟨s, n, x⟩ := by unfold rcv; rw [hv, if_neg (by simp)]
    rw [e]; exact h
  · obtain ⟨h1, h2, _⟩ := rcv_ok c b hv
    have h3 := (vs_V h1).hs
    rw [h2]
    exact ⟨h3, h.2⟩
theorem nxt_in {s n x : Int} (h : SnIn s n) : SnIn (nxt ⟨s, n, x⟩).1.st (nxt ⟨s, n, x⟩).1.nx := by
  unfold nxt
  split
  · refine ⟨h.1, ?_⟩
    show 0 ≤ nsq n ∧ nsq n ≤ 4095
    unfold nsq; split <;> omega
  · exact h
theorem nsq_rng (n : Int) : 0 ≤ nsq n ∧ nsq n ≤ 4095 := by unfold nsq; split <;> omega
def SnPost (p : Nat) (a : Option Addr) (len cap : Nat) (w : World) (e : Ending) (w' : World) : Prop := ∃ s n x : Int, e = .returned (.agg #[.int .i64 s, .int .i64 n, .int .i64 x]) ∧ SnIn s n ∧ Keep p w w' ∧ Cur w' p a len cap
def SaPost (p : Nat) (a : Option Addr) (len cap : Nat) (w : World) (e : Ending) (w' : World) : Prop := ∃ s n x : Int, e = .returned (.agg #[.int .i64 s, .int .i64 n, .int .i64 x]) ∧ (-1 ≤ s ∧ s ≤ 4096) ∧ Keep p w w' ∧ Cur w' p a len cap
def AkPost (p : Nat) (a : Option Addr) (len cap : Nat) (w : World) (e : Ending) (w' : World) : Prop := ∃ c b : Int, e = .returned (.agg #[.int .i64 c, .int .i64 b]) ∧ Keep p w w' ∧ Cur w' p a len cap
def RbPost (w : World) (e : Ending) (w' : World) : Prop := ∃ s n x c b : Int, e = .returned (.tuple #[.agg #[.int .i64 s, .int .i64 n, .int .i64 x], .agg #[.int .i64 c, .int .i64 b]]) ∧ Below w.heap.size w w'
theorem sn_parts {p : Nat} {a : Option Addr} {len cap : Nat} {w w' : World} {e : Ending} (h : SnPost p a len cap w e w') : ∃ s n x : Int, e = .returned (.agg #[.int .i64 s, .int .i64 n, .int .i64 x]) ∧ SnIn s n ∧ Keep p w w' ∧ Cur w' p a len cap := h
/-- A slice that a drawn region makes; a variable that it makes. -/
def bkD (p : Nat) (A : Option Addr) (len cap : Nat) (f : Nat → Value) (T : TypeId) (cs : Array Value) : reg.Stay (drk.Dr p A len cap) :=
  ⟨fun v w => ∃ N, v = f N ∧ N ≠ p ∧ Bx T w N cs, fun v w w' ⟨N, h1, h2, h3⟩ h => ⟨N, h1, h2, drk.bx_keep h3 h.1 h2⟩⟩
def mkD (p : Nat) (A : Option Addr) (len cap : Nat) (T : TypeId) (B : Nat) (cs : Array Value) : reg.Stay (drk.Dr p A len cap) :=
  ⟨fun v w => ∃ q, v = .pointer (some ⟨q, 0, none⟩) ∧ B < q ∧ q ≠ p ∧ Bx T w q cs, fun v w w' ⟨q, h1, h2, h3, h4⟩ h => ⟨q, h1, h2, h3, drk.bx_keep h4 h.1 h3⟩⟩
theorem results_cc {fn : Func} {p q : Tmp} {ty ty2 : TypeId} (h : fn.results = #[.cell p ty, .cell q ty2]) (tmps : Array Value) (P : Program) (w : World) :
    (results fn tmps).run P w = ((asAddr (tmps.getD p undef)).run P w).andThen fun a w₁ => ((loadVar ty a).run P w₁).andThen fun v w₂ =>
      ((asAddr (tmps.getD q undef)).run P w₂).andThen fun b w₃ => ((loadVar ty2 b).run P w₃).andThen fun x w₄ => .ok (.tuple #[v, x]) w₄ := by
  simp only [results, h]
  simp [Sem.run_bind, Result.andThen]
theorem back_to {P : Program} {w : World} {b : Nat} {ty T : TypeId} {cur : Array Value} {d : TypeDesc} {X : Type} {r : Result X} {g : Value → World → Result X} (hX : Bx T w b cur) (hu : P.underlying ty = some d) (hd : d.isRow = true) (hi : (P.info? ty).map (·.size) = some cur.size) (hg : g (.agg cur) w = r) :
    ((asAddr (.pointer (some ⟨b, 0, none⟩))).run P w).andThen (fun a w₁ => ((loadVar ty a).run P w₁).andThen g) = r := by
  have h := back hX hu hd hi
  have e : ((asAddr (.pointer (some ⟨b, 0, none⟩))).run P w).andThen (fun a w₁ => ((loadVar ty a).run P w₁).andThen g) = (((asAddr (.pointer (some ⟨b, 0, none⟩))).run P w).andThen (fun a w₁ => (loadVar ty a).run P w₁)).andThen g := by
    cases (asAddr (.pointer (some ⟨b, 0, none⟩))).run P w <;> rfl
  rw [e, h]
  exact hg
set_option maxRecDepth 100000 in
set_option maxHeartbeats 4000000 in
theorem dSn (w : World) (p : Nat) (a : Option Addr) (len cap : Nat) (hc : Cur w p a len cap) :
    Calls Try.prog 52 #[.pointer (some ⟨p, 0, none⟩)] w (SnPost p a len cap w) := by
  have CW := Lib.hid hc
  have P0 := Lib.hid hc.lt
  clear hc
  go_enter Try.func52, Try.ntmps52
  go_upto_region 1 with fail
  obtain ⟨w0, hW⟩ : ∃ w0, w.alloc (.cells #[.int .i64 0, .int .i64 0, .int .i64 0] 25) = w0 := ⟨_, rfl⟩
  rw [hW]
  have K0 := Lib.hid (show Keep p w w0 by rw [← hW]; exact (Keep.refl p w).alloc _)
  have C0 := Lib.hid (show Cur w0 p a len cap by rw [← hW]; exact (CW.out).alloc _)
  have Z0 := Lib.hid (show Bx 25 w0 (w.heap.size) #[.int .i64 0, .int .i64 0, .int .i64 0] by
      rw [← hW]
      have hh := Bx.made 25 w #[.int .i64 0, .int .i64 0, .int .i64 0]
      exact hh)
  clear hW
  have LTZ := Lib.hid Z0.out.lt
  go_wp2_with fail
  (with_reducible refine (pickIn 0 4090 3 (by omega) (by omega) _ p a len cap C0.out #[.int .i64 0, .int .i64 5, .int .i64 4090] rfl (by decide)).mono ?_)
  rintro e w1 ⟨y, rfl, hx0, hx1, hk, hc⟩
  have Hy := Lib.hid (show 0 ≤ y ∧ y ≤ 4090 from ⟨hx0, hx1⟩)
  have SS1 := Lib.hid hk.size
  have K1 := Lib.hid (K0.out.trans hk)
  have C1 := Lib.hid (hc)
  have Z1 := Lib.hid (drk.bx_keep Z0.out hk (by have h0 := P0.out; have hs0 := LTZ.out; have hs1 := SS1.out; first | omega | (simp <;> omega)))
  clear hk hc hx0 hx1 K0 C0 Z0
  have HNY := Lib.hid (show new y = ⟨y, y, 0⟩ by have := Hy.out; unfold new; rw [if_pos (by omega)])
  go_wp2_with fail
  (with_reducible refine (specNew y _).mono ?_)
  rintro e w2 hp
  obtain ⟨rfl, hb⟩ := s_parts HNY.out hp
  clear hp
  have SS2 := Lib.hid hb.size
  have K2 := Lib.hid (drk.later K1.out K1.out.size hb)
  have C2 := Lib.hid (drk.cur_below C1.out hb)
  have Z2 := Lib.hid (Z1.out.below hb)
  clear hb  K1 C1 Z1
  obtain ⟨b2, hbb⟩ : ∃ b, w2.heap.size = b := ⟨_, rfl⟩
  go_upto_region 2 with fail
  generalize hW : w2.alloc (.cells #[.int .i64 y, .int .i64 y, .int .i64 0] 25) = w3
  have LS := Lib.hid (show w.heap.size ≤ b2 ∧ w.heap.size < b2 by have h1 := K2.out.size; have h2Z := Z2.out.lt; have h3 := hbb; omega)
  have S3 := Lib.hid (show Bx 25 w3 b2 #[.int .i64 y, .int .i64 y, .int .i64 0] by rw [← hW, ← hbb]; exact Bx.made _ _ _)
  have hb : Below w2.heap.size w2 w3 := by rw [← hW]; exact below_box _ _
  (try rw [hbb])
  clear hW hbb
  have SS3 := Lib.hid hb.size
  have K3 := Lib.hid (drk.later K2.out K2.out.size hb)
  have C3 := Lib.hid (drk.cur_below C2.out hb)
  have Z3 := Lib.hid (Z2.out.below hb)
  clear hb K2 C2 Z2
  have LWS := Lib.hid S3.out.lt
  go_wp2_with fail
  (with_reducible refine (below 25 (by omega) _ p a len cap C3.out).mono ?_)
  rintro e w4 ⟨j0, rfl, hx0, hx1, hk, hc⟩
  have Hj0 := Lib.hid (show 0 ≤ j0 ∧ j0 < 25 from ⟨hx0, hx1 (by omega)⟩)
  have SS4 := Lib.hid hk.size
  have K4 := Lib.hid (K3.out.trans hk)
  have C4 := Lib.hid (hc)
  have Z4 := Lib.hid (drk.bx_keep Z3.out hk (by have hlS := LS.out; have h0 := P0.out; have hs0 := LTZ.out; have hs1 := SS1.out; have hs2 := SS2.out; have hs3 := SS3.out; have hs4 := LWS.out; have hs5 := SS4.out; first | omega | (simp <;> omega)))
  have S4 := Lib.hid (drk.bx_keep S3.out hk (by have hlS := LS.out; have h0 := P0.out; have hs0 := LTZ.out; have hs1 := SS1.out; have hs2 := SS2.out; have hs3 := SS3.out; have hs4 := LWS.out; have hs5 := SS4.out; first | omega | (simp <;> omega)))
  clear hk hc hx0 hx1 K3 C3 Z3 S3
  go_wp2_with fail
  go_loopw [4] (fun v0 wr => ∃ (j : Int) (s : Int) (n : Int) (x : Int), v0 = .int .i64 j ∧ (0 ≤ j ∧ j ≤ 24) ∧ (SnIn s n) ∧ Keep p w wr ∧ Cur wr p a len cap ∧ Bx 25 wr w.heap.size #[.int .i64 0, .int .i64 0, .int .i64 0] ∧ Bx 25 wr b2 #[.int .i64 s, .int .i64 n, .int .i64 x]) ((fun j _ => (intOf j).toNat))
  case atStart => exact ⟨j0, y, y, 0, rfl, by have := Hj0.out; omega, by have := Hy.out; exact ⟨by omega, by omega⟩, K4.out, C4.out, Z4.out, S4.out⟩
  case round =>
    obtain ⟨j, s, n, x, rfl, ghj, ghin, gK5, gC5, gZ5, gS5⟩ := hrel
    have K5 := Lib.hid gK5
    have C5 := Lib.hid gC5
    have Z5 := Lib.hid gZ5
    have S5 := Lib.hid gS5
    have hj := Lib.hid ghj
    have hin := Lib.hid ghin
    clear gK5 gC5 gZ5 gS5 ghj ghin
    have LUZ5 := Lib.hid Z5.out.lt
    have LUS5 := Lib.hid S5.out.lt
    have SBR5 := Lib.hid K5.out.size
    have hj := hj.out
    by_cases hlt : 0 < j
    · go_wp2_with fail
      (with_reducible refine (once 4 (by omega) _ p a len cap C5.out).mono ?_)
      rintro e w6 ⟨b0, rfl, hk, hc⟩
      have SS6 := Lib.hid hk.size
      have K6 := Lib.hid (K5.out.trans hk)
      have C6 := Lib.hid (hc)
      have Z6 := Lib.hid (drk.bx_keep Z5.out hk (by have hlS := LS.out; have h0 := P0.out; have hs0 := LTZ.out; have hs1 := SS1.out; have hs2 := SS2.out; have hs3 := SS3.out; have hs4 := LWS.out; have hs5 := SS4.out; have hs6 := LUZ5.out; have hs7 := LUS5.out; have hs8 := SBR5.out; have hs9 := SS6.out; first | omega | (simp <;> omega)))
      have S6 := Lib.hid (drk.bx_keep S5.out hk (by have hlS := LS.out; have h0 := P0.out; have hs0 := LTZ.out; have hs1 := SS1.out; have hs2 := SS2.out; have hs3 := SS3.out; have hs4 := LWS.out; have hs5 := SS4.out; have hs6 := LUZ5.out; have hs7 := LUS5.out; have hs8 := SBR5.out; have hs9 := SS6.out; first | omega | (simp <;> omega)))
      clear hk hc  K5 C5 Z5 S5
      cases b0 with
      | true =>
        go_upto_region 6 with fail
        refine reg.region_tail (drk.Dr p a len cap) 7 31 [some [], some [], some [(1, 18)], some [], some [(3, 20)], some [(2, 19), (4, 21)], some [(0, 17), (5, 22)], none] [(0, 17), (1, 18), (2, 19), (3, 20), (4, 21), (5, 22), (6, 23)]
          (fun w' => Keep p w w' ∧ Cur w' p a len cap ∧ Bx 25 w' (w.heap.size) #[.int .i64 0, .int .i64 0, .int .i64 0] ∧ Bx 25 w' (b2) #[.int .i64 s, .int .i64 n, .int .i64 x] ∧ True)
          (reg.rl [reg.is (.agg #[.int .i64 s, .int .i64 n, .int .i64 x]), reg.is (.pointer (some ⟨b2, 0, none⟩)), reg.is (.int .i64 s), reg.is (.pointer (some ⟨p, 0, none⟩)), reg.val (fun v => ∃ y : Int, v = .int .i64 y ∧ 0 ≤ y ∧ y ≤ 255), reg.val (fun v => ∃ c b : Int, v = .agg #[.int .i64 c, .int .i64 b]), reg.val (fun v => ∃ s n x : Int, v = .agg #[.int .i64 s, .int .i64 n, .int .i64 x] ∧ SnIn s n), reg.free])
          (by kernel_rfl) rfl (by kernel_rfl) (by kernel_rfl) rfl
          (fun w1 w2 hc hb => ⟨hc.1.trans hb.1, hb.2, drk.bx_keep hc.2.2.1 hb.1 (by have hlS := LS.out; have h0 := P0.out; have hs0 := LTZ.out; have hs1 := SS1.out; have hs2 := SS2.out; have hs3 := SS3.out; have hs4 := LWS.out; have hs5 := SS4.out; have hs6 := LUZ5.out; have hs7 := LUS5.out; have hs8 := SBR5.out; have hs9 := SS6.out; first | omega | (simp <;> omega)), drk.bx_keep hc.2.2.2.1 hb.1 (by have hlS := LS.out; have h0 := P0.out; have hs0 := LTZ.out; have hs1 := SS1.out; have hs2 := SS2.out; have hs3 := SS3.out; have hs4 := LWS.out; have hs5 := SS4.out; have hs6 := LUZ5.out; have hs7 := LUS5.out; have hs8 := SBR5.out; have hs9 := SS6.out; first | omega | (simp <;> omega)), trivial⟩) (reg.rl_keep _) (⟨Keep.drew K6.out, show Cur w6.drew p a len cap from C6.out, Z6.out.same rfl, S6.out.same rfl, trivial⟩) (by kernel_rfl) ⟨?_, ?_, ?_, ?_, ?_, ?_, ?_, trivial⟩ ?_
        · refine fun w8 hc  K hK => ?_
          (try simp only [Act.put, List.setIfInBounds_toArray, List.set_cons_zero, List.set_cons_succ])
          rw [if_pos (by rfl)]
          refine stw.wp_load_bx 25 _ rfl (b2) rfl 25 _ hc.2.2.2.1 Try.underlying25 rfl szS ?_
          exact hK _ _ rfl ⟨Keep.refl _ _, hc.2.1⟩
        · refine fun w8 hc  K hK => ?_
          (try simp only [Act.put, List.setIfInBounds_toArray, List.set_cons_zero, List.set_cons_succ])
          go_simp
          exact hK (.pointer (some ⟨b2, 0, none⟩)) _ rfl ⟨Keep.refl _ _, hc.2.1⟩
        · refine fun w8 hc v1 h1 K hK => ?_
          obtain rfl : v1 = .pointer (some ⟨b2, 0, none⟩) := h1
          (try simp only [Act.put, List.setIfInBounds_toArray, List.set_cons_zero, List.set_cons_succ])
          have c0 : w8.cell? ⟨b2, 0, none⟩ = some (.int .i64 s) := hc.2.2.2.1.cell 0
          go_simp
          exact hK (.int .i64 s) _ rfl ⟨Keep.refl _ _, hc.2.1⟩
        · refine fun w8 hc  K hK => ?_
          (try simp only [Act.put, List.setIfInBounds_toArray, List.set_cons_zero, List.set_cons_succ])
          go_simp
          exact hK (.pointer (some ⟨p, 0, none⟩)) _ rfl ⟨Keep.refl _ _, hc.2.1⟩
        · refine fun w8 hc v3 h3 K hK => ?_
          obtain rfl : v3 = .pointer (some ⟨p, 0, none⟩) := h3
          (try simp only [Act.put, List.setIfInBounds_toArray, List.set_cons_zero, List.set_cons_succ])
          go_simp
          (with_reducible refine (below 256 (by omega) _ p a len cap hc.2.1).mono ?_)
          rintro e w3 ⟨y, rfl, h1, h2, hk, hcc⟩
          exact hK (.int .i64 y) _ ⟨y, rfl, h1, by have := h2 (by omega); omega⟩ ⟨hk, hcc⟩
        · refine fun w8 hc v2 h2 v4 h4 K hK => ?_
          obtain rfl : v2 = .int .i64 s := h2
          obtain ⟨y4, rfl, hy40, hy41⟩ : ∃ y : Int, v4 = .int .i64 y ∧ 0 ≤ y ∧ y ≤ 255 := h4
          (try simp only [Act.put, List.setIfInBounds_toArray, List.set_cons_zero, List.set_cons_succ])
          go_simp
          exact hK (.agg #[.int .i64 s, .int .i64 y4]) _ ⟨_, _, rfl⟩ ⟨Keep.refl _ _, hc.2.1⟩
        · refine fun w8 hc v0 h0 v5 h5 K hK => ?_
          obtain rfl : v0 = .agg #[.int .i64 s, .int .i64 n, .int .i64 x] := h0
          obtain ⟨c, b, rfl⟩ : ∃ c b : Int, v5 = .agg #[.int .i64 c, .int .i64 b] := h5
          (try simp only [Act.put, List.setIfInBounds_toArray, List.set_cons_zero, List.set_cons_succ])
          go_simp
          (with_reducible refine (specRcv s n x c b _).mono ?_)
          rintro e w3 ⟨rfl, hb⟩
          exact hK _ _ ⟨_, _, _, rfl, rcv_in hin.out⟩ ⟨drk.later (Keep.refl _ w8) (Nat.le_refl _) hb, drk.cur_below hc.2.1 hb⟩
        refine fun wg7 hc v0 h0 v1 h1 v2 h2 v3 h3 v4 h4 v5 h5 v6 h6 => ?_
        obtain rfl : v0 = .agg #[.int .i64 s, .int .i64 n, .int .i64 x] := h0
        obtain rfl : v1 = .pointer (some ⟨b2, 0, none⟩) := h1
        obtain rfl : v2 = .int .i64 s := h2
        obtain rfl : v3 = .pointer (some ⟨p, 0, none⟩) := h3
        obtain ⟨y4, rfl, hy40, hy41⟩ : ∃ y : Int, v4 = .int .i64 y ∧ 0 ≤ y ∧ y ≤ 255 := h4
        obtain ⟨c, b, rfl⟩ : ∃ c b : Int, v5 = .agg #[.int .i64 c, .int .i64 b] := h5
        obtain ⟨s2, n2, x2, rfl, hin2⟩ : ∃ s n x : Int, v6 = .agg #[.int .i64 s, .int .i64 n, .int .i64 x] ∧ SnIn s n := h6
        (try simp only [reg.Obs])
        (try simp only [Act.put, List.setIfInBounds_toArray, List.set_cons_zero, List.set_cons_succ])
        simp only [List.drop_succ_cons, List.drop_zero]
        have K7 := Lib.hid hc.1
        have C7 := Lib.hid hc.2.1
        have Z7 := Lib.hid hc.2.2.1
        have S7 := Lib.hid hc.2.2.2.1
        clear hc K6 C6 Z6 S6
        have HIN2 := Lib.hid hin2
        clear hin2 hy40 hy41
        refine stw.list_store rfl 25 _ _ rfl (b2) #[.int .i64 s2, .int .i64 n2, .int .i64 x2] rfl rfl 25 _ S7.out rfl szS (oneS _ _ _) ?_
        intro wz8 hz
        (try simp only [Act.put])
        have K8 := Lib.hid (drk.later K7.out (by have hlS := LS.out; have h0 := P0.out; have hs0 := LTZ.out; have hs1 := SS1.out; have hs2 := SS2.out; have hs3 := SS3.out; have hs4 := LWS.out; have hs5 := SS4.out; have hs6 := LUZ5.out; have hs7 := LUS5.out; have hs8 := SBR5.out; have hs9 := SS6.out; first | omega | (simp <;> omega)) hz.below)
        have C8 := Lib.hid (drk.cur_later CW.out K7.out C7.out (by have hlS := LS.out; have h0 := P0.out; have hs0 := LTZ.out; have hs1 := SS1.out; have hs2 := SS2.out; have hs3 := SS3.out; have hs4 := LWS.out; have hs5 := SS4.out; have hs6 := LUZ5.out; have hs7 := LUS5.out; have hs8 := SBR5.out; have hs9 := SS6.out; first | omega | (simp <;> omega)) hz.below)
        have Z8 := Lib.hid (hz.keep Z7.out (by have hlS := LS.out; have h0 := P0.out; have hs0 := LTZ.out; have hs1 := SS1.out; have hs2 := SS2.out; have hs3 := SS3.out; have hs4 := LWS.out; have hs5 := SS4.out; have hs6 := LUZ5.out; have hs7 := LUS5.out; have hs8 := SBR5.out; have hs9 := SS6.out; first | omega | (simp <;> omega)))
        have S8 := Lib.hid (hz.box)
        clear hz K7 C7 Z7 S7
        go_wp2_with fail
        go_roundw
        case rel => exact ⟨j - 1, s2, n2, x2, by go_num, by omega, HIN2.out, K8.out, C8.out, Z8.out, S8.out⟩
        case measure => simp [intOf]; omega
      | false =>
        go_wp2_with (refine stw.list_load rfl 25 _ rfl (b2) rfl 25 _ S6.out Try.underlying25 rfl szS ?_)
        obtain ⟨⟨⟨s2, n2, x2⟩, x3, v3⟩, hx⟩ : ∃ q, nxt ⟨s, n, x⟩ = q := ⟨_, rfl⟩
        have HX := Lib.hid hx
        have HIN2 := Lib.hid (show SnIn s2 n2 by have h := nxt_in (x := x) hin.out; rw [hx] at h; exact h)
        clear hx
        (with_reducible refine (specSn s n x _).mono ?_)
        rintro e w7 hp
        obtain ⟨rfl, hb⟩ := nx_parts HX.out hp
        clear hp
        have SS7 := Lib.hid hb.size
        have K7 := Lib.hid (drk.later K6.out K6.out.size hb)
        have C7 := Lib.hid (drk.cur_below C6.out hb)
        have Z7 := Lib.hid (Z6.out.below hb)
        have S7 := Lib.hid (S6.out.below hb)
        clear hb  K6 C6 Z6 S6
        go_wp2_with (first | (refine stw.list_store rfl 25 _ _ rfl (b2) #[.int .i64 s2, .int .i64 n2, .int .i64 x2] rfl rfl 25 _ S7.out rfl szS (oneS _ _ _) ?_; intro wz8 hz))
        have K8 := Lib.hid (drk.later K7.out (by have hlS := LS.out; have h0 := P0.out; have hs0 := LTZ.out; have hs1 := SS1.out; have hs2 := SS2.out; have hs3 := SS3.out; have hs4 := LWS.out; have hs5 := SS4.out; have hs6 := LUZ5.out; have hs7 := LUS5.out; have hs8 := SBR5.out; have hs9 := SS6.out; have hs10 := SS7.out; first | omega | (simp <;> omega)) hz.below)
        have C8 := Lib.hid (drk.cur_later CW.out K7.out C7.out (by have hlS := LS.out; have h0 := P0.out; have hs0 := LTZ.out; have hs1 := SS1.out; have hs2 := SS2.out; have hs3 := SS3.out; have hs4 := LWS.out; have hs5 := SS4.out; have hs6 := LUZ5.out; have hs7 := LUS5.out; have hs8 := SBR5.out; have hs9 := SS6.out; have hs10 := SS7.out; first | omega | (simp <;> omega)) hz.below)
        have Z8 := Lib.hid (hz.keep Z7.out (by have hlS := LS.out; have h0 := P0.out; have hs0 := LTZ.out; have hs1 := SS1.out; have hs2 := SS2.out; have hs3 := SS3.out; have hs4 := LWS.out; have hs5 := SS4.out; have hs6 := LUZ5.out; have hs7 := LUS5.out; have hs8 := SBR5.out; have hs9 := SS6.out; have hs10 := SS7.out; first | omega | (simp <;> omega)))
        have S8 := Lib.hid (hz.box)
        clear hz K7 C7 Z7 S7
        go_roundw
        case rel => exact ⟨j - 1, s2, n2, x2, by go_num, by omega, HIN2.out, K8.out, C8.out, Z8.out, S8.out⟩
        case measure => simp [intOf]; omega
    · go_wp2_with (first | (refine stw.list_load rfl 25 _ rfl (b2) rfl 25 _ S5.out Try.underlying25 rfl szS ?_) | (refine stw.list_store rfl 25 _ _ rfl (w.heap.size) #[.int .i64 s, .int .i64 n, .int .i64 x] rfl rfl 25 _ Z5.out rfl szS (oneS _ _ _) ?_; intro wz6 hz))
      have K6 := Lib.hid (drk.later K5.out (by have hlS := LS.out; have h0 := P0.out; have hs0 := LTZ.out; have hs1 := SS1.out; have hs2 := SS2.out; have hs3 := SS3.out; have hs4 := LWS.out; have hs5 := SS4.out; have hs6 := LUZ5.out; have hs7 := LUS5.out; have hs8 := SBR5.out; first | omega | (simp <;> omega)) hz.below)
      have C6 := Lib.hid (drk.cur_later CW.out K5.out C5.out (by have hlS := LS.out; have h0 := P0.out; have hs0 := LTZ.out; have hs1 := SS1.out; have hs2 := SS2.out; have hs3 := SS3.out; have hs4 := LWS.out; have hs5 := SS4.out; have hs6 := LUZ5.out; have hs7 := LUS5.out; have hs8 := SBR5.out; first | omega | (simp <;> omega)) hz.below)
      have Z6 := Lib.hid (hz.box)
      have S6 := Lib.hid (hz.keep S5.out (by have hlS := LS.out; have h0 := P0.out; have hs0 := LTZ.out; have hs1 := SS1.out; have hs2 := SS2.out; have hs3 := SS3.out; have hs4 := LWS.out; have hs5 := SS4.out; have hs6 := LUZ5.out; have hs7 := LUS5.out; have hs8 := SBR5.out; first | omega | (simp <;> omega)))
      clear hz K5 C5 Z5 S5
      (try simp only [Exit.inBlock, Exit.then])
      refine bodyPost_ret (v := .agg #[.int .i64 s, .int .i64 n, .int .i64 x]) ?_ rfl ?_
      · rw [results_cell1 rfl]
        exact stw.back Z6.out Try.underlying25 rfl szS
      · exact ⟨_, _, _, rfl, hin.out, K6.out, C6.out⟩
set_option maxRecDepth 100000 in
set_option maxHeartbeats 4000000 in
theorem dSa (w : World) (p : Nat) (a : Option Addr) (len cap : Nat) (hc : Cur w p a len cap) :
    Calls Try.prog 38 #[.pointer (some ⟨p, 0, none⟩)] w (SaPost p a len cap w) := by
  have CW := Lib.hid hc
  have P0 := Lib.hid hc.lt
  clear hc
  go_enter Try.func38, Try.ntmps38
  go_wp2_with fail
  obtain ⟨w0, hW⟩ : ∃ w0, w.alloc (.cells #[.int .i64 0, .int .i64 0, .int .i64 0] 25) = w0 := ⟨_, rfl⟩
  rw [hW]
  have K0 := Lib.hid (show Keep p w w0 by rw [← hW]; exact (Keep.refl p w).alloc _)
  have C0 := Lib.hid (show Cur w0 p a len cap by rw [← hW]; exact (CW.out).alloc _)
  have Z0 := Lib.hid (show Bx 25 w0 (w.heap.size) #[.int .i64 0, .int .i64 0, .int .i64 0] by
      rw [← hW]
      have hh := Bx.made 25 w #[.int .i64 0, .int .i64 0, .int .i64 0]
      exact hh)
  clear hW
  have LTZ := Lib.hid Z0.out.lt
  (with_reducible refine (dSn _ p a len cap C0.out).mono ?_)
  rintro e w1 ⟨s, n, x, rfl, hin, hk, hc⟩
  have HIN := Lib.hid hin
  have SS1 := Lib.hid hk.size
  have K1 := Lib.hid (K0.out.trans hk)
  have C1 := Lib.hid (hc)
  have Z1 := Lib.hid (drk.bx_keep Z0.out hk (by have h0 := P0.out; have hs0 := LTZ.out; have hs1 := SS1.out; first | omega | (simp <;> omega)))
  clear hk hc hin K0 C0 Z0
  obtain ⟨b2, hbb⟩ : ∃ b, w1.heap.size = b := ⟨_, rfl⟩
  go_upto_region 2 with fail
  generalize hW : w1.alloc (.cells #[.int .i64 s, .int .i64 n, .int .i64 x] 25) = w2
  have LS := Lib.hid (show w.heap.size ≤ b2 ∧ w.heap.size < b2 by have h1 := K1.out.size; have h2Z := Z1.out.lt; have h3 := hbb; omega)
  have S2 := Lib.hid (show Bx 25 w2 b2 #[.int .i64 s, .int .i64 n, .int .i64 x] by rw [← hW, ← hbb]; exact Bx.made _ _ _)
  have hb : Below w1.heap.size w1 w2 := by rw [← hW]; exact below_box _ _
  (try rw [hbb])
  clear hW hbb
  have SS2 := Lib.hid hb.size
  have K2 := Lib.hid (drk.later K1.out K1.out.size hb)
  have C2 := Lib.hid (drk.cur_below C1.out hb)
  have Z2 := Lib.hid (Z1.out.below hb)
  clear hb K1 C1 Z1
  have LWS := Lib.hid S2.out.lt
  go_wp2_with fail
  (with_reducible refine (below 10 (by omega) _ p a len cap C2.out).mono ?_)
  rintro e w3 ⟨q, rfl, hx0, hx1, hk, hc⟩
  have Hq := Lib.hid (show 0 ≤ q ∧ q < 10 from ⟨hx0, hx1 (by omega)⟩)
  have SS3 := Lib.hid hk.size
  have K3 := Lib.hid (K2.out.trans hk)
  have C3 := Lib.hid (hc)
  have Z3 := Lib.hid (drk.bx_keep Z2.out hk (by have hlS := LS.out; have h0 := P0.out; have hs0 := LTZ.out; have hs1 := SS1.out; have hs2 := SS2.out; have hs3 := LWS.out; have hs4 := SS3.out; first | omega | (simp <;> omega)))
  have S3 := Lib.hid (drk.bx_keep S2.out hk (by have hlS := LS.out; have h0 := P0.out; have hs0 := LTZ.out; have hs1 := SS1.out; have hs2 := SS2.out; have hs3 := LWS.out; have hs4 := SS3.out; first | omega | (simp <;> omega)))
  clear hk hc hx0 hx1 K2 C2 Z2 S2
  by_cases h0 : q = 0
  · subst h0
    obtain ⟨n2, hn2⟩ : ∃ y, nsq n = y := ⟨_, rfl⟩
    have HN2 := Lib.hid (show 0 ≤ n2 ∧ n2 ≤ 4095 by rw [← hn2]; exact nsq_rng n)
    have HNQ := Lib.hid hn2
    clear hn2
    go_upto_region 4 with fail
    refine reg.region_tail (drk.Dr p a len cap) 9 32 [some [], some [], some [(1, 11)], some [], some [(3, 13)], some [(4, 14)], some [(2, 12), (5, 15)], some [(0, 10), (6, 16)], some [], none] [(0, 10), (1, 11), (2, 12), (3, 13), (4, 14), (5, 15), (6, 16), (7, 17), (8, 18)]
      (fun w' => Keep p w w' ∧ Cur w' p a len cap ∧ Bx 25 w' (w.heap.size) #[.int .i64 0, .int .i64 0, .int .i64 0] ∧ Bx 25 w' (b2) #[.int .i64 s, .int .i64 n, .int .i64 x] ∧ True)
      (reg.rl [reg.is (.pointer (some ⟨p, 0, none⟩)), reg.is (.pointer (some ⟨b2, 1, none⟩)), reg.is (.int .i64 n), reg.is (.pointer (some ⟨b2, 1, none⟩)), reg.is (.int .i64 n), reg.is (.int .i64 n2), bkD p a len cap (fun N => .slice (some ⟨N, 0, none⟩) 4 4) 3 #[.int .i64 (-1), .int .i64 4096, .int .i64 n, .int .i64 n2], reg.val (fun v => ∃ y : Int, v = .int .i64 y ∧ -1 ≤ y ∧ y ≤ 4096), reg.is (.pointer (some ⟨b2, 0, none⟩)), reg.free])
      (by kernel_rfl) rfl (by kernel_rfl) (by kernel_rfl) rfl
      (fun w1 w2 hc hb => ⟨hc.1.trans hb.1, hb.2, drk.bx_keep hc.2.2.1 hb.1 (by have hlS := LS.out; have h0 := P0.out; have hs0 := LTZ.out; have hs1 := SS1.out; have hs2 := SS2.out; have hs3 := LWS.out; have hs4 := SS3.out; first | omega | (simp <;> omega)), drk.bx_keep hc.2.2.2.1 hb.1 (by have hlS := LS.out; have h0 := P0.out; have hs0 := LTZ.out; have hs1 := SS1.out; have hs2 := SS2.out; have hs3 := LWS.out; have hs4 := SS3.out; first | omega | (simp <;> omega)), trivial⟩) (reg.rl_keep _) (⟨Keep.drew K3.out, show Cur w3.drew p a len cap from C3.out, Z3.out.same rfl, S3.out.same rfl, trivial⟩) (by kernel_rfl) ⟨?_, ?_, ?_, ?_, ?_, ?_, ?_, ?_, ?_, trivial⟩ ?_
    · refine fun w8 hc  K hK => ?_
      (try simp only [Act.put, List.setIfInBounds_toArray, List.set_cons_zero, List.set_cons_succ])
      go_simp
      exact hK (.pointer (some ⟨p, 0, none⟩)) _ rfl ⟨Keep.refl _ _, hc.2.1⟩
    · refine fun w8 hc  K hK => ?_
      (try simp only [Act.put, List.setIfInBounds_toArray, List.set_cons_zero, List.set_cons_succ])
      go_simp
      exact hK (.pointer (some ⟨b2, 1, none⟩)) _ rfl ⟨Keep.refl _ _, hc.2.1⟩
    · refine fun w8 hc v1 h1 K hK => ?_
      obtain rfl : v1 = .pointer (some ⟨b2, 1, none⟩) := h1
      (try simp only [Act.put, List.setIfInBounds_toArray, List.set_cons_zero, List.set_cons_succ])
      have c0 : w8.cell? ⟨b2, 1, none⟩ = some (.int .i64 n) := hc.2.2.2.1.cell 1
      go_simp
      exact hK (.int .i64 n) _ rfl ⟨Keep.refl _ _, hc.2.1⟩
    · refine fun w8 hc  K hK => ?_
      (try simp only [Act.put, List.setIfInBounds_toArray, List.set_cons_zero, List.set_cons_succ])
      go_simp
      exact hK (.pointer (some ⟨b2, 1, none⟩)) _ rfl ⟨Keep.refl _ _, hc.2.1⟩
    · refine fun w8 hc v3 h3 K hK => ?_
      obtain rfl : v3 = .pointer (some ⟨b2, 1, none⟩) := h3
      (try simp only [Act.put, List.setIfInBounds_toArray, List.set_cons_zero, List.set_cons_succ])
      have c0 : w8.cell? ⟨b2, 1, none⟩ = some (.int .i64 n) := hc.2.2.2.1.cell 1
      go_simp
      exact hK (.int .i64 n) _ rfl ⟨Keep.refl _ _, hc.2.1⟩
    · refine fun w8 hc v4 h4 K hK => ?_
      obtain rfl : v4 = .int .i64 n := h4
      (try simp only [Act.put, List.setIfInBounds_toArray, List.set_cons_zero, List.set_cons_succ])
      go_simp
      (with_reducible refine ((by have hh := specNs n w8; rw [HNQ.out] at hh; exact hh : Calls Try.prog 48 #[.int .i64 n] w8 fun e w' => e = .returned (.int .i64 n2) ∧ w8 = w')).mono ?_)
      rintro e w3 ⟨rfl, rfl⟩
      exact hK _ _ rfl ⟨Keep.refl _ _, hc.2.1⟩
    · refine fun w8 hc v2 h2 v5 h5 K hK => ?_
      obtain rfl : v2 = .int .i64 n := h2
      obtain rfl : v5 = .int .i64 n2 := h5
      (try simp only [Act.put, List.setIfInBounds_toArray, List.set_cons_zero, List.set_cons_succ])
      have hpl := hc.2.1.lt
      go_simp
      exact hK (.slice (some ⟨w8.heap.size, 0, none⟩) 4 4) _ ⟨w8.heap.size, rfl, by omega, Bx.made _ _ _⟩ ⟨drk.later (Keep.refl _ w8) (Nat.le_refl _) (bx.below_box _ _), drk.cur_below hc.2.1 (bx.below_box _ _)⟩
    · refine fun w8 hc v0 h0 v6 h6 K hK => ?_
      obtain rfl : v0 = .pointer (some ⟨p, 0, none⟩) := h0
      obtain ⟨N, rfl, hN, hXN⟩ := h6
      (try simp only [Act.put, List.setIfInBounds_toArray, List.set_cons_zero, List.set_cons_succ])
      go_simp
      (with_reducible refine (stw.pickAt (-1) 4096 4 (by omega) (by omega) _ p N a len cap #[.int .i64 (-1), .int .i64 4096, .int .i64 n, .int .i64 n2] 3 hXN hN rfl (by have h1 := HIN.out.n; have h2 := HN2.out; simp [okInt]; omega) hc.2.1).mono ?_)
      rintro e w3 ⟨y, rfl, h1, h2, hk, hcc⟩
      exact hK (.int .i64 y) _ ⟨y, rfl, h1, h2⟩ ⟨hk, hcc⟩
    · refine fun w8 hc  K hK => ?_
      (try simp only [Act.put, List.setIfInBounds_toArray, List.set_cons_zero, List.set_cons_succ])
      go_simp
      exact hK (.pointer (some ⟨b2, 0, none⟩)) _ rfl ⟨Keep.refl _ _, hc.2.1⟩
    refine fun wg4 hc v0 h0 v1 h1 v2 h2 v3 h3 v4 h4 v5 h5 v6 h6 v7 h7 v8 h8 => ?_
    obtain rfl : v0 = .pointer (some ⟨p, 0, none⟩) := h0
    obtain rfl : v1 = .pointer (some ⟨b2, 1, none⟩) := h1
    obtain rfl : v2 = .int .i64 n := h2
    obtain rfl : v3 = .pointer (some ⟨b2, 1, none⟩) := h3
    obtain rfl : v4 = .int .i64 n := h4
    obtain rfl : v5 = .int .i64 n2 := h5
    obtain ⟨N, rfl, hN, hXN⟩ := h6
    obtain ⟨y2, rfl, hy20, hy21⟩ : ∃ y : Int, v7 = .int .i64 y ∧ -1 ≤ y ∧ y ≤ 4096 := h7
    obtain rfl : v8 = .pointer (some ⟨b2, 0, none⟩) := h8
    (try simp only [reg.Obs])
    (try simp only [Act.put, List.setIfInBounds_toArray, List.set_cons_zero, List.set_cons_succ])
    simp only [List.drop_succ_cons, List.drop_zero]
    have K4 := Lib.hid hc.1
    have C4 := Lib.hid hc.2.1
    have Z4 := Lib.hid hc.2.2.1
    have S4 := Lib.hid hc.2.2.2.1
    clear hc K3 C3 Z3 S3
    have Hy2 := Lib.hid (show -1 ≤ y2 ∧ y2 ≤ 4096 from ⟨hy20, hy21⟩)
    clear hy20 hy21 hN hXN
    have cS0 : wg4.cell? ⟨b2, 0, none⟩ = some (.int .i64 s) := S4.out.cell 0
    have fS0 : wg4.frozen? ⟨b2, 0, none⟩ = false := S4.out.free 0
    go_upto_region 9 with fail
    clear cS0 fS0
    have BB := Lib.hid (show Below w.heap.size wg4 (wg4.setCell ⟨b2, 0, none⟩ (.int .i64 y2)) from (Below.refl _ _).setCell (p := ⟨b2, 0, none⟩) (by have hlS := LS.out; have h0 := P0.out; have hs0 := LTZ.out; have hs1 := SS1.out; have hs2 := SS2.out; have hs3 := LWS.out; have hs4 := SS3.out; (try simp only []); omega) _)
    have hWW : (wg4.setCell ⟨b2, 0, none⟩ (.int .i64 y2)) = (wg4.setCell ⟨b2, 0, none⟩ (.int .i64 y2)) := rfl
    obtain ⟨w5, hW⟩ : ∃ wy, (wg4.setCell ⟨b2, 0, none⟩ (.int .i64 y2)) = wy := ⟨_, rfl⟩
    rw [hW]
    clear hWW
    have K5 := Lib.hid (drk.later K4.out (Nat.le_refl _) (hW ▸ BB.out))
    have C5 := Lib.hid (drk.cur_later CW.out K4.out C4.out (Nat.le_refl _) (hW ▸ BB.out))
    have Z5 := Lib.hid (show Bx 25 w5 (w.heap.size) #[.int .i64 0, .int .i64 0, .int .i64 0] by rw [← hW]; exact (Z4.out.other (by have hlS := LS.out; have h0 := P0.out; have hs0 := LTZ.out; have hs1 := SS1.out; have hs2 := SS2.out; have hs3 := LWS.out; have hs4 := SS3.out; first | omega | (simp <;> omega)) _ _))
    have S5 := Lib.hid (show Bx 25 w5 (b2) #[.int .i64 y2, .int .i64 n, .int .i64 x] by rw [← hW]; exact (S4.out.set 0 _))
    clear hW BB K4 C4 Z4 S4
    go_wp2_with (first | (refine stw.list_load rfl 25 _ rfl (b2) rfl 25 _ S5.out Try.underlying25 rfl szS ?_) | (refine stw.list_store rfl 25 _ _ rfl (w.heap.size) #[.int .i64 y2, .int .i64 n, .int .i64 x] rfl rfl 25 _ Z5.out rfl szS (oneS _ _ _) ?_; intro wz6 hz))
    have K6 := Lib.hid (drk.later K5.out (by have hlS := LS.out; have h0 := P0.out; have hs0 := LTZ.out; have hs1 := SS1.out; have hs2 := SS2.out; have hs3 := LWS.out; have hs4 := SS3.out; first | omega | (simp <;> omega)) hz.below)
    have C6 := Lib.hid (drk.cur_later CW.out K5.out C5.out (by have hlS := LS.out; have h0 := P0.out; have hs0 := LTZ.out; have hs1 := SS1.out; have hs2 := SS2.out; have hs3 := LWS.out; have hs4 := SS3.out; first | omega | (simp <;> omega)) hz.below)
    have Z6 := Lib.hid (hz.box)
    have S6 := Lib.hid (hz.keep S5.out (by have hlS := LS.out; have h0 := P0.out; have hs0 := LTZ.out; have hs1 := SS1.out; have hs2 := SS2.out; have hs3 := LWS.out; have hs4 := SS3.out; first | omega | (simp <;> omega)))
    clear hz K5 C5 Z5 S5
    (try simp only [Exit.inBlock, Exit.then])
    refine bodyPost_ret (v := .agg #[.int .i64 y2, .int .i64 n, .int .i64 x]) ?_ rfl ?_
    · rw [results_cell1 rfl]
      exact stw.back Z6.out Try.underlying25 rfl szS
    · exact ⟨y2, n, x, rfl, (by have h1 := HIN.out.s; have h2 := Hy2.out; exact ⟨by omega, by omega⟩), K6.out, C6.out⟩
  · by_cases h1 : q = 1
    · subst h1
      go_wp2_with fail
      (with_reducible refine (pickIn (-1) 4096 2 (by omega) (by omega) _ p a len cap C3.out #[.int .i64 (-1), .int .i64 4096] rfl (by decide)).mono ?_)
      rintro e w4 ⟨y2, rfl, hx0, hx1, hk, hc⟩
      have Hy2 := Lib.hid (show -1 ≤ y2 ∧ y2 ≤ 4096 from ⟨hx0, hx1⟩)
      have SS4 := Lib.hid hk.size
      have K4 := Lib.hid (K3.out.trans hk)
      have C4 := Lib.hid (hc)
      have Z4 := Lib.hid (drk.bx_keep Z3.out hk (by have hlS := LS.out; have h0 := P0.out; have hs0 := LTZ.out; have hs1 := SS1.out; have hs2 := SS2.out; have hs3 := LWS.out; have hs4 := SS3.out; have hs5 := SS4.out; first | omega | (simp <;> omega)))
      have S4 := Lib.hid (drk.bx_keep S3.out hk (by have hlS := LS.out; have h0 := P0.out; have hs0 := LTZ.out; have hs1 := SS1.out; have hs2 := SS2.out; have hs3 := LWS.out; have hs4 := SS3.out; have hs5 := SS4.out; first | omega | (simp <;> omega)))
      clear hk hc hx0 hx1 K3 C3 Z3 S3
      have cS1 : w4.cell? ⟨b2, 1, none⟩ = some (.int .i64 n) := S4.out.cell 1
      have fS1 : w4.frozen? ⟨b2, 1, none⟩ = false := S4.out.free 1
      go_upto_region 9 with fail
      clear cS1 fS1
      have BB := Lib.hid (show Below w.heap.size w4 (w4.setCell ⟨b2, 1, none⟩ (.int .i64 y2)) from (Below.refl _ _).setCell (p := ⟨b2, 1, none⟩) (by have hlS := LS.out; have h0 := P0.out; have hs0 := LTZ.out; have hs1 := SS1.out; have hs2 := SS2.out; have hs3 := LWS.out; have hs4 := SS3.out; have hs5 := SS4.out; (try simp only []); omega) _)
      have hWW : (w4.setCell ⟨b2, 1, none⟩ (.int .i64 y2)) = (w4.setCell ⟨b2, 1, none⟩ (.int .i64 y2)) := rfl
      obtain ⟨w5, hW⟩ : ∃ wy, (w4.setCell ⟨b2, 1, none⟩ (.int .i64 y2)) = wy := ⟨_, rfl⟩
      rw [hW]
      clear hWW
      have K5 := Lib.hid (drk.later K4.out (Nat.le_refl _) (hW ▸ BB.out))
      have C5 := Lib.hid (drk.cur_later CW.out K4.out C4.out (Nat.le_refl _) (hW ▸ BB.out))
      have Z5 := Lib.hid (show Bx 25 w5 (w.heap.size) #[.int .i64 0, .int .i64 0, .int .i64 0] by rw [← hW]; exact (Z4.out.other (by have hlS := LS.out; have h0 := P0.out; have hs0 := LTZ.out; have hs1 := SS1.out; have hs2 := SS2.out; have hs3 := LWS.out; have hs4 := SS3.out; have hs5 := SS4.out; first | omega | (simp <;> omega)) _ _))
      have S5 := Lib.hid (show Bx 25 w5 (b2) #[.int .i64 s, .int .i64 y2, .int .i64 x] by rw [← hW]; exact (S4.out.set 1 _))
      clear hW BB K4 C4 Z4 S4
      go_wp2_with (first | (refine stw.list_load rfl 25 _ rfl (b2) rfl 25 _ S5.out Try.underlying25 rfl szS ?_) | (refine stw.list_store rfl 25 _ _ rfl (w.heap.size) #[.int .i64 s, .int .i64 y2, .int .i64 x] rfl rfl 25 _ Z5.out rfl szS (oneS _ _ _) ?_; intro wz6 hz))
      have K6 := Lib.hid (drk.later K5.out (by have hlS := LS.out; have h0 := P0.out; have hs0 := LTZ.out; have hs1 := SS1.out; have hs2 := SS2.out; have hs3 := LWS.out; have hs4 := SS3.out; have hs5 := SS4.out; first | omega | (simp <;> omega)) hz.below)
      have C6 := Lib.hid (drk.cur_later CW.out K5.out C5.out (by have hlS := LS.out; have h0 := P0.out; have hs0 := LTZ.out; have hs1 := SS1.out; have hs2 := SS2.out; have hs3 := LWS.out; have hs4 := SS3.out; have hs5 := SS4.out; first | omega | (simp <;> omega)) hz.below)
      have Z6 := Lib.hid (hz.box)
      have S6 := Lib.hid (hz.keep S5.out (by have hlS := LS.out; have h0 := P0.out; have hs0 := LTZ.out; have hs1 := SS1.out; have hs2 := SS2.out; have hs3 := LWS.out; have hs4 := SS3.out; have hs5 := SS4.out; first | omega | (simp <;> omega)))
      clear hz K5 C5 Z5 S5
      (try simp only [Exit.inBlock, Exit.then])
      refine bodyPost_ret (v := .agg #[.int .i64 s, .int .i64 y2, .int .i64 x]) ?_ rfl ?_
      · rw [results_cell1 rfl]
        exact stw.back Z6.out Try.underlying25 rfl szS
      · exact ⟨s, y2, x, rfl, (by have h1 := HIN.out.s; exact ⟨by omega, by omega⟩), K6.out, C6.out⟩
    · by_cases h2 : q = 2
      · subst h2
        go_wp2_with fail
        (with_reducible refine (pickIn (-1) 131072 5 (by omega) (by omega) _ p a len cap C3.out #[.int .i64 (-1), .int .i64 1, .int .i64 2, .int .i64 65536, .int .i64 131072] rfl (by decide)).mono ?_)
        rintro e w4 ⟨y2, rfl, hx0, hx1, hk, hc⟩
        have Hy2 := Lib.hid (show -1 ≤ y2 ∧ y2 ≤ 131072 from ⟨hx0, hx1⟩)
        have SS4 := Lib.hid hk.size
        have K4 := Lib.hid (K3.out.trans hk)
        have C4 := Lib.hid (hc)
        have Z4 := Lib.hid (drk.bx_keep Z3.out hk (by have hlS := LS.out; have h0 := P0.out; have hs0 := LTZ.out; have hs1 := SS1.out; have hs2 := SS2.out; have hs3 := LWS.out; have hs4 := SS3.out; have hs5 := SS4.out; first | omega | (simp <;> omega)))
        have S4 := Lib.hid (drk.bx_keep S3.out hk (by have hlS := LS.out; have h0 := P0.out; have hs0 := LTZ.out; have hs1 := SS1.out; have hs2 := SS2.out; have hs3 := LWS.out; have hs4 := SS3.out; have hs5 := SS4.out; first | omega | (simp <;> omega)))
        clear hk hc hx0 hx1 K3 C3 Z3 S3
        have cS2 : w4.cell? ⟨b2, 2, none⟩ = some (.int .i64 x) := S4.out.cell 2
        have fS2 : w4.frozen? ⟨b2, 2, none⟩ = false := S4.out.free 2
        go_upto_region 9 with fail
        clear cS2 fS2
        have BB := Lib.hid (show Below w.heap.size w4 (w4.setCell ⟨b2, 2, none⟩ (.int .i64 y2)) from (Below.refl _ _).setCell (p := ⟨b2, 2, none⟩) (by have hlS := LS.out; have h0 := P0.out; have hs0 := LTZ.out; have hs1 := SS1.out; have hs2 := SS2.out; have hs3 := LWS.out; have hs4 := SS3.out; have hs5 := SS4.out; (try simp only []); omega) _)
        have hWW : (w4.setCell ⟨b2, 2, none⟩ (.int .i64 y2)) = (w4.setCell ⟨b2, 2, none⟩ (.int .i64 y2)) := rfl
        obtain ⟨w5, hW⟩ : ∃ wy, (w4.setCell ⟨b2, 2, none⟩ (.int .i64 y2)) = wy := ⟨_, rfl⟩
        rw [hW]
        clear hWW
        have K5 := Lib.hid (drk.later K4.out (Nat.le_refl _) (hW ▸ BB.out))
        have C5 := Lib.hid (drk.cur_later CW.out K4.out C4.out (Nat.le_refl _) (hW ▸ BB.out))
        have Z5 := Lib.hid (show Bx 25 w5 (w.heap.size) #[.int .i64 0, .int .i64 0, .int .i64 0] by rw [← hW]; exact (Z4.out.other (by have hlS := LS.out; have h0 := P0.out; have hs0 := LTZ.out; have hs1 := SS1.out; have hs2 := SS2.out; have hs3 := LWS.out; have hs4 := SS3.out; have hs5 := SS4.out; first | omega | (simp <;> omega)) _ _))
        have S5 := Lib.hid (show Bx 25 w5 (b2) #[.int .i64 s, .int .i64 n, .int .i64 y2] by rw [← hW]; exact (S4.out.set 2 _))
        clear hW BB K4 C4 Z4 S4
        go_wp2_with (first | (refine stw.list_load rfl 25 _ rfl (b2) rfl 25 _ S5.out Try.underlying25 rfl szS ?_) | (refine stw.list_store rfl 25 _ _ rfl (w.heap.size) #[.int .i64 s, .int .i64 n, .int .i64 y2] rfl rfl 25 _ Z5.out rfl szS (oneS _ _ _) ?_; intro wz6 hz))
        have K6 := Lib.hid (drk.later K5.out (by have hlS := LS.out; have h0 := P0.out; have hs0 := LTZ.out; have hs1 := SS1.out; have hs2 := SS2.out; have hs3 := LWS.out; have hs4 := SS3.out; have hs5 := SS4.out; first | omega | (simp <;> omega)) hz.below)
        have C6 := Lib.hid (drk.cur_later CW.out K5.out C5.out (by have hlS := LS.out; have h0 := P0.out; have hs0 := LTZ.out; have hs1 := SS1.out; have hs2 := SS2.out; have hs3 := LWS.out; have hs4 := SS3.out; have hs5 := SS4.out; first | omega | (simp <;> omega)) hz.below)
        have Z6 := Lib.hid (hz.box)
        have S6 := Lib.hid (hz.keep S5.out (by have hlS := LS.out; have h0 := P0.out; have hs0 := LTZ.out; have hs1 := SS1.out; have hs2 := SS2.out; have hs3 := LWS.out; have hs4 := SS3.out; have hs5 := SS4.out; first | omega | (simp <;> omega)))
        clear hz K5 C5 Z5 S5
        (try simp only [Exit.inBlock, Exit.then])
        refine bodyPost_ret (v := .agg #[.int .i64 s, .int .i64 n, .int .i64 y2]) ?_ rfl ?_
        · rw [results_cell1 rfl]
          exact stw.back Z6.out Try.underlying25 rfl szS
        · exact ⟨s, n, y2, rfl, (by have h1 := HIN.out.s; exact ⟨by omega, by omega⟩), K6.out, C6.out⟩
      · have e0 : (q == 0) = false := by simpa using h0
        have e1 : (q == 1) = false := by simpa using h1
        have e2 : (q == 2) = false := by simpa using h2
        go_wp2_with (first | (refine stw.list_load rfl 25 _ rfl (b2) rfl 25 _ S3.out Try.underlying25 rfl szS ?_) | (refine stw.list_store rfl 25 _ _ rfl (w.heap.size) #[.int .i64 s, .int .i64 n, .int .i64 x] rfl rfl 25 _ Z3.out rfl szS (oneS _ _ _) ?_; intro wz4 hz))
        have K4 := Lib.hid (drk.later K3.out (by have hlS := LS.out; have h0 := P0.out; have hs0 := LTZ.out; have hs1 := SS1.out; have hs2 := SS2.out; have hs3 := LWS.out; have hs4 := SS3.out; first | omega | (simp <;> omega)) hz.below)
        have C4 := Lib.hid (drk.cur_later CW.out K3.out C3.out (by have hlS := LS.out; have h0 := P0.out; have hs0 := LTZ.out; have hs1 := SS1.out; have hs2 := SS2.out; have hs3 := LWS.out; have hs4 := SS3.out; first | omega | (simp <;> omega)) hz.below)
        have Z4 := Lib.hid (hz.box)
        have S4 := Lib.hid (hz.keep S3.out (by have hlS := LS.out; have h0 := P0.out; have hs0 := LTZ.out; have hs1 := SS1.out; have hs2 := SS2.out; have hs3 := LWS.out; have hs4 := SS3.out; first | omega | (simp <;> omega)))
        clear hz K3 C3 Z3 S3
        (try simp only [Exit.inBlock, Exit.then])
        refine bodyPost_ret (v := .agg #[.int .i64 s, .int .i64 n, .int .i64 x]) ?_ rfl ?_
        · rw [results_cell1 rfl]
          exact stw.back Z4.out Try.underlying25 rfl szS
        · exact ⟨s, n, x, rfl, (by have h1 := HIN.out.s; exact ⟨by omega, by omega⟩), K4.out, C4.out⟩
set_option maxRecDepth 100000 in
set_option maxHeartbeats 4000000 in
theorem dAk (s n x : Int) (hs : -1 ≤ s ∧ s ≤ 4096) (w : World) (p : Nat) (a : Option Addr) (len cap : Nat) (hc : Cur w p a len cap) :
    Calls Try.prog 39 #[.pointer (some ⟨p, 0, none⟩), .agg #[.int .i64 s, .int .i64 n, .int .i64 x]] w (AkPost p a len cap w) := by
  have HS := Lib.hid hs
  clear hs
  have CW := Lib.hid hc
  have P0 := Lib.hid hc.lt
  clear hc
  go_enter Try.func39, Try.ntmps39
  go_upto_region 1 with fail
  obtain ⟨w0, hW⟩ : ∃ w0, (w.alloc (.cells #[.int .i64 s, .int .i64 n, .int .i64 x] 25)).alloc (.cells #[.int .i64 0, .int .i64 0] 27) = w0 := ⟨_, rfl⟩
  rw [hW]
  have K0 := Lib.hid (show Keep p w w0 by rw [← hW]; exact ((Keep.refl p w).alloc _).alloc _)
  have C0 := Lib.hid (show Cur w0 p a len cap by rw [← hW]; exact ((CW.out).alloc _).alloc _)
  have X0 := Lib.hid (show Bx 25 w0 (w.heap.size) #[.int .i64 s, .int .i64 n, .int .i64 x] by
      rw [← hW]
      have hh := Bx.made 25 w #[.int .i64 s, .int .i64 n, .int .i64 x]
      exact (hh.below (below_box _ _)))
  have Z0 := Lib.hid (show Bx 27 w0 (w.heap.size + 1) #[.int .i64 0, .int .i64 0] by
      rw [← hW]
      have hh : Bx 27 ((w.alloc (.cells #[.int .i64 s, .int .i64 n, .int .i64 x] 25)).alloc (.cells #[.int .i64 0, .int .i64 0] 27)) (w.heap.size + 1) #[.int .i64 0, .int .i64 0] := by have hh := Bx.made 27 (w.alloc (.cells #[.int .i64 s, .int .i64 n, .int .i64 x] 25)) #[.int .i64 0, .int .i64 0]; simpa using hh
      exact hh)
  clear hW
  have LTX := Lib.hid X0.out.lt
  have LTZ := Lib.hid Z0.out.lt
  refine reg.region_tail (drk.Dr p a len cap) 11 31 [some [], some [(0, 6)], some [], some [(2, 8)], some [(1, 7), (3, 9)], some [(4, 10)], some [(5, 11)], some [], some [(7, 13)], some [(6, 12), (8, 14)], some [], none] [(0, 6), (1, 7), (2, 8), (3, 9), (4, 10), (5, 11), (6, 12), (7, 13), (8, 14), (9, 15), (10, 5)]
    (fun w' => Keep p w w' ∧ Cur w' p a len cap ∧ Bx 25 w' (w.heap.size) #[.int .i64 s, .int .i64 n, .int .i64 x] ∧ Bx 27 w' (w.heap.size + 1) #[.int .i64 0, .int .i64 0] ∧ True)
    (reg.rl [reg.is (.pointer (some ⟨w.heap.size, 0, none⟩)), reg.is (.int .i64 s), reg.is (.pointer (some ⟨p, 0, none⟩)), reg.val (fun v => ∃ y : Int, v = .int .i64 y ∧ 0 ≤ y ∧ y ≤ 4), reg.val (fun v => ∃ y : Int, v = .int .i64 y ∧ -1 ≤ y ∧ y ≤ 4100), reg.val (fun v => ∃ y : Int, v = .int .i64 y ∧ -2 ≤ y ∧ y ≤ 4099), reg.val (fun v => ∃ y : Int, v = .int .i64 y ∧ 0 ≤ y ∧ y ≤ 4095), reg.is (.pointer (some ⟨p, 0, none⟩)), reg.val (fun v => ∃ y : Int, v = .int .i64 y ∧ 0 ≤ y ∧ y ≤ 65535), reg.val (fun v => ∃ c b : Int, v = .agg #[.int .i64 c, .int .i64 b]), mkD p a len cap 27 (w.heap.size + 1) #[.int .i64 0, .int .i64 0], reg.free])
    (by kernel_rfl) rfl (by kernel_rfl) (by kernel_rfl) rfl
    (fun w1 w2 hc hb => ⟨hc.1.trans hb.1, hb.2, drk.bx_keep hc.2.2.1 hb.1 (by have h0 := P0.out; have hs0 := LTX.out; have hs1 := LTZ.out; first | omega | (simp <;> omega)), drk.bx_keep hc.2.2.2.1 hb.1 (by have h0 := P0.out; have hs0 := LTX.out; have hs1 := LTZ.out; first | omega | (simp <;> omega)), trivial⟩) (reg.rl_keep _) (⟨Keep.drew K0.out, show Cur w0.drew p a len cap from C0.out, X0.out.same rfl, Z0.out.same rfl, trivial⟩) (by kernel_rfl) ⟨?_, ?_, ?_, ?_, ?_, ?_, ?_, ?_, ?_, ?_, ?_, trivial⟩ ?_
  · refine fun w8 hc  K hK => ?_
    (try simp only [Act.put, List.setIfInBounds_toArray, List.set_cons_zero, List.set_cons_succ])
    go_simp
    exact hK (.pointer (some ⟨w.heap.size, 0, none⟩)) _ rfl ⟨Keep.refl _ _, hc.2.1⟩
  · refine fun w8 hc v0 h0 K hK => ?_
    obtain rfl : v0 = .pointer (some ⟨w.heap.size, 0, none⟩) := h0
    (try simp only [Act.put, List.setIfInBounds_toArray, List.set_cons_zero, List.set_cons_succ])
    have c0 : w8.cell? ⟨w.heap.size, 0, none⟩ = some (.int .i64 s) := hc.2.2.1.cell 0
    go_simp
    exact hK (.int .i64 s) _ rfl ⟨Keep.refl _ _, hc.2.1⟩
  · refine fun w8 hc  K hK => ?_
    (try simp only [Act.put, List.setIfInBounds_toArray, List.set_cons_zero, List.set_cons_succ])
    go_simp
    exact hK (.pointer (some ⟨p, 0, none⟩)) _ rfl ⟨Keep.refl _ _, hc.2.1⟩
  · refine fun w8 hc v2 h2 K hK => ?_
    obtain rfl : v2 = .pointer (some ⟨p, 0, none⟩) := h2
    (try simp only [Act.put, List.setIfInBounds_toArray, List.set_cons_zero, List.set_cons_succ])
    go_simp
    (with_reducible refine (below 5 (by omega) _ p a len cap hc.2.1).mono ?_)
    rintro e w3 ⟨y, rfl, h1, h2, hk, hcc⟩
    exact hK (.int .i64 y) _ ⟨y, rfl, h1, by have := h2 (by omega); omega⟩ ⟨hk, hcc⟩
  · refine fun w8 hc v1 h1 v3 h3 K hK => ?_
    obtain rfl : v1 = .int .i64 s := h1
    obtain ⟨y3, rfl, hy30, hy31⟩ : ∃ y : Int, v3 = .int .i64 y ∧ 0 ≤ y ∧ y ≤ 4 := h3
    (try simp only [Act.put, List.setIfInBounds_toArray, List.set_cons_zero, List.set_cons_succ])
    have hs1 := HS.out
    have m1 : IntKind.i64.wrap (s + y3) = s + y3 := IntWalk.i64_in _ (by omega)
    go_simp
    (try simp only [m1])
    exact hK (.int .i64 (s + y3)) _ ⟨_, rfl, by omega, by omega⟩ ⟨Keep.refl _ _, hc.2.1⟩
  · refine fun w8 hc v4 h4 K hK => ?_
    obtain ⟨y4, rfl, hy40, hy41⟩ : ∃ y : Int, v4 = .int .i64 y ∧ -1 ≤ y ∧ y ≤ 4100 := h4
    (try simp only [Act.put, List.setIfInBounds_toArray, List.set_cons_zero, List.set_cons_succ])
    have m1 : IntKind.i64.wrap (y4 - 1) = y4 - 1 := IntWalk.i64_in _ (by omega)
    go_simp
    (try simp only [m1])
    exact hK (.int .i64 (y4 - 1)) _ ⟨_, rfl, by omega, by omega⟩ ⟨Keep.refl _ _, hc.2.1⟩
  · refine fun w8 hc v5 h5 K hK => ?_
    obtain ⟨y5, rfl, hy50, hy51⟩ : ∃ y : Int, v5 = .int .i64 y ∧ -2 ≤ y ∧ y ≤ 4099 := h5
    (try simp only [Act.put, List.setIfInBounds_toArray, List.set_cons_zero, List.set_cons_succ])
    go_simp
    (with_reducible refine (hsh.specMod y5 4096 (by omega) _).mono ?_)
    rintro e w3 ⟨rfl, rfl⟩
    exact hK (.int .i64 (y5 % 4096)) _ ⟨_, rfl, by omega, by omega⟩ ⟨Keep.refl _ _, hc.2.1⟩
  · refine fun w8 hc  K hK => ?_
    (try simp only [Act.put, List.setIfInBounds_toArray, List.set_cons_zero, List.set_cons_succ])
    go_simp
    exact hK (.pointer (some ⟨p, 0, none⟩)) _ rfl ⟨Keep.refl _ _, hc.2.1⟩
  · refine fun w8 hc v7 h7 K hK => ?_
    obtain rfl : v7 = .pointer (some ⟨p, 0, none⟩) := h7
    (try simp only [Act.put, List.setIfInBounds_toArray, List.set_cons_zero, List.set_cons_succ])
    go_simp
    (with_reducible refine (below 65536 (by omega) _ p a len cap hc.2.1).mono ?_)
    rintro e w3 ⟨y, rfl, h1, h2, hk, hcc⟩
    exact hK (.int .i64 y) _ ⟨y, rfl, h1, by have := h2 (by omega); omega⟩ ⟨hk, hcc⟩
  · refine fun w8 hc v6 h6 v8 h8 K hK => ?_
    obtain ⟨y6, rfl, hy60, hy61⟩ : ∃ y : Int, v6 = .int .i64 y ∧ 0 ≤ y ∧ y ≤ 4095 := h6
    obtain ⟨y8, rfl, hy80, hy81⟩ : ∃ y : Int, v8 = .int .i64 y ∧ 0 ≤ y ∧ y ≤ 65535 := h8
    (try simp only [Act.put, List.setIfInBounds_toArray, List.set_cons_zero, List.set_cons_succ])
    go_simp
    exact hK (.agg #[.int .i64 y6, .int .i64 y8]) _ ⟨_, _, rfl⟩ ⟨Keep.refl _ _, hc.2.1⟩
  · refine fun w8 hc  K hK => ?_
    (try simp only [Act.put, List.setIfInBounds_toArray, List.set_cons_zero, List.set_cons_succ])
    rw [if_pos (by rfl)]
    have hpl := hc.2.1.lt
    have hlt := hc.2.2.2.1.lt
    go_simp
    exact hK (.pointer (some ⟨w8.heap.size, 0, none⟩)) _ ⟨w8.heap.size, rfl, hlt, by omega, Bx.made _ _ _⟩ ⟨drk.later (Keep.refl _ w8) (Nat.le_refl _) (bx.below_box _ _), drk.cur_below hc.2.1 (bx.below_box _ _)⟩
  refine fun wg1 hc v0 h0 v1 h1 v2 h2 v3 h3 v4 h4 v5 h5 v6 h6 v7 h7 v8 h8 v9 h9 v10 h10 => ?_
  obtain rfl : v0 = .pointer (some ⟨w.heap.size, 0, none⟩) := h0
  obtain rfl : v1 = .int .i64 s := h1
  obtain rfl : v2 = .pointer (some ⟨p, 0, none⟩) := h2
  obtain ⟨y3, rfl, hy30, hy31⟩ : ∃ y : Int, v3 = .int .i64 y ∧ 0 ≤ y ∧ y ≤ 4 := h3
  obtain ⟨y4, rfl, hy40, hy41⟩ : ∃ y : Int, v4 = .int .i64 y ∧ -1 ≤ y ∧ y ≤ 4100 := h4
  obtain ⟨y5, rfl, hy50, hy51⟩ : ∃ y : Int, v5 = .int .i64 y ∧ -2 ≤ y ∧ y ≤ 4099 := h5
  obtain ⟨y6, rfl, hy60, hy61⟩ : ∃ y : Int, v6 = .int .i64 y ∧ 0 ≤ y ∧ y ≤ 4095 := h6
  obtain rfl : v7 = .pointer (some ⟨p, 0, none⟩) := h7
  obtain ⟨y8, rfl, hy80, hy81⟩ : ∃ y : Int, v8 = .int .i64 y ∧ 0 ≤ y ∧ y ≤ 65535 := h8
  obtain ⟨c, b, rfl⟩ : ∃ c b : Int, v9 = .agg #[.int .i64 c, .int .i64 b] := h9
  obtain ⟨qA, rfl, hqA, hqp, hPA⟩ := h10
  (try simp only [reg.Obs])
  (try simp only [Act.put, List.setIfInBounds_toArray, List.set_cons_zero, List.set_cons_succ])
  simp only [List.drop_succ_cons, List.drop_zero]
  have K1 := Lib.hid hc.1
  have C1 := Lib.hid hc.2.1
  have X1 := Lib.hid hc.2.2.1
  have Z1 := Lib.hid hc.2.2.2.1
  clear hc K0 C0 X0 Z0
  have LA := Lib.hid (show w.heap.size + 1 < qA ∧ qA ≠ p from ⟨hqA, hqp⟩)
  have A1 := Lib.hid hPA
  clear hqA hqp hPA hy30 hy31 hy40 hy41 hy50 hy51 hy60 hy61 hy80 hy81
  refine stw.list_store rfl 27 _ _ rfl (qA) #[.int .i64 c, .int .i64 b] rfl rfl 27 _ A1.out rfl szA (oneA _ _) ?_
  intro wz2 hz
  (try simp only [Act.put])
  have K2 := Lib.hid (drk.later K1.out (by have hlA := LA.out; have h0 := P0.out; have hs0 := LTX.out; have hs1 := LTZ.out; first | omega | (simp <;> omega)) hz.below)
  have C2 := Lib.hid (drk.cur_later CW.out K1.out C1.out (by have hlA := LA.out; have h0 := P0.out; have hs0 := LTX.out; have hs1 := LTZ.out; first | omega | (simp <;> omega)) hz.below)
  have X2 := Lib.hid (hz.keep X1.out (by have hlA := LA.out; have h0 := P0.out; have hs0 := LTX.out; have hs1 := LTZ.out; first | omega | (simp <;> omega)))
  have Z2 := Lib.hid (hz.keep Z1.out (by have hlA := LA.out; have h0 := P0.out; have hs0 := LTX.out; have hs1 := LTZ.out; first | omega | (simp <;> omega)))
  have A2 := Lib.hid (hz.box)
  clear hz K1 C1 X1 Z1 A1
  go_wp2_with fail
  (with_reducible refine (below 8 (by omega) _ p a len cap C2.out).mono ?_)
  rintro e w3 ⟨q, rfl, hx0, hx1, hk, hc⟩
  have Hq := Lib.hid (show 0 ≤ q ∧ q < 8 from ⟨hx0, hx1 (by omega)⟩)
  have SS3 := Lib.hid hk.size
  have K3 := Lib.hid (K2.out.trans hk)
  have C3 := Lib.hid (hc)
  have X3 := Lib.hid (drk.bx_keep X2.out hk (by have hlA := LA.out; have h0 := P0.out; have hs0 := LTX.out; have hs1 := LTZ.out; have hs2 := SS3.out; first | omega | (simp <;> omega)))
  have Z3 := Lib.hid (drk.bx_keep Z2.out hk (by have hlA := LA.out; have h0 := P0.out; have hs0 := LTX.out; have hs1 := LTZ.out; have hs2 := SS3.out; first | omega | (simp <;> omega)))
  have A3 := Lib.hid (drk.bx_keep A2.out hk (by have hlA := LA.out; have h0 := P0.out; have hs0 := LTX.out; have hs1 := LTZ.out; have hs2 := SS3.out; first | omega | (simp <;> omega)))
  clear hk hc hx0 hx1 K2 C2 X2 Z2 A2
  by_cases h0 : q = 0
  · subst h0
    go_wp2_with fail
    (with_reducible refine (pickIn (-1) 4096 4 (by omega) (by omega) _ p a len cap C3.out #[.int .i64 (-1), .int .i64 4096, .int .i64 0, .int .i64 2000] rfl (by decide)).mono ?_)
    rintro e w4 ⟨y2, rfl, hx0, hx1, hk, hc⟩
    have Hy2 := Lib.hid (show -1 ≤ y2 ∧ y2 ≤ 4096 from ⟨hx0, hx1⟩)
    have SS4 := Lib.hid hk.size
    have K4 := Lib.hid (K3.out.trans hk)
    have C4 := Lib.hid (hc)
    have X4 := Lib.hid (drk.bx_keep X3.out hk (by have hlA := LA.out; have h0 := P0.out; have hs0 := LTX.out; have hs1 := LTZ.out; have hs2 := SS3.out; have hs3 := SS4.out; first | omega | (simp <;> omega)))
    have Z4 := Lib.hid (drk.bx_keep Z3.out hk (by have hlA := LA.out; have h0 := P0.out; have hs0 := LTX.out; have hs1 := LTZ.out; have hs2 := SS3.out; have hs3 := SS4.out; first | omega | (simp <;> omega)))
    have A4 := Lib.hid (drk.bx_keep A3.out hk (by have hlA := LA.out; have h0 := P0.out; have hs0 := LTX.out; have hs1 := LTZ.out; have hs2 := SS3.out; have hs3 := SS4.out; first | omega | (simp <;> omega)))
    clear hk hc hx0 hx1 K3 C3 X3 Z3 A3
    have cA0 : w4.cell? ⟨qA, 0, none⟩ = some (.int .i64 c) := A4.out.cell 0
    have fA0 : w4.frozen? ⟨qA, 0, none⟩ = false := A4.out.free 0
    go_upto_region 7 with fail
    clear cA0 fA0
    have BB := Lib.hid (show Below w.heap.size w4 (w4.setCell ⟨qA, 0, none⟩ (.int .i64 y2)) from (Below.refl _ _).setCell (p := ⟨qA, 0, none⟩) (by have hlA := LA.out; have h0 := P0.out; have hs0 := LTX.out; have hs1 := LTZ.out; have hs2 := SS3.out; have hs3 := SS4.out; (try simp only []); omega) _)
    have hWW : (w4.setCell ⟨qA, 0, none⟩ (.int .i64 y2)) = (w4.setCell ⟨qA, 0, none⟩ (.int .i64 y2)) := rfl
    obtain ⟨w5, hW⟩ : ∃ wy, (w4.setCell ⟨qA, 0, none⟩ (.int .i64 y2)) = wy := ⟨_, rfl⟩
    rw [hW]
    clear hWW
    have K5 := Lib.hid (drk.later K4.out (Nat.le_refl _) (hW ▸ BB.out))
    have C5 := Lib.hid (drk.cur_later CW.out K4.out C4.out (Nat.le_refl _) (hW ▸ BB.out))
    have X5 := Lib.hid (show Bx 25 w5 (w.heap.size) #[.int .i64 s, .int .i64 n, .int .i64 x] by rw [← hW]; exact (X4.out.other (by have hlA := LA.out; have h0 := P0.out; have hs0 := LTX.out; have hs1 := LTZ.out; have hs2 := SS3.out; have hs3 := SS4.out; first | omega | (simp <;> omega)) _ _))
    have Z5 := Lib.hid (show Bx 27 w5 (w.heap.size + 1) #[.int .i64 0, .int .i64 0] by rw [← hW]; exact (Z4.out.other (by have hlA := LA.out; have h0 := P0.out; have hs0 := LTX.out; have hs1 := LTZ.out; have hs2 := SS3.out; have hs3 := SS4.out; first | omega | (simp <;> omega)) _ _))
    have A5 := Lib.hid (show Bx 27 w5 (qA) #[.int .i64 y2, .int .i64 b] by rw [← hW]; exact (A4.out.set 0 _))
    clear hW BB K4 C4 X4 Z4 A4
    go_wp2_with (first | (refine stw.list_load rfl 27 _ rfl (qA) rfl 27 _ A5.out Try.underlying27 rfl szA ?_) | (refine stw.list_store rfl 27 _ _ rfl (w.heap.size + 1) #[.int .i64 y2, .int .i64 b] rfl rfl 27 _ Z5.out rfl szA (oneA _ _) ?_; intro wz6 hz))
    have K6 := Lib.hid (drk.later K5.out (by have hlA := LA.out; have h0 := P0.out; have hs0 := LTX.out; have hs1 := LTZ.out; have hs2 := SS3.out; have hs3 := SS4.out; first | omega | (simp <;> omega)) hz.below)
    have C6 := Lib.hid (drk.cur_later CW.out K5.out C5.out (by have hlA := LA.out; have h0 := P0.out; have hs0 := LTX.out; have hs1 := LTZ.out; have hs2 := SS3.out; have hs3 := SS4.out; first | omega | (simp <;> omega)) hz.below)
    have X6 := Lib.hid (hz.keep X5.out (by have hlA := LA.out; have h0 := P0.out; have hs0 := LTX.out; have hs1 := LTZ.out; have hs2 := SS3.out; have hs3 := SS4.out; first | omega | (simp <;> omega)))
    have Z6 := Lib.hid (hz.box)
    have A6 := Lib.hid (hz.keep A5.out (by have hlA := LA.out; have h0 := P0.out; have hs0 := LTX.out; have hs1 := LTZ.out; have hs2 := SS3.out; have hs3 := SS4.out; first | omega | (simp <;> omega)))
    clear hz K5 C5 X5 Z5 A5
    (try simp only [Exit.inBlock, Exit.then])
    refine bodyPost_ret (v := .agg #[.int .i64 y2, .int .i64 b]) ?_ rfl ?_
    · rw [results_cell1 rfl]
      exact stw.back Z6.out Try.underlying27 rfl szA
    · exact ⟨y2, b, rfl, K6.out, C6.out⟩
  · by_cases h1 : q = 1
    · subst h1
      go_wp2_with fail
      (with_reducible refine (pickIn (-1) 65536 3 (by omega) (by omega) _ p a len cap C3.out #[.int .i64 (-1), .int .i64 65535, .int .i64 65536] rfl (by decide)).mono ?_)
      rintro e w4 ⟨y2, rfl, hx0, hx1, hk, hc⟩
      have Hy2 := Lib.hid (show -1 ≤ y2 ∧ y2 ≤ 65536 from ⟨hx0, hx1⟩)
      have SS4 := Lib.hid hk.size
      have K4 := Lib.hid (K3.out.trans hk)
      have C4 := Lib.hid (hc)
      have X4 := Lib.hid (drk.bx_keep X3.out hk (by have hlA := LA.out; have h0 := P0.out; have hs0 := LTX.out; have hs1 := LTZ.out; have hs2 := SS3.out; have hs3 := SS4.out; first | omega | (simp <;> omega)))
      have Z4 := Lib.hid (drk.bx_keep Z3.out hk (by have hlA := LA.out; have h0 := P0.out; have hs0 := LTX.out; have hs1 := LTZ.out; have hs2 := SS3.out; have hs3 := SS4.out; first | omega | (simp <;> omega)))
      have A4 := Lib.hid (drk.bx_keep A3.out hk (by have hlA := LA.out; have h0 := P0.out; have hs0 := LTX.out; have hs1 := LTZ.out; have hs2 := SS3.out; have hs3 := SS4.out; first | omega | (simp <;> omega)))
      clear hk hc hx0 hx1 K3 C3 X3 Z3 A3
      have cA1 : w4.cell? ⟨qA, 1, none⟩ = some (.int .i64 b) := A4.out.cell 1
      have fA1 : w4.frozen? ⟨qA, 1, none⟩ = false := A4.out.free 1
      go_upto_region 7 with fail
      clear cA1 fA1
      have BB := Lib.hid (show Below w.heap.size w4 (w4.setCell ⟨qA, 1, none⟩ (.int .i64 y2)) from (Below.refl _ _).setCell (p := ⟨qA, 1, none⟩) (by have hlA := LA.out; have h0 := P0.out; have hs0 := LTX.out; have hs1 := LTZ.out; have hs2 := SS3.out; have hs3 := SS4.out; (try simp only []); omega) _)
      have hWW : (w4.setCell ⟨qA, 1, none⟩ (.int .i64 y2)) = (w4.setCell ⟨qA, 1, none⟩ (.int .i64 y2)) := rfl
      obtain ⟨w5, hW⟩ : ∃ wy, (w4.setCell ⟨qA, 1, none⟩ (.int .i64 y2)) = wy := ⟨_, rfl⟩
      rw [hW]
      clear hWW
      have K5 := Lib.hid (drk.later K4.out (Nat.le_refl _) (hW ▸ BB.out))
      have C5 := Lib.hid (drk.cur_later CW.out K4.out C4.out (Nat.le_refl _) (hW ▸ BB.out))
      have X5 := Lib.hid (show Bx 25 w5 (w.heap.size) #[.int .i64 s, .int .i64 n, .int .i64 x] by rw [← hW]; exact (X4.out.other (by have hlA := LA.out; have h0 := P0.out; have hs0 := LTX.out; have hs1 := LTZ.out; have hs2 := SS3.out; have hs3 := SS4.out; first | omega | (simp <;> omega)) _ _))
      have Z5 := Lib.hid (show Bx 27 w5 (w.heap.size + 1) #[.int .i64 0, .int .i64 0] by rw [← hW]; exact (Z4.out.other (by have hlA := LA.out; have h0 := P0.out; have hs0 := LTX.out; have hs1 := LTZ.out; have hs2 := SS3.out; have hs3 := SS4.out; first | omega | (simp <;> omega)) _ _))
      have A5 := Lib.hid (show Bx 27 w5 (qA) #[.int .i64 c, .int .i64 y2] by rw [← hW]; exact (A4.out.set 1 _))
      clear hW BB K4 C4 X4 Z4 A4
      go_wp2_with (first | (refine stw.list_load rfl 27 _ rfl (qA) rfl 27 _ A5.out Try.underlying27 rfl szA ?_) | (refine stw.list_store rfl 27 _ _ rfl (w.heap.size + 1) #[.int .i64 c, .int .i64 y2] rfl rfl 27 _ Z5.out rfl szA (oneA _ _) ?_; intro wz6 hz))
      have K6 := Lib.hid (drk.later K5.out (by have hlA := LA.out; have h0 := P0.out; have hs0 := LTX.out; have hs1 := LTZ.out; have hs2 := SS3.out; have hs3 := SS4.out; first | omega | (simp <;> omega)) hz.below)
      have C6 := Lib.hid (drk.cur_later CW.out K5.out C5.out (by have hlA := LA.out; have h0 := P0.out; have hs0 := LTX.out; have hs1 := LTZ.out; have hs2 := SS3.out; have hs3 := SS4.out; first | omega | (simp <;> omega)) hz.below)
      have X6 := Lib.hid (hz.keep X5.out (by have hlA := LA.out; have h0 := P0.out; have hs0 := LTX.out; have hs1 := LTZ.out; have hs2 := SS3.out; have hs3 := SS4.out; first | omega | (simp <;> omega)))
      have Z6 := Lib.hid (hz.box)
      have A6 := Lib.hid (hz.keep A5.out (by have hlA := LA.out; have h0 := P0.out; have hs0 := LTX.out; have hs1 := LTZ.out; have hs2 := SS3.out; have hs3 := SS4.out; first | omega | (simp <;> omega)))
      clear hz K5 C5 X5 Z5 A5
      (try simp only [Exit.inBlock, Exit.then])
      refine bodyPost_ret (v := .agg #[.int .i64 c, .int .i64 y2]) ?_ rfl ?_
      · rw [results_cell1 rfl]
        exact stw.back Z6.out Try.underlying27 rfl szA
      · exact ⟨c, y2, rfl, K6.out, C6.out⟩
    · have e0 : (q == 0) = false := by simpa using h0
      have e1 : (q == 1) = false := by simpa using h1
      go_wp2_with (first | (refine stw.list_load rfl 27 _ rfl (qA) rfl 27 _ A3.out Try.underlying27 rfl szA ?_) | (refine stw.list_store rfl 27 _ _ rfl (w.heap.size + 1) #[.int .i64 c, .int .i64 b] rfl rfl 27 _ Z3.out rfl szA (oneA _ _) ?_; intro wz4 hz))
      have K4 := Lib.hid (drk.later K3.out (by have hlA := LA.out; have h0 := P0.out; have hs0 := LTX.out; have hs1 := LTZ.out; have hs2 := SS3.out; first | omega | (simp <;> omega)) hz.below)
      have C4 := Lib.hid (drk.cur_later CW.out K3.out C3.out (by have hlA := LA.out; have h0 := P0.out; have hs0 := LTX.out; have hs1 := LTZ.out; have hs2 := SS3.out; first | omega | (simp <;> omega)) hz.below)
      have X4 := Lib.hid (hz.keep X3.out (by have hlA := LA.out; have h0 := P0.out; have hs0 := LTX.out; have hs1 := LTZ.out; have hs2 := SS3.out; first | omega | (simp <;> omega)))
      have Z4 := Lib.hid (hz.box)
      have A4 := Lib.hid (hz.keep A3.out (by have hlA := LA.out; have h0 := P0.out; have hs0 := LTX.out; have hs1 := LTZ.out; have hs2 := SS3.out; first | omega | (simp <;> omega)))
      clear hz K3 C3 X3 Z3 A3
      (try simp only [Exit.inBlock, Exit.then])
      refine bodyPost_ret (v := .agg #[.int .i64 c, .int .i64 b]) ?_ rfl ?_
      · rw [results_cell1 rfl]
        exact stw.back Z4.out Try.underlying27 rfl szA
      · exact ⟨c, b, rfl, K4.out, C4.out⟩
end Go.Proofs.Ythbmnhbnoipdfaa.bs
