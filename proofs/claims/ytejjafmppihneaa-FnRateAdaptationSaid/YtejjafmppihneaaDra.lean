/- Draws of stage 23: outcomes, states. Condition: the bytes that are drawn from are a slice that came in. -/
import Derived.Test.YtejjafmppihneaaRt4
import Derived.Test.YtejjafmppihneaaDraw2
import Derived.Test.YtejjafmppihneaaDrawB
import Derived.Test.YtejjafmppihneaaDrk
import Derived.Test.YtejjafmppihneaaRgk
import Derived.Deep.Cut
namespace Go.Proofs.Ytejjafmppihneaa.ra
open Go.RowKit sl harn rng bx drk stw draw
set_option linter.unusedVariables false
set_option linter.unusedSimpArgs false

def OcPost (p : Nat) (a : Option Addr) (len cap : Nat) (w : World) (e : Ending) (w' : World) : Prop :=
  ∃ A n c l, e = .returned (.slice A n c) ∧ bls.Ob w' w.heap.size w'.heap.size A n c l ∧ Keep p w w' ∧ Cur w' p a len cap
theorem ob_keep {w w' : World} {lo hi n cap p : Nat} {A : Option Addr} {l : List Bool} (h : bls.Ob w lo hi A n cap l) (hk : Keep p w w') (hp : p < lo) : bls.Ob w' lo hi A n cap l :=
  h.same hk.size fun b h1 h2 => hk.block b (by have := h.hi_; omega) (by omega)
/-- Outcomes that are being drawn. -/
def Drawing (w wr : World) (p : Nat) (a : Option Addr) (len cap : Nat) (v : Value) (j : Int) : Prop :=
  ∃ A n c l, v = .slice A n c ∧ (n : Int) + j ≤ 60 ∧ bls.Ob wr w.heap.size wr.heap.size A n c l ∧ Keep p w wr ∧ Cur wr p a len cap
set_option maxRecDepth 100000 in
set_option maxHeartbeats 4000000 in
theorem dOc (w : World) (p : Nat) (a : Option Addr) (len cap : Nat) (hc : Cur w p a len cap) :
    Calls Try.prog 121 #[.pointer (some ⟨p, 0, none⟩)] w (OcPost p a len cap w) := by
  obtain ⟨i0, hi0, hz0, hz1, hz2⟩ := info_parts boolInfo
  have C0 := Lib.hid hc
  have P0 := Lib.hid hc.lt
  have HZ := Lib.hid (And.intro hi0 (And.intro hz0 (And.intro hz1 hz2)))
  clear hc hi0 hz0 hz1 hz2
  go_enter Try.func121, Try.ntmps121
  go_upto_region 2 with fail
  obtain ⟨w1, hW⟩ : ∃ x, w.alloc (.cells #[] 4) = x := ⟨_, rfl⟩
  rw [hW]
  have O1 := Lib.hid (show bls.Ob w1 w.heap.size w1.heap.size (some ⟨w.heap.size, 0, none⟩) 0 0 [] by rw [← hW]; exact bls.Ob.lit w #[] [] rfl (by unfold maxLen; simp) rfl)
  have K1 := Lib.hid (show Keep p w w1 by rw [← hW]; exact (Keep.refl p w).alloc _)
  have C1 := Lib.hid (show Cur w1 p a len cap by rw [← hW]; exact C0.out.alloc _)
  clear hW
  go_wp2_with fail
  (with_reducible refine (pickIn 0 60 4 (by omega) (by omega) _ p a len cap C1.out #[.int .i64 0, .int .i64 3, .int .i64 15, .int .i64 60] rfl (by decide)).mono ?_)
  rintro e w2 ⟨m, rfl, hm0, hm1, hk, hc⟩
  have O2 := Lib.hid (ob_keep O1.out hk P0.out)
  have K2 := Lib.hid (K1.out.trans hk)
  have C2 := Lib.hid hc
  clear hk hc O1 K1 C1
  go_wp2_with fail
  go_loopw [3, 4] (fun v i wr => ∃ j : Int, i = .int .i64 j ∧ (0 ≤ j ∧ j ≤ 60) ∧ Drawing w wr p a len cap v j) (fun _ i _ => (intOf i).toNat)
  case atStart => exact ⟨m, rfl, ⟨hm0, hm1⟩, _, 0, 0, [], rfl, by omega, O2.out.up, K2.out, C2.out⟩
  case round =>
    obtain ⟨j, rfl, hj, B, n, c, l, rfl, hn, ho, hkp, hcu⟩ := hrel
    have HO := Lib.hid ho
    have HK := Lib.hid hkp
    have HC := Lib.hid hcu
    clear ho hkp hcu
    by_cases hlt : 0 < j
    · go_wp2_with (first
        | (go_at_call 122; refine (once 6 (by omega) _ p a len cap HC.out).mono ?_; rintro e w3 ⟨x, rfl, hk1, hc1⟩; have HO1 := Lib.hid (ob_keep HO.out hk1 P0.out); have HC1 := Lib.hid hc1; have HK1 := Lib.hid (HK.out.trans hk1); (have hs1 : w.heap.size ≤ w3.heap.size := HK1.out.size); clear hk1 hc1 HC HO HK)
        | (at_builtin; refine bls.wpList_app (y := !x) _ rfl _ _ 36 rfl i0 _ Try.underlying36 HZ.out.1 HZ.out.2.1 HZ.out.2.2.1 (by rw [HZ.out.2.2.2]; omega) rfl rfl rfl (HO1.out.alloc _) (by simp) (by omega) (by simp; omega) ?_; intro A1 cap1 w4 ho hb1; have HO3 := Lib.hid ho; have HB := Lib.hid (cur_then C0.out.1 P0.out HK1.out HC1.out (below_push' hs1 hb1)); clear ho hb1))
      go_roundw
      case rel => exact ⟨j - 1, by go_num, by omega, A1, n + 1, cap1, _, rfl, by omega, HO3.out, HB.out.1, HB.out.2⟩
      case measure => simp [intOf]; omega
    · go_wp2_with fail
      go_ret
      exact ⟨_, _, _, l, rfl, HO.out, HK.out, HC.out⟩
def RdPost (p : Nat) (a : Option Addr) (len cap : Nat) (w : World) (e : Ending) (w' : World) : Prop := ∃ (r1 g1 b1 t1 : Int) (p1 : Bool), e = .returned (.agg #[.int .i64 r1, .int .i64 g1, .int .i64 b1, .int .i64 t1, .bool p1]) ∧ Keep p w w' ∧ Cur w' p a len cap
def RePost (w : World) (e : Ending) (w' : World) : Prop := ∃ (r1 g1 b1 t1 : Int) (p1 : Bool), e = .returned (.agg #[.int .i64 r1, .int .i64 g1, .int .i64 b1, .int .i64 t1, .bool p1]) ∧ Below w.heap.size w w'
set_option maxRecDepth 100000 in
set_option maxHeartbeats 4000000 in
theorem dSt (w : World) (p : Nat) (a : Option Addr) (len cap : Nat) (hc : Cur w p a len cap) :
    Calls Try.prog 103 #[.pointer (some ⟨p, 0, none⟩)] w (RdPost p a len cap w) := by
  have CW := Lib.hid hc
  have P0 := Lib.hid hc.lt
  clear hc
  go_enter Try.func103, Try.ntmps103
  go_upto_region 1 with fail
  obtain ⟨w0, hW⟩ : ∃ w0, w.alloc (.cells #[.int .i64 0, .int .i64 0, .int .i64 0, .int .i64 0, .bool false] 32) = w0 := ⟨_, rfl⟩
  rw [hW]
  have K0 := Lib.hid (show Keep p w w0 by rw [← hW]; exact (Keep.refl p w).alloc _)
  have C0 := Lib.hid (show Cur w0 p a len cap by rw [← hW]; exact (CW.out).alloc _)
  have Z0 := Lib.hid (show Bx 32 w0 (w.heap.size) #[.int .i64 0, .int .i64 0, .int .i64 0, .int .i64 0, .bool false] by
      rw [← hW]
      have hh := Bx.made 32 w #[.int .i64 0, .int .i64 0, .int .i64 0, .int .i64 0, .bool false]
      exact hh)
  clear hW
  have LTZ := Lib.hid Z0.out.lt
  go_wp2_with fail
  (with_reducible refine (below 4 (by omega) _ p a len cap C0.out).mono ?_)
  rintro e w1 ⟨j0, rfl, hx0, hx1, hk, hc⟩
  have Hj0 := Lib.hid (show 0 ≤ j0 ∧ j0 < 4 from ⟨hx0, hx1 (by omega)⟩)
  have SS1 := Lib.hid hk.size
  have K1 := Lib.hid (K0.out.trans hk)
  have C1 := Lib.hid (hc)
  have Z1 := Lib.hid (drk.bx_keep Z0.out hk (by have h0 := P0.out; have hs0 := LTZ.out; have hs1 := SS1.out; first | omega | (simp <;> omega)))
  clear hk hc hx0 hx1 K0 C0 Z0
  have HN := Lib.hid (show new j0 = ⟨j0, 0, 0, 10, false⟩ by have := Hj0.out; unfold new; rw [if_pos (by omega)])
  go_wp2_with fail
  (with_reducible refine (specNew j0 _).mono ?_)
  rintro e w2 hp
  obtain ⟨rfl, hb⟩ := r_parts HN.out hp
  clear hp
  have SS2 := Lib.hid hb.size
  have K2 := Lib.hid (drk.later K1.out K1.out.size hb)
  have C2 := Lib.hid (drk.cur_below C1.out hb)
  have Z2 := Lib.hid (Z1.out.below hb)
  clear hb  K1 C1 Z1
  go_wp2_with fail
  (with_reducible refine (dOc _ p a len cap C2.out).mono ?_)
  rintro e w3 ⟨A1, n1, c1, l1, rfl, ho, hk, hc⟩
  have HO := Lib.hid ho
  clear ho
  have SS3 := Lib.hid hk.size
  have K3 := Lib.hid (K2.out.trans hk)
  have C3 := Lib.hid (hc)
  have Z3 := Lib.hid (drk.bx_keep Z2.out hk (by have h0 := P0.out; have hs0 := LTZ.out; have hs1 := SS1.out; have hs2 := SS2.out; have hs3 := SS3.out; first | omega | (simp <;> omega)))
  clear hk hc  K2 C2 Z2
  obtain ⟨⟨r1, g1, b1, t1, p1⟩, hx⟩ : ∃ x, app ⟨j0, 0, 0, 10, false⟩ l1 = x := ⟨_, rfl⟩
  have HA := Lib.hid hx
  clear hx
  go_wp2_with fail
  (with_reducible refine (specAp j0 0 0 10 false l1 A1 n1 c1 _ _ _ HO.out.rb).mono ?_)
  rintro e w4 hp
  obtain ⟨rfl, hb⟩ := r_parts HA.out hp
  clear hp
  have SS4 := Lib.hid hb.size
  have K4 := Lib.hid (drk.later K3.out K3.out.size hb)
  have C4 := Lib.hid (drk.cur_below C3.out hb)
  have Z4 := Lib.hid (Z3.out.below hb)
  clear hb HO K3 C3 Z3
  obtain ⟨b2, hbb⟩ : ∃ b, w4.heap.size = b := ⟨_, rfl⟩
  go_upto_region 2 with fail
  generalize hW : w4.alloc (.cells #[.int .i64 r1, .int .i64 g1, .int .i64 b1, .int .i64 t1, .bool p1] 32) = w5
  have LS := Lib.hid (show w.heap.size ≤ b2 ∧ w.heap.size < b2 by have h1 := K4.out.size; have h2Z := Z4.out.lt; have h3 := hbb; omega)
  have S5 := Lib.hid (show Bx 32 w5 b2 #[.int .i64 r1, .int .i64 g1, .int .i64 b1, .int .i64 t1, .bool p1] by rw [← hW, ← hbb]; exact Bx.made _ _ _)
  have hb : Below w4.heap.size w4 w5 := by rw [← hW]; exact below_box _ _
  (try rw [hbb])
  clear hW hbb
  have SS5 := Lib.hid hb.size
  have K5 := Lib.hid (drk.later K4.out K4.out.size hb)
  have C5 := Lib.hid (drk.cur_below C4.out hb)
  have Z5 := Lib.hid (Z4.out.below hb)
  clear hb K4 C4 Z4
  have LWS := Lib.hid S5.out.lt
  go_wp2_with fail
  (with_reducible refine (below 40 (by omega) _ p a len cap C5.out).mono ?_)
  rintro e w6 ⟨j1, rfl, hx0, hx1, hk, hc⟩
  have Hj1 := Lib.hid (show 0 ≤ j1 ∧ j1 < 40 from ⟨hx0, hx1 (by omega)⟩)
  have SS6 := Lib.hid hk.size
  have K6 := Lib.hid (K5.out.trans hk)
  have C6 := Lib.hid (hc)
  have Z6 := Lib.hid (drk.bx_keep Z5.out hk (by have hlS := LS.out; have h0 := P0.out; have hs0 := LTZ.out; have hs1 := SS1.out; have hs2 := SS2.out; have hs3 := SS3.out; have hs4 := SS4.out; have hs5 := SS5.out; have hs6 := LWS.out; have hs7 := SS6.out; first | omega | (simp <;> omega)))
  have S6 := Lib.hid (drk.bx_keep S5.out hk (by have hlS := LS.out; have h0 := P0.out; have hs0 := LTZ.out; have hs1 := SS1.out; have hs2 := SS2.out; have hs3 := SS3.out; have hs4 := SS4.out; have hs5 := SS5.out; have hs6 := LWS.out; have hs7 := SS6.out; first | omega | (simp <;> omega)))
  clear hk hc hx0 hx1 K5 C5 Z5 S5
  go_wp2_with fail
  go_loopw [4] (fun v0 wr => ∃ (j : Int) (r3 : Int) (g3 : Int) (b3 : Int) (t3 : Int) (p3 : Bool), v0 = .int .i64 j ∧ (0 ≤ j ∧ j ≤ 39) ∧ Keep p w wr ∧ Cur wr p a len cap ∧ Bx 32 wr w.heap.size #[.int .i64 0, .int .i64 0, .int .i64 0, .int .i64 0, .bool false] ∧ Bx 32 wr b2 #[.int .i64 r3, .int .i64 g3, .int .i64 b3, .int .i64 t3, .bool p3]) ((fun j _ => (intOf j).toNat))
  case atStart => exact ⟨j1, r1, g1, b1, t1, p1, rfl, by have := Hj1.out; omega, K6.out, C6.out, Z6.out, S6.out⟩
  case round =>
    obtain ⟨j, r3, g3, b3, t3, p3, rfl, ghj, gK7, gC7, gZ7, gS7⟩ := hrel
    have K7 := Lib.hid gK7
    have C7 := Lib.hid gC7
    have Z7 := Lib.hid gZ7
    have S7 := Lib.hid gS7
    have hj := Lib.hid ghj
    clear gK7 gC7 gZ7 gS7 ghj
    have LUZ7 := Lib.hid Z7.out.lt
    have LUS7 := Lib.hid S7.out.lt
    have SBR7 := Lib.hid K7.out.size
    have hj := hj.out
    by_cases hlt : 0 < j
    · go_wp2_with fail
      (with_reducible refine (once 2 (by omega) _ p a len cap C7.out).mono ?_)
      rintro e w8 ⟨b0, rfl, hk, hc⟩
      have SS8 := Lib.hid hk.size
      have K8 := Lib.hid (K7.out.trans hk)
      have C8 := Lib.hid (hc)
      have Z8 := Lib.hid (drk.bx_keep Z7.out hk (by have hlS := LS.out; have h0 := P0.out; have hs0 := LTZ.out; have hs1 := SS1.out; have hs2 := SS2.out; have hs3 := SS3.out; have hs4 := SS4.out; have hs5 := SS5.out; have hs6 := LWS.out; have hs7 := SS6.out; have hs8 := LUZ7.out; have hs9 := LUS7.out; have hs10 := SBR7.out; have hs11 := SS8.out; first | omega | (simp <;> omega)))
      have S8 := Lib.hid (drk.bx_keep S7.out hk (by have hlS := LS.out; have h0 := P0.out; have hs0 := LTZ.out; have hs1 := SS1.out; have hs2 := SS2.out; have hs3 := SS3.out; have hs4 := SS4.out; have hs5 := SS5.out; have hs6 := LWS.out; have hs7 := SS6.out; have hs8 := LUZ7.out; have hs9 := LUS7.out; have hs10 := SBR7.out; have hs11 := SS8.out; first | omega | (simp <;> omega)))
      clear hk hc  K7 C7 Z7 S7
      cases b0 with
      | true =>
        obtain ⟨⟨r2, g2, b2_, t2, p2⟩, hx⟩ : ∃ x, su ⟨r3, g3, b3, t3, p3⟩ = x := ⟨_, rfl⟩
        have HS := Lib.hid hx
        clear hx
        go_wp2_with (refine stw.list_load rfl 32 _ rfl (b2) rfl 32 _ S8.out Try.underlying32 rfl szR ?_)
        (with_reducible refine (specSu r3 g3 b3 t3 p3 _).mono ?_)
        rintro e w9 hp
        obtain ⟨rfl, hb⟩ := r_parts HS.out hp
        clear hp
        have SS9 := Lib.hid hb.size
        have K9 := Lib.hid (drk.later K8.out K8.out.size hb)
        have C9 := Lib.hid (drk.cur_below C8.out hb)
        have Z9 := Lib.hid (Z8.out.below hb)
        have S9 := Lib.hid (S8.out.below hb)
        clear hb  K8 C8 Z8 S8
        go_wp2_with (first | (refine stw.list_store rfl 32 _ _ rfl (b2) #[.int .i64 r2, .int .i64 g2, .int .i64 b2_, .int .i64 t2, .bool p2] rfl rfl 32 _ S9.out rfl szR (oneR _ _ _ _ _) ?_; intro wz10 hz))
        have K10 := Lib.hid (drk.later K9.out (by have hlS := LS.out; have h0 := P0.out; have hs0 := LTZ.out; have hs1 := SS1.out; have hs2 := SS2.out; have hs3 := SS3.out; have hs4 := SS4.out; have hs5 := SS5.out; have hs6 := LWS.out; have hs7 := SS6.out; have hs8 := LUZ7.out; have hs9 := LUS7.out; have hs10 := SBR7.out; have hs11 := SS8.out; have hs12 := SS9.out; first | omega | (simp <;> omega)) hz.below)
        have C10 := Lib.hid (drk.cur_later CW.out K9.out C9.out (by have hlS := LS.out; have h0 := P0.out; have hs0 := LTZ.out; have hs1 := SS1.out; have hs2 := SS2.out; have hs3 := SS3.out; have hs4 := SS4.out; have hs5 := SS5.out; have hs6 := LWS.out; have hs7 := SS6.out; have hs8 := LUZ7.out; have hs9 := LUS7.out; have hs10 := SBR7.out; have hs11 := SS8.out; have hs12 := SS9.out; first | omega | (simp <;> omega)) hz.below)
        have Z10 := Lib.hid (hz.keep Z9.out (by have hlS := LS.out; have h0 := P0.out; have hs0 := LTZ.out; have hs1 := SS1.out; have hs2 := SS2.out; have hs3 := SS3.out; have hs4 := SS4.out; have hs5 := SS5.out; have hs6 := LWS.out; have hs7 := SS6.out; have hs8 := LUZ7.out; have hs9 := LUS7.out; have hs10 := SBR7.out; have hs11 := SS8.out; have hs12 := SS9.out; first | omega | (simp <;> omega)))
        have S10 := Lib.hid (hz.box)
        clear hz K9 C9 Z9 S9
        go_roundw
        case rel => exact ⟨j - 1, r2, g2, b2_, t2, p2, by go_num, by omega, K10.out, C10.out, Z10.out, S10.out⟩
        case measure => simp [intOf]; omega
      | false =>
        go_wp2_with (first | (refine stw.list_load rfl 32 _ rfl (b2) rfl 32 _ S8.out Try.underlying32 rfl szR ?_) | (refine stw.list_store rfl 32 _ _ rfl (w.heap.size) #[.int .i64 r3, .int .i64 g3, .int .i64 b3, .int .i64 t3, .bool p3] rfl rfl 32 _ Z8.out rfl szR (oneR _ _ _ _ _) ?_; intro wz9 hz))
        have K9 := Lib.hid (drk.later K8.out (by have hlS := LS.out; have h0 := P0.out; have hs0 := LTZ.out; have hs1 := SS1.out; have hs2 := SS2.out; have hs3 := SS3.out; have hs4 := SS4.out; have hs5 := SS5.out; have hs6 := LWS.out; have hs7 := SS6.out; have hs8 := LUZ7.out; have hs9 := LUS7.out; have hs10 := SBR7.out; have hs11 := SS8.out; first | omega | (simp <;> omega)) hz.below)
        have C9 := Lib.hid (drk.cur_later CW.out K8.out C8.out (by have hlS := LS.out; have h0 := P0.out; have hs0 := LTZ.out; have hs1 := SS1.out; have hs2 := SS2.out; have hs3 := SS3.out; have hs4 := SS4.out; have hs5 := SS5.out; have hs6 := LWS.out; have hs7 := SS6.out; have hs8 := LUZ7.out; have hs9 := LUS7.out; have hs10 := SBR7.out; have hs11 := SS8.out; first | omega | (simp <;> omega)) hz.below)
        have Z9 := Lib.hid (hz.box)
        have S9 := Lib.hid (hz.keep S8.out (by have hlS := LS.out; have h0 := P0.out; have hs0 := LTZ.out; have hs1 := SS1.out; have hs2 := SS2.out; have hs3 := SS3.out; have hs4 := SS4.out; have hs5 := SS5.out; have hs6 := LWS.out; have hs7 := SS6.out; have hs8 := LUZ7.out; have hs9 := LUS7.out; have hs10 := SBR7.out; have hs11 := SS8.out; first | omega | (simp <;> omega)))
        clear hz K8 C8 Z8 S8
        (try simp only [Exit.inBlock, Exit.then])
        refine bodyPost_ret (v := .agg #[.int .i64 r3, .int .i64 g3, .int .i64 b3, .int .i64 t3, .bool p3]) ?_ rfl ?_
        · rw [results_cell1 rfl]
          exact stw.back Z9.out Try.underlying32 rfl szR
        · exact ⟨_, _, _, _, _, rfl, K9.out, C9.out⟩
    · go_wp2_with (first | (refine stw.list_load rfl 32 _ rfl (b2) rfl 32 _ S7.out Try.underlying32 rfl szR ?_) | (refine stw.list_store rfl 32 _ _ rfl (w.heap.size) #[.int .i64 r3, .int .i64 g3, .int .i64 b3, .int .i64 t3, .bool p3] rfl rfl 32 _ Z7.out rfl szR (oneR _ _ _ _ _) ?_; intro wz8 hz))
      have K8 := Lib.hid (drk.later K7.out (by have hlS := LS.out; have h0 := P0.out; have hs0 := LTZ.out; have hs1 := SS1.out; have hs2 := SS2.out; have hs3 := SS3.out; have hs4 := SS4.out; have hs5 := SS5.out; have hs6 := LWS.out; have hs7 := SS6.out; have hs8 := LUZ7.out; have hs9 := LUS7.out; have hs10 := SBR7.out; first | omega | (simp <;> omega)) hz.below)
      have C8 := Lib.hid (drk.cur_later CW.out K7.out C7.out (by have hlS := LS.out; have h0 := P0.out; have hs0 := LTZ.out; have hs1 := SS1.out; have hs2 := SS2.out; have hs3 := SS3.out; have hs4 := SS4.out; have hs5 := SS5.out; have hs6 := LWS.out; have hs7 := SS6.out; have hs8 := LUZ7.out; have hs9 := LUS7.out; have hs10 := SBR7.out; first | omega | (simp <;> omega)) hz.below)
      have Z8 := Lib.hid (hz.box)
      have S8 := Lib.hid (hz.keep S7.out (by have hlS := LS.out; have h0 := P0.out; have hs0 := LTZ.out; have hs1 := SS1.out; have hs2 := SS2.out; have hs3 := SS3.out; have hs4 := SS4.out; have hs5 := SS5.out; have hs6 := LWS.out; have hs7 := SS6.out; have hs8 := LUZ7.out; have hs9 := LUS7.out; have hs10 := SBR7.out; first | omega | (simp <;> omega)))
      clear hz K7 C7 Z7 S7
      (try simp only [Exit.inBlock, Exit.then])
      refine bodyPost_ret (v := .agg #[.int .i64 r3, .int .i64 g3, .int .i64 b3, .int .i64 t3, .bool p3]) ?_ rfl ?_
      · rw [results_cell1 rfl]
        exact stw.back Z8.out Try.underlying32 rfl szR
      · exact ⟨_, _, _, _, _, rfl, K8.out, C8.out⟩
set_option maxRecDepth 100000 in
set_option maxHeartbeats 4000000 in
theorem dAy (w : World) (p : Nat) (a : Option Addr) (len cap : Nat) (hc : Cur w p a len cap) :
    Calls Try.prog 87 #[.pointer (some ⟨p, 0, none⟩)] w (RdPost p a len cap w) := by
  have CW := Lib.hid hc
  have P0 := Lib.hid hc.lt
  clear hc
  go_enter Try.func87, Try.ntmps87
  go_wp2_with fail
  obtain ⟨w0, hW⟩ : ∃ w0, w.alloc (.cells #[.int .i64 0, .int .i64 0, .int .i64 0, .int .i64 0, .bool false] 32) = w0 := ⟨_, rfl⟩
  rw [hW]
  have K0 := Lib.hid (show Keep p w w0 by rw [← hW]; exact (Keep.refl p w).alloc _)
  have C0 := Lib.hid (show Cur w0 p a len cap by rw [← hW]; exact (CW.out).alloc _)
  have Z0 := Lib.hid (show Bx 32 w0 (w.heap.size) #[.int .i64 0, .int .i64 0, .int .i64 0, .int .i64 0, .bool false] by
      rw [← hW]
      have hh := Bx.made 32 w #[.int .i64 0, .int .i64 0, .int .i64 0, .int .i64 0, .bool false]
      exact hh)
  clear hW
  have LTZ := Lib.hid Z0.out.lt
  (with_reducible refine (dSt _ p a len cap C0.out).mono ?_)
  rintro e w1 ⟨r1, g1, b1, t1, p1, rfl, hk, hc⟩
  have SS1 := Lib.hid hk.size
  have K1 := Lib.hid (K0.out.trans hk)
  have C1 := Lib.hid (hc)
  have Z1 := Lib.hid (drk.bx_keep Z0.out hk (by have h0 := P0.out; have hs0 := LTZ.out; have hs1 := SS1.out; first | omega | (simp <;> omega)))
  clear hk hc  K0 C0 Z0
  obtain ⟨b2, hbb⟩ : ∃ b, w1.heap.size = b := ⟨_, rfl⟩
  go_upto_region 2 with fail
  generalize hW : w1.alloc (.cells #[.int .i64 r1, .int .i64 g1, .int .i64 b1, .int .i64 t1, .bool p1] 32) = w2
  have LS := Lib.hid (show w.heap.size ≤ b2 ∧ w.heap.size < b2 by have h1 := K1.out.size; have h2Z := Z1.out.lt; have h3 := hbb; omega)
  have S2 := Lib.hid (show Bx 32 w2 b2 #[.int .i64 r1, .int .i64 g1, .int .i64 b1, .int .i64 t1, .bool p1] by rw [← hW, ← hbb]; exact Bx.made _ _ _)
  have hb : Below w1.heap.size w1 w2 := by rw [← hW]; exact below_box _ _
  (try rw [hbb])
  clear hW hbb
  have SS2 := Lib.hid hb.size
  have K2 := Lib.hid (drk.later K1.out K1.out.size hb)
  have C2 := Lib.hid (drk.cur_below C1.out hb)
  have Z2 := Lib.hid (Z1.out.below hb)
  clear hb K1 C1 Z1
  have LWS := Lib.hid S2.out.lt
  go_wp2_with fail
  (with_reducible refine (below 12 (by omega) _ p a len cap C2.out).mono ?_)
  rintro e w3 ⟨q, rfl, hx0, hx1, hk, hc⟩
  have Hq := Lib.hid (show 0 ≤ q ∧ q < 12 from ⟨hx0, hx1 (by omega)⟩)
  have SS3 := Lib.hid hk.size
  have K3 := Lib.hid (K2.out.trans hk)
  have C3 := Lib.hid (hc)
  have Z3 := Lib.hid (drk.bx_keep Z2.out hk (by have hlS := LS.out; have h0 := P0.out; have hs0 := LTZ.out; have hs1 := SS1.out; have hs2 := SS2.out; have hs3 := LWS.out; have hs4 := SS3.out; first | omega | (simp <;> omega)))
  have S3 := Lib.hid (drk.bx_keep S2.out hk (by have hlS := LS.out; have h0 := P0.out; have hs0 := LTZ.out; have hs1 := SS1.out; have hs2 := SS2.out; have hs3 := LWS.out; have hs4 := SS3.out; first | omega | (simp <;> omega)))
  clear hk hc hx0 hx1 K2 C2 Z2 S2
  by_cases h0 : q = 0
  · subst h0
    go_wp2_with fail
    (with_reducible refine (pickIn (-1) 4 3 (by omega) (by omega) _ p a len cap C3.out #[.int .i64 (-1), .int .i64 0, .int .i64 4] rfl (by decide)).mono ?_)
    rintro e w4 ⟨y2, rfl, hx0, hx1, hk, hc⟩
    have Hy2 := Lib.hid (show -1 ≤ y2 ∧ y2 ≤ 4 from ⟨hx0, hx1⟩)
    have SS4 := Lib.hid hk.size
    have K4 := Lib.hid (K3.out.trans hk)
    have C4 := Lib.hid (hc)
    have Z4 := Lib.hid (drk.bx_keep Z3.out hk (by have hlS := LS.out; have h0 := P0.out; have hs0 := LTZ.out; have hs1 := SS1.out; have hs2 := SS2.out; have hs3 := LWS.out; have hs4 := SS3.out; have hs5 := SS4.out; first | omega | (simp <;> omega)))
    have S4 := Lib.hid (drk.bx_keep S3.out hk (by have hlS := LS.out; have h0 := P0.out; have hs0 := LTZ.out; have hs1 := SS1.out; have hs2 := SS2.out; have hs3 := LWS.out; have hs4 := SS3.out; have hs5 := SS4.out; first | omega | (simp <;> omega)))
    clear hk hc hx0 hx1 K3 C3 Z3 S3
    have cS0 : w4.cell? ⟨b2, 0, none⟩ = some (.int .i64 r1) := S4.out.cell 0
    have fS0 : w4.frozen? ⟨b2, 0, none⟩ = false := S4.out.free 0
    go_upto_region 13 with fail
    clear cS0 fS0
    have BB := Lib.hid (show Below w.heap.size w4 (w4.setCell ⟨b2, 0, none⟩ (.int .i64 y2)) from (Below.refl _ _).setCell (p := ⟨b2, 0, none⟩) (by have hlS := LS.out; have h0 := P0.out; have hs0 := LTZ.out; have hs1 := SS1.out; have hs2 := SS2.out; have hs3 := LWS.out; have hs4 := SS3.out; have hs5 := SS4.out; (try simp only []); omega) _)
    have hWW : (w4.setCell ⟨b2, 0, none⟩ (.int .i64 y2)) = (w4.setCell ⟨b2, 0, none⟩ (.int .i64 y2)) := rfl
    obtain ⟨w5, hW⟩ : ∃ wy, (w4.setCell ⟨b2, 0, none⟩ (.int .i64 y2)) = wy := ⟨_, rfl⟩
    rw [hW]
    clear hWW
    have K5 := Lib.hid (drk.later K4.out (Nat.le_refl _) (hW ▸ BB.out))
    have C5 := Lib.hid (drk.cur_later CW.out K4.out C4.out (Nat.le_refl _) (hW ▸ BB.out))
    have Z5 := Lib.hid (show Bx 32 w5 (w.heap.size) #[.int .i64 0, .int .i64 0, .int .i64 0, .int .i64 0, .bool false] by rw [← hW]; exact (Z4.out.other (by have hlS := LS.out; have h0 := P0.out; have hs0 := LTZ.out; have hs1 := SS1.out; have hs2 := SS2.out; have hs3 := LWS.out; have hs4 := SS3.out; have hs5 := SS4.out; first | omega | (simp <;> omega)) _ _))
    have S5 := Lib.hid (show Bx 32 w5 (b2) #[.int .i64 y2, .int .i64 g1, .int .i64 b1, .int .i64 t1, .bool p1] by rw [← hW]; exact (S4.out.set 0 _))
    clear hW BB K4 C4 Z4 S4
    go_wp2_with (first | (refine stw.list_load rfl 32 _ rfl (b2) rfl 32 _ S5.out Try.underlying32 rfl szR ?_) | (refine stw.list_store rfl 32 _ _ rfl (w.heap.size) #[.int .i64 y2, .int .i64 g1, .int .i64 b1, .int .i64 t1, .bool p1] rfl rfl 32 _ Z5.out rfl szR (oneR _ _ _ _ _) ?_; intro wz6 hz))
    have K6 := Lib.hid (drk.later K5.out (by have hlS := LS.out; have h0 := P0.out; have hs0 := LTZ.out; have hs1 := SS1.out; have hs2 := SS2.out; have hs3 := LWS.out; have hs4 := SS3.out; have hs5 := SS4.out; first | omega | (simp <;> omega)) hz.below)
    have C6 := Lib.hid (drk.cur_later CW.out K5.out C5.out (by have hlS := LS.out; have h0 := P0.out; have hs0 := LTZ.out; have hs1 := SS1.out; have hs2 := SS2.out; have hs3 := LWS.out; have hs4 := SS3.out; have hs5 := SS4.out; first | omega | (simp <;> omega)) hz.below)
    have Z6 := Lib.hid (hz.box)
    have S6 := Lib.hid (hz.keep S5.out (by have hlS := LS.out; have h0 := P0.out; have hs0 := LTZ.out; have hs1 := SS1.out; have hs2 := SS2.out; have hs3 := LWS.out; have hs4 := SS3.out; have hs5 := SS4.out; first | omega | (simp <;> omega)))
    clear hz K5 C5 Z5 S5
    (try simp only [Exit.inBlock, Exit.then])
    refine bodyPost_ret (v := .agg #[.int .i64 y2, .int .i64 g1, .int .i64 b1, .int .i64 t1, .bool p1]) ?_ rfl ?_
    · rw [results_cell1 rfl]
      exact stw.back Z6.out Try.underlying32 rfl szR
    · exact ⟨_, _, _, _, _, rfl, K6.out, C6.out⟩
  · by_cases h1 : q = 1
    · subst h1
      go_wp2_with fail
      (with_reducible refine (pickIn (-1) 41 5 (by omega) (by omega) _ p a len cap C3.out #[.int .i64 (-1), .int .i64 9, .int .i64 10, .int .i64 39, .int .i64 41] rfl (by decide)).mono ?_)
      rintro e w4 ⟨y2, rfl, hx0, hx1, hk, hc⟩
      have Hy2 := Lib.hid (show -1 ≤ y2 ∧ y2 ≤ 41 from ⟨hx0, hx1⟩)
      have SS4 := Lib.hid hk.size
      have K4 := Lib.hid (K3.out.trans hk)
      have C4 := Lib.hid (hc)
      have Z4 := Lib.hid (drk.bx_keep Z3.out hk (by have hlS := LS.out; have h0 := P0.out; have hs0 := LTZ.out; have hs1 := SS1.out; have hs2 := SS2.out; have hs3 := LWS.out; have hs4 := SS3.out; have hs5 := SS4.out; first | omega | (simp <;> omega)))
      have S4 := Lib.hid (drk.bx_keep S3.out hk (by have hlS := LS.out; have h0 := P0.out; have hs0 := LTZ.out; have hs1 := SS1.out; have hs2 := SS2.out; have hs3 := LWS.out; have hs4 := SS3.out; have hs5 := SS4.out; first | omega | (simp <;> omega)))
      clear hk hc hx0 hx1 K3 C3 Z3 S3
      have cS1 : w4.cell? ⟨b2, 1, none⟩ = some (.int .i64 g1) := S4.out.cell 1
      have fS1 : w4.frozen? ⟨b2, 1, none⟩ = false := S4.out.free 1
      go_upto_region 13 with fail
      clear cS1 fS1
      have BB := Lib.hid (show Below w.heap.size w4 (w4.setCell ⟨b2, 1, none⟩ (.int .i64 y2)) from (Below.refl _ _).setCell (p := ⟨b2, 1, none⟩) (by have hlS := LS.out; have h0 := P0.out; have hs0 := LTZ.out; have hs1 := SS1.out; have hs2 := SS2.out; have hs3 := LWS.out; have hs4 := SS3.out; have hs5 := SS4.out; (try simp only []); omega) _)
      have hWW : (w4.setCell ⟨b2, 1, none⟩ (.int .i64 y2)) = (w4.setCell ⟨b2, 1, none⟩ (.int .i64 y2)) := rfl
      obtain ⟨w5, hW⟩ : ∃ wy, (w4.setCell ⟨b2, 1, none⟩ (.int .i64 y2)) = wy := ⟨_, rfl⟩
      rw [hW]
      clear hWW
      have K5 := Lib.hid (drk.later K4.out (Nat.le_refl _) (hW ▸ BB.out))
      have C5 := Lib.hid (drk.cur_later CW.out K4.out C4.out (Nat.le_refl _) (hW ▸ BB.out))
      have Z5 := Lib.hid (show Bx 32 w5 (w.heap.size) #[.int .i64 0, .int .i64 0, .int .i64 0, .int .i64 0, .bool false] by rw [← hW]; exact (Z4.out.other (by have hlS := LS.out; have h0 := P0.out; have hs0 := LTZ.out; have hs1 := SS1.out; have hs2 := SS2.out; have hs3 := LWS.out; have hs4 := SS3.out; have hs5 := SS4.out; first | omega | (simp <;> omega)) _ _))
      have S5 := Lib.hid (show Bx 32 w5 (b2) #[.int .i64 r1, .int .i64 y2, .int .i64 b1, .int .i64 t1, .bool p1] by rw [← hW]; exact (S4.out.set 1 _))
      clear hW BB K4 C4 Z4 S4
      go_wp2_with (first | (refine stw.list_load rfl 32 _ rfl (b2) rfl 32 _ S5.out Try.underlying32 rfl szR ?_) | (refine stw.list_store rfl 32 _ _ rfl (w.heap.size) #[.int .i64 r1, .int .i64 y2, .int .i64 b1, .int .i64 t1, .bool p1] rfl rfl 32 _ Z5.out rfl szR (oneR _ _ _ _ _) ?_; intro wz6 hz))
      have K6 := Lib.hid (drk.later K5.out (by have hlS := LS.out; have h0 := P0.out; have hs0 := LTZ.out; have hs1 := SS1.out; have hs2 := SS2.out; have hs3 := LWS.out; have hs4 := SS3.out; have hs5 := SS4.out; first | omega | (simp <;> omega)) hz.below)
      have C6 := Lib.hid (drk.cur_later CW.out K5.out C5.out (by have hlS := LS.out; have h0 := P0.out; have hs0 := LTZ.out; have hs1 := SS1.out; have hs2 := SS2.out; have hs3 := LWS.out; have hs4 := SS3.out; have hs5 := SS4.out; first | omega | (simp <;> omega)) hz.below)
      have Z6 := Lib.hid (hz.box)
      have S6 := Lib.hid (hz.keep S5.out (by have hlS := LS.out; have h0 := P0.out; have hs0 := LTZ.out; have hs1 := SS1.out; have hs2 := SS2.out; have hs3 := LWS.out; have hs4 := SS3.out; have hs5 := SS4.out; first | omega | (simp <;> omega)))
      clear hz K5 C5 Z5 S5
      (try simp only [Exit.inBlock, Exit.then])
      refine bodyPost_ret (v := .agg #[.int .i64 r1, .int .i64 y2, .int .i64 b1, .int .i64 t1, .bool p1]) ?_ rfl ?_
      · rw [results_cell1 rfl]
        exact stw.back Z6.out Try.underlying32 rfl szR
      · exact ⟨_, _, _, _, _, rfl, K6.out, C6.out⟩
    · by_cases h2 : q = 2
      · subst h2
        go_wp2_with fail
        (with_reducible refine (pickIn (-1) 2 3 (by omega) (by omega) _ p a len cap C3.out #[.int .i64 (-1), .int .i64 1, .int .i64 2] rfl (by decide)).mono ?_)
        rintro e w4 ⟨y2, rfl, hx0, hx1, hk, hc⟩
        have Hy2 := Lib.hid (show -1 ≤ y2 ∧ y2 ≤ 2 from ⟨hx0, hx1⟩)
        have SS4 := Lib.hid hk.size
        have K4 := Lib.hid (K3.out.trans hk)
        have C4 := Lib.hid (hc)
        have Z4 := Lib.hid (drk.bx_keep Z3.out hk (by have hlS := LS.out; have h0 := P0.out; have hs0 := LTZ.out; have hs1 := SS1.out; have hs2 := SS2.out; have hs3 := LWS.out; have hs4 := SS3.out; have hs5 := SS4.out; first | omega | (simp <;> omega)))
        have S4 := Lib.hid (drk.bx_keep S3.out hk (by have hlS := LS.out; have h0 := P0.out; have hs0 := LTZ.out; have hs1 := SS1.out; have hs2 := SS2.out; have hs3 := LWS.out; have hs4 := SS3.out; have hs5 := SS4.out; first | omega | (simp <;> omega)))
        clear hk hc hx0 hx1 K3 C3 Z3 S3
        have cS2 : w4.cell? ⟨b2, 2, none⟩ = some (.int .i64 b1) := S4.out.cell 2
        have fS2 : w4.frozen? ⟨b2, 2, none⟩ = false := S4.out.free 2
        go_upto_region 13 with fail
        clear cS2 fS2
        have BB := Lib.hid (show Below w.heap.size w4 (w4.setCell ⟨b2, 2, none⟩ (.int .i64 y2)) from (Below.refl _ _).setCell (p := ⟨b2, 2, none⟩) (by have hlS := LS.out; have h0 := P0.out; have hs0 := LTZ.out; have hs1 := SS1.out; have hs2 := SS2.out; have hs3 := LWS.out; have hs4 := SS3.out; have hs5 := SS4.out; (try simp only []); omega) _)
        have hWW : (w4.setCell ⟨b2, 2, none⟩ (.int .i64 y2)) = (w4.setCell ⟨b2, 2, none⟩ (.int .i64 y2)) := rfl
        obtain ⟨w5, hW⟩ : ∃ wy, (w4.setCell ⟨b2, 2, none⟩ (.int .i64 y2)) = wy := ⟨_, rfl⟩
        rw [hW]
        clear hWW
        have K5 := Lib.hid (drk.later K4.out (Nat.le_refl _) (hW ▸ BB.out))
        have C5 := Lib.hid (drk.cur_later CW.out K4.out C4.out (Nat.le_refl _) (hW ▸ BB.out))
        have Z5 := Lib.hid (show Bx 32 w5 (w.heap.size) #[.int .i64 0, .int .i64 0, .int .i64 0, .int .i64 0, .bool false] by rw [← hW]; exact (Z4.out.other (by have hlS := LS.out; have h0 := P0.out; have hs0 := LTZ.out; have hs1 := SS1.out; have hs2 := SS2.out; have hs3 := LWS.out; have hs4 := SS3.out; have hs5 := SS4.out; first | omega | (simp <;> omega)) _ _))
        have S5 := Lib.hid (show Bx 32 w5 (b2) #[.int .i64 r1, .int .i64 g1, .int .i64 y2, .int .i64 t1, .bool p1] by rw [← hW]; exact (S4.out.set 2 _))
        clear hW BB K4 C4 Z4 S4
        go_wp2_with (first | (refine stw.list_load rfl 32 _ rfl (b2) rfl 32 _ S5.out Try.underlying32 rfl szR ?_) | (refine stw.list_store rfl 32 _ _ rfl (w.heap.size) #[.int .i64 r1, .int .i64 g1, .int .i64 y2, .int .i64 t1, .bool p1] rfl rfl 32 _ Z5.out rfl szR (oneR _ _ _ _ _) ?_; intro wz6 hz))
        have K6 := Lib.hid (drk.later K5.out (by have hlS := LS.out; have h0 := P0.out; have hs0 := LTZ.out; have hs1 := SS1.out; have hs2 := SS2.out; have hs3 := LWS.out; have hs4 := SS3.out; have hs5 := SS4.out; first | omega | (simp <;> omega)) hz.below)
        have C6 := Lib.hid (drk.cur_later CW.out K5.out C5.out (by have hlS := LS.out; have h0 := P0.out; have hs0 := LTZ.out; have hs1 := SS1.out; have hs2 := SS2.out; have hs3 := LWS.out; have hs4 := SS3.out; have hs5 := SS4.out; first | omega | (simp <;> omega)) hz.below)
        have Z6 := Lib.hid (hz.box)
        have S6 := Lib.hid (hz.keep S5.out (by have hlS := LS.out; have h0 := P0.out; have hs0 := LTZ.out; have hs1 := SS1.out; have hs2 := SS2.out; have hs3 := LWS.out; have hs4 := SS3.out; have hs5 := SS4.out; first | omega | (simp <;> omega)))
        clear hz K5 C5 Z5 S5
        (try simp only [Exit.inBlock, Exit.then])
        refine bodyPost_ret (v := .agg #[.int .i64 r1, .int .i64 g1, .int .i64 y2, .int .i64 t1, .bool p1]) ?_ rfl ?_
        · rw [results_cell1 rfl]
          exact stw.back Z6.out Try.underlying32 rfl szR
        · exact ⟨_, _, _, _, _, rfl, K6.out, C6.out⟩
      · by_cases h3 : q = 3
        · subst h3
          go_wp2_with fail
          (with_reducible refine (pickIn 0 80 6 (by omega) (by omega) _ p a len cap C3.out #[.int .i64 0, .int .i64 10, .int .i64 20, .int .i64 30, .int .i64 40, .int .i64 80] rfl (by decide)).mono ?_)
          rintro e w4 ⟨y2, rfl, hx0, hx1, hk, hc⟩
          have Hy2 := Lib.hid (show 0 ≤ y2 ∧ y2 ≤ 80 from ⟨hx0, hx1⟩)
          have SS4 := Lib.hid hk.size
          have K4 := Lib.hid (K3.out.trans hk)
          have C4 := Lib.hid (hc)
          have Z4 := Lib.hid (drk.bx_keep Z3.out hk (by have hlS := LS.out; have h0 := P0.out; have hs0 := LTZ.out; have hs1 := SS1.out; have hs2 := SS2.out; have hs3 := LWS.out; have hs4 := SS3.out; have hs5 := SS4.out; first | omega | (simp <;> omega)))
          have S4 := Lib.hid (drk.bx_keep S3.out hk (by have hlS := LS.out; have h0 := P0.out; have hs0 := LTZ.out; have hs1 := SS1.out; have hs2 := SS2.out; have hs3 := LWS.out; have hs4 := SS3.out; have hs5 := SS4.out; first | omega | (simp <;> omega)))
          clear hk hc hx0 hx1 K3 C3 Z3 S3
          have cS3 : w4.cell? ⟨b2, 3, none⟩ = some (.int .i64 t1) := S4.out.cell 3
          have fS3 : w4.frozen? ⟨b2, 3, none⟩ = false := S4.out.free 3
          go_upto_region 13 with fail
          clear cS3 fS3
          have BB := Lib.hid (show Below w.heap.size w4 (w4.setCell ⟨b2, 3, none⟩ (.int .i64 y2)) from (Below.refl _ _).setCell (p := ⟨b2, 3, none⟩) (by have hlS := LS.out; have h0 := P0.out; have hs0 := LTZ.out; have hs1 := SS1.out; have hs2 := SS2.out; have hs3 := LWS.out; have hs4 := SS3.out; have hs5 := SS4.out; (try simp only []); omega) _)
          have hWW : (w4.setCell ⟨b2, 3, none⟩ (.int .i64 y2)) = (w4.setCell ⟨b2, 3, none⟩ (.int .i64 y2)) := rfl
          obtain ⟨w5, hW⟩ : ∃ wy, (w4.setCell ⟨b2, 3, none⟩ (.int .i64 y2)) = wy := ⟨_, rfl⟩
          rw [hW]
          clear hWW
          have K5 := Lib.hid (drk.later K4.out (Nat.le_refl _) (hW ▸ BB.out))
          have C5 := Lib.hid (drk.cur_later CW.out K4.out C4.out (Nat.le_refl _) (hW ▸ BB.out))
          have Z5 := Lib.hid (show Bx 32 w5 (w.heap.size) #[.int .i64 0, .int .i64 0, .int .i64 0, .int .i64 0, .bool false] by rw [← hW]; exact (Z4.out.other (by have hlS := LS.out; have h0 := P0.out; have hs0 := LTZ.out; have hs1 := SS1.out; have hs2 := SS2.out; have hs3 := LWS.out; have hs4 := SS3.out; have hs5 := SS4.out; first | omega | (simp <;> omega)) _ _))
          have S5 := Lib.hid (show Bx 32 w5 (b2) #[.int .i64 r1, .int .i64 g1, .int .i64 b1, .int .i64 y2, .bool p1] by rw [← hW]; exact (S4.out.set 3 _))
          clear hW BB K4 C4 Z4 S4
          go_wp2_with (first | (refine stw.list_load rfl 32 _ rfl (b2) rfl 32 _ S5.out Try.underlying32 rfl szR ?_) | (refine stw.list_store rfl 32 _ _ rfl (w.heap.size) #[.int .i64 r1, .int .i64 g1, .int .i64 b1, .int .i64 y2, .bool p1] rfl rfl 32 _ Z5.out rfl szR (oneR _ _ _ _ _) ?_; intro wz6 hz))
          have K6 := Lib.hid (drk.later K5.out (by have hlS := LS.out; have h0 := P0.out; have hs0 := LTZ.out; have hs1 := SS1.out; have hs2 := SS2.out; have hs3 := LWS.out; have hs4 := SS3.out; have hs5 := SS4.out; first | omega | (simp <;> omega)) hz.below)
          have C6 := Lib.hid (drk.cur_later CW.out K5.out C5.out (by have hlS := LS.out; have h0 := P0.out; have hs0 := LTZ.out; have hs1 := SS1.out; have hs2 := SS2.out; have hs3 := LWS.out; have hs4 := SS3.out; have hs5 := SS4.out; first | omega | (simp <;> omega)) hz.below)
          have Z6 := Lib.hid (hz.box)
          have S6 := Lib.hid (hz.keep S5.out (by have hlS := LS.out; have h0 := P0.out; have hs0 := LTZ.out; have hs1 := SS1.out; have hs2 := SS2.out; have hs3 := LWS.out; have hs4 := SS3.out; have hs5 := SS4.out; first | omega | (simp <;> omega)))
          clear hz K5 C5 Z5 S5
          (try simp only [Exit.inBlock, Exit.then])
          refine bodyPost_ret (v := .agg #[.int .i64 r1, .int .i64 g1, .int .i64 b1, .int .i64 y2, .bool p1]) ?_ rfl ?_
          · rw [results_cell1 rfl]
            exact stw.back Z6.out Try.underlying32 rfl szR
          · exact ⟨_, _, _, _, _, rfl, K6.out, C6.out⟩
        · by_cases h4 : q = 4
          · subst h4
            have cS4 : w3.cell? ⟨b2, 4, none⟩ = some (.bool p1) := S3.out.cell 4
            have fS4 : w3.frozen? ⟨b2, 4, none⟩ = false := S3.out.free 4
            go_upto_region 13 with fail
            clear cS4 fS4
            have BB := Lib.hid (show Below w.heap.size w3 (w3.setCell ⟨b2, 4, none⟩ (.bool (!p1))) from (Below.refl _ _).setCell (p := ⟨b2, 4, none⟩) (by have hlS := LS.out; have h0 := P0.out; have hs0 := LTZ.out; have hs1 := SS1.out; have hs2 := SS2.out; have hs3 := LWS.out; have hs4 := SS3.out; (try simp only []); omega) _)
            have hWW : (w3.setCell ⟨b2, 4, none⟩ (.bool (!p1))) = (w3.setCell ⟨b2, 4, none⟩ (.bool (!p1))) := rfl
            obtain ⟨w4, hW⟩ : ∃ wy, (w3.setCell ⟨b2, 4, none⟩ (.bool (!p1))) = wy := ⟨_, rfl⟩
            rw [hW]
            clear hWW
            have K4 := Lib.hid (drk.later K3.out (Nat.le_refl _) (hW ▸ BB.out))
            have C4 := Lib.hid (drk.cur_later CW.out K3.out C3.out (Nat.le_refl _) (hW ▸ BB.out))
            have Z4 := Lib.hid (show Bx 32 w4 (w.heap.size) #[.int .i64 0, .int .i64 0, .int .i64 0, .int .i64 0, .bool false] by rw [← hW]; exact (Z3.out.other (by have hlS := LS.out; have h0 := P0.out; have hs0 := LTZ.out; have hs1 := SS1.out; have hs2 := SS2.out; have hs3 := LWS.out; have hs4 := SS3.out; first | omega | (simp <;> omega)) _ _))
            have S4 := Lib.hid (show Bx 32 w4 (b2) #[.int .i64 r1, .int .i64 g1, .int .i64 b1, .int .i64 t1, .bool (!p1)] by rw [← hW]; exact (S3.out.set 4 _))
            clear hW BB K3 C3 Z3 S3
            go_wp2_with (first | (refine stw.list_load rfl 32 _ rfl (b2) rfl 32 _ S4.out Try.underlying32 rfl szR ?_) | (refine stw.list_store rfl 32 _ _ rfl (w.heap.size) #[.int .i64 r1, .int .i64 g1, .int .i64 b1, .int .i64 t1, .bool (!p1)] rfl rfl 32 _ Z4.out rfl szR (oneR _ _ _ _ _) ?_; intro wz5 hz))
            have K5 := Lib.hid (drk.later K4.out (by have hlS := LS.out; have h0 := P0.out; have hs0 := LTZ.out; have hs1 := SS1.out; have hs2 := SS2.out; have hs3 := LWS.out; have hs4 := SS3.out; first | omega | (simp <;> omega)) hz.below)
            have C5 := Lib.hid (drk.cur_later CW.out K4.out C4.out (by have hlS := LS.out; have h0 := P0.out; have hs0 := LTZ.out; have hs1 := SS1.out; have hs2 := SS2.out; have hs3 := LWS.out; have hs4 := SS3.out; first | omega | (simp <;> omega)) hz.below)
            have Z5 := Lib.hid (hz.box)
            have S5 := Lib.hid (hz.keep S4.out (by have hlS := LS.out; have h0 := P0.out; have hs0 := LTZ.out; have hs1 := SS1.out; have hs2 := SS2.out; have hs3 := LWS.out; have hs4 := SS3.out; first | omega | (simp <;> omega)))
            clear hz K4 C4 Z4 S4
            (try simp only [Exit.inBlock, Exit.then])
            refine bodyPost_ret (v := .agg #[.int .i64 r1, .int .i64 g1, .int .i64 b1, .int .i64 t1, .bool (!p1)]) ?_ rfl ?_
            · rw [results_cell1 rfl]
              exact stw.back Z5.out Try.underlying32 rfl szR
            · exact ⟨_, _, _, _, _, rfl, K5.out, C5.out⟩
          · have e0 : (q == 0) = false := by simpa using h0
            have e1 : (q == 1) = false := by simpa using h1
            have e2 : (q == 2) = false := by simpa using h2
            have e3 : (q == 3) = false := by simpa using h3
            have e4 : (q == 4) = false := by simpa using h4
            go_wp2_with (first | (refine stw.list_load rfl 32 _ rfl (b2) rfl 32 _ S3.out Try.underlying32 rfl szR ?_) | (refine stw.list_store rfl 32 _ _ rfl (w.heap.size) #[.int .i64 r1, .int .i64 g1, .int .i64 b1, .int .i64 t1, .bool p1] rfl rfl 32 _ Z3.out rfl szR (oneR _ _ _ _ _) ?_; intro wz4 hz))
            have K4 := Lib.hid (drk.later K3.out (by have hlS := LS.out; have h0 := P0.out; have hs0 := LTZ.out; have hs1 := SS1.out; have hs2 := SS2.out; have hs3 := LWS.out; have hs4 := SS3.out; first | omega | (simp <;> omega)) hz.below)
            have C4 := Lib.hid (drk.cur_later CW.out K3.out C3.out (by have hlS := LS.out; have h0 := P0.out; have hs0 := LTZ.out; have hs1 := SS1.out; have hs2 := SS2.out; have hs3 := LWS.out; have hs4 := SS3.out; first | omega | (simp <;> omega)) hz.below)
            have Z4 := Lib.hid (hz.box)
            have S4 := Lib.hid (hz.keep S3.out (by have hlS := LS.out; have h0 := P0.out; have hs0 := LTZ.out; have hs1 := SS1.out; have hs2 := SS2.out; have hs3 := LWS.out; have hs4 := SS3.out; first | omega | (simp <;> omega)))
            clear hz K3 C3 Z3 S3
            (try simp only [Exit.inBlock, Exit.then])
            refine bodyPost_ret (v := .agg #[.int .i64 r1, .int .i64 g1, .int .i64 b1, .int .i64 t1, .bool p1]) ?_ rfl ?_
            · rw [results_cell1 rfl]
              exact stw.back Z4.out Try.underlying32 rfl szR
            · exact ⟨_, _, _, _, _, rfl, K4.out, C4.out⟩
theorem keep_low {p B : Nat} {w wb wc : World} (h : Below B w wb) (k : Keep p wb wc) (hp : B ≤ p) (hs : p < wb.heap.size) : Below B w wc := h.trans (k.below hp hs)
set_option maxRecDepth 100000 in
set_option maxHeartbeats 4000000 in
theorem dRi (w : World) (a : Option Addr) (len cap : Nat) (hc : draw.Code w w.heap.size a len) :
    Calls Try.prog 56 #[.slice a len cap] w (RePost w) := by
  have HC := Lib.hid hc
  clear hc
  go_enter Try.func56, Try.ntmps56
  go_upto_region 1 with fail
  obtain ⟨w0, hW⟩ : ∃ w0, w.alloc (.cells #[.int .i64 0, .int .i64 0, .int .i64 0, .int .i64 0, .bool false] 32) = w0 := ⟨_, rfl⟩
  rw [hW]
  have B0 := Lib.hid (show Below w.heap.size w w0 by rw [← hW]; exact (Below.refl _ _).alloc (by simp <;> omega) _)
  have Z0 := Lib.hid (show Bx 32 w0 (w.heap.size) #[.int .i64 0, .int .i64 0, .int .i64 0, .int .i64 0, .bool false] by
      rw [← hW]
      have hh := Bx.made 32 w #[.int .i64 0, .int .i64 0, .int .i64 0, .int .i64 0, .bool false]
      exact hh)
  clear hW
  have LTZ := Lib.hid Z0.out.lt
  go_wp2_with fail
  (with_reducible refine (draw.new _ a len cap (code_later HC.out B0.out)).mono ?_)
  rintro e wb ⟨rfl, hk, hs, hc⟩
  have HB := Lib.hid (keep_bel B0.out B0.out.size hk)
  obtain ⟨p, hp⟩ : ∃ p, w0.heap.size = p := ⟨_, rfl⟩
  have LP := Lib.hid (show w.heap.size ≤ p ∧ p < wb.heap.size ∧ w.heap.size < p by have h0 := B0.out.size; have hZ := Z0.out.lt; first | omega | (simp at hs ⊢ <;> omega))
  rw [hp] at hk hs hc ⊢
  have Z1 := Lib.hid (drk.bx_keep Z0.out hk (by have h1 := LP.out; omega))
  have P0 := Lib.hid hs
  have C1 := Lib.hid hc
  have CW := Lib.hid hc
  have K1 := Lib.hid (Keep.refl p wb)
  clear hk hs hc hp B0 Z0
  go_wp2_with fail
  (with_reducible refine (dAy _ p a len cap C1.out).mono ?_)
  rintro e w2 ⟨r1, g1, b1, t1, p1, rfl, hk, hc⟩
  have SS2 := Lib.hid hk.size
  have K2 := Lib.hid (K1.out.trans hk)
  have C2 := Lib.hid (hc)
  have Z2 := Lib.hid (drk.bx_keep Z1.out hk (by have hlP := LP.out; have h0 := P0.out; have hs0 := LTZ.out; have hs1 := LP.out; have hs2 := SS2.out; first | omega | (simp <;> omega)))
  clear hk hc  K1 C1 Z1
  have HBS := Lib.hid HB.out.size
  have B2 := Lib.hid (keep_low HB.out K2.out (by have h1 := LP.out; omega) (by have h1 := LP.out; omega))
  clear K2 C2
  go_wp2_with (first | (refine stw.list_store rfl 32 _ _ rfl (w.heap.size) #[.int .i64 r1, .int .i64 g1, .int .i64 b1, .int .i64 t1, .bool p1] rfl rfl 32 _ Z2.out rfl szR (oneR _ _ _ _ _) ?_; intro wz3 hz))
  have B3 := Lib.hid (hz.on B2.out (by have hs0 := LTZ.out; have hs1 := LP.out; have hs2 := SS2.out; have hs3 := HBS.out; first | omega | (simp <;> omega)))
  have Z3 := Lib.hid (hz.box)
  clear hz B2 Z2
  (try simp only [Exit.inBlock, Exit.then])
  refine bodyPost_ret (v := .agg #[.int .i64 r1, .int .i64 g1, .int .i64 b1, .int .i64 t1, .bool p1]) ?_ rfl ?_
  · rw [results_cell1 rfl]
    exact stw.back Z3.out Try.underlying32 rfl szR
  · exact ⟨_, _, _, _, _, rfl, B3.out⟩
set_option maxRecDepth 100000 in
set_option maxHeartbeats 4000000 in
theorem dRs (w : World) (a : Option Addr) (len cap : Nat) (hc : draw.Code w w.heap.size a len) :
    Calls Try.prog 21 #[.slice a len cap] w (RePost w) := by
  have HC := Lib.hid hc
  clear hc
  go_enter Try.func21, Try.ntmps21
  go_upto_region 1 with fail
  obtain ⟨w0, hW⟩ : ∃ w0, w.alloc (.cells #[.int .i64 0, .int .i64 0, .int .i64 0, .int .i64 0, .bool false] 32) = w0 := ⟨_, rfl⟩
  rw [hW]
  have B0 := Lib.hid (show Below w.heap.size w w0 by rw [← hW]; exact (Below.refl _ _).alloc (by simp <;> omega) _)
  have Z0 := Lib.hid (show Bx 32 w0 (w.heap.size) #[.int .i64 0, .int .i64 0, .int .i64 0, .int .i64 0, .bool false] by
      rw [← hW]
      have hh := Bx.made 32 w #[.int .i64 0, .int .i64 0, .int .i64 0, .int .i64 0, .bool false]
      exact hh)
  clear hW
  have LTZ := Lib.hid Z0.out.lt
  go_wp2_with fail
  (with_reducible refine (dRi _ a len cap (code_later HC.out B0.out)).mono ?_)
  rintro e w1 ⟨r1, g1, b1, t1, p1, rfl, hb⟩
  have SS1 := Lib.hid hb.size
  have B1 := Lib.hid (B0.out.trans (hb.mono B0.out.size))
  have Z1 := Lib.hid (Z0.out.below hb)
  clear hb  B0 Z0
  go_wp2_with (first | (refine stw.list_store rfl 32 _ _ rfl (w.heap.size) #[.int .i64 r1, .int .i64 g1, .int .i64 b1, .int .i64 t1, .bool p1] rfl rfl 32 _ Z1.out rfl szR (oneR _ _ _ _ _) ?_; intro wz2 hz))
  have B2 := Lib.hid (hz.on B1.out (by have hs0 := LTZ.out; have hs1 := SS1.out; first | omega | (simp <;> omega)))
  have Z2 := Lib.hid (hz.box)
  clear hz B1 Z1
  (try simp only [Exit.inBlock, Exit.then])
  refine bodyPost_ret (v := .agg #[.int .i64 r1, .int .i64 g1, .int .i64 b1, .int .i64 t1, .bool p1]) ?_ rfl ?_
  · rw [results_cell1 rfl]
    exact stw.back Z2.out Try.underlying32 rfl szR
  · exact ⟨_, _, _, _, _, rfl, B2.out⟩
end Go.Proofs.Ytejjafmppihneaa.ra
