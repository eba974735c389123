/- Draws of stage 24: beacons, encodings. Condition: the bytes that are drawn from are a slice that came in. -/
import Derived.Test.YtalfihfielgmpaaBe4
import Derived.Test.YtalfihfielgmpaaBnt
import Derived.Test.YtalfihfielgmpaaDraw2
import Derived.Test.YtalfihfielgmpaaDrawB
import Derived.Test.YtalfihfielgmpaaDrk
import Derived.Test.YtalfihfielgmpaaRgk
import Derived.Deep.Cut
namespace Go.Proofs.Ytalfihfielgmpaa.be
open Go.RowKit sl harn rng bx drk stw draw bcm
set_option linter.unusedVariables false
set_option linter.unusedSimpArgs false

def BkPost (p : Nat) (a : Option Addr) (len cap : Nat) (w : World) (e : Ending) (w' : World) : Prop := ∃ (f1 s1 c1 d1 : Int) (g1 : Bool) (t1 : Int), e = .returned (.agg #[.int .i64 f1, .int .i64 s1, .int .i64 c1, .int .i64 d1, .bool g1, .int .i64 t1]) ∧ (1 ≤ d1 ∧ d1 ≤ 4) ∧ Keep p w w' ∧ Cur w' p a len cap
def BaPost (p : Nat) (a : Option Addr) (len cap : Nat) (w : World) (e : Ending) (w' : World) : Prop := ∃ (f1 s1 c1 d1 : Int) (g1 : Bool) (t1 : Int), e = .returned (.agg #[.int .i64 f1, .int .i64 s1, .int .i64 c1, .int .i64 d1, .bool g1, .int .i64 t1]) ∧ Keep p w w' ∧ Cur w' p a len cap
def BdPost (w : World) (e : Ending) (w' : World) : Prop := ∃ (f1 s1 c1 d1 : Int) (g1 : Bool) (t1 : Int), e = .returned (.agg #[.int .i64 f1, .int .i64 s1, .int .i64 c1, .int .i64 d1, .bool g1, .int .i64 t1]) ∧ Below w.heap.size w w'
/-- Drawn bytes. -/
def SdPost (w : World) (e : Ending) (w' : World) : Prop := ∃ A n c zs, e = .returned (.slice A n c) ∧ n ≤ 2000 ∧ Ow 5 .u8 w' w.heap.size w'.heap.size A n c zs ∧ Below w.heap.size w w'
theorem keep_low {p B : Nat} {w wb wc : World} (h : Below B w wb) (k : Keep p wb wc) (hp : B ≤ p) (hs : p < wb.heap.size) : Below B w wc := h.trans (k.below hp hs)
theorem pick3 {d : Int} (h : 1 ≤ d ∧ d ≤ 4) : (#[.int .i64 (-1), .int .i64 (d - 1), .int .i64 d] : Array Value).toList.all (okInt (-1) 4) = true := by
  simp [okInt]
  omega
set_option maxRecDepth 100000 in
set_option maxHeartbeats 4000000 in
theorem dBk (w : World) (p : Nat) (a : Option Addr) (len cap : Nat) (hc : Cur w p a len cap) :
    Calls Try.prog 41 #[.pointer (some ⟨p, 0, none⟩)] w (BkPost p a len cap w) := by
  have CW := Lib.hid hc
  have P0 := Lib.hid hc.lt
  clear hc
  go_enter Try.func41, Try.ntmps41
  go_upto_region 1 with fail
  obtain ⟨w0, hW⟩ : ∃ w0, w.alloc (.cells #[.int .i64 0, .int .i64 0, .int .i64 0, .int .i64 0, .bool false, .int .i64 0] 25) = w0 := ⟨_, rfl⟩
  rw [hW]
  have K0 := Lib.hid (show Keep p w w0 by rw [← hW]; exact (Keep.refl p w).alloc _)
  have C0 := Lib.hid (show Cur w0 p a len cap by rw [← hW]; exact (CW.out).alloc _)
  have Z0 := Lib.hid (show Bx 25 w0 (w.heap.size) #[.int .i64 0, .int .i64 0, .int .i64 0, .int .i64 0, .bool false, .int .i64 0] by
      rw [← hW]
      have hh := Bx.made 25 w #[.int .i64 0, .int .i64 0, .int .i64 0, .int .i64 0, .bool false, .int .i64 0]
      exact hh)
  clear hW
  have LTZ := Lib.hid Z0.out.lt
  go_wp2_with fail
  (with_reducible refine (below 3 (by omega) _ p a len cap C0.out).mono ?_)
  rintro e w1 ⟨x0, rfl, hx0, hx1, hk, hc⟩
  have Hx0 := Lib.hid (show 0 ≤ x0 ∧ x0 < 3 from ⟨hx0, hx1 (by omega)⟩)
  have SS1 := Lib.hid hk.size
  have K1 := Lib.hid (K0.out.trans hk)
  have C1 := Lib.hid (hc)
  have Z1 := Lib.hid (drk.bx_keep Z0.out hk (by have h0 := P0.out; have hs0 := LTZ.out; have hs1 := SS1.out; first | omega | (simp <;> omega)))
  clear hk hc hx0 hx1 K0 C0 Z0
  go_wp2_with fail
  (with_reducible refine (below 20 (by omega) _ p a len cap C1.out).mono ?_)
  rintro e w2 ⟨x1, rfl, hx0, hx1, hk, hc⟩
  have Hx1 := Lib.hid (show 0 ≤ x1 ∧ x1 < 20 from ⟨hx0, hx1 (by omega)⟩)
  have SS2 := Lib.hid hk.size
  have K2 := Lib.hid (K1.out.trans hk)
  have C2 := Lib.hid (hc)
  have Z2 := Lib.hid (drk.bx_keep Z1.out hk (by have h0 := P0.out; have hs0 := LTZ.out; have hs1 := SS1.out; have hs2 := SS2.out; first | omega | (simp <;> omega)))
  clear hk hc hx0 hx1 K1 C1 Z1
  obtain ⟨s1, hs1⟩ : ∃ y, 10 * x1 = y := ⟨_, rfl⟩
  have HS1 := Lib.hid hs1
  have m1 : IntKind.i64.wrap (10 * x1) = s1 := by rw [hs1]; exact IntWalk.i64_in _ (by have := Hx1.out; omega)
  have m2 : wrap64 (10 * x1) = s1 := by rw [hs1]; unfold wrap64; have := Hx1.out; omega
  clear hs1
  go_wp2_with fail
  clear m1 m2
  (with_reducible refine (below 4 (by omega) _ p a len cap C2.out).mono ?_)
  rintro e w3 ⟨x2, rfl, hx0, hx1, hk, hc⟩
  have Hx2 := Lib.hid (show 0 ≤ x2 ∧ x2 < 4 from ⟨hx0, hx1 (by omega)⟩)
  have SS3 := Lib.hid hk.size
  have K3 := Lib.hid (K2.out.trans hk)
  have C3 := Lib.hid (hc)
  have Z3 := Lib.hid (drk.bx_keep Z2.out hk (by have h0 := P0.out; have hs0 := LTZ.out; have hs1 := SS1.out; have hs2 := SS2.out; have hs3 := SS3.out; first | omega | (simp <;> omega)))
  clear hk hc hx0 hx1 K2 C2 Z2
  obtain ⟨d1, hd1⟩ : ∃ y, 1 + x2 = y := ⟨_, rfl⟩
  have HD1 := Lib.hid (show 1 ≤ d1 ∧ d1 ≤ 4 by have := Hx2.out; omega)
  have m1 : IntKind.i64.wrap (1 + x2) = d1 := by rw [hd1]; exact IntWalk.i64_in _ (by have := HD1.out; omega)
  have m2 : wrap64 (1 + x2) = d1 := by rw [hd1]; unfold wrap64; have := HD1.out; omega
  clear hd1
  go_wp2_with fail
  clear m1 m2
  (with_reducible refine (below 256 (by omega) _ p a len cap C3.out).mono ?_)
  rintro e w4 ⟨x3, rfl, hx0, hx1, hk, hc⟩
  have Hx3 := Lib.hid (show 0 ≤ x3 ∧ x3 < 256 from ⟨hx0, hx1 (by omega)⟩)
  have SS4 := Lib.hid hk.size
  have K4 := Lib.hid (K3.out.trans hk)
  have C4 := Lib.hid (hc)
  have Z4 := Lib.hid (drk.bx_keep Z3.out hk (by have h0 := P0.out; have hs0 := LTZ.out; have hs1 := SS1.out; have hs2 := SS2.out; have hs3 := SS3.out; have hs4 := SS4.out; first | omega | (simp <;> omega)))
  clear hk hc hx0 hx1 K3 C3 Z3
  obtain ⟨b2, hbb⟩ : ∃ b, w4.heap.size = b := ⟨_, rfl⟩
  go_upto_region 2 with fail
  generalize hW : w4.alloc (.cells #[.int .i64 x0, .int .i64 s1, .int .i64 0, .int .i64 d1, .bool false, .int .i64 x3] 25) = w5
  have LS := Lib.hid (show w.heap.size ≤ b2 ∧ w.heap.size < b2 by have h1 := K4.out.size; have h2Z := Z4.out.lt; have h3 := hbb; omega)
  have S5 := Lib.hid (show Bx 25 w5 b2 #[.int .i64 x0, .int .i64 s1, .int .i64 0, .int .i64 d1, .bool false, .int .i64 x3] by rw [← hW, ← hbb]; exact Bx.made _ _ _)
  have hb : Below w4.heap.size w4 w5 := by rw [← hW]; exact below_box _ _
  (try rw [hbb])
  clear hW hbb
  have SS5 := Lib.hid hb.size
  have K5 := Lib.hid (drk.later K4.out K4.out.size hb)
  have C5 := Lib.hid (drk.cur_below C4.out hb)
  have Z5 := Lib.hid (Z4.out.below hb)
  clear hb K4 C4 Z4
  have LWS := Lib.hid S5.out.lt
  obtain ⟨c1, hc1⟩ : ∃ y, dca s1 d1 = y := ⟨_, rfl⟩
  have HC1 := Lib.hid hc1
  clear hc1
  have cS0 : w5.cell? ⟨b2, 0, none⟩ = some (.int .i64 x0) := S5.out.cell 0
  have cS1 : w5.cell? ⟨b2, 1, none⟩ = some (.int .i64 s1) := S5.out.cell 1
  have cS2 : w5.cell? ⟨b2, 2, none⟩ = some (.int .i64 0) := S5.out.cell 2
  have cS3 : w5.cell? ⟨b2, 3, none⟩ = some (.int .i64 d1) := S5.out.cell 3
  have cS4 : w5.cell? ⟨b2, 4, none⟩ = some (.bool false) := S5.out.cell 4
  have cS5 : w5.cell? ⟨b2, 5, none⟩ = some (.int .i64 x3) := S5.out.cell 5
  go_wp2_with fail
  clear cS0 cS1 cS2 cS3 cS4 cS5
  (with_reducible refine (specDc s1 d1 c1 _ HC1.out).mono ?_)
  rintro e wq ⟨rfl, rfl⟩
  have cS2 : w5.cell? ⟨b2, 2, none⟩ = some (.int .i64 0) := S5.out.cell 2
  have fS2 : w5.frozen? ⟨b2, 2, none⟩ = false := S5.out.free 2
  go_upto_region 3 with fail
  clear cS2 fS2
  have BB := Lib.hid (show Below w.heap.size w5 (w5.setCell ⟨b2, 2, none⟩ (.int .i64 c1)) from (Below.refl _ _).setCell (p := ⟨b2, 2, none⟩) (by have hlS := LS.out; have h0 := P0.out; have hs0 := LTZ.out; have hs1 := SS1.out; have hs2 := SS2.out; have hs3 := SS3.out; have hs4 := SS4.out; have hs5 := SS5.out; have hs6 := LWS.out; (try simp only []); omega) _)
  have hWW : (w5.setCell ⟨b2, 2, none⟩ (.int .i64 c1)) = (w5.setCell ⟨b2, 2, none⟩ (.int .i64 c1)) := rfl
  obtain ⟨w6, hW⟩ : ∃ wy, (w5.setCell ⟨b2, 2, none⟩ (.int .i64 c1)) = wy := ⟨_, rfl⟩
  rw [hW]
  clear hWW
  have K6 := Lib.hid (drk.later K5.out (Nat.le_refl _) (hW ▸ BB.out))
  have C6 := Lib.hid (drk.cur_later CW.out K5.out C5.out (Nat.le_refl _) (hW ▸ BB.out))
  have Z6 := Lib.hid (show Bx 25 w6 (w.heap.size) #[.int .i64 0, .int .i64 0, .int .i64 0, .int .i64 0, .bool false, .int .i64 0] by rw [← hW]; exact (Z5.out.other (by have hlS := LS.out; have h0 := P0.out; have hs0 := LTZ.out; have hs1 := SS1.out; have hs2 := SS2.out; have hs3 := SS3.out; have hs4 := SS4.out; have hs5 := SS5.out; have hs6 := LWS.out; first | omega | (simp <;> omega)) _ _))
  have S6 := Lib.hid (show Bx 25 w6 (b2) #[.int .i64 x0, .int .i64 s1, .int .i64 c1, .int .i64 d1, .bool false, .int .i64 x3] by rw [← hW]; exact (S5.out.set 2 _))
  clear hW BB K5 C5 Z5 S5
  by_cases h0 : c1 = 0
  · subst h0
    have cS0 : w6.cell? ⟨b2, 0, none⟩ = some (.int .i64 x0) := S6.out.cell 0
    have cS1 : w6.cell? ⟨b2, 1, none⟩ = some (.int .i64 s1) := S6.out.cell 1
    have cS2 : w6.cell? ⟨b2, 2, none⟩ = some (.int .i64 0) := S6.out.cell 2
    have cS3 : w6.cell? ⟨b2, 3, none⟩ = some (.int .i64 d1) := S6.out.cell 3
    have cS4 : w6.cell? ⟨b2, 4, none⟩ = some (.bool false) := S6.out.cell 4
    have cS5 : w6.cell? ⟨b2, 5, none⟩ = some (.int .i64 x3) := S6.out.cell 5
    go_wp2_with fail
    clear cS0 cS1 cS2 cS3 cS4 cS5
    (with_reducible refine (once 2 (by omega) _ p a len cap C6.out).mono ?_)
    rintro e w7 ⟨g1, rfl, hk, hc⟩
    have SS7 := Lib.hid hk.size
    have K7 := Lib.hid (K6.out.trans hk)
    have C7 := Lib.hid (hc)
    have Z7 := Lib.hid (drk.bx_keep Z6.out hk (by have hlS := LS.out; have h0 := P0.out; have hs0 := LTZ.out; have hs1 := SS1.out; have hs2 := SS2.out; have hs3 := SS3.out; have hs4 := SS4.out; have hs5 := SS5.out; have hs6 := LWS.out; have hs7 := SS7.out; first | omega | (simp <;> omega)))
    have S7 := Lib.hid (drk.bx_keep S6.out hk (by have hlS := LS.out; have h0 := P0.out; have hs0 := LTZ.out; have hs1 := SS1.out; have hs2 := SS2.out; have hs3 := SS3.out; have hs4 := SS4.out; have hs5 := SS5.out; have hs6 := LWS.out; have hs7 := SS7.out; first | omega | (simp <;> omega)))
    clear hk hc  K6 C6 Z6 S6
    have cS4 : w7.cell? ⟨b2, 4, none⟩ = some (.bool false) := S7.out.cell 4
    have fS4 : w7.frozen? ⟨b2, 4, none⟩ = false := S7.out.free 4
    go_upto_region 4 with fail
    clear cS4 fS4
    have BB := Lib.hid (show Below w.heap.size w7 (w7.setCell ⟨b2, 4, none⟩ (.bool g1)) from (Below.refl _ _).setCell (p := ⟨b2, 4, none⟩) (by have hlS := LS.out; have h0 := P0.out; have hs0 := LTZ.out; have hs1 := SS1.out; have hs2 := SS2.out; have hs3 := SS3.out; have hs4 := SS4.out; have hs5 := SS5.out; have hs6 := LWS.out; have hs7 := SS7.out; (try simp only []); omega) _)
    have hWW : (w7.setCell ⟨b2, 4, none⟩ (.bool g1)) = (w7.setCell ⟨b2, 4, none⟩ (.bool g1)) := rfl
    obtain ⟨w8, hW⟩ : ∃ wy, (w7.setCell ⟨b2, 4, none⟩ (.bool g1)) = wy := ⟨_, rfl⟩
    rw [hW]
    clear hWW
    have K8 := Lib.hid (drk.later K7.out (Nat.le_refl _) (hW ▸ BB.out))
    have C8 := Lib.hid (drk.cur_later CW.out K7.out C7.out (Nat.le_refl _) (hW ▸ BB.out))
    have Z8 := Lib.hid (show Bx 25 w8 (w.heap.size) #[.int .i64 0, .int .i64 0, .int .i64 0, .int .i64 0, .bool false, .int .i64 0] by rw [← hW]; exact (Z7.out.other (by have hlS := LS.out; have h0 := P0.out; have hs0 := LTZ.out; have hs1 := SS1.out; have hs2 := SS2.out; have hs3 := SS3.out; have hs4 := SS4.out; have hs5 := SS5.out; have hs6 := LWS.out; have hs7 := SS7.out; first | omega | (simp <;> omega)) _ _))
    have S8 := Lib.hid (show Bx 25 w8 (b2) #[.int .i64 x0, .int .i64 s1, .int .i64 0, .int .i64 d1, .bool g1, .int .i64 x3] by rw [← hW]; exact (S7.out.set 4 _))
    clear hW BB K7 C7 Z7 S7
    go_wp2_with (first | (refine stw.list_load rfl 25 _ rfl (b2) rfl 25 _ S8.out Try.underlying25 rfl szB ?_) | (refine stw.list_store rfl 25 _ _ rfl (w.heap.size) #[.int .i64 x0, .int .i64 s1, .int .i64 0, .int .i64 d1, .bool g1, .int .i64 x3] rfl rfl 25 _ Z8.out rfl szB (oneB _ _ _ _ _ _) ?_; intro wz9 hz))
    have K9 := Lib.hid (drk.later K8.out (by have hlS := LS.out; have h0 := P0.out; have hs0 := LTZ.out; have hs1 := SS1.out; have hs2 := SS2.out; have hs3 := SS3.out; have hs4 := SS4.out; have hs5 := SS5.out; have hs6 := LWS.out; have hs7 := SS7.out; first | omega | (simp <;> omega)) hz.below)
    have C9 := Lib.hid (drk.cur_later CW.out K8.out C8.out (by have hlS := LS.out; have h0 := P0.out; have hs0 := LTZ.out; have hs1 := SS1.out; have hs2 := SS2.out; have hs3 := SS3.out; have hs4 := SS4.out; have hs5 := SS5.out; have hs6 := LWS.out; have hs7 := SS7.out; first | omega | (simp <;> omega)) hz.below)
    have Z9 := Lib.hid (hz.box)
    have S9 := Lib.hid (hz.keep S8.out (by have hlS := LS.out; have h0 := P0.out; have hs0 := LTZ.out; have hs1 := SS1.out; have hs2 := SS2.out; have hs3 := SS3.out; have hs4 := SS4.out; have hs5 := SS5.out; have hs6 := LWS.out; have hs7 := SS7.out; first | omega | (simp <;> omega)))
    clear hz K8 C8 Z8 S8
    (try simp only [Exit.inBlock, Exit.then])
    refine bodyPost_ret (v := .agg #[.int .i64 x0, .int .i64 s1, .int .i64 0, .int .i64 d1, .bool g1, .int .i64 x3]) ?_ rfl ?_
    · rw [results_cell1 rfl]
      exact stw.back Z9.out Try.underlying25 rfl szB
    · exact ⟨_, _, _, _, _, _, rfl, HD1.out, K9.out, C9.out⟩
  · have h1 : (c1 == 0) = false := by simpa using h0
    clear h0
    have cS2 : w6.cell? ⟨b2, 2, none⟩ = some (.int .i64 c1) := S6.out.cell 2
    have cS4 : w6.cell? ⟨b2, 4, none⟩ = some (.bool false) := S6.out.cell 4
    have fS4 : w6.frozen? ⟨b2, 4, none⟩ = false := S6.out.free 4
    go_upto_region 4 with fail
    clear cS2 cS4 fS4
    have BB := Lib.hid (show Below w.heap.size w6 (w6.setCell ⟨b2, 4, none⟩ (.bool false)) from (Below.refl _ _).setCell (p := ⟨b2, 4, none⟩) (by have hlS := LS.out; have h0 := P0.out; have hs0 := LTZ.out; have hs1 := SS1.out; have hs2 := SS2.out; have hs3 := SS3.out; have hs4 := SS4.out; have hs5 := SS5.out; have hs6 := LWS.out; (try simp only []); omega) _)
    have hWW : (w6.setCell ⟨b2, 4, none⟩ (.bool false)) = (w6.setCell ⟨b2, 4, none⟩ (.bool false)) := rfl
    obtain ⟨w7, hW⟩ : ∃ wy, (w6.setCell ⟨b2, 4, none⟩ (.bool false)) = wy := ⟨_, rfl⟩
    rw [hW]
    clear hWW
    have K7 := Lib.hid (drk.later K6.out (Nat.le_refl _) (hW ▸ BB.out))
    have C7 := Lib.hid (drk.cur_later CW.out K6.out C6.out (Nat.le_refl _) (hW ▸ BB.out))
    have Z7 := Lib.hid (show Bx 25 w7 (w.heap.size) #[.int .i64 0, .int .i64 0, .int .i64 0, .int .i64 0, .bool false, .int .i64 0] by rw [← hW]; exact (Z6.out.other (by have hlS := LS.out; have h0 := P0.out; have hs0 := LTZ.out; have hs1 := SS1.out; have hs2 := SS2.out; have hs3 := SS3.out; have hs4 := SS4.out; have hs5 := SS5.out; have hs6 := LWS.out; first | omega | (simp <;> omega)) _ _))
    have S7 := Lib.hid (show Bx 25 w7 (b2) #[.int .i64 x0, .int .i64 s1, .int .i64 c1, .int .i64 d1, .bool false, .int .i64 x3] by rw [← hW]; exact (S6.out.set 4 _))
    clear hW BB K6 C6 Z6 S6
    go_wp2_with (first | (refine stw.list_load rfl 25 _ rfl (b2) rfl 25 _ S7.out Try.underlying25 rfl szB ?_) | (refine stw.list_store rfl 25 _ _ rfl (w.heap.size) #[.int .i64 x0, .int .i64 s1, .int .i64 c1, .int .i64 d1, .bool false, .int .i64 x3] rfl rfl 25 _ Z7.out rfl szB (oneB _ _ _ _ _ _) ?_; intro wz8 hz))
    have K8 := Lib.hid (drk.later K7.out (by have hlS := LS.out; have h0 := P0.out; have hs0 := LTZ.out; have hs1 := SS1.out; have hs2 := SS2.out; have hs3 := SS3.out; have hs4 := SS4.out; have hs5 := SS5.out; have hs6 := LWS.out; first | omega | (simp <;> omega)) hz.below)
    have C8 := Lib.hid (drk.cur_later CW.out K7.out C7.out (by have hlS := LS.out; have h0 := P0.out; have hs0 := LTZ.out; have hs1 := SS1.out; have hs2 := SS2.out; have hs3 := SS3.out; have hs4 := SS4.out; have hs5 := SS5.out; have hs6 := LWS.out; first | omega | (simp <;> omega)) hz.below)
    have Z8 := Lib.hid (hz.box)
    have S8 := Lib.hid (hz.keep S7.out (by have hlS := LS.out; have h0 := P0.out; have hs0 := LTZ.out; have hs1 := SS1.out; have hs2 := SS2.out; have hs3 := SS3.out; have hs4 := SS4.out; have hs5 := SS5.out; have hs6 := LWS.out; first | omega | (simp <;> omega)))
    clear hz K7 C7 Z7 S7
    (try simp only [Exit.inBlock, Exit.then])
    refine bodyPost_ret (v := .agg #[.int .i64 x0, .int .i64 s1, .int .i64 c1, .int .i64 d1, .bool false, .int .i64 x3]) ?_ rfl ?_
    · rw [results_cell1 rfl]
      exact stw.back Z8.out Try.underlying25 rfl szB
    · exact ⟨_, _, _, _, _, _, rfl, HD1.out, K8.out, C8.out⟩
set_option maxRecDepth 100000 in
set_option maxHeartbeats 4000000 in
theorem dBa (w : World) (p : Nat) (a : Option Addr) (len cap : Nat) (hc : Cur w p a len cap) :
    Calls Try.prog 60 #[.pointer (some ⟨p, 0, none⟩)] w (BaPost p a len cap w) := by
  have CW := Lib.hid hc
  have P0 := Lib.hid hc.lt
  clear hc
  go_enter Try.func60, Try.ntmps60
  go_wp2_with fail
  obtain ⟨w0, hW⟩ : ∃ w0, w.alloc (.cells #[.int .i64 0, .int .i64 0, .int .i64 0, .int .i64 0, .bool false, .int .i64 0] 25) = w0 := ⟨_, rfl⟩
  rw [hW]
  have K0 := Lib.hid (show Keep p w w0 by rw [← hW]; exact (Keep.refl p w).alloc _)
  have C0 := Lib.hid (show Cur w0 p a len cap by rw [← hW]; exact (CW.out).alloc _)
  have Z0 := Lib.hid (show Bx 25 w0 (w.heap.size) #[.int .i64 0, .int .i64 0, .int .i64 0, .int .i64 0, .bool false, .int .i64 0] by
      rw [← hW]
      have hh := Bx.made 25 w #[.int .i64 0, .int .i64 0, .int .i64 0, .int .i64 0, .bool false, .int .i64 0]
      exact hh)
  clear hW
  have LTZ := Lib.hid Z0.out.lt
  (with_reducible refine (dBk _ p a len cap C0.out).mono ?_)
  rintro e w1 ⟨f1, s1, c1, d1, g1, t1, rfl, hd, hk, hc⟩
  have HD := Lib.hid hd
  have SS1 := Lib.hid hk.size
  have K1 := Lib.hid (K0.out.trans hk)
  have C1 := Lib.hid (hc)
  have Z1 := Lib.hid (drk.bx_keep Z0.out hk (by have h0 := P0.out; have hs0 := LTZ.out; have hs1 := SS1.out; first | omega | (simp <;> omega)))
  clear hk hc hd K0 C0 Z0
  obtain ⟨b2, hbb⟩ : ∃ b, w1.heap.size = b := ⟨_, rfl⟩
  go_upto_region 2 with fail
  generalize hW : w1.alloc (.cells #[.int .i64 f1, .int .i64 s1, .int .i64 c1, .int .i64 d1, .bool g1, .int .i64 t1] 25) = w2
  have LS := Lib.hid (show w.heap.size ≤ b2 ∧ w.heap.size < b2 by have h1 := K1.out.size; have h2Z := Z1.out.lt; have h3 := hbb; omega)
  have S2 := Lib.hid (show Bx 25 w2 b2 #[.int .i64 f1, .int .i64 s1, .int .i64 c1, .int .i64 d1, .bool g1, .int .i64 t1] by rw [← hW, ← hbb]; exact Bx.made _ _ _)
  have hb : Below w1.heap.size w1 w2 := by rw [← hW]; exact below_box _ _
  (try rw [hbb])
  clear hW hbb
  have SS2 := Lib.hid hb.size
  have K2 := Lib.hid (drk.later K1.out K1.out.size hb)
  have C2 := Lib.hid (drk.cur_below C1.out hb)
  have Z2 := Lib.hid (Z1.out.below hb)
  clear hb K1 C1 Z1
  have LWS := Lib.hid S2.out.lt
  go_wp2_with fail
  (with_reducible refine (below 12 (by omega) _ p a len cap C2.out).mono ?_)
  rintro e w3 ⟨q, rfl, hx0, hx1, hk, hc⟩
  have Hq := Lib.hid (show 0 ≤ q ∧ q < 12 from ⟨hx0, hx1 (by omega)⟩)
  have SS3 := Lib.hid hk.size
  have K3 := Lib.hid (K2.out.trans hk)
  have C3 := Lib.hid (hc)
  have Z3 := Lib.hid (drk.bx_keep Z2.out hk (by have hlS := LS.out; have h0 := P0.out; have hs0 := LTZ.out; have hs1 := SS1.out; have hs2 := SS2.out; have hs3 := LWS.out; have hs4 := SS3.out; first | omega | (simp <;> omega)))
  have S3 := Lib.hid (drk.bx_keep S2.out hk (by have hlS := LS.out; have h0 := P0.out; have hs0 := LTZ.out; have hs1 := SS1.out; have hs2 := SS2.out; have hs3 := LWS.out; have hs4 := SS3.out; first | omega | (simp <;> omega)))
  clear hk hc hx0 hx1 K2 C2 Z2 S2
  by_cases h0 : q = 0
  · subst h0
    go_wp2_with fail
    (with_reducible refine (pickIn (-1) 16 3 (by omega) (by omega) _ p a len cap C3.out #[.int .i64 (-1), .int .i64 15, .int .i64 16] rfl (by decide)).mono ?_)
    rintro e w4 ⟨y2, rfl, hx0, hx1, hk, hc⟩
    have Hy2 := Lib.hid (show -1 ≤ y2 ∧ y2 ≤ 16 from ⟨hx0, hx1⟩)
    have SS4 := Lib.hid hk.size
    have K4 := Lib.hid (K3.out.trans hk)
    have C4 := Lib.hid (hc)
    have Z4 := Lib.hid (drk.bx_keep Z3.out hk (by have hlS := LS.out; have h0 := P0.out; have hs0 := LTZ.out; have hs1 := SS1.out; have hs2 := SS2.out; have hs3 := LWS.out; have hs4 := SS3.out; have hs5 := SS4.out; first | omega | (simp <;> omega)))
    have S4 := Lib.hid (drk.bx_keep S3.out hk (by have hlS := LS.out; have h0 := P0.out; have hs0 := LTZ.out; have hs1 := SS1.out; have hs2 := SS2.out; have hs3 := LWS.out; have hs4 := SS3.out; have hs5 := SS4.out; first | omega | (simp <;> omega)))
    clear hk hc hx0 hx1 K3 C3 Z3 S3
    have cS0 : w4.cell? ⟨b2, 0, none⟩ = some (.int .i64 f1) := S4.out.cell 0
    have fS0 : w4.frozen? ⟨b2, 0, none⟩ = false := S4.out.free 0
    go_upto_region 15 with fail
    clear cS0 fS0
    have BB := Lib.hid (show Below w.heap.size w4 (w4.setCell ⟨b2, 0, none⟩ (.int .i64 y2)) from (Below.refl _ _).setCell (p := ⟨b2, 0, none⟩) (by have hlS := LS.out; have h0 := P0.out; have hs0 := LTZ.out; have hs1 := SS1.out; have hs2 := SS2.out; have hs3 := LWS.out; have hs4 := SS3.out; have hs5 := SS4.out; (try simp only []); omega) _)
    have hWW : (w4.setCell ⟨b2, 0, none⟩ (.int .i64 y2)) = (w4.setCell ⟨b2, 0, none⟩ (.int .i64 y2)) := rfl
    obtain ⟨w5, hW⟩ : ∃ wy, (w4.setCell ⟨b2, 0, none⟩ (.int .i64 y2)) = wy := ⟨_, rfl⟩
    rw [hW]
    clear hWW
    have K5 := Lib.hid (drk.later K4.out (Nat.le_refl _) (hW ▸ BB.out))
    have C5 := Lib.hid (drk.cur_later CW.out K4.out C4.out (Nat.le_refl _) (hW ▸ BB.out))
    have Z5 := Lib.hid (show Bx 25 w5 (w.heap.size) #[.int .i64 0, .int .i64 0, .int .i64 0, .int .i64 0, .bool false, .int .i64 0] by rw [← hW]; exact (Z4.out.other (by have hlS := LS.out; have h0 := P0.out; have hs0 := LTZ.out; have hs1 := SS1.out; have hs2 := SS2.out; have hs3 := LWS.out; have hs4 := SS3.out; have hs5 := SS4.out; first | omega | (simp <;> omega)) _ _))
    have S5 := Lib.hid (show Bx 25 w5 (b2) #[.int .i64 y2, .int .i64 s1, .int .i64 c1, .int .i64 d1, .bool g1, .int .i64 t1] by rw [← hW]; exact (S4.out.set 0 _))
    clear hW BB K4 C4 Z4 S4
    go_wp2_with (first | (refine stw.list_load rfl 25 _ rfl (b2) rfl 25 _ S5.out Try.underlying25 rfl szB ?_) | (refine stw.list_store rfl 25 _ _ rfl (w.heap.size) #[.int .i64 y2, .int .i64 s1, .int .i64 c1, .int .i64 d1, .bool g1, .int .i64 t1] rfl rfl 25 _ Z5.out rfl szB (oneB _ _ _ _ _ _) ?_; intro wz6 hz))
    have K6 := Lib.hid (drk.later K5.out (by have hlS := LS.out; have h0 := P0.out; have hs0 := LTZ.out; have hs1 := SS1.out; have hs2 := SS2.out; have hs3 := LWS.out; have hs4 := SS3.out; have hs5 := SS4.out; first | omega | (simp <;> omega)) hz.below)
    have C6 := Lib.hid (drk.cur_later CW.out K5.out C5.out (by have hlS := LS.out; have h0 := P0.out; have hs0 := LTZ.out; have hs1 := SS1.out; have hs2 := SS2.out; have hs3 := LWS.out; have hs4 := SS3.out; have hs5 := SS4.out; first | omega | (simp <;> omega)) hz.below)
    have Z6 := Lib.hid (hz.box)
    have S6 := Lib.hid (hz.keep S5.out (by have hlS := LS.out; have h0 := P0.out; have hs0 := LTZ.out; have hs1 := SS1.out; have hs2 := SS2.out; have hs3 := LWS.out; have hs4 := SS3.out; have hs5 := SS4.out; first | omega | (simp <;> omega)))
    clear hz K5 C5 Z5 S5
    (try simp only [Exit.inBlock, Exit.then])
    refine bodyPost_ret (v := .agg #[.int .i64 y2, .int .i64 s1, .int .i64 c1, .int .i64 d1, .bool g1, .int .i64 t1]) ?_ rfl ?_
    · rw [results_cell1 rfl]
      exact stw.back Z6.out Try.underlying25 rfl szB
    · exact ⟨_, _, _, _, _, _, rfl, K6.out, C6.out⟩
  · by_cases h1 : q = 1
    · subst h1
      go_wp2_with fail
      (with_reducible refine (pickIn (-10) 1000000000010 4 (by omega) (by omega) _ p a len cap C3.out #[.int .i64 (-10), .int .i64 5, .int .i64 1000000000000, .int .i64 1000000000010] rfl (by decide)).mono ?_)
      rintro e w4 ⟨y2, rfl, hx0, hx1, hk, hc⟩
      have Hy2 := Lib.hid (show -10 ≤ y2 ∧ y2 ≤ 1000000000010 from ⟨hx0, hx1⟩)
      have SS4 := Lib.hid hk.size
      have K4 := Lib.hid (K3.out.trans hk)
      have C4 := Lib.hid (hc)
      have Z4 := Lib.hid (drk.bx_keep Z3.out hk (by have hlS := LS.out; have h0 := P0.out; have hs0 := LTZ.out; have hs1 := SS1.out; have hs2 := SS2.out; have hs3 := LWS.out; have hs4 := SS3.out; have hs5 := SS4.out; first | omega | (simp <;> omega)))
      have S4 := Lib.hid (drk.bx_keep S3.out hk (by have hlS := LS.out; have h0 := P0.out; have hs0 := LTZ.out; have hs1 := SS1.out; have hs2 := SS2.out; have hs3 := LWS.out; have hs4 := SS3.out; have hs5 := SS4.out; first | omega | (simp <;> omega)))
      clear hk hc hx0 hx1 K3 C3 Z3 S3
      have cS1 : w4.cell? ⟨b2, 1, none⟩ = some (.int .i64 s1) := S4.out.cell 1
      have fS1 : w4.frozen? ⟨b2, 1, none⟩ = false := S4.out.free 1
      go_upto_region 15 with fail
      clear cS1 fS1
      have BB := Lib.hid (show Below w.heap.size w4 (w4.setCell ⟨b2, 1, none⟩ (.int .i64 y2)) from (Below.refl _ _).setCell (p := ⟨b2, 1, none⟩) (by have hlS := LS.out; have h0 := P0.out; have hs0 := LTZ.out; have hs1 := SS1.out; have hs2 := SS2.out; have hs3 := LWS.out; have hs4 := SS3.out; have hs5 := SS4.out; (try simp only []); omega) _)
      have hWW : (w4.setCell ⟨b2, 1, none⟩ (.int .i64 y2)) = (w4.setCell ⟨b2, 1, none⟩ (.int .i64 y2)) := rfl
      obtain ⟨w5, hW⟩ : ∃ wy, (w4.setCell ⟨b2, 1, none⟩ (.int .i64 y2)) = wy := ⟨_, rfl⟩
      rw [hW]
      clear hWW
      have K5 := Lib.hid (drk.later K4.out (Nat.le_refl _) (hW ▸ BB.out))
      have C5 := Lib.hid (drk.cur_later CW.out K4.out C4.out (Nat.le_refl _) (hW ▸ BB.out))
      have Z5 := Lib.hid (show Bx 25 w5 (w.heap.size) #[.int .i64 0, .int .i64 0, .int .i64 0, .int .i64 0, .bool false, .int .i64 0] by rw [← hW]; exact (Z4.out.other (by have hlS := LS.out; have h0 := P0.out; have hs0 := LTZ.out; have hs1 := SS1.out; have hs2 := SS2.out; have hs3 := LWS.out; have hs4 := SS3.out; have hs5 := SS4.out; first | omega | (simp <;> omega)) _ _))
      have S5 := Lib.hid (show Bx 25 w5 (b2) #[.int .i64 f1, .int .i64 y2, .int .i64 c1, .int .i64 d1, .bool g1, .int .i64 t1] by rw [← hW]; exact (S4.out.set 1 _))
      clear hW BB K4 C4 Z4 S4
      go_wp2_with (first | (refine stw.list_load rfl 25 _ rfl (b2) rfl 25 _ S5.out Try.underlying25 rfl szB ?_) | (refine stw.list_store rfl 25 _ _ rfl (w.heap.size) #[.int .i64 f1, .int .i64 y2, .int .i64 c1, .int .i64 d1, .bool g1, .int .i64 t1] rfl rfl 25 _ Z5.out rfl szB (oneB _ _ _ _ _ _) ?_; intro wz6 hz))
      have K6 := Lib.hid (drk.later K5.out (by have hlS := LS.out; have h0 := P0.out; have hs0 := LTZ.out; have hs1 := SS1.out; have hs2 := SS2.out; have hs3 := LWS.out; have hs4 := SS3.out; have hs5 := SS4.out; first | omega | (simp <;> omega)) hz.below)
      have C6 := Lib.hid (drk.cur_later CW.out K5.out C5.out (by have hlS := LS.out; have h0 := P0.out; have hs0 := LTZ.out; have hs1 := SS1.out; have hs2 := SS2.out; have hs3 := LWS.out; have hs4 := SS3.out; have hs5 := SS4.out; first | omega | (simp <;> omega)) hz.below)
      have Z6 := Lib.hid (hz.box)
      have S6 := Lib.hid (hz.keep S5.out (by have hlS := LS.out; have h0 := P0.out; have hs0 := LTZ.out; have hs1 := SS1.out; have hs2 := SS2.out; have hs3 := LWS.out; have hs4 := SS3.out; have hs5 := SS4.out; first | omega | (simp <;> omega)))
      clear hz K5 C5 Z5 S5
      (try simp only [Exit.inBlock, Exit.then])
      refine bodyPost_ret (v := .agg #[.int .i64 f1, .int .i64 y2, .int .i64 c1, .int .i64 d1, .bool g1, .int .i64 t1]) ?_ rfl ?_
      · rw [results_cell1 rfl]
        exact stw.back Z6.out Try.underlying25 rfl szB
      · exact ⟨_, _, _, _, _, _, rfl, K6.out, C6.out⟩
    · by_cases h2 : q = 2
      · subst h2
        have m1 : IntKind.i64.wrap (d1 - 1) = d1 - 1 := IntWalk.i64_in _ (by have := HD.out; omega)
        have m2 : wrap64 (d1 - 1) = d1 - 1 := by unfold wrap64; have := HD.out; omega
        have cS3 : w3.cell? ⟨b2, 3, none⟩ = some (.int .i64 d1) := S3.out.cell 3
        go_wp2_with fail
        clear cS3
        clear m1 m2
        (with_reducible refine (pickIn (-1) 4 3 (by omega) (by omega) _ p a len cap C3.out #[.int .i64 (-1), .int .i64 ((d1 - 1)), .int .i64 d1] rfl (pick3 HD.out)).mono ?_)
        rintro e w4 ⟨y2, rfl, hx0, hx1, hk, hc⟩
        have Hy2 := Lib.hid (show -1 ≤ y2 ∧ y2 ≤ 4 from ⟨hx0, hx1⟩)
        have SS4 := Lib.hid hk.size
        have K4 := Lib.hid (K3.out.trans hk)
        have C4 := Lib.hid (hc)
        have Z4 := Lib.hid (drk.bx_keep Z3.out hk (by have hlS := LS.out; have h0 := P0.out; have hs0 := LTZ.out; have hs1 := SS1.out; have hs2 := SS2.out; have hs3 := LWS.out; have hs4 := SS3.out; have hs5 := SS4.out; first | omega | (simp <;> omega)))
        have S4 := Lib.hid (drk.bx_keep S3.out hk (by have hlS := LS.out; have h0 := P0.out; have hs0 := LTZ.out; have hs1 := SS1.out; have hs2 := SS2.out; have hs3 := LWS.out; have hs4 := SS3.out; have hs5 := SS4.out; first | omega | (simp <;> omega)))
        clear hk hc hx0 hx1 K3 C3 Z3 S3
        have cS2 : w4.cell? ⟨b2, 2, none⟩ = some (.int .i64 c1) := S4.out.cell 2
        have fS2 : w4.frozen? ⟨b2, 2, none⟩ = false := S4.out.free 2
        go_upto_region 15 with fail
        clear cS2 fS2
        have BB := Lib.hid (show Below w.heap.size w4 (w4.setCell ⟨b2, 2, none⟩ (.int .i64 y2)) from (Below.refl _ _).setCell (p := ⟨b2, 2, none⟩) (by have hlS := LS.out; have h0 := P0.out; have hs0 := LTZ.out; have hs1 := SS1.out; have hs2 := SS2.out; have hs3 := LWS.out; have hs4 := SS3.out; have hs5 := SS4.out; (try simp only []); omega) _)
        have hWW : (w4.setCell ⟨b2, 2, none⟩ (.int .i64 y2)) = (w4.setCell ⟨b2, 2, none⟩ (.int .i64 y2)) := rfl
        obtain ⟨w5, hW⟩ : ∃ wy, (w4.setCell ⟨b2, 2, none⟩ (.int .i64 y2)) = wy := ⟨_, rfl⟩
        rw [hW]
        clear hWW
        have K5 := Lib.hid (drk.later K4.out (Nat.le_refl _) (hW ▸ BB.out))
        have C5 := Lib.hid (drk.cur_later CW.out K4.out C4.out (Nat.le_refl _) (hW ▸ BB.out))
        have Z5 := Lib.hid (show Bx 25 w5 (w.heap.size) #[.int .i64 0, .int .i64 0, .int .i64 0, .int .i64 0, .bool false, .int .i64 0] by rw [← hW]; exact (Z4.out.other (by have hlS := LS.out; have h0 := P0.out; have hs0 := LTZ.out; have hs1 := SS1.out; have hs2 := SS2.out; have hs3 := LWS.out; have hs4 := SS3.out; have hs5 := SS4.out; first | omega | (simp <;> omega)) _ _))
        have S5 := Lib.hid (show Bx 25 w5 (b2) #[.int .i64 f1, .int .i64 s1, .int .i64 y2, .int .i64 d1, .bool g1, .int .i64 t1] by rw [← hW]; exact (S4.out.set 2 _))
        clear hW BB K4 C4 Z4 S4
        go_wp2_with (first | (refine stw.list_load rfl 25 _ rfl (b2) rfl 25 _ S5.out Try.underlying25 rfl szB ?_) | (refine stw.list_store rfl 25 _ _ rfl (w.heap.size) #[.int .i64 f1, .int .i64 s1, .int .i64 y2, .int .i64 d1, .bool g1, .int .i64 t1] rfl rfl 25 _ Z5.out rfl szB (oneB _ _ _ _ _ _) ?_; intro wz6 hz))
        have K6 := Lib.hid (drk.later K5.out (by have hlS := LS.out; have h0 := P0.out; have hs0 := LTZ.out; have hs1 := SS1.out; have hs2 := SS2.out; have hs3 := LWS.out; have hs4 := SS3.out; have hs5 := SS4.out; first | omega | (simp <;> omega)) hz.below)
        have C6 := Lib.hid (drk.cur_later CW.out K5.out C5.out (by have hlS := LS.out; have h0 := P0.out; have hs0 := LTZ.out; have hs1 := SS1.out; have hs2 := SS2.out; have hs3 := LWS.out; have hs4 := SS3.out; have hs5 := SS4.out; first | omega | (simp <;> omega)) hz.below)
        have Z6 := Lib.hid (hz.box)
        have S6 := Lib.hid (hz.keep S5.out (by have hlS := LS.out; have h0 := P0.out; have hs0 := LTZ.out; have hs1 := SS1.out; have hs2 := SS2.out; have hs3 := LWS.out; have hs4 := SS3.out; have hs5 := SS4.out; first | omega | (simp <;> omega)))
        clear hz K5 C5 Z5 S5
        (try simp only [Exit.inBlock, Exit.then])
        refine bodyPost_ret (v := .agg #[.int .i64 f1, .int .i64 s1, .int .i64 y2, .int .i64 d1, .bool g1, .int .i64 t1]) ?_ rfl ?_
        · rw [results_cell1 rfl]
          exact stw.back Z6.out Try.underlying25 rfl szB
        · exact ⟨_, _, _, _, _, _, rfl, K6.out, C6.out⟩
      · by_cases h3 : q = 3
        · subst h3
          go_wp2_with fail
          (with_reducible refine (pickIn 0 9 3 (by omega) (by omega) _ p a len cap C3.out #[.int .i64 0, .int .i64 8, .int .i64 9] rfl (by decide)).mono ?_)
          rintro e w4 ⟨y2, rfl, hx0, hx1, hk, hc⟩
          have Hy2 := Lib.hid (show 0 ≤ y2 ∧ y2 ≤ 9 from ⟨hx0, hx1⟩)
          have SS4 := Lib.hid hk.size
          have K4 := Lib.hid (K3.out.trans hk)
          have C4 := Lib.hid (hc)
          have Z4 := Lib.hid (drk.bx_keep Z3.out hk (by have hlS := LS.out; have h0 := P0.out; have hs0 := LTZ.out; have hs1 := SS1.out; have hs2 := SS2.out; have hs3 := LWS.out; have hs4 := SS3.out; have hs5 := SS4.out; first | omega | (simp <;> omega)))
          have S4 := Lib.hid (drk.bx_keep S3.out hk (by have hlS := LS.out; have h0 := P0.out; have hs0 := LTZ.out; have hs1 := SS1.out; have hs2 := SS2.out; have hs3 := LWS.out; have hs4 := SS3.out; have hs5 := SS4.out; first | omega | (simp <;> omega)))
          clear hk hc hx0 hx1 K3 C3 Z3 S3
          have cS3 : w4.cell? ⟨b2, 3, none⟩ = some (.int .i64 d1) := S4.out.cell 3
          have fS3 : w4.frozen? ⟨b2, 3, none⟩ = false := S4.out.free 3
          go_upto_region 15 with fail
          clear cS3 fS3
          have BB := Lib.hid (show Below w.heap.size w4 (w4.setCell ⟨b2, 3, none⟩ (.int .i64 y2)) from (Below.refl _ _).setCell (p := ⟨b2, 3, none⟩) (by have hlS := LS.out; have h0 := P0.out; have hs0 := LTZ.out; have hs1 := SS1.out; have hs2 := SS2.out; have hs3 := LWS.out; have hs4 := SS3.out; have hs5 := SS4.out; (try simp only []); omega) _)
          have hWW : (w4.setCell ⟨b2, 3, none⟩ (.int .i64 y2)) = (w4.setCell ⟨b2, 3, none⟩ (.int .i64 y2)) := rfl
          obtain ⟨w5, hW⟩ : ∃ wy, (w4.setCell ⟨b2, 3, none⟩ (.int .i64 y2)) = wy := ⟨_, rfl⟩
          rw [hW]
          clear hWW
          have K5 := Lib.hid (drk.later K4.out (Nat.le_refl _) (hW ▸ BB.out))
          have C5 := Lib.hid (drk.cur_later CW.out K4.out C4.out (Nat.le_refl _) (hW ▸ BB.out))
          have Z5 := Lib.hid (show Bx 25 w5 (w.heap.size) #[.int .i64 0, .int .i64 0, .int .i64 0, .int .i64 0, .bool false, .int .i64 0] by rw [← hW]; exact (Z4.out.other (by have hlS := LS.out; have h0 := P0.out; have hs0 := LTZ.out; have hs1 := SS1.out; have hs2 := SS2.out; have hs3 := LWS.out; have hs4 := SS3.out; have hs5 := SS4.out; first | omega | (simp <;> omega)) _ _))
          have S5 := Lib.hid (show Bx 25 w5 (b2) #[.int .i64 f1, .int .i64 s1, .int .i64 c1, .int .i64 y2, .bool g1, .int .i64 t1] by rw [← hW]; exact (S4.out.set 3 _))
          clear hW BB K4 C4 Z4 S4
          go_wp2_with (first | (refine stw.list_load rfl 25 _ rfl (b2) rfl 25 _ S5.out Try.underlying25 rfl szB ?_) | (refine stw.list_store rfl 25 _ _ rfl (w.heap.size) #[.int .i64 f1, .int .i64 s1, .int .i64 c1, .int .i64 y2, .bool g1, .int .i64 t1] rfl rfl 25 _ Z5.out rfl szB (oneB _ _ _ _ _ _) ?_; intro wz6 hz))
          have K6 := Lib.hid (drk.later K5.out (by have hlS := LS.out; have h0 := P0.out; have hs0 := LTZ.out; have hs1 := SS1.out; have hs2 := SS2.out; have hs3 := LWS.out; have hs4 := SS3.out; have hs5 := SS4.out; first | omega | (simp <;> omega)) hz.below)
          have C6 := Lib.hid (drk.cur_later CW.out K5.out C5.out (by have hlS := LS.out; have h0 := P0.out; have hs0 := LTZ.out; have hs1 := SS1.out; have hs2 := SS2.out; have hs3 := LWS.out; have hs4 := SS3.out; have hs5 := SS4.out; first | omega | (simp <;> omega)) hz.below)
          have Z6 := Lib.hid (hz.box)
          have S6 := Lib.hid (hz.keep S5.out (by have hlS := LS.out; have h0 := P0.out; have hs0 := LTZ.out; have hs1 := SS1.out; have hs2 := SS2.out; have hs3 := LWS.out; have hs4 := SS3.out; have hs5 := SS4.out; first | omega | (simp <;> omega)))
          clear hz K5 C5 Z5 S5
          (try simp only [Exit.inBlock, Exit.then])
          refine bodyPost_ret (v := .agg #[.int .i64 f1, .int .i64 s1, .int .i64 c1, .int .i64 y2, .bool g1, .int .i64 t1]) ?_ rfl ?_
          · rw [results_cell1 rfl]
            exact stw.back Z6.out Try.underlying25 rfl szB
          · exact ⟨_, _, _, _, _, _, rfl, K6.out, C6.out⟩
        · by_cases h4 : q = 4
          · subst h4
            go_wp2_with fail
            (with_reducible refine (pickIn (-1) 65536 3 (by omega) (by omega) _ p a len cap C3.out #[.int .i64 (-1), .int .i64 65535, .int .i64 65536] rfl (by decide)).mono ?_)
            rintro e w4 ⟨y2, rfl, hx0, hx1, hk, hc⟩
            have Hy2 := Lib.hid (show -1 ≤ y2 ∧ y2 ≤ 65536 from ⟨hx0, hx1⟩)
            have SS4 := Lib.hid hk.size
            have K4 := Lib.hid (K3.out.trans hk)
            have C4 := Lib.hid (hc)
            have Z4 := Lib.hid (drk.bx_keep Z3.out hk (by have hlS := LS.out; have h0 := P0.out; have hs0 := LTZ.out; have hs1 := SS1.out; have hs2 := SS2.out; have hs3 := LWS.out; have hs4 := SS3.out; have hs5 := SS4.out; first | omega | (simp <;> omega)))
            have S4 := Lib.hid (drk.bx_keep S3.out hk (by have hlS := LS.out; have h0 := P0.out; have hs0 := LTZ.out; have hs1 := SS1.out; have hs2 := SS2.out; have hs3 := LWS.out; have hs4 := SS3.out; have hs5 := SS4.out; first | omega | (simp <;> omega)))
            clear hk hc hx0 hx1 K3 C3 Z3 S3
            have cS5 : w4.cell? ⟨b2, 5, none⟩ = some (.int .i64 t1) := S4.out.cell 5
            have fS5 : w4.frozen? ⟨b2, 5, none⟩ = false := S4.out.free 5
            go_upto_region 15 with fail
            clear cS5 fS5
            have BB := Lib.hid (show Below w.heap.size w4 (w4.setCell ⟨b2, 5, none⟩ (.int .i64 y2)) from (Below.refl _ _).setCell (p := ⟨b2, 5, none⟩) (by have hlS := LS.out; have h0 := P0.out; have hs0 := LTZ.out; have hs1 := SS1.out; have hs2 := SS2.out; have hs3 := LWS.out; have hs4 := SS3.out; have hs5 := SS4.out; (try simp only []); omega) _)
            have hWW : (w4.setCell ⟨b2, 5, none⟩ (.int .i64 y2)) = (w4.setCell ⟨b2, 5, none⟩ (.int .i64 y2)) := rfl
            obtain ⟨w5, hW⟩ : ∃ wy, (w4.setCell ⟨b2, 5, none⟩ (.int .i64 y2)) = wy := ⟨_, rfl⟩
            rw [hW]
            clear hWW
            have K5 := Lib.hid (drk.later K4.out (Nat.le_refl _) (hW ▸ BB.out))
            have C5 := Lib.hid (drk.cur_later CW.out K4.out C4.out (Nat.le_refl _) (hW ▸ BB.out))
            have Z5 := Lib.hid (show Bx 25 w5 (w.heap.size) #[.int .i64 0, .int .i64 0, .int .i64 0, .int .i64 0, .bool false, .int .i64 0] by rw [← hW]; exact (Z4.out.other (by have hlS := LS.out; have h0 := P0.out; have hs0 := LTZ.out; have hs1 := SS1.out; have hs2 := SS2.out; have hs3 := LWS.out; have hs4 := SS3.out; have hs5 := SS4.out; first | omega | (simp <;> omega)) _ _))
            have S5 := Lib.hid (show Bx 25 w5 (b2) #[.int .i64 f1, .int .i64 s1, .int .i64 c1, .int .i64 d1, .bool g1, .int .i64 y2] by rw [← hW]; exact (S4.out.set 5 _))
            clear hW BB K4 C4 Z4 S4
            go_wp2_with (first | (refine stw.list_load rfl 25 _ rfl (b2) rfl 25 _ S5.out Try.underlying25 rfl szB ?_) | (refine stw.list_store rfl 25 _ _ rfl (w.heap.size) #[.int .i64 f1, .int .i64 s1, .int .i64 c1, .int .i64 d1, .bool g1, .int .i64 y2] rfl rfl 25 _ Z5.out rfl szB (oneB _ _ _ _ _ _) ?_; intro wz6 hz))
            have K6 := Lib.hid (drk.later K5.out (by have hlS := LS.out; have h0 := P0.out; have hs0 := LTZ.out; have hs1 := SS1.out; have hs2 := SS2.out; have hs3 := LWS.out; have hs4 := SS3.out; have hs5 := SS4.out; first | omega | (simp <;> omega)) hz.below)
            have C6 := Lib.hid (drk.cur_later CW.out K5.out C5.out (by have hlS := LS.out; have h0 := P0.out; have hs0 := LTZ.out; have hs1 := SS1.out; have hs2 := SS2.out; have hs3 := LWS.out; have hs4 := SS3.out; have hs5 := SS4.out; first | omega | (simp <;> omega)) hz.below)
            have Z6 := Lib.hid (hz.box)
            have S6 := Lib.hid (hz.keep S5.out (by have hlS := LS.out; have h0 := P0.out; have hs0 := LTZ.out; have hs1 := SS1.out; have hs2 := SS2.out; have hs3 := LWS.out; have hs4 := SS3.out; have hs5 := SS4.out; first | omega | (simp <;> omega)))
            clear hz K5 C5 Z5 S5
            (try simp only [Exit.inBlock, Exit.then])
            refine bodyPost_ret (v := .agg #[.int .i64 f1, .int .i64 s1, .int .i64 c1, .int .i64 d1, .bool g1, .int .i64 y2]) ?_ rfl ?_
            · rw [results_cell1 rfl]
              exact stw.back Z6.out Try.underlying25 rfl szB
            · exact ⟨_, _, _, _, _, _, rfl, K6.out, C6.out⟩
          · by_cases h5 : q = 5
            · subst h5
              have cS4 : w3.cell? ⟨b2, 4, none⟩ = some (.bool g1) := S3.out.cell 4
              have fS4 : w3.frozen? ⟨b2, 4, none⟩ = false := S3.out.free 4
              go_upto_region 15 with fail
              clear cS4 fS4
              have BB := Lib.hid (show Below w.heap.size w3 (w3.setCell ⟨b2, 4, none⟩ (.bool true)) from (Below.refl _ _).setCell (p := ⟨b2, 4, none⟩) (by have hlS := LS.out; have h0 := P0.out; have hs0 := LTZ.out; have hs1 := SS1.out; have hs2 := SS2.out; have hs3 := LWS.out; have hs4 := SS3.out; (try simp only []); omega) _)
              have hWW : (w3.setCell ⟨b2, 4, none⟩ (.bool true)) = (w3.setCell ⟨b2, 4, none⟩ (.bool true)) := rfl
              obtain ⟨w4, hW⟩ : ∃ wy, (w3.setCell ⟨b2, 4, none⟩ (.bool true)) = wy := ⟨_, rfl⟩
              rw [hW]
              clear hWW
              have K4 := Lib.hid (drk.later K3.out (Nat.le_refl _) (hW ▸ BB.out))
              have C4 := Lib.hid (drk.cur_later CW.out K3.out C3.out (Nat.le_refl _) (hW ▸ BB.out))
              have Z4 := Lib.hid (show Bx 25 w4 (w.heap.size) #[.int .i64 0, .int .i64 0, .int .i64 0, .int .i64 0, .bool false, .int .i64 0] by rw [← hW]; exact (Z3.out.other (by have hlS := LS.out; have h0 := P0.out; have hs0 := LTZ.out; have hs1 := SS1.out; have hs2 := SS2.out; have hs3 := LWS.out; have hs4 := SS3.out; first | omega | (simp <;> omega)) _ _))
              have S4 := Lib.hid (show Bx 25 w4 (b2) #[.int .i64 f1, .int .i64 s1, .int .i64 c1, .int .i64 d1, .bool true, .int .i64 t1] by rw [← hW]; exact (S3.out.set 4 _))
              clear hW BB K3 C3 Z3 S3
              go_wp2_with (first | (refine stw.list_load rfl 25 _ rfl (b2) rfl 25 _ S4.out Try.underlying25 rfl szB ?_) | (refine stw.list_store rfl 25 _ _ rfl (w.heap.size) #[.int .i64 f1, .int .i64 s1, .int .i64 c1, .int .i64 d1, .bool true, .int .i64 t1] rfl rfl 25 _ Z4.out rfl szB (oneB _ _ _ _ _ _) ?_; intro wz5 hz))
              have K5 := Lib.hid (drk.later K4.out (by have hlS := LS.out; have h0 := P0.out; have hs0 := LTZ.out; have hs1 := SS1.out; have hs2 := SS2.out; have hs3 := LWS.out; have hs4 := SS3.out; first | omega | (simp <;> omega)) hz.below)
              have C5 := Lib.hid (drk.cur_later CW.out K4.out C4.out (by have hlS := LS.out; have h0 := P0.out; have hs0 := LTZ.out; have hs1 := SS1.out; have hs2 := SS2.out; have hs3 := LWS.out; have hs4 := SS3.out; first | omega | (simp <;> omega)) hz.below)
              have Z5 := Lib.hid (hz.box)
              have S5 := Lib.hid (hz.keep S4.out (by have hlS := LS.out; have h0 := P0.out; have hs0 := LTZ.out; have hs1 := SS1.out; have hs2 := SS2.out; have hs3 := LWS.out; have hs4 := SS3.out; first | omega | (simp <;> omega)))
              clear hz K4 C4 Z4 S4
              (try simp only [Exit.inBlock, Exit.then])
              refine bodyPost_ret (v := .agg #[.int .i64 f1, .int .i64 s1, .int .i64 c1, .int .i64 d1, .bool true, .int .i64 t1]) ?_ rfl ?_
              · rw [results_cell1 rfl]
                exact stw.back Z5.out Try.underlying25 rfl szB
              · exact ⟨_, _, _, _, _, _, rfl, K5.out, C5.out⟩
            · have e0 : (q == 0) = false := by simpa using h0
              have e1 : (q == 1) = false := by simpa using h1
              have e2 : (q == 2) = false := by simpa using h2
              have e3 : (q == 3) = false := by simpa using h3
              have e4 : (q == 4) = false := by simpa using h4
              have e5 : (q == 5) = false := by simpa using h5
              go_wp2_with (first | (refine stw.list_load rfl 25 _ rfl (b2) rfl 25 _ S3.out Try.underlying25 rfl szB ?_) | (refine stw.list_store rfl 25 _ _ rfl (w.heap.size) #[.int .i64 f1, .int .i64 s1, .int .i64 c1, .int .i64 d1, .bool g1, .int .i64 t1] rfl rfl 25 _ Z3.out rfl szB (oneB _ _ _ _ _ _) ?_; intro wz4 hz))
              have K4 := Lib.hid (drk.later K3.out (by have hlS := LS.out; have h0 := P0.out; have hs0 := LTZ.out; have hs1 := SS1.out; have hs2 := SS2.out; have hs3 := LWS.out; have hs4 := SS3.out; first | omega | (simp <;> omega)) hz.below)
              have C4 := Lib.hid (drk.cur_later CW.out K3.out C3.out (by have hlS := LS.out; have h0 := P0.out; have hs0 := LTZ.out; have hs1 := SS1.out; have hs2 := SS2.out; have hs3 := LWS.out; have hs4 := SS3.out; first | omega | (simp <;> omega)) hz.below)
              have Z4 := Lib.hid (hz.box)
              have S4 := Lib.hid (hz.keep S3.out (by have hlS := LS.out; have h0 := P0.out; have hs0 := LTZ.out; have hs1 := SS1.out; have hs2 := SS2.out; have hs3 := LWS.out; have hs4 := SS3.out; first | omega | (simp <;> omega)))
              clear hz K3 C3 Z3 S3
              (try simp only [Exit.inBlock, Exit.then])
              refine bodyPost_ret (v := .agg #[.int .i64 f1, .int .i64 s1, .int .i64 c1, .int .i64 d1, .bool g1, .int .i64 t1]) ?_ rfl ?_
              · rw [results_cell1 rfl]
                exact stw.back Z4.out Try.underlying25 rfl szB
              · exact ⟨_, _, _, _, _, _, rfl, K4.out, C4.out⟩
set_option maxRecDepth 100000 in
set_option maxHeartbeats 4000000 in
theorem dBi (w : World) (a : Option Addr) (len cap : Nat) (hc : draw.Code w w.heap.size a len) :
    Calls Try.prog 39 #[.slice a len cap] w (BdPost w) := by
  have HC := Lib.hid hc
  clear hc
  go_enter Try.func39, Try.ntmps39
  go_upto_region 1 with fail
  obtain ⟨w0, hW⟩ : ∃ w0, w.alloc (.cells #[.int .i64 0, .int .i64 0, .int .i64 0, .int .i64 0, .bool false, .int .i64 0] 25) = w0 := ⟨_, rfl⟩
  rw [hW]
  have B0 := Lib.hid (show Below w.heap.size w w0 by rw [← hW]; exact (Below.refl _ _).alloc (by simp <;> omega) _)
  have Z0 := Lib.hid (show Bx 25 w0 (w.heap.size) #[.int .i64 0, .int .i64 0, .int .i64 0, .int .i64 0, .bool false, .int .i64 0] by
      rw [← hW]
      have hh := Bx.made 25 w #[.int .i64 0, .int .i64 0, .int .i64 0, .int .i64 0, .bool false, .int .i64 0]
      exact hh)
  clear hW
  have LTZ := Lib.hid Z0.out.lt
  go_wp2_with fail
  (with_reducible refine (draw.new _ a len cap (code_later HC.out B0.out)).mono ?_)
  rintro e wb ⟨rfl, hk, hs, hc⟩
  have HB := Lib.hid (keep_bel B0.out B0.out.size hk)
  obtain ⟨p, hp⟩ : ∃ p, w0.heap.size = p := ⟨_, rfl⟩
  have LP := Lib.hid (show w.heap.size ≤ p ∧ p < wb.heap.size ∧ w.heap.size < p by have h0 := B0.out.size; have hZ := Z0.out.lt; first | omega | (simp at hs ⊢ <;> omega))
  rw [hp] at hk hs hc ⊢
  have Z1 := Lib.hid (drk.bx_keep Z0.out hk (by have h1 := LP.out; omega))
  have P0 := Lib.hid hs
  have C1 := Lib.hid hc
  have CW := Lib.hid hc
  have K1 := Lib.hid (Keep.refl p wb)
  clear hk hs hc hp B0 Z0
  go_wp2_with fail
  (with_reducible refine (dBa _ p a len cap C1.out).mono ?_)
  rintro e w2 ⟨f1, s1, c1, d1, g1, t1, rfl, hk, hc⟩
  have SS2 := Lib.hid hk.size
  have K2 := Lib.hid (K1.out.trans hk)
  have C2 := Lib.hid (hc)
  have Z2 := Lib.hid (drk.bx_keep Z1.out hk (by have hlP := LP.out; have h0 := P0.out; have hs0 := LTZ.out; have hs1 := LP.out; have hs2 := SS2.out; first | omega | (simp <;> omega)))
  clear hk hc  K1 C1 Z1
  have HBS := Lib.hid HB.out.size
  have B2 := Lib.hid (keep_low HB.out K2.out (by have h1 := LP.out; omega) (by have h1 := LP.out; omega))
  clear K2 C2
  go_wp2_with (first | (refine stw.list_store rfl 25 _ _ rfl (w.heap.size) #[.int .i64 f1, .int .i64 s1, .int .i64 c1, .int .i64 d1, .bool g1, .int .i64 t1] rfl rfl 25 _ Z2.out rfl szB (oneB _ _ _ _ _ _) ?_; intro wz3 hz))
  have B3 := Lib.hid (hz.on B2.out (by have hs0 := LTZ.out; have hs1 := LP.out; have hs2 := SS2.out; have hs3 := HBS.out; first | omega | (simp <;> omega)))
  have Z3 := Lib.hid (hz.box)
  clear hz B2 Z2
  (try simp only [Exit.inBlock, Exit.then])
  refine bodyPost_ret (v := .agg #[.int .i64 f1, .int .i64 s1, .int .i64 c1, .int .i64 d1, .bool g1, .int .i64 t1]) ?_ rfl ?_
  · rw [results_cell1 rfl]
    exact stw.back Z3.out Try.underlying25 rfl szB
  · exact ⟨_, _, _, _, _, _, rfl, B3.out⟩
set_option maxRecDepth 100000 in
set_option maxHeartbeats 4000000 in
theorem dBe (w : World) (a : Option Addr) (len cap : Nat) (hc : draw.Code w w.heap.size a len) :
    Calls Try.prog 13 #[.slice a len cap] w (BdPost w) := by
  have HC := Lib.hid hc
  clear hc
  go_enter Try.func13, Try.ntmps13
  go_upto_region 1 with fail
  obtain ⟨w0, hW⟩ : ∃ w0, w.alloc (.cells #[.int .i64 0, .int .i64 0, .int .i64 0, .int .i64 0, .bool false, .int .i64 0] 25) = w0 := ⟨_, rfl⟩
  rw [hW]
  have B0 := Lib.hid (show Below w.heap.size w w0 by rw [← hW]; exact (Below.refl _ _).alloc (by simp <;> omega) _)
  have Z0 := Lib.hid (show Bx 25 w0 (w.heap.size) #[.int .i64 0, .int .i64 0, .int .i64 0, .int .i64 0, .bool false, .int .i64 0] by
      rw [← hW]
      have hh := Bx.made 25 w #[.int .i64 0, .int .i64 0, .int .i64 0, .int .i64 0, .bool false, .int .i64 0]
      exact hh)
  clear hW
  have LTZ := Lib.hid Z0.out.lt
  go_wp2_with fail
  (with_reducible refine (dBi _ a len cap (code_later HC.out B0.out)).mono ?_)
  rintro e w1 ⟨f1, s1, c1, d1, g1, t1, rfl, hb⟩
  have SS1 := Lib.hid hb.size
  have B1 := Lib.hid (B0.out.trans (hb.mono B0.out.size))
  have Z1 := Lib.hid (Z0.out.below hb)
  clear hb  B0 Z0
  go_wp2_with (first | (refine stw.list_store rfl 25 _ _ rfl (w.heap.size) #[.int .i64 f1, .int .i64 s1, .int .i64 c1, .int .i64 d1, .bool g1, .int .i64 t1] rfl rfl 25 _ Z1.out rfl szB (oneB _ _ _ _ _ _) ?_; intro wz2 hz))
  have B2 := Lib.hid (hz.on B1.out (by have hs0 := LTZ.out; have hs1 := SS1.out; first | omega | (simp <;> omega)))
  have Z2 := Lib.hid (hz.box)
  clear hz B1 Z1
  (try simp only [Exit.inBlock, Exit.then])
  refine bodyPost_ret (v := .agg #[.int .i64 f1, .int .i64 s1, .int .i64 c1, .int .i64 d1, .bool g1, .int .i64 t1]) ?_ rfl ?_
  · rw [results_cell1 rfl]
    exact stw.back Z2.out Try.underlying25 rfl szB
  · exact ⟨_, _, _, _, _, _, rfl, B2.out⟩
set_option maxRecDepth 100000 in
set_option maxHeartbeats 4000000 in
theorem dBd (w : World) (a : Option Addr) (len cap : Nat) (hc : draw.Code w w.heap.size a len) :
    Calls Try.prog 14 #[.slice a len cap] w (SdPost w) := by
  have HC := Lib.hid hc
  clear hc
  have B0 := Lib.hid (Below.refl w.heap.size w)
  go_enter Try.func14, Try.ntmps14
  go_upto_region 1 with fail
  go_wp2_with fail
  (with_reducible refine (draw.new _ a len cap (code_later HC.out B0.out)).mono ?_)
  rintro e wb ⟨rfl, hk, hs, hc⟩
  have HB := Lib.hid (keep_bel B0.out B0.out.size hk)
  obtain ⟨p, hp⟩ : ∃ p, w.heap.size = p := ⟨_, rfl⟩
  have LP := Lib.hid (show w.heap.size ≤ p ∧ p < wb.heap.size by have h0 := B0.out.size; first | omega | (simp at hs ⊢ <;> omega))
  rw [hp] at hk hs hc ⊢
  have P0 := Lib.hid hs
  have C1 := Lib.hid hc
  have CW := Lib.hid hc
  have K1 := Lib.hid (Keep.refl p wb)
  clear hk hs hc hp B0 
  go_wp2_with fail
  (with_reducible refine (dBk _ p a len cap C1.out).mono ?_)
  rintro e w2 ⟨f1, s1, c1, d1, g1, t1, rfl, hd, hk, hc⟩
  have SS2 := Lib.hid hk.size
  have K2 := Lib.hid (K1.out.trans hk)
  have C2 := Lib.hid (hc)
  clear hk hc hd K1 C1 
  go_wp2_with fail
  (with_reducible refine (specEb f1 s1 c1 d1 g1 t1 _).mono ?_)
  rintro e w3 ⟨A3, n3, c3, rfl, ho, hb⟩
  have SS3 := Lib.hid hb.size
  have K3 := Lib.hid (drk.later K2.out K2.out.size hb)
  have C3 := Lib.hid (drk.cur_below C2.out hb)
  clear hb  K2 C2 
  have E3 := Lib.hid ho
  clear ho
  have HN3 := Lib.hid (show n3 ≤ 36 by have h1 := E3.out.len; have h2 := eb_len ⟨f1, s1, c1, d1, g1, t1⟩; omega)
  skip
  go_wp2_with fail
  (with_reducible refine (once 3 (by omega) _ p a len cap C3.out).mono ?_)
  rintro e w4 ⟨b0, rfl, hk, hc⟩
  have SS4 := Lib.hid hk.size
  have K4 := Lib.hid (K3.out.trans hk)
  have C4 := Lib.hid (hc)
  have E4 := Lib.hid (draw.ow_keep E3.out hk (by have hlP := LP.out; have h0 := P0.out; have hs0 := LP.out; have hs1 := SS2.out; have hs2 := SS3.out; have hs3 := SS4.out; first | omega | (simp <;> omega)))
  clear hk hc  K3 C3 E3
  cases b0 with
  | true =>
    go_wp2_with fail
    (with_reducible refine (bent (eb ⟨f1, s1, c1, d1, g1, t1⟩) _ _ A3 n3 c3 (by have := HN3.out; omega) _ p a len cap E4.out.rd C4.out).mono ?_)
    rintro e w5 ⟨A4, n4, c4, l4, rfl, hn, ho, hk, hc⟩
    have HO := Lib.hid ho
    have HN4 := Lib.hid hn
    have SS5 := Lib.hid hk.size
    have K5 := Lib.hid (K4.out.trans hk)
    have C5 := Lib.hid (hc)
    have E5 := Lib.hid (draw.ow_keep E4.out hk (by have hlP := LP.out; have h0 := P0.out; have hs0 := LP.out; have hs1 := SS2.out; have hs2 := SS3.out; have hs3 := SS4.out; have hs4 := SS5.out; first | omega | (simp <;> omega)))
    clear hk hc hn ho K4 C4 E4
    have O5 := Lib.hid HO.out
    clear HO
    have HBS := Lib.hid HB.out.size
    have B5 := Lib.hid (keep_low HB.out K5.out (by have h1 := LP.out; omega) (by have h1 := LP.out; omega))
    clear K5 C5
    go_wp2_with fail
    go_ret
    exact ⟨_, _, _, _, rfl, by have h1 := HN4.out; omega, (O5.out.up).down (by have hs0 := LP.out; have hs1 := SS2.out; have hs2 := SS3.out; have hs3 := SS4.out; have hs4 := SS5.out; have hs5 := HBS.out; first | omega | (simp <;> omega)), B5.out⟩
  | false =>
    go_wp2_with fail
    (with_reducible refine (once 6 (by omega) _ p a len cap C4.out).mono ?_)
    rintro e w5 ⟨b1, rfl, hk, hc⟩
    have SS5 := Lib.hid hk.size
    have K5 := Lib.hid (K4.out.trans hk)
    have C5 := Lib.hid (hc)
    have E5 := Lib.hid (draw.ow_keep E4.out hk (by have hlP := LP.out; have h0 := P0.out; have hs0 := LP.out; have hs1 := SS2.out; have hs2 := SS3.out; have hs3 := SS4.out; have hs4 := SS5.out; first | omega | (simp <;> omega)))
    clear hk hc  K4 C4 E4
    cases b1 with
    | true =>
      go_wp2_with fail
      (with_reducible refine (below 3 (by omega) _ p a len cap C5.out).mono ?_)
      rintro e w6 ⟨x, rfl, hx0, hx1, hk, hc⟩
      have Hx := Lib.hid (show 0 ≤ x ∧ x < 3 from ⟨hx0, hx1 (by omega)⟩)
      have SS6 := Lib.hid hk.size
      have K6 := Lib.hid (K5.out.trans hk)
      have C6 := Lib.hid (hc)
      have E6 := Lib.hid (draw.ow_keep E5.out hk (by have hlP := LP.out; have h0 := P0.out; have hs0 := LP.out; have hs1 := SS2.out; have hs2 := SS3.out; have hs3 := SS4.out; have hs4 := SS5.out; have hs5 := SS6.out; first | omega | (simp <;> omega)))
      clear hk hc hx0 hx1 K5 C5 E5
      go_wp2_with fail
      have HO := Lib.hid (Ow.lit (k := .i64) (E := 3) (n := 6) w6 #[.int .i64 1, .int .i64 10, .int .i64 0, .int .i64 2, .int .i64 x, .int .i64 3] [1, 10, 0, 2, x, 3] rfl (Wf.of_i64 (by intro z hz; simp only [List.mem_cons, List.not_mem_nil, or_false] at hz; have := Hx.out; omega)) (by simp [maxLen]) rfl).rd
      (with_reducible refine (uvs.specEncs _ _ (some ⟨w6.heap.size, 0, none⟩) 6 6 [1, 10, 0, 2, x, 3] _ HO.out (by omega)).mono ?_)
      rintro e w7 ⟨A4, n4, c4, rfl, ho, hb9⟩
      have hb : Below w6.heap.size w6 w7 := ((Below.refl _ _).alloc (Nat.le_refl _) _).trans (hb9.mono (by simp))
      have HO4 := Lib.hid (ho.down (lo2 := w6.heap.size) (by simp))
      have HN4 := Lib.hid (show n4 ≤ 36 by have h1 := ho.len; have h2 := uvs.encs_len_all [1, 10, 0, 2, x, 3]; simp only [List.length_cons, List.length_nil] at h2; omega)
      have SS7 := Lib.hid hb.size
      have K7 := Lib.hid (drk.later K6.out K6.out.size hb)
      have C7 := Lib.hid (drk.cur_below C6.out hb)
      have E7 := Lib.hid (E6.out.below hb)
      clear hb hb9 ho HO K6 C6 E6
      have O7 := Lib.hid HO4.out
      clear HO4
      have HBS := Lib.hid HB.out.size
      have B7 := Lib.hid (keep_low HB.out K7.out (by have h1 := LP.out; omega) (by have h1 := LP.out; omega))
      clear K7 C7
      go_wp2_with fail
      go_ret
      exact ⟨_, _, _, _, rfl, by have h1 := HN4.out; omega, (O7.out.up).down (by have hs0 := LP.out; have hs1 := SS2.out; have hs2 := SS3.out; have hs3 := SS4.out; have hs4 := SS5.out; have hs5 := SS6.out; have hs6 := SS7.out; have hs7 := HBS.out; first | omega | (simp <;> omega)), B7.out⟩
    | false =>
      have HBS := Lib.hid HB.out.size
      have B5 := Lib.hid (keep_low HB.out K5.out (by have h1 := LP.out; omega) (by have h1 := LP.out; omega))
      clear K5 C5
      go_wp2_with fail
      go_ret
      exact ⟨_, _, _, _, rfl, by have h1 := HN3.out; omega, (E5.out.up).down (by have hs0 := LP.out; have hs1 := SS2.out; have hs2 := SS3.out; have hs3 := SS4.out; have hs4 := SS5.out; have hs5 := HBS.out; first | omega | (simp <;> omega)), B5.out⟩
end Go.Proofs.Ytalfihfielgmpaa.be
