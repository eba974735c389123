/- Draws of stage 17: a message. Condition: the bytes that are drawn from are a slice that came in. -/
import Derived.Test.YtjmenbpalihnnaaQch
import Derived.Test.YtjmenbpalihnnaaRgk
import Derived.Test.YtjmenbpalihnnaaDraw2
import Derived.Test.YtjmenbpalihnnaaDrawB
import Derived.Deep.Cut
namespace Go.Proofs.Ytjmenbpalihnnaa.mq
open Go.RowKit sl harn bx mrw drk stw draw
set_option linter.unusedVariables false
set_option linter.unusedSimpArgs false

theorem made_u8 (n : Nat) : (madeCells #[Value.int .u8 0] n).toList = (List.replicate n (0 : Int)).map (Value.int .u8) := by
  apply List.ext_getElem
  · simp [size_madeCells]
  · intro i h1 h2
    simp [madeCells, Nat.mod_one]
theorem ow_made8 (w : World) (n : Nat) (hn : n ≤ 67108864) : Ow 5 .u8 (w.alloc (.cells (madeCells #[Value.int .u8 0] n) 5)) w.heap.size (w.alloc (.cells (madeCells #[Value.int .u8 0] n) 5)).heap.size (some ⟨w.heap.size, 0, none⟩) n n (List.replicate n 0) :=
  Ow.lit w _ _ (made_u8 n) (fun z hz => by rw [List.eq_of_mem_replicate hz]; decide) (by unfold maxLen; simp; omega) (size_madeCells _ _)
/-- A drawn message. -/
def AnyPost (p : Nat) (a : Option Addr) (len cap : Nat) (w : World) (e : Ending) (w' : World) : Prop :=
  ∃ (x : Msg) (A : Option Addr) (n c : Nat), e = .returned (mV x A n c) ∧ n ≤ 101 ∧ Ow 5 .u8 w' w.heap.size w'.heap.size A n c x.2.2.2 ∧ Keep p w w' ∧ Cur w' p a len cap
set_option maxRecDepth 100000 in
set_option maxHeartbeats 4000000 in
theorem l17any (w : World) (p : Nat) (a : Option Addr) (len cap : Nat) (hc : Cur w p a len cap)  :
    Calls Try.prog 61 #[.pointer (some ⟨p, 0, none⟩)] w (AnyPost p a len cap w) := by
  have CW := Lib.hid hc
  have P0 := Lib.hid hc.lt
  skip
  clear hc
  go_enter Try.func61, Try.ntmps61
  go_upto_region 1 with fail
  obtain ⟨w0, hW⟩ : ∃ w0, w.alloc (.cells #[.int .i64 0, .int .i64 0, .int .i64 0, .slice none 0 0] 28) = w0 := ⟨_, rfl⟩
  rw [hW]
  have K0 := Lib.hid (show Keep p w w0 by rw [← hW]; exact (Keep.refl p w).alloc _)
  have C0 := Lib.hid (show Cur w0 p a len cap by rw [← hW]; exact (CW.out).alloc _)
  have Z0 := Lib.hid (show Bx 28 w0 (w.heap.size) #[.int .i64 0, .int .i64 0, .int .i64 0, .slice none 0 0] by
      rw [← hW]
      have hh := Bx.made 28 w #[.int .i64 0, .int .i64 0, .int .i64 0, .slice none 0 0]
      exact hh)
  clear hW
  have LTZ := Lib.hid Z0.out.lt
  go_wp2_with fail
  (with_reducible refine (draw.pickIn 0 63 4 (by omega) (by omega) _ p a len cap C0.out #[.int .i64 0, .int .i64 1, .int .i64 2, .int .i64 63] rfl (by decide)).mono ?_)
  rintro e w1 ⟨x, rfl, hx0, hx1, hk, hc⟩
  have Hx := Lib.hid (show 0 ≤ x ∧ x ≤ 63 from ⟨hx0, hx1⟩)
  have SS1 := Lib.hid hk.size
  have K1 := Lib.hid (K0.out.trans hk)
  have C1 := Lib.hid (hc)
  have Z1 := Lib.hid (drk.bx_keep Z0.out hk (by have h0 := P0.out; have hs0 := LTZ.out; have hs1 := SS1.out; first | omega | (simp <;> omega)))
  clear hk hc hx0 hx1 K0 C0 Z0
  go_wp2_with fail
  (with_reducible refine (draw.below 4 (by omega) _ p a len cap C1.out).mono ?_)
  rintro e w2 ⟨y, rfl, hx0, hx1, hk, hc⟩
  have Hy := Lib.hid (show 0 ≤ y ∧ y < 4 from ⟨hx0, hx1 (by omega)⟩)
  have SS2 := Lib.hid hk.size
  have K2 := Lib.hid (K1.out.trans hk)
  have C2 := Lib.hid (hc)
  have Z2 := Lib.hid (drk.bx_keep Z1.out hk (by have h0 := P0.out; have hs0 := LTZ.out; have hs1 := SS1.out; have hs2 := SS2.out; first | omega | (simp <;> omega)))
  clear hk hc hx0 hx1 K1 C1 Z1
  go_wp2_with fail
  (with_reducible refine (draw.below 20 (by omega) _ p a len cap C2.out).mono ?_)
  rintro e w3 ⟨t, rfl, hx0, hx1, hk, hc⟩
  have Ht := Lib.hid (show 0 ≤ t ∧ t < 20 from ⟨hx0, hx1 (by omega)⟩)
  have SS3 := Lib.hid hk.size
  have K3 := Lib.hid (K2.out.trans hk)
  have C3 := Lib.hid (hc)
  have Z3 := Lib.hid (drk.bx_keep Z2.out hk (by have h0 := P0.out; have hs0 := LTZ.out; have hs1 := SS1.out; have hs2 := SS2.out; have hs3 := SS3.out; first | omega | (simp <;> omega)))
  clear hk hc hx0 hx1 K2 C2 Z2
  go_wp2_with fail
  (with_reducible refine (draw.below 4 (by omega) _ p a len cap C3.out).mono ?_)
  rintro e w4 ⟨v, rfl, hx0, hx1, hk, hc⟩
  have Hv := Lib.hid (show 0 ≤ v ∧ v < 4 from ⟨hx0, hx1 (by omega)⟩)
  have SS4 := Lib.hid hk.size
  have K4 := Lib.hid (K3.out.trans hk)
  have C4 := Lib.hid (hc)
  have Z4 := Lib.hid (drk.bx_keep Z3.out hk (by have h0 := P0.out; have hs0 := LTZ.out; have hs1 := SS1.out; have hs2 := SS2.out; have hs3 := SS3.out; have hs4 := SS4.out; first | omega | (simp <;> omega)))
  clear hk hc hx0 hx1 K3 C3 Z3
  go_wp2_with fail
  (with_reducible refine (draw.bytes v Hv.out.1 (by have := Hv.out.2; omega) _ p a len cap C4.out).mono ?_)
  rintro e w5 ⟨A, n, c, zs, rfl, hn, ho, hk, hc⟩
  have HN := Lib.hid (show n ≤ 3 by have := Hv.out.2; omega)
  have SS5 := Lib.hid hk.size
  have K5 := Lib.hid (K4.out.trans hk)
  have C5 := Lib.hid (hc)
  have Z5 := Lib.hid (drk.bx_keep Z4.out hk (by have h0 := P0.out; have hs0 := LTZ.out; have hs1 := SS1.out; have hs2 := SS2.out; have hs3 := SS3.out; have hs4 := SS4.out; have hs5 := SS5.out; first | omega | (simp <;> omega)))
  clear hk hc hn K4 C4 Z4
  have R5 := Lib.hid ho
  clear ho
  go_upto_region 2 with fail
  obtain ⟨b, hbb⟩ : ∃ b, w5.heap.size = b := ⟨_, rfl⟩
  generalize hW : w5.alloc (.cells #[.int .i64 x, .int .i64 y, .int .i64 t, .slice A n c] 28) = w6
  have LM := Lib.hid (show w.heap.size ≤ b ∧ w.heap.size < b ∧ w5.heap.size ≤ b by have h1 := K5.out.size; have h2Z := Z5.out.lt; have h2R := R5.out.hi_; have h3 := hbb; omega)
  have M6 := Lib.hid (show Bx 28 w6 b #[.int .i64 x, .int .i64 y, .int .i64 t, .slice A n c] by rw [← hW, ← hbb]; exact Bx.made _ _ _)
  have hb : Below w5.heap.size w5 w6 := by rw [← hW]; exact below_box _ _
  (try rw [hbb])
  clear hW hbb
  have SS6 := Lib.hid hb.size
  have K6 := Lib.hid (drk.later K5.out K5.out.size hb)
  have C6 := Lib.hid (drk.cur_below C5.out hb)
  have Z6 := Lib.hid (Z5.out.below hb)
  have R6 := Lib.hid (R5.out.below hb)
  clear hb K5 C5 Z5 R5
  have LWM := Lib.hid M6.out.lt
  go_wp2_with fail
  (with_reducible refine (draw.below 14 (by omega) _ p a len cap C6.out).mono ?_)
  rintro e w7 ⟨q, rfl, hx0, hx1, hk, hc⟩
  have Hq := Lib.hid (show 0 ≤ q ∧ q < 14 from ⟨hx0, hx1 (by omega)⟩)
  have SS7 := Lib.hid hk.size
  have K7 := Lib.hid (K6.out.trans hk)
  have C7 := Lib.hid (hc)
  have Z7 := Lib.hid (drk.bx_keep Z6.out hk (by have hlM := LM.out; have h0 := P0.out; have hs0 := LTZ.out; have hs1 := SS1.out; have hs2 := SS2.out; have hs3 := SS3.out; have hs4 := SS4.out; have hs5 := SS5.out; have hs6 := SS6.out; have hs7 := LWM.out; have hs8 := SS7.out; first | omega | (simp <;> omega)))
  have M7 := Lib.hid (drk.bx_keep M6.out hk (by have hlM := LM.out; have h0 := P0.out; have hs0 := LTZ.out; have hs1 := SS1.out; have hs2 := SS2.out; have hs3 := SS3.out; have hs4 := SS4.out; have hs5 := SS5.out; have hs6 := SS6.out; have hs7 := LWM.out; have hs8 := SS7.out; first | omega | (simp <;> omega)))
  have R7 := Lib.hid (draw.ow_keep R6.out hk (by have hlM := LM.out; have h0 := P0.out; have hs0 := LTZ.out; have hs1 := SS1.out; have hs2 := SS2.out; have hs3 := SS3.out; have hs4 := SS4.out; have hs5 := SS5.out; have hs6 := SS6.out; have hs7 := LWM.out; have hs8 := SS7.out; first | omega | (simp <;> omega)))
  clear hk hc hx0 hx1 K6 C6 Z6 M6 R6
  by_cases h0 : q = 0
  · subst h0
    go_wp2_with fail
    (with_reducible refine (draw.pickIn (-1) 16 3 (by omega) (by omega) _ p a len cap C7.out #[.int .i64 (-1), .int .i64 15, .int .i64 16] rfl (by decide)).mono ?_)
    rintro e w8 ⟨y2, rfl, hx0, hx1, hk, hc⟩
    have Hy2 := Lib.hid (show -1 ≤ y2 ∧ y2 ≤ 16 from ⟨hx0, hx1⟩)
    have SS8 := Lib.hid hk.size
    have K8 := Lib.hid (K7.out.trans hk)
    have C8 := Lib.hid (hc)
    have Z8 := Lib.hid (drk.bx_keep Z7.out hk (by have hlM := LM.out; have h0 := P0.out; have hs0 := LTZ.out; have hs1 := SS1.out; have hs2 := SS2.out; have hs3 := SS3.out; have hs4 := SS4.out; have hs5 := SS5.out; have hs6 := SS6.out; have hs7 := LWM.out; have hs8 := SS7.out; have hs9 := SS8.out; first | omega | (simp <;> omega)))
    have M8 := Lib.hid (drk.bx_keep M7.out hk (by have hlM := LM.out; have h0 := P0.out; have hs0 := LTZ.out; have hs1 := SS1.out; have hs2 := SS2.out; have hs3 := SS3.out; have hs4 := SS4.out; have hs5 := SS5.out; have hs6 := SS6.out; have hs7 := LWM.out; have hs8 := SS7.out; have hs9 := SS8.out; first | omega | (simp <;> omega)))
    have R8 := Lib.hid (draw.ow_keep R7.out hk (by have hlM := LM.out; have h0 := P0.out; have hs0 := LTZ.out; have hs1 := SS1.out; have hs2 := SS2.out; have hs3 := SS3.out; have hs4 := SS4.out; have hs5 := SS5.out; have hs6 := SS6.out; have hs7 := LWM.out; have hs8 := SS7.out; have hs9 := SS8.out; first | omega | (simp <;> omega)))
    clear hk hc hx0 hx1 K7 C7 Z7 M7 R7
    have cM0 : w8.cell? ⟨b, 0, none⟩ = some (.int .i64 x) := M8.out.cell 0
    have fM0 : w8.frozen? ⟨b, 0, none⟩ = false := M8.out.free 0
    go_upto_region 11 with fail
    clear cM0 fM0
    have BB := Lib.hid (show Below w.heap.size w8 (w8.setCell ⟨b, 0, none⟩ (.int .i64 y2)) from (Below.refl _ _).setCell (p := ⟨b, 0, none⟩) (by have hlM := LM.out; have h0 := P0.out; have hs0 := LTZ.out; have hs1 := SS1.out; have hs2 := SS2.out; have hs3 := SS3.out; have hs4 := SS4.out; have hs5 := SS5.out; have hs6 := SS6.out; have hs7 := LWM.out; have hs8 := SS7.out; have hs9 := SS8.out; (try simp only []); omega) _)
    have hWW : (w8.setCell ⟨b, 0, none⟩ (.int .i64 y2)) = (w8.setCell ⟨b, 0, none⟩ (.int .i64 y2)) := rfl
    obtain ⟨w9, hW⟩ : ∃ wy, (w8.setCell ⟨b, 0, none⟩ (.int .i64 y2)) = wy := ⟨_, rfl⟩
    rw [hW]
    clear hWW
    have K9 := Lib.hid (drk.later K8.out (Nat.le_refl _) (hW ▸ BB.out))
    have C9 := Lib.hid (drk.cur_later CW.out K8.out C8.out (Nat.le_refl _) (hW ▸ BB.out))
    have Z9 := Lib.hid (show Bx 28 w9 (w.heap.size) #[.int .i64 0, .int .i64 0, .int .i64 0, .slice none 0 0] by rw [← hW]; exact (Z8.out.other (by have hlM := LM.out; have h0 := P0.out; have hs0 := LTZ.out; have hs1 := SS1.out; have hs2 := SS2.out; have hs3 := SS3.out; have hs4 := SS4.out; have hs5 := SS5.out; have hs6 := SS6.out; have hs7 := LWM.out; have hs8 := SS7.out; have hs9 := SS8.out; first | omega | (simp <;> omega)) _ _))
    have M9 := Lib.hid (show Bx 28 w9 (b) #[.int .i64 y2, .int .i64 y, .int .i64 t, .slice A n c] by rw [← hW]; exact (M8.out.set 0 _))
    have R9 := Lib.hid (show Ow 5 .u8 w9 (w4.heap.size) (w5.heap.size) A n c zs by rw [← hW]; exact (R8.out.same (by simp [World.setCell]) fun b h1 h2 => by rw [Below.heap_setCell _ _ _ _ (by have hlM := LM.out; have h0 := P0.out; have hs0 := LTZ.out; have hs1 := SS1.out; have hs2 := SS2.out; have hs3 := SS3.out; have hs4 := SS4.out; have hs5 := SS5.out; have hs6 := SS6.out; have hs7 := LWM.out; have hs8 := SS7.out; have hs9 := SS8.out; first | omega | (simp <;> omega))]))
    clear hW BB K8 C8 Z8 M8 R8
    go_wp2_with (first | (refine stw.list_load rfl 28 _ rfl (b) rfl 28 _ M9.out Try.underlying28 rfl szM ?_) | (refine stw.list_store rfl 28 _ _ rfl (w.heap.size) #[.int .i64 y2, .int .i64 y, .int .i64 t, .slice A n c] rfl rfl 28 _ Z9.out rfl szM (oneM _ _ _ _ _ _) ?_; intro wz10 hz))
    have K10 := Lib.hid (drk.later K9.out (by have hlM := LM.out; have h0 := P0.out; have hs0 := LTZ.out; have hs1 := SS1.out; have hs2 := SS2.out; have hs3 := SS3.out; have hs4 := SS4.out; have hs5 := SS5.out; have hs6 := SS6.out; have hs7 := LWM.out; have hs8 := SS7.out; have hs9 := SS8.out; first | omega | (simp <;> omega)) hz.below)
    have C10 := Lib.hid (drk.cur_later CW.out K9.out C9.out (by have hlM := LM.out; have h0 := P0.out; have hs0 := LTZ.out; have hs1 := SS1.out; have hs2 := SS2.out; have hs3 := SS3.out; have hs4 := SS4.out; have hs5 := SS5.out; have hs6 := SS6.out; have hs7 := LWM.out; have hs8 := SS7.out; have hs9 := SS8.out; first | omega | (simp <;> omega)) hz.below)
    have Z10 := Lib.hid (hz.box)
    have M10 := Lib.hid (hz.keep M9.out (by have hlM := LM.out; have h0 := P0.out; have hs0 := LTZ.out; have hs1 := SS1.out; have hs2 := SS2.out; have hs3 := SS3.out; have hs4 := SS4.out; have hs5 := SS5.out; have hs6 := SS6.out; have hs7 := LWM.out; have hs8 := SS7.out; have hs9 := SS8.out; first | omega | (simp <;> omega)))
    have R10 := Lib.hid (R9.out.same hz.below.size fun b h1 h2 => hz.other b (by have hlM := LM.out; have h0 := P0.out; have hs0 := LTZ.out; have hs1 := SS1.out; have hs2 := SS2.out; have hs3 := SS3.out; have hs4 := SS4.out; have hs5 := SS5.out; have hs6 := SS6.out; have hs7 := LWM.out; have hs8 := SS7.out; have hs9 := SS8.out; first | omega | (simp <;> omega)))
    clear hz K9 C9 Z9 M9 R9
    (try simp only [Exit.inBlock, Exit.then])
    refine bodyPost_ret (v := .agg #[.int .i64 y2, .int .i64 y, .int .i64 t, .slice A n c]) ?_ rfl ?_
    · rw [results_cell1 rfl]
      exact stw.back Z10.out Try.underlying28 rfl szM
    · exact ⟨(y2, y, t, zs), A, n, c, rfl, by have h1 := HN.out; omega, (R10.out).up.down (by have hlM := LM.out; have h0 := P0.out; have hs0 := LTZ.out; have hs1 := SS1.out; have hs2 := SS2.out; have hs3 := SS3.out; have hs4 := SS4.out; have hs5 := SS5.out; have hs6 := SS6.out; have hs7 := LWM.out; have hs8 := SS7.out; have hs9 := SS8.out; first | omega | (simp <;> omega)), K10.out, C10.out⟩
  · by_cases h1 : q = 1
    · subst h1
      go_wp2_with fail
      (with_reducible refine (draw.pickIn (-1) 4 2 (by omega) (by omega) _ p a len cap C7.out #[.int .i64 (-1), .int .i64 4] rfl (by decide)).mono ?_)
      rintro e w8 ⟨y2, rfl, hx0, hx1, hk, hc⟩
      have Hy2 := Lib.hid (show -1 ≤ y2 ∧ y2 ≤ 4 from ⟨hx0, hx1⟩)
      have SS8 := Lib.hid hk.size
      have K8 := Lib.hid (K7.out.trans hk)
      have C8 := Lib.hid (hc)
      have Z8 := Lib.hid (drk.bx_keep Z7.out hk (by have hlM := LM.out; have h0 := P0.out; have hs0 := LTZ.out; have hs1 := SS1.out; have hs2 := SS2.out; have hs3 := SS3.out; have hs4 := SS4.out; have hs5 := SS5.out; have hs6 := SS6.out; have hs7 := LWM.out; have hs8 := SS7.out; have hs9 := SS8.out; first | omega | (simp <;> omega)))
      have M8 := Lib.hid (drk.bx_keep M7.out hk (by have hlM := LM.out; have h0 := P0.out; have hs0 := LTZ.out; have hs1 := SS1.out; have hs2 := SS2.out; have hs3 := SS3.out; have hs4 := SS4.out; have hs5 := SS5.out; have hs6 := SS6.out; have hs7 := LWM.out; have hs8 := SS7.out; have hs9 := SS8.out; first | omega | (simp <;> omega)))
      have R8 := Lib.hid (draw.ow_keep R7.out hk (by have hlM := LM.out; have h0 := P0.out; have hs0 := LTZ.out; have hs1 := SS1.out; have hs2 := SS2.out; have hs3 := SS3.out; have hs4 := SS4.out; have hs5 := SS5.out; have hs6 := SS6.out; have hs7 := LWM.out; have hs8 := SS7.out; have hs9 := SS8.out; first | omega | (simp <;> omega)))
      clear hk hc hx0 hx1 K7 C7 Z7 M7 R7
      have cM1 : w8.cell? ⟨b, 1, none⟩ = some (.int .i64 y) := M8.out.cell 1
      have fM1 : w8.frozen? ⟨b, 1, none⟩ = false := M8.out.free 1
      go_upto_region 11 with fail
      clear cM1 fM1
      have BB := Lib.hid (show Below w.heap.size w8 (w8.setCell ⟨b, 1, none⟩ (.int .i64 y2)) from (Below.refl _ _).setCell (p := ⟨b, 1, none⟩) (by have hlM := LM.out; have h0 := P0.out; have hs0 := LTZ.out; have hs1 := SS1.out; have hs2 := SS2.out; have hs3 := SS3.out; have hs4 := SS4.out; have hs5 := SS5.out; have hs6 := SS6.out; have hs7 := LWM.out; have hs8 := SS7.out; have hs9 := SS8.out; (try simp only []); omega) _)
      have hWW : (w8.setCell ⟨b, 1, none⟩ (.int .i64 y2)) = (w8.setCell ⟨b, 1, none⟩ (.int .i64 y2)) := rfl
      obtain ⟨w9, hW⟩ : ∃ wy, (w8.setCell ⟨b, 1, none⟩ (.int .i64 y2)) = wy := ⟨_, rfl⟩
      rw [hW]
      clear hWW
      have K9 := Lib.hid (drk.later K8.out (Nat.le_refl _) (hW ▸ BB.out))
      have C9 := Lib.hid (drk.cur_later CW.out K8.out C8.out (Nat.le_refl _) (hW ▸ BB.out))
      have Z9 := Lib.hid (show Bx 28 w9 (w.heap.size) #[.int .i64 0, .int .i64 0, .int .i64 0, .slice none 0 0] by rw [← hW]; exact (Z8.out.other (by have hlM := LM.out; have h0 := P0.out; have hs0 := LTZ.out; have hs1 := SS1.out; have hs2 := SS2.out; have hs3 := SS3.out; have hs4 := SS4.out; have hs5 := SS5.out; have hs6 := SS6.out; have hs7 := LWM.out; have hs8 := SS7.out; have hs9 := SS8.out; first | omega | (simp <;> omega)) _ _))
      have M9 := Lib.hid (show Bx 28 w9 (b) #[.int .i64 x, .int .i64 y2, .int .i64 t, .slice A n c] by rw [← hW]; exact (M8.out.set 1 _))
      have R9 := Lib.hid (show Ow 5 .u8 w9 (w4.heap.size) (w5.heap.size) A n c zs by rw [← hW]; exact (R8.out.same (by simp [World.setCell]) fun b h1 h2 => by rw [Below.heap_setCell _ _ _ _ (by have hlM := LM.out; have h0 := P0.out; have hs0 := LTZ.out; have hs1 := SS1.out; have hs2 := SS2.out; have hs3 := SS3.out; have hs4 := SS4.out; have hs5 := SS5.out; have hs6 := SS6.out; have hs7 := LWM.out; have hs8 := SS7.out; have hs9 := SS8.out; first | omega | (simp <;> omega))]))
      clear hW BB K8 C8 Z8 M8 R8
      go_wp2_with (first | (refine stw.list_load rfl 28 _ rfl (b) rfl 28 _ M9.out Try.underlying28 rfl szM ?_) | (refine stw.list_store rfl 28 _ _ rfl (w.heap.size) #[.int .i64 x, .int .i64 y2, .int .i64 t, .slice A n c] rfl rfl 28 _ Z9.out rfl szM (oneM _ _ _ _ _ _) ?_; intro wz10 hz))
      have K10 := Lib.hid (drk.later K9.out (by have hlM := LM.out; have h0 := P0.out; have hs0 := LTZ.out; have hs1 := SS1.out; have hs2 := SS2.out; have hs3 := SS3.out; have hs4 := SS4.out; have hs5 := SS5.out; have hs6 := SS6.out; have hs7 := LWM.out; have hs8 := SS7.out; have hs9 := SS8.out; first | omega | (simp <;> omega)) hz.below)
      have C10 := Lib.hid (drk.cur_later CW.out K9.out C9.out (by have hlM := LM.out; have h0 := P0.out; have hs0 := LTZ.out; have hs1 := SS1.out; have hs2 := SS2.out; have hs3 := SS3.out; have hs4 := SS4.out; have hs5 := SS5.out; have hs6 := SS6.out; have hs7 := LWM.out; have hs8 := SS7.out; have hs9 := SS8.out; first | omega | (simp <;> omega)) hz.below)
      have Z10 := Lib.hid (hz.box)
      have M10 := Lib.hid (hz.keep M9.out (by have hlM := LM.out; have h0 := P0.out; have hs0 := LTZ.out; have hs1 := SS1.out; have hs2 := SS2.out; have hs3 := SS3.out; have hs4 := SS4.out; have hs5 := SS5.out; have hs6 := SS6.out; have hs7 := LWM.out; have hs8 := SS7.out; have hs9 := SS8.out; first | omega | (simp <;> omega)))
      have R10 := Lib.hid (R9.out.same hz.below.size fun b h1 h2 => hz.other b (by have hlM := LM.out; have h0 := P0.out; have hs0 := LTZ.out; have hs1 := SS1.out; have hs2 := SS2.out; have hs3 := SS3.out; have hs4 := SS4.out; have hs5 := SS5.out; have hs6 := SS6.out; have hs7 := LWM.out; have hs8 := SS7.out; have hs9 := SS8.out; first | omega | (simp <;> omega)))
      clear hz K9 C9 Z9 M9 R9
      (try simp only [Exit.inBlock, Exit.then])
      refine bodyPost_ret (v := .agg #[.int .i64 x, .int .i64 y2, .int .i64 t, .slice A n c]) ?_ rfl ?_
      · rw [results_cell1 rfl]
        exact stw.back Z10.out Try.underlying28 rfl szM
      · exact ⟨(x, y2, t, zs), A, n, c, rfl, by have h1 := HN.out; omega, (R10.out).up.down (by have hlM := LM.out; have h0 := P0.out; have hs0 := LTZ.out; have hs1 := SS1.out; have hs2 := SS2.out; have hs3 := SS3.out; have hs4 := SS4.out; have hs5 := SS5.out; have hs6 := SS6.out; have hs7 := LWM.out; have hs8 := SS7.out; have hs9 := SS8.out; first | omega | (simp <;> omega)), K10.out, C10.out⟩
    · by_cases h2 : q = 2
      · subst h2
        go_wp2_with fail
        (with_reducible refine (draw.pickIn (-1) 1000000000001 3 (by omega) (by omega) _ p a len cap C7.out #[.int .i64 (-1), .int .i64 1000000000000, .int .i64 1000000000001] rfl (by decide)).mono ?_)
        rintro e w8 ⟨y2, rfl, hx0, hx1, hk, hc⟩
        have Hy2 := Lib.hid (show -1 ≤ y2 ∧ y2 ≤ 1000000000001 from ⟨hx0, hx1⟩)
        have SS8 := Lib.hid hk.size
        have K8 := Lib.hid (K7.out.trans hk)
        have C8 := Lib.hid (hc)
        have Z8 := Lib.hid (drk.bx_keep Z7.out hk (by have hlM := LM.out; have h0 := P0.out; have hs0 := LTZ.out; have hs1 := SS1.out; have hs2 := SS2.out; have hs3 := SS3.out; have hs4 := SS4.out; have hs5 := SS5.out; have hs6 := SS6.out; have hs7 := LWM.out; have hs8 := SS7.out; have hs9 := SS8.out; first | omega | (simp <;> omega)))
        have M8 := Lib.hid (drk.bx_keep M7.out hk (by have hlM := LM.out; have h0 := P0.out; have hs0 := LTZ.out; have hs1 := SS1.out; have hs2 := SS2.out; have hs3 := SS3.out; have hs4 := SS4.out; have hs5 := SS5.out; have hs6 := SS6.out; have hs7 := LWM.out; have hs8 := SS7.out; have hs9 := SS8.out; first | omega | (simp <;> omega)))
        have R8 := Lib.hid (draw.ow_keep R7.out hk (by have hlM := LM.out; have h0 := P0.out; have hs0 := LTZ.out; have hs1 := SS1.out; have hs2 := SS2.out; have hs3 := SS3.out; have hs4 := SS4.out; have hs5 := SS5.out; have hs6 := SS6.out; have hs7 := LWM.out; have hs8 := SS7.out; have hs9 := SS8.out; first | omega | (simp <;> omega)))
        clear hk hc hx0 hx1 K7 C7 Z7 M7 R7
        have cM2 : w8.cell? ⟨b, 2, none⟩ = some (.int .i64 t) := M8.out.cell 2
        have fM2 : w8.frozen? ⟨b, 2, none⟩ = false := M8.out.free 2
        go_upto_region 11 with fail
        clear cM2 fM2
        have BB := Lib.hid (show Below w.heap.size w8 (w8.setCell ⟨b, 2, none⟩ (.int .i64 y2)) from (Below.refl _ _).setCell (p := ⟨b, 2, none⟩) (by have hlM := LM.out; have h0 := P0.out; have hs0 := LTZ.out; have hs1 := SS1.out; have hs2 := SS2.out; have hs3 := SS3.out; have hs4 := SS4.out; have hs5 := SS5.out; have hs6 := SS6.out; have hs7 := LWM.out; have hs8 := SS7.out; have hs9 := SS8.out; (try simp only []); omega) _)
        have hWW : (w8.setCell ⟨b, 2, none⟩ (.int .i64 y2)) = (w8.setCell ⟨b, 2, none⟩ (.int .i64 y2)) := rfl
        obtain ⟨w9, hW⟩ : ∃ wy, (w8.setCell ⟨b, 2, none⟩ (.int .i64 y2)) = wy := ⟨_, rfl⟩
        rw [hW]
        clear hWW
        have K9 := Lib.hid (drk.later K8.out (Nat.le_refl _) (hW ▸ BB.out))
        have C9 := Lib.hid (drk.cur_later CW.out K8.out C8.out (Nat.le_refl _) (hW ▸ BB.out))
        have Z9 := Lib.hid (show Bx 28 w9 (w.heap.size) #[.int .i64 0, .int .i64 0, .int .i64 0, .slice none 0 0] by rw [← hW]; exact (Z8.out.other (by have hlM := LM.out; have h0 := P0.out; have hs0 := LTZ.out; have hs1 := SS1.out; have hs2 := SS2.out; have hs3 := SS3.out; have hs4 := SS4.out; have hs5 := SS5.out; have hs6 := SS6.out; have hs7 := LWM.out; have hs8 := SS7.out; have hs9 := SS8.out; first | omega | (simp <;> omega)) _ _))
        have M9 := Lib.hid (show Bx 28 w9 (b) #[.int .i64 x, .int .i64 y, .int .i64 y2, .slice A n c] by rw [← hW]; exact (M8.out.set 2 _))
        have R9 := Lib.hid (show Ow 5 .u8 w9 (w4.heap.size) (w5.heap.size) A n c zs by rw [← hW]; exact (R8.out.same (by simp [World.setCell]) fun b h1 h2 => by rw [Below.heap_setCell _ _ _ _ (by have hlM := LM.out; have h0 := P0.out; have hs0 := LTZ.out; have hs1 := SS1.out; have hs2 := SS2.out; have hs3 := SS3.out; have hs4 := SS4.out; have hs5 := SS5.out; have hs6 := SS6.out; have hs7 := LWM.out; have hs8 := SS7.out; have hs9 := SS8.out; first | omega | (simp <;> omega))]))
        clear hW BB K8 C8 Z8 M8 R8
        go_wp2_with (first | (refine stw.list_load rfl 28 _ rfl (b) rfl 28 _ M9.out Try.underlying28 rfl szM ?_) | (refine stw.list_store rfl 28 _ _ rfl (w.heap.size) #[.int .i64 x, .int .i64 y, .int .i64 y2, .slice A n c] rfl rfl 28 _ Z9.out rfl szM (oneM _ _ _ _ _ _) ?_; intro wz10 hz))
        have K10 := Lib.hid (drk.later K9.out (by have hlM := LM.out; have h0 := P0.out; have hs0 := LTZ.out; have hs1 := SS1.out; have hs2 := SS2.out; have hs3 := SS3.out; have hs4 := SS4.out; have hs5 := SS5.out; have hs6 := SS6.out; have hs7 := LWM.out; have hs8 := SS7.out; have hs9 := SS8.out; first | omega | (simp <;> omega)) hz.below)
        have C10 := Lib.hid (drk.cur_later CW.out K9.out C9.out (by have hlM := LM.out; have h0 := P0.out; have hs0 := LTZ.out; have hs1 := SS1.out; have hs2 := SS2.out; have hs3 := SS3.out; have hs4 := SS4.out; have hs5 := SS5.out; have hs6 := SS6.out; have hs7 := LWM.out; have hs8 := SS7.out; have hs9 := SS8.out; first | omega | (simp <;> omega)) hz.below)
        have Z10 := Lib.hid (hz.box)
        have M10 := Lib.hid (hz.keep M9.out (by have hlM := LM.out; have h0 := P0.out; have hs0 := LTZ.out; have hs1 := SS1.out; have hs2 := SS2.out; have hs3 := SS3.out; have hs4 := SS4.out; have hs5 := SS5.out; have hs6 := SS6.out; have hs7 := LWM.out; have hs8 := SS7.out; have hs9 := SS8.out; first | omega | (simp <;> omega)))
        have R10 := Lib.hid (R9.out.same hz.below.size fun b h1 h2 => hz.other b (by have hlM := LM.out; have h0 := P0.out; have hs0 := LTZ.out; have hs1 := SS1.out; have hs2 := SS2.out; have hs3 := SS3.out; have hs4 := SS4.out; have hs5 := SS5.out; have hs6 := SS6.out; have hs7 := LWM.out; have hs8 := SS7.out; have hs9 := SS8.out; first | omega | (simp <;> omega)))
        clear hz K9 C9 Z9 M9 R9
        (try simp only [Exit.inBlock, Exit.then])
        refine bodyPost_ret (v := .agg #[.int .i64 x, .int .i64 y, .int .i64 y2, .slice A n c]) ?_ rfl ?_
        · rw [results_cell1 rfl]
          exact stw.back Z10.out Try.underlying28 rfl szM
        · exact ⟨(x, y, y2, zs), A, n, c, rfl, by have h1 := HN.out; omega, (R10.out).up.down (by have hlM := LM.out; have h0 := P0.out; have hs0 := LTZ.out; have hs1 := SS1.out; have hs2 := SS2.out; have hs3 := SS3.out; have hs4 := SS4.out; have hs5 := SS5.out; have hs6 := SS6.out; have hs7 := LWM.out; have hs8 := SS7.out; have hs9 := SS8.out; first | omega | (simp <;> omega)), K10.out, C10.out⟩
      · by_cases h3 : q = 3
        · subst h3
          go_wp2_with fail
          (with_reducible refine (draw.below 2 (by omega) _ p a len cap C7.out).mono ?_)
          rintro e w8 ⟨g, rfl, hx0, hx1, hk, hc⟩
          have Hg := Lib.hid (show 0 ≤ g ∧ g < 2 from ⟨hx0, hx1 (by omega)⟩)
          have SS8 := Lib.hid hk.size
          have K8 := Lib.hid (K7.out.trans hk)
          have C8 := Lib.hid (hc)
          have Z8 := Lib.hid (drk.bx_keep Z7.out hk (by have hlM := LM.out; have h0 := P0.out; have hs0 := LTZ.out; have hs1 := SS1.out; have hs2 := SS2.out; have hs3 := SS3.out; have hs4 := SS4.out; have hs5 := SS5.out; have hs6 := SS6.out; have hs7 := LWM.out; have hs8 := SS7.out; have hs9 := SS8.out; first | omega | (simp <;> omega)))
          have M8 := Lib.hid (drk.bx_keep M7.out hk (by have hlM := LM.out; have h0 := P0.out; have hs0 := LTZ.out; have hs1 := SS1.out; have hs2 := SS2.out; have hs3 := SS3.out; have hs4 := SS4.out; have hs5 := SS5.out; have hs6 := SS6.out; have hs7 := LWM.out; have hs8 := SS7.out; have hs9 := SS8.out; first | omega | (simp <;> omega)))
          have R8 := Lib.hid (draw.ow_keep R7.out hk (by have hlM := LM.out; have h0 := P0.out; have hs0 := LTZ.out; have hs1 := SS1.out; have hs2 := SS2.out; have hs3 := SS3.out; have hs4 := SS4.out; have hs5 := SS5.out; have hs6 := SS6.out; have hs7 := LWM.out; have hs8 := SS7.out; have hs9 := SS8.out; first | omega | (simp <;> omega)))
          clear hk hc hx0 hx1 K7 C7 Z7 M7 R7
          obtain ⟨gn, rfl⟩ : ∃ gn : Nat, g = (gn : Int) := ⟨g.toNat, by have := Hg.out; omega⟩
          have HGN := Lib.hid (show gn < 2 by have := Hg.out; omega)
          obtain ⟨N, hN⟩ : ∃ N, 100 + gn = N := ⟨_, rfl⟩
          have HNN := Lib.hid (show N ≤ 101 by have := HGN.out; omega)
          have m1 : (100 : Int) + (gn : Int) = (N : Int) := by omega
          have m2 : IntKind.i64.wrap (N : Int) = (N : Int) := IntWalk.i64_in _ (by have := HNN.out; omega)
          obtain ⟨i0, hi0, hz0, hz1, hz2⟩ := info_parts u8Info
          have hmk := fun W => run_make1 (P := Try.prog) 22 5 i0 _ Try.underlying22 hi0 hz0 hz1 N (by rw [hz2]; omega) (by have := HNN.out; omega) W
          clear hN hz2 hz1 hz0 hi0
          have cM3 : w8.cell? ⟨b, 3, none⟩ = some (.slice A n c) := M8.out.cell 3
          have fM3 : w8.frozen? ⟨b, 3, none⟩ = false := M8.out.free 3
          have cA3 : (w8.alloc (.cells (madeCells #[.int .u8 0] N) 5)).cell? ⟨b, 3, none⟩ = some (.slice A n c) := (M8.out.below (below_box _ _)).cell 3
          have fA3 : (w8.alloc (.cells (madeCells #[.int .u8 0] N) 5)).frozen? ⟨b, 3, none⟩ = false := (M8.out.below (below_box _ _)).free 3
          go_upto_region 11 with fail
          clear cM3 fM3 cA3 fA3
          clear hmk m1 m2
          obtain ⟨bz, hbz⟩ : ∃ bz, w8.heap.size = bz := ⟨_, rfl⟩
          rw [hbz]
          have HBZ := Lib.hid hbz
          obtain ⟨w9, hW⟩ : ∃ wy, w8.alloc (.cells (madeCells #[.int .u8 0] N) 5) = wy := ⟨_, rfl⟩
          rw [hW]
          have hb : Below w8.heap.size w8 w9 := by rw [← hW]; exact below_box _ _
          have ho : Ow 5 .u8 w9 bz w9.heap.size (some ⟨bz, 0, none⟩) N N (List.replicate N 0) := by have hh := ow_made8 w8 N (by have := HNN.out; omega); rw [hW, hbz] at hh; exact hh
          have LBZ := Lib.hid (show w.heap.size ≤ bz by have h1 := K8.out.size; omega)
          have LMZ := Lib.hid (show b < bz by have h1 := M8.out.lt; omega)
          clear hW hbz
          have SS9 := Lib.hid hb.size
          have K9 := Lib.hid (drk.later K8.out K8.out.size hb)
          have C9 := Lib.hid (drk.cur_below C8.out hb)
          have Z9 := Lib.hid (Z8.out.below hb)
          have M9 := Lib.hid (M8.out.below hb)
          have R9 := Lib.hid (R8.out.below hb)
          clear hb K8 C8 Z8 M8 R8
          have V9 := Lib.hid ho
          clear ho
          have BB := Lib.hid (show Below w.heap.size w9 (w9.setCell ⟨b, 3, none⟩ (.slice (some ⟨bz, 0, none⟩) N N)) from (Below.refl _ _).setCell (p := ⟨b, 3, none⟩) (by have hlM := LM.out; have h0 := P0.out; have hs0 := LTZ.out; have hs1 := SS1.out; have hs2 := SS2.out; have hs3 := SS3.out; have hs4 := SS4.out; have hs5 := SS5.out; have hs6 := SS6.out; have hs7 := LWM.out; have hs8 := SS7.out; have hs9 := SS8.out; have hs10 := SS9.out; have hs11 := LBZ.out; have hs12 := LMZ.out; (try simp only []); omega) _)
          have hWW : (w9.setCell ⟨b, 3, none⟩ (.slice (some ⟨bz, 0, none⟩) N N)) = (w9.setCell ⟨b, 3, none⟩ (.slice (some ⟨bz, 0, none⟩) N N)) := rfl
          obtain ⟨w10, hW⟩ : ∃ wy, (w9.setCell ⟨b, 3, none⟩ (.slice (some ⟨bz, 0, none⟩) N N)) = wy := ⟨_, rfl⟩
          rw [hW]
          clear hWW
          have K10 := Lib.hid (drk.later K9.out (Nat.le_refl _) (hW ▸ BB.out))
          have C10 := Lib.hid (drk.cur_later CW.out K9.out C9.out (Nat.le_refl _) (hW ▸ BB.out))
          have Z10 := Lib.hid (show Bx 28 w10 (w.heap.size) #[.int .i64 0, .int .i64 0, .int .i64 0, .slice none 0 0] by rw [← hW]; exact (Z9.out.other (by have hlM := LM.out; have h0 := P0.out; have hs0 := LTZ.out; have hs1 := SS1.out; have hs2 := SS2.out; have hs3 := SS3.out; have hs4 := SS4.out; have hs5 := SS5.out; have hs6 := SS6.out; have hs7 := LWM.out; have hs8 := SS7.out; have hs9 := SS8.out; have hs10 := SS9.out; have hs11 := LBZ.out; have hs12 := LMZ.out; first | omega | (simp <;> omega)) _ _))
          have M10 := Lib.hid (show Bx 28 w10 (b) #[.int .i64 x, .int .i64 y, .int .i64 t, .slice (some ⟨bz, 0, none⟩) N N] by rw [← hW]; exact (M9.out.set 3 _))
          have R10 := Lib.hid (show Ow 5 .u8 w10 (w4.heap.size) (w5.heap.size) A n c zs by rw [← hW]; exact (R9.out.same (by simp [World.setCell]) fun b h1 h2 => by rw [Below.heap_setCell _ _ _ _ (by have hlM := LM.out; have h0 := P0.out; have hs0 := LTZ.out; have hs1 := SS1.out; have hs2 := SS2.out; have hs3 := SS3.out; have hs4 := SS4.out; have hs5 := SS5.out; have hs6 := SS6.out; have hs7 := LWM.out; have hs8 := SS7.out; have hs9 := SS8.out; have hs10 := SS9.out; have hs11 := LBZ.out; have hs12 := LMZ.out; first | omega | (simp <;> omega))]))
          have V10 := Lib.hid (show Ow 5 .u8 w10 (bz) (w9.heap.size) (some ⟨bz, 0, none⟩) N N (List.replicate N 0) by rw [← hW]; exact (V9.out.same (by simp [World.setCell]) fun b h1 h2 => by rw [Below.heap_setCell _ _ _ _ (by have hlM := LM.out; have h0 := P0.out; have hs0 := LTZ.out; have hs1 := SS1.out; have hs2 := SS2.out; have hs3 := SS3.out; have hs4 := SS4.out; have hs5 := SS5.out; have hs6 := SS6.out; have hs7 := LWM.out; have hs8 := SS7.out; have hs9 := SS8.out; have hs10 := SS9.out; have hs11 := LBZ.out; have hs12 := LMZ.out; first | omega | (simp <;> omega))]))
          clear hW BB K9 C9 Z9 M9 R9 V9
          go_wp2_with (first | (refine stw.list_load rfl 28 _ rfl (b) rfl 28 _ M10.out Try.underlying28 rfl szM ?_) | (refine stw.list_store rfl 28 _ _ rfl (w.heap.size) #[.int .i64 x, .int .i64 y, .int .i64 t, .slice (some ⟨bz, 0, none⟩) N N] rfl rfl 28 _ Z10.out rfl szM (oneM _ _ _ _ _ _) ?_; intro wz11 hz))
          have K11 := Lib.hid (drk.later K10.out (by have hlM := LM.out; have h0 := P0.out; have hs0 := LTZ.out; have hs1 := SS1.out; have hs2 := SS2.out; have hs3 := SS3.out; have hs4 := SS4.out; have hs5 := SS5.out; have hs6 := SS6.out; have hs7 := LWM.out; have hs8 := SS7.out; have hs9 := SS8.out; have hs10 := SS9.out; have hs11 := LBZ.out; have hs12 := LMZ.out; first | omega | (simp <;> omega)) hz.below)
          have C11 := Lib.hid (drk.cur_later CW.out K10.out C10.out (by have hlM := LM.out; have h0 := P0.out; have hs0 := LTZ.out; have hs1 := SS1.out; have hs2 := SS2.out; have hs3 := SS3.out; have hs4 := SS4.out; have hs5 := SS5.out; have hs6 := SS6.out; have hs7 := LWM.out; have hs8 := SS7.out; have hs9 := SS8.out; have hs10 := SS9.out; have hs11 := LBZ.out; have hs12 := LMZ.out; first | omega | (simp <;> omega)) hz.below)
          have Z11 := Lib.hid (hz.box)
          have M11 := Lib.hid (hz.keep M10.out (by have hlM := LM.out; have h0 := P0.out; have hs0 := LTZ.out; have hs1 := SS1.out; have hs2 := SS2.out; have hs3 := SS3.out; have hs4 := SS4.out; have hs5 := SS5.out; have hs6 := SS6.out; have hs7 := LWM.out; have hs8 := SS7.out; have hs9 := SS8.out; have hs10 := SS9.out; have hs11 := LBZ.out; have hs12 := LMZ.out; first | omega | (simp <;> omega)))
          have R11 := Lib.hid (R10.out.same hz.below.size fun b h1 h2 => hz.other b (by have hlM := LM.out; have h0 := P0.out; have hs0 := LTZ.out; have hs1 := SS1.out; have hs2 := SS2.out; have hs3 := SS3.out; have hs4 := SS4.out; have hs5 := SS5.out; have hs6 := SS6.out; have hs7 := LWM.out; have hs8 := SS7.out; have hs9 := SS8.out; have hs10 := SS9.out; have hs11 := LBZ.out; have hs12 := LMZ.out; first | omega | (simp <;> omega)))
          have V11 := Lib.hid (V10.out.same hz.below.size fun b h1 h2 => hz.other b (by have hlM := LM.out; have h0 := P0.out; have hs0 := LTZ.out; have hs1 := SS1.out; have hs2 := SS2.out; have hs3 := SS3.out; have hs4 := SS4.out; have hs5 := SS5.out; have hs6 := SS6.out; have hs7 := LWM.out; have hs8 := SS7.out; have hs9 := SS8.out; have hs10 := SS9.out; have hs11 := LBZ.out; have hs12 := LMZ.out; first | omega | (simp <;> omega)))
          clear hz K10 C10 Z10 M10 R10 V10
          (try simp only [Exit.inBlock, Exit.then])
          refine bodyPost_ret (v := .agg #[.int .i64 x, .int .i64 y, .int .i64 t, .slice (some ⟨bz, 0, none⟩) N N]) ?_ rfl ?_
          · rw [results_cell1 rfl]
            exact stw.back Z11.out Try.underlying28 rfl szM
          · exact ⟨(x, y, t, (List.replicate N 0)), (some ⟨bz, 0, none⟩), N, N, rfl, HNN.out, (V11.out).up.down (by have hlM := LM.out; have h0 := P0.out; have hs0 := LTZ.out; have hs1 := SS1.out; have hs2 := SS2.out; have hs3 := SS3.out; have hs4 := SS4.out; have hs5 := SS5.out; have hs6 := SS6.out; have hs7 := LWM.out; have hs8 := SS7.out; have hs9 := SS8.out; have hs10 := SS9.out; have hs11 := LBZ.out; have hs12 := LMZ.out; first | omega | (simp <;> omega)), K11.out, C11.out⟩
        · have e0 : (q == 0) = false := by simpa using h0
          have e1 : (q == 1) = false := by simpa using h1
          have e2 : (q == 2) = false := by simpa using h2
          have e3 : (q == 3) = false := by simpa using h3
          go_wp2_with (first | (refine stw.list_load rfl 28 _ rfl (b) rfl 28 _ M7.out Try.underlying28 rfl szM ?_) | (refine stw.list_store rfl 28 _ _ rfl (w.heap.size) #[.int .i64 x, .int .i64 y, .int .i64 t, .slice A n c] rfl rfl 28 _ Z7.out rfl szM (oneM _ _ _ _ _ _) ?_; intro wz8 hz))
          have K8 := Lib.hid (drk.later K7.out (by have hlM := LM.out; have h0 := P0.out; have hs0 := LTZ.out; have hs1 := SS1.out; have hs2 := SS2.out; have hs3 := SS3.out; have hs4 := SS4.out; have hs5 := SS5.out; have hs6 := SS6.out; have hs7 := LWM.out; have hs8 := SS7.out; first | omega | (simp <;> omega)) hz.below)
          have C8 := Lib.hid (drk.cur_later CW.out K7.out C7.out (by have hlM := LM.out; have h0 := P0.out; have hs0 := LTZ.out; have hs1 := SS1.out; have hs2 := SS2.out; have hs3 := SS3.out; have hs4 := SS4.out; have hs5 := SS5.out; have hs6 := SS6.out; have hs7 := LWM.out; have hs8 := SS7.out; first | omega | (simp <;> omega)) hz.below)
          have Z8 := Lib.hid (hz.box)
          have M8 := Lib.hid (hz.keep M7.out (by have hlM := LM.out; have h0 := P0.out; have hs0 := LTZ.out; have hs1 := SS1.out; have hs2 := SS2.out; have hs3 := SS3.out; have hs4 := SS4.out; have hs5 := SS5.out; have hs6 := SS6.out; have hs7 := LWM.out; have hs8 := SS7.out; first | omega | (simp <;> omega)))
          have R8 := Lib.hid (R7.out.same hz.below.size fun b h1 h2 => hz.other b (by have hlM := LM.out; have h0 := P0.out; have hs0 := LTZ.out; have hs1 := SS1.out; have hs2 := SS2.out; have hs3 := SS3.out; have hs4 := SS4.out; have hs5 := SS5.out; have hs6 := SS6.out; have hs7 := LWM.out; have hs8 := SS7.out; first | omega | (simp <;> omega)))
          clear hz K7 C7 Z7 M7 R7
          (try simp only [Exit.inBlock, Exit.then])
          refine bodyPost_ret (v := .agg #[.int .i64 x, .int .i64 y, .int .i64 t, .slice A n c]) ?_ rfl ?_
          · rw [results_cell1 rfl]
            exact stw.back Z8.out Try.underlying28 rfl szM
          · exact ⟨(x, y, t, zs), A, n, c, rfl, by have h1 := HN.out; omega, (R8.out).up.down (by have hlM := LM.out; have h0 := P0.out; have hs0 := LTZ.out; have hs1 := SS1.out; have hs2 := SS2.out; have hs3 := SS3.out; have hs4 := SS4.out; have hs5 := SS5.out; have hs6 := SS6.out; have hs7 := LWM.out; have hs8 := SS7.out; first | omega | (simp <;> omega)), K8.out, C8.out⟩
end Go.Proofs.Ytjmenbpalihnnaa.mq
