/- Draws of stage 16: a reservation; beside it a station, a frame and a slot. Condition: the bytes that are drawn from are a slice that came in. -/
import Derived.Test.YtebbnopconbnlaaRs1
import Derived.Test.YtebbnopconbnlaaRgk
import Derived.Test.YtebbnopconbnlaaDrawG
import Derived.Deep.Cut
namespace Go.Proofs.Ytebbnopconbnlaa.draw
open Go.RowKit sl harn bx drk stw
set_option linter.unusedVariables false
set_option linter.unusedSimpArgs false

/-- A drawn reservation's numbers. -/
def RvIn (u h b : Int) : Prop := (-1 ≤ u ∧ u ≤ 1000000000001) ∧ (-1 ≤ h ∧ h ≤ 16) ∧ (-1 ≤ b ∧ b ≤ 16)
def RvPost (p : Nat) (a : Option Addr) (len cap : Nat) (w : World) (e : Ending) (w' : World) : Prop := ∃ u h b : Int, e = .returned (.agg #[.int .i64 u, .int .i64 h, .int .i64 b]) ∧ RvIn u h b ∧ Keep p w w' ∧ Cur w' p a len cap
/-- A reservation, a station, a frame, a slot. -/
def HfPost (w : World) (e : Ending) (w' : World) : Prop :=
  ∃ (u h b i k f t s g : Int) (m r : Bool) (d : Int) (A : Option Addr) (n c : Nat) (z : List Int) (j : Int), e = .returned (.tuple #[.agg #[.int .i64 u, .int .i64 h, .int .i64 b], .int .i64 i, .agg #[.int .i64 k, .int .i64 f, .int .i64 t, .int .i64 s, .int .i64 g, .bool m, .bool r, .int .i64 d, .slice A n c], .int .i64 j]) ∧
    RvIn u h b ∧ (Small k ∧ Small f ∧ Small t ∧ Small s ∧ Small g ∧ Small d) ∧ z.length = n ∧ (-1 ≤ j ∧ j ≤ 999999999000) ∧ Below w.heap.size w w'
theorem results_ctct {fn : Func} {p u q t : Tmp} {ty ty2 : TypeId} (h : fn.results = #[.cell p ty, .tmp u, .cell q ty2, .tmp t]) (tmps : Array Value) (P : Program) (w : World) :
    (results fn tmps).run P w = ((asAddr (tmps.getD p undef)).run P w).andThen fun a w₁ => ((loadVar ty a).run P w₁).andThen fun v w₂ =>
      ((asAddr (tmps.getD q undef)).run P w₂).andThen fun b w₃ => ((loadVar ty2 b).run P w₃).andThen fun x w₄ => .ok (.tuple #[v, tmps.getD u undef, x, tmps.getD t undef]) w₄ := by
  simp only [results, h]
  simp [Sem.run_bind, Result.andThen]
theorem back_to {P : Program} {w : World} {b : Nat} {ty T : TypeId} {cur : Array Value} {d : TypeDesc} {X : Type} {r : Result X} {g : Value → World → Result X} (hX : Bx T w b cur) (hu : P.underlying ty = some d) (hd : d.isRow = true) (hi : (P.info? ty).map (·.size) = some cur.size) (hg : g (.agg cur) w = r) :
    ((asAddr (.pointer (some ⟨b, 0, none⟩))).run P w).andThen (fun a w₁ => ((loadVar ty a).run P w₁).andThen g) = r := by
  have h := back hX hu hd hi
  have e : ((asAddr (.pointer (some ⟨b, 0, none⟩))).run P w).andThen (fun a w₁ => ((loadVar ty a).run P w₁).andThen g) = (((asAddr (.pointer (some ⟨b, 0, none⟩))).run P w).andThen (fun a w₁ => (loadVar ty a).run P w₁)).andThen g := by
    cases (asAddr (.pointer (some ⟨b, 0, none⟩))).run P w <;> rfl
  rw [e, h]
  exact hg
set_option maxRecDepth 100000 in
set_option maxHeartbeats 4000000 in
theorem anyRs (w : World) (p : Nat) (a : Option Addr) (len cap : Nat) (hc : Cur w p a len cap) :
    Calls Try.prog 39 #[.pointer (some ⟨p, 0, none⟩)] w (RvPost p a len cap w) := by
  have CW := Lib.hid hc
  have P0 := Lib.hid hc.lt
  clear hc
  go_enter Try.func39, Try.ntmps39
  go_wp2_with fail
  obtain ⟨w0, hW⟩ : ∃ w0, w.alloc (.cells #[.int .i64 0, .int .i64 0, .int .i64 0] 25) = w0 := ⟨_, rfl⟩
  rw [hW]
  have K0 := Lib.hid (show Keep p w w0 by rw [← hW]; exact (Keep.refl p w).alloc _)
  have C0 := Lib.hid (show Cur w0 p a len cap by rw [← hW]; exact (CW.out).alloc _)
  have Z0 := Lib.hid (show Bx 25 w0 (w.heap.size) #[.int .i64 0, .int .i64 0, .int .i64 0] by
      rw [← hW]
      have hh := Bx.made 25 w #[.int .i64 0, .int .i64 0, .int .i64 0]
      exact hh)
  clear hW
  (with_reducible refine (below 20 (by omega) _ p a len cap C0.out).mono ?_)
  rintro e w1 ⟨x, rfl, hx0, hx1, hk, hc⟩
  have Hx := Lib.hid (show 0 ≤ x ∧ x < 20 from ⟨hx0, hx1 (by omega)⟩)
  have K1 := Lib.hid (K0.out.trans hk)
  have C1 := Lib.hid (hc)
  have Z1 := Lib.hid (drk.bx_keep Z0.out hk (by have h0 := P0.out; first | omega | (simp <;> omega)))
  clear hk hc hx0 hx1 K0 C0 Z0
  go_wp2_with fail
  (with_reducible refine (below 5 (by omega) _ p a len cap C1.out).mono ?_)
  rintro e w2 ⟨y, rfl, hx0, hx1, hk, hc⟩
  have Hy := Lib.hid (show 0 ≤ y ∧ y < 5 from ⟨hx0, hx1 (by omega)⟩)
  have K2 := Lib.hid (K1.out.trans hk)
  have C2 := Lib.hid (hc)
  have Z2 := Lib.hid (drk.bx_keep Z1.out hk (by have h0 := P0.out; first | omega | (simp <;> omega)))
  clear hk hc hx0 hx1 K1 C1 Z1
  go_wp2_with fail
  (with_reducible refine (below 5 (by omega) _ p a len cap C2.out).mono ?_)
  rintro e w3 ⟨v, rfl, hx0, hx1, hk, hc⟩
  have Hv := Lib.hid (show 0 ≤ v ∧ v < 5 from ⟨hx0, hx1 (by omega)⟩)
  have K3 := Lib.hid (K2.out.trans hk)
  have C3 := Lib.hid (hc)
  have Z3 := Lib.hid (drk.bx_keep Z2.out hk (by have h0 := P0.out; first | omega | (simp <;> omega)))
  clear hk hc hx0 hx1 K2 C2 Z2
  obtain ⟨b, hbb⟩ : ∃ b, w3.heap.size = b := ⟨_, rfl⟩
  go_wp2_with fail
  generalize hW : w3.alloc (.cells #[.int .i64 x, .int .i64 y, .int .i64 v] 25) = w4
  have LX := Lib.hid (show w.heap.size ≤ b ∧ w.heap.size < b by have h1 := K3.out.size; have h2Z := Z3.out.lt; have h3 := hbb; omega)
  have X4 := Lib.hid (show Bx 25 w4 b #[.int .i64 x, .int .i64 y, .int .i64 v] by rw [← hW, ← hbb]; exact Bx.made _ _ _)
  have hb : Below w3.heap.size w3 w4 := by rw [← hW]; exact below_box _ _
  (try rw [hbb])
  clear hW hbb
  have K4 := Lib.hid (drk.later K3.out K3.out.size hb)
  have C4 := Lib.hid (drk.cur_below C3.out hb)
  have Z4 := Lib.hid (Z3.out.below hb)
  clear hb K3 C3 Z3
  (with_reducible refine (below 10 (by omega) _ p a len cap C4.out).mono ?_)
  rintro e w5 ⟨q, rfl, hx0, hx1, hk, hc⟩
  have Hq := Lib.hid (show 0 ≤ q ∧ q < 10 from ⟨hx0, hx1 (by omega)⟩)
  have K5 := Lib.hid (K4.out.trans hk)
  have C5 := Lib.hid (hc)
  have Z5 := Lib.hid (drk.bx_keep Z4.out hk (by have hlX := LX.out; have h0 := P0.out; first | omega | (simp <;> omega)))
  have X5 := Lib.hid (drk.bx_keep X4.out hk (by have hlX := LX.out; have h0 := P0.out; first | omega | (simp <;> omega)))
  clear hk hc hx0 hx1 K4 C4 Z4 X4
  by_cases h0 : q = 0
  · subst h0
    go_wp2_with fail
    (with_reducible refine (pickIn (-1) 1000000000001 3 (by omega) (by omega) _ p a len cap C5.out #[.int .i64 (-1), .int .i64 1000000000000, .int .i64 1000000000001] rfl (by decide)).mono ?_)
    rintro e w6 ⟨y2, rfl, hx0, hx1, hk, hc⟩
    have K6 := Lib.hid (K5.out.trans hk)
    have C6 := Lib.hid (hc)
    have Z6 := Lib.hid (drk.bx_keep Z5.out hk (by have hlX := LX.out; have h0 := P0.out; first | omega | (simp <;> omega)))
    have X6 := Lib.hid (drk.bx_keep X5.out hk (by have hlX := LX.out; have h0 := P0.out; first | omega | (simp <;> omega)))
    clear hk hc  K5 C5 Z5 X5
    have Hy2 := Lib.hid (show -1 ≤ y2 ∧ y2 ≤ 1000000000001 from ⟨hx0, hx1⟩)
    clear hx0 hx1
    have cX0 : w6.cell? ⟨b, 0, none⟩ = some (.int .i64 x) := X6.out.cell 0
    have fX0 : w6.frozen? ⟨b, 0, none⟩ = false := X6.out.free 0
    go_upto_region 9 with fail
    clear cX0 fX0
    have BB := Lib.hid (show Below w.heap.size w6 (w6.setCell ⟨b, 0, none⟩ (.int .i64 y2)) from (Below.refl _ _).setCell (p := ⟨b, 0, none⟩) (by have hlX := LX.out; have h0 := P0.out; (try simp only []); omega) _)
    have hWW : (w6.setCell ⟨b, 0, none⟩ (.int .i64 y2)) = (w6.setCell ⟨b, 0, none⟩ (.int .i64 y2)) := rfl
    obtain ⟨w7, hW⟩ : ∃ w9, (w6.setCell ⟨b, 0, none⟩ (.int .i64 y2)) = w9 := ⟨_, rfl⟩
    rw [hW]
    clear hWW
    have K7 := Lib.hid (drk.later K6.out (Nat.le_refl _) (hW ▸ BB.out))
    have C7 := Lib.hid (drk.cur_later CW.out K6.out C6.out (Nat.le_refl _) (hW ▸ BB.out))
    have Z7 := Lib.hid (show Bx 25 w7 (w.heap.size) #[.int .i64 0, .int .i64 0, .int .i64 0] by rw [← hW]; exact (Z6.out.other (by have hlX := LX.out; have h0 := P0.out; first | omega | (simp <;> omega)) _ _))
    have X7 := Lib.hid (show Bx 25 w7 (b) #[.int .i64 y2, .int .i64 y, .int .i64 v] by rw [← hW]; exact (X6.out.set 0 _))
    clear hW BB K6 C6 Z6 X6
    go_wp2_with (first | (refine stw.list_load rfl 25 _ rfl (b) rfl 25 _ X7.out Try.underlying25 rfl szR ?_) | (refine stw.list_store rfl 25 _ _ rfl (w.heap.size) #[.int .i64 y2, .int .i64 y, .int .i64 v] rfl rfl 25 _ Z7.out rfl szR (oneR _ _ _) ?_; intro wz8 hz))
    have K8 := Lib.hid (drk.later K7.out (by have hlX := LX.out; have h0 := P0.out; first | omega | (simp <;> omega)) hz.below)
    have C8 := Lib.hid (drk.cur_later CW.out K7.out C7.out (by have hlX := LX.out; have h0 := P0.out; first | omega | (simp <;> omega)) hz.below)
    have Z8 := Lib.hid (hz.box)
    have X8 := Lib.hid (hz.keep X7.out (by have hlX := LX.out; have h0 := P0.out; first | omega | (simp <;> omega)))
    clear hz K7 C7 Z7 X7
    (try simp only [Exit.inBlock, Exit.then])
    refine bodyPost_ret (v := .agg #[.int .i64 y2, .int .i64 y, .int .i64 v]) ?_ rfl ?_
    · rw [results_cell1 rfl]
      exact stw.back Z8.out Try.underlying25 rfl szR
    · exact ⟨y2, y, v, rfl, (by have h1 := Hx.out; have h2 := Hy.out; have h3 := Hv.out; have h4 := Hy2.out; unfold RvIn; omega), K8.out, C8.out⟩
  · by_cases h1 : q = 1
    · subst h1
      go_wp2_with fail
      (with_reducible refine (pickIn (-1) 16 3 (by omega) (by omega) _ p a len cap C5.out #[.int .i64 (-1), .int .i64 15, .int .i64 16] rfl (by decide)).mono ?_)
      rintro e w6 ⟨y2, rfl, hx0, hx1, hk, hc⟩
      have K6 := Lib.hid (K5.out.trans hk)
      have C6 := Lib.hid (hc)
      have Z6 := Lib.hid (drk.bx_keep Z5.out hk (by have hlX := LX.out; have h0 := P0.out; first | omega | (simp <;> omega)))
      have X6 := Lib.hid (drk.bx_keep X5.out hk (by have hlX := LX.out; have h0 := P0.out; first | omega | (simp <;> omega)))
      clear hk hc  K5 C5 Z5 X5
      have Hy2 := Lib.hid (show -1 ≤ y2 ∧ y2 ≤ 16 from ⟨hx0, hx1⟩)
      clear hx0 hx1
      have cX1 : w6.cell? ⟨b, 1, none⟩ = some (.int .i64 y) := X6.out.cell 1
      have fX1 : w6.frozen? ⟨b, 1, none⟩ = false := X6.out.free 1
      go_upto_region 9 with fail
      clear cX1 fX1
      have BB := Lib.hid (show Below w.heap.size w6 (w6.setCell ⟨b, 1, none⟩ (.int .i64 y2)) from (Below.refl _ _).setCell (p := ⟨b, 1, none⟩) (by have hlX := LX.out; have h0 := P0.out; (try simp only []); omega) _)
      have hWW : (w6.setCell ⟨b, 1, none⟩ (.int .i64 y2)) = (w6.setCell ⟨b, 1, none⟩ (.int .i64 y2)) := rfl
      obtain ⟨w7, hW⟩ : ∃ w9, (w6.setCell ⟨b, 1, none⟩ (.int .i64 y2)) = w9 := ⟨_, rfl⟩
      rw [hW]
      clear hWW
      have K7 := Lib.hid (drk.later K6.out (Nat.le_refl _) (hW ▸ BB.out))
      have C7 := Lib.hid (drk.cur_later CW.out K6.out C6.out (Nat.le_refl _) (hW ▸ BB.out))
      have Z7 := Lib.hid (show Bx 25 w7 (w.heap.size) #[.int .i64 0, .int .i64 0, .int .i64 0] by rw [← hW]; exact (Z6.out.other (by have hlX := LX.out; have h0 := P0.out; first | omega | (simp <;> omega)) _ _))
      have X7 := Lib.hid (show Bx 25 w7 (b) #[.int .i64 x, .int .i64 y2, .int .i64 v] by rw [← hW]; exact (X6.out.set 1 _))
      clear hW BB K6 C6 Z6 X6
      go_wp2_with (first | (refine stw.list_load rfl 25 _ rfl (b) rfl 25 _ X7.out Try.underlying25 rfl szR ?_) | (refine stw.list_store rfl 25 _ _ rfl (w.heap.size) #[.int .i64 x, .int .i64 y2, .int .i64 v] rfl rfl 25 _ Z7.out rfl szR (oneR _ _ _) ?_; intro wz8 hz))
      have K8 := Lib.hid (drk.later K7.out (by have hlX := LX.out; have h0 := P0.out; first | omega | (simp <;> omega)) hz.below)
      have C8 := Lib.hid (drk.cur_later CW.out K7.out C7.out (by have hlX := LX.out; have h0 := P0.out; first | omega | (simp <;> omega)) hz.below)
      have Z8 := Lib.hid (hz.box)
      have X8 := Lib.hid (hz.keep X7.out (by have hlX := LX.out; have h0 := P0.out; first | omega | (simp <;> omega)))
      clear hz K7 C7 Z7 X7
      (try simp only [Exit.inBlock, Exit.then])
      refine bodyPost_ret (v := .agg #[.int .i64 x, .int .i64 y2, .int .i64 v]) ?_ rfl ?_
      · rw [results_cell1 rfl]
        exact stw.back Z8.out Try.underlying25 rfl szR
      · exact ⟨x, y2, v, rfl, (by have h1 := Hx.out; have h2 := Hy.out; have h3 := Hv.out; have h4 := Hy2.out; unfold RvIn; omega), K8.out, C8.out⟩
    · by_cases h2 : q = 2
      · subst h2
        go_wp2_with fail
        (with_reducible refine (pickIn (-1) 16 3 (by omega) (by omega) _ p a len cap C5.out #[.int .i64 (-1), .int .i64 15, .int .i64 16] rfl (by decide)).mono ?_)
        rintro e w6 ⟨y2, rfl, hx0, hx1, hk, hc⟩
        have K6 := Lib.hid (K5.out.trans hk)
        have C6 := Lib.hid (hc)
        have Z6 := Lib.hid (drk.bx_keep Z5.out hk (by have hlX := LX.out; have h0 := P0.out; first | omega | (simp <;> omega)))
        have X6 := Lib.hid (drk.bx_keep X5.out hk (by have hlX := LX.out; have h0 := P0.out; first | omega | (simp <;> omega)))
        clear hk hc  K5 C5 Z5 X5
        have Hy2 := Lib.hid (show -1 ≤ y2 ∧ y2 ≤ 16 from ⟨hx0, hx1⟩)
        clear hx0 hx1
        have cX2 : w6.cell? ⟨b, 2, none⟩ = some (.int .i64 v) := X6.out.cell 2
        have fX2 : w6.frozen? ⟨b, 2, none⟩ = false := X6.out.free 2
        go_upto_region 9 with fail
        clear cX2 fX2
        have BB := Lib.hid (show Below w.heap.size w6 (w6.setCell ⟨b, 2, none⟩ (.int .i64 y2)) from (Below.refl _ _).setCell (p := ⟨b, 2, none⟩) (by have hlX := LX.out; have h0 := P0.out; (try simp only []); omega) _)
        have hWW : (w6.setCell ⟨b, 2, none⟩ (.int .i64 y2)) = (w6.setCell ⟨b, 2, none⟩ (.int .i64 y2)) := rfl
        obtain ⟨w7, hW⟩ : ∃ w9, (w6.setCell ⟨b, 2, none⟩ (.int .i64 y2)) = w9 := ⟨_, rfl⟩
        rw [hW]
        clear hWW
        have K7 := Lib.hid (drk.later K6.out (Nat.le_refl _) (hW ▸ BB.out))
        have C7 := Lib.hid (drk.cur_later CW.out K6.out C6.out (Nat.le_refl _) (hW ▸ BB.out))
        have Z7 := Lib.hid (show Bx 25 w7 (w.heap.size) #[.int .i64 0, .int .i64 0, .int .i64 0] by rw [← hW]; exact (Z6.out.other (by have hlX := LX.out; have h0 := P0.out; first | omega | (simp <;> omega)) _ _))
        have X7 := Lib.hid (show Bx 25 w7 (b) #[.int .i64 x, .int .i64 y, .int .i64 y2] by rw [← hW]; exact (X6.out.set 2 _))
        clear hW BB K6 C6 Z6 X6
        go_wp2_with (first | (refine stw.list_load rfl 25 _ rfl (b) rfl 25 _ X7.out Try.underlying25 rfl szR ?_) | (refine stw.list_store rfl 25 _ _ rfl (w.heap.size) #[.int .i64 x, .int .i64 y, .int .i64 y2] rfl rfl 25 _ Z7.out rfl szR (oneR _ _ _) ?_; intro wz8 hz))
        have K8 := Lib.hid (drk.later K7.out (by have hlX := LX.out; have h0 := P0.out; first | omega | (simp <;> omega)) hz.below)
        have C8 := Lib.hid (drk.cur_later CW.out K7.out C7.out (by have hlX := LX.out; have h0 := P0.out; first | omega | (simp <;> omega)) hz.below)
        have Z8 := Lib.hid (hz.box)
        have X8 := Lib.hid (hz.keep X7.out (by have hlX := LX.out; have h0 := P0.out; first | omega | (simp <;> omega)))
        clear hz K7 C7 Z7 X7
        (try simp only [Exit.inBlock, Exit.then])
        refine bodyPost_ret (v := .agg #[.int .i64 x, .int .i64 y, .int .i64 y2]) ?_ rfl ?_
        · rw [results_cell1 rfl]
          exact stw.back Z8.out Try.underlying25 rfl szR
        · exact ⟨x, y, y2, rfl, (by have h1 := Hx.out; have h2 := Hy.out; have h3 := Hv.out; have h4 := Hy2.out; unfold RvIn; omega), K8.out, C8.out⟩
      · have e0 : (q == 0) = false := by simpa using h0
        have e1 : (q == 1) = false := by simpa using h1
        have e2 : (q == 2) = false := by simpa using h2
        go_wp2_with (first | (refine stw.list_load rfl 25 _ rfl (b) rfl 25 _ X5.out Try.underlying25 rfl szR ?_) | (refine stw.list_store rfl 25 _ _ rfl (w.heap.size) #[.int .i64 x, .int .i64 y, .int .i64 v] rfl rfl 25 _ Z5.out rfl szR (oneR _ _ _) ?_; intro wz6 hz))
        have K6 := Lib.hid (drk.later K5.out (by have hlX := LX.out; have h0 := P0.out; first | omega | (simp <;> omega)) hz.below)
        have C6 := Lib.hid (drk.cur_later CW.out K5.out C5.out (by have hlX := LX.out; have h0 := P0.out; first | omega | (simp <;> omega)) hz.below)
        have Z6 := Lib.hid (hz.box)
        have X6 := Lib.hid (hz.keep X5.out (by have hlX := LX.out; have h0 := P0.out; first | omega | (simp <;> omega)))
        clear hz K5 C5 Z5 X5
        (try simp only [Exit.inBlock, Exit.then])
        refine bodyPost_ret (v := .agg #[.int .i64 x, .int .i64 y, .int .i64 v]) ?_ rfl ?_
        · rw [results_cell1 rfl]
          exact stw.back Z6.out Try.underlying25 rfl szR
        · exact ⟨x, y, v, rfl, (by have h1 := Hx.out; have h2 := Hy.out; have h3 := Hv.out; unfold RvIn; omega), K6.out, C6.out⟩
set_option maxRecDepth 100000 in
set_option maxHeartbeats 4000000 in
theorem drawHf (w : World) (a : Option Addr) (len cap : Nat) (hc : Code w w.heap.size a len) :
    Calls Try.prog 13 #[.slice a len cap] w (HfPost w) := by
  have HC := Lib.hid hc
  clear hc
  go_enter Try.func13, Try.ntmps13
  go_wp2_with fail
  obtain ⟨w0, hW⟩ : ∃ w0, (w.alloc (.cells #[.int .i64 0, .int .i64 0, .int .i64 0] 25)).alloc (.cells #[.int .i64 0, .int .i64 0, .int .i64 0, .int .i64 0, .int .i64 0, .bool false, .bool false, .int .i64 0, .slice none 0 0] 27) = w0 := ⟨_, rfl⟩
  rw [hW]
  have B0 := Lib.hid (show Below w.heap.size w w0 by rw [← hW]; exact ((Below.refl _ _).alloc (by simp <;> omega) _).alloc (by simp <;> omega) _)
  have X0 := Lib.hid (show Bx 25 w0 (w.heap.size) #[.int .i64 0, .int .i64 0, .int .i64 0] by
      rw [← hW]
      have hh := Bx.made 25 w #[.int .i64 0, .int .i64 0, .int .i64 0]
      exact (hh.below (below_box _ _)))
  have M0 := Lib.hid (show Bx 27 w0 (w.heap.size + 1) #[.int .i64 0, .int .i64 0, .int .i64 0, .int .i64 0, .int .i64 0, .bool false, .bool false, .int .i64 0, .slice none 0 0] by
      rw [← hW]
      have hh : Bx 27 ((w.alloc (.cells #[.int .i64 0, .int .i64 0, .int .i64 0] 25)).alloc (.cells #[.int .i64 0, .int .i64 0, .int .i64 0, .int .i64 0, .int .i64 0, .bool false, .bool false, .int .i64 0, .slice none 0 0] 27)) (w.heap.size + 1) #[.int .i64 0, .int .i64 0, .int .i64 0, .int .i64 0, .int .i64 0, .bool false, .bool false, .int .i64 0, .slice none 0 0] := by have hh := Bx.made 27 (w.alloc (.cells #[.int .i64 0, .int .i64 0, .int .i64 0] 25)) #[.int .i64 0, .int .i64 0, .int .i64 0, .int .i64 0, .int .i64 0, .bool false, .bool false, .int .i64 0, .slice none 0 0]; simpa using hh
      exact hh)
  clear hW
  have CC := Lib.hid (code_later HC.out B0.out)
  (with_reducible refine (new _ a len cap CC.out).mono ?_)
  rintro e wb ⟨rfl, hk, hs, hc⟩
  have HB := Lib.hid (keep_bel B0.out B0.out.size hk)
  obtain ⟨p, hp⟩ : ∃ p, w0.heap.size = p := ⟨_, rfl⟩
  have LP := Lib.hid (show w.heap.size < p ∧ w.heap.size + 1 < p ∧ p < wb.heap.size by have h1 := X0.out.lt; have h2 := M0.out.lt; omega)
  rw [hp] at hk hs hc ⊢
  have X1 := Lib.hid (bx_keep X0.out hk (by have h1 := LP.out; omega))
  have M1 := Lib.hid (bx_keep M0.out hk (by have h1 := LP.out; omega))
  have P0 := Lib.hid hs
  have C1 := Lib.hid hc
  have CW := Lib.hid hc
  have K1 := Lib.hid (Keep.refl p wb)
  clear hk hs hc CC hp B0 X0 M0
  go_wp2_with fail
  (with_reducible refine (anyRs _ p a len cap C1.out).mono ?_)
  rintro e w2 ⟨u, h, b, rfl, hb, hk, hc⟩
  have HR := Lib.hid hb
  have K2 := Lib.hid (K1.out.trans hk)
  have C2 := Lib.hid (hc)
  have X2 := Lib.hid (drk.bx_keep X1.out hk (by have hlP := LP.out; have h0 := P0.out; first | omega | (simp <;> omega)))
  have M2 := Lib.hid (drk.bx_keep M1.out hk (by have hlP := LP.out; have h0 := P0.out; first | omega | (simp <;> omega)))
  clear hk hc hb K1 C1 X1 M1
  obtain ⟨br, hbb⟩ : ∃ b, w2.heap.size = b := ⟨_, rfl⟩
  go_wp2_with fail
  generalize hW : w2.alloc (.cells #[.int .i64 u, .int .i64 h, .int .i64 b] 25) = w3
  have LR := Lib.hid (show wb.heap.size ≤ br ∧ w.heap.size < br ∧ w.heap.size + 1 < br by have h1 := K2.out.size; have h2X := X2.out.lt; have h2M := M2.out.lt; have h3 := hbb; omega)
  have R3 := Lib.hid (show Bx 25 w3 br #[.int .i64 u, .int .i64 h, .int .i64 b] by rw [← hW, ← hbb]; exact Bx.made _ _ _)
  have hb : Below w2.heap.size w2 w3 := by rw [← hW]; exact below_box _ _
  (try rw [hbb])
  clear hW hbb
  have K3 := Lib.hid (drk.later K2.out K2.out.size hb)
  have C3 := Lib.hid (drk.cur_below C2.out hb)
  have X3 := Lib.hid (X2.out.below hb)
  have M3 := Lib.hid (M2.out.below hb)
  clear hb K2 C2 X2 M2
  (with_reducible refine (anyFrm _ p a len cap C3.out).mono ?_)
  rintro e w4 ⟨k, f, t, s, g, m, r, d, A, n, c, zs, rfl, hs, hn, ho, hk, hc⟩
  have HS := Lib.hid hs
  have HZ := Lib.hid (show zs.length = n from ho.len)
  have K4 := Lib.hid (K3.out.trans hk)
  have C4 := Lib.hid (hc)
  have X4 := Lib.hid (drk.bx_keep X3.out hk (by have hlP := LP.out; have hlR := LR.out; have h0 := P0.out; first | omega | (simp <;> omega)))
  have M4 := Lib.hid (drk.bx_keep M3.out hk (by have hlP := LP.out; have hlR := LR.out; have h0 := P0.out; first | omega | (simp <;> omega)))
  have R4 := Lib.hid (drk.bx_keep R3.out hk (by have hlP := LP.out; have hlR := LR.out; have h0 := P0.out; first | omega | (simp <;> omega)))
  clear hk hc hs hn ho K3 C3 X3 M3 R3
  obtain ⟨bf, hbb⟩ : ∃ b, w4.heap.size = b := ⟨_, rfl⟩
  go_upto_region 4 with fail
  generalize hW : w4.alloc (.cells #[.int .i64 k, .int .i64 f, .int .i64 t, .int .i64 s, .int .i64 g, .bool m, .bool r, .int .i64 d, .slice A n c] 27) = w5
  have LF := Lib.hid (show wb.heap.size ≤ bf ∧ w.heap.size < bf ∧ w.heap.size + 1 < bf ∧ br < bf by have h1 := K4.out.size; have h2X := X4.out.lt; have h2M := M4.out.lt; have h2R := R4.out.lt; have h3 := hbb; omega)
  have F5 := Lib.hid (show Bx 27 w5 bf #[.int .i64 k, .int .i64 f, .int .i64 t, .int .i64 s, .int .i64 g, .bool m, .bool r, .int .i64 d, .slice A n c] by rw [← hW, ← hbb]; exact Bx.made _ _ _)
  have hb : Below w4.heap.size w4 w5 := by rw [← hW]; exact below_box _ _
  (try rw [hbb])
  clear hW hbb
  have K5 := Lib.hid (drk.later K4.out K4.out.size hb)
  have C5 := Lib.hid (drk.cur_below C4.out hb)
  have X5 := Lib.hid (X4.out.below hb)
  have M5 := Lib.hid (M4.out.below hb)
  have R5 := Lib.hid (R4.out.below hb)
  clear hb K4 C4 X4 M4 R4
  have cF2 : w5.cell? ⟨bf, 2, none⟩ = some (.int .i64 t) := F5.out.cell 2
  go_wp2_with fail
  clear cF2
  (with_reducible refine (pickIn (-100000) 100000 5 (by omega) (by omega) _ p a len cap C5.out #[.int .i64 t, .int .i64 0, .int .i64 1, .int .i64 7, .int .i64 9] rfl (by have h1 := HS.out.2.2.1; unfold Small at h1; simp [okInt]; omega)).mono ?_)
  rintro e w6 ⟨y, rfl, hx0, hx1, hk, hc⟩
  have K6 := Lib.hid (K5.out.trans hk)
  have C6 := Lib.hid (hc)
  have X6 := Lib.hid (drk.bx_keep X5.out hk (by have hlP := LP.out; have hlR := LR.out; have hlF := LF.out; have h0 := P0.out; first | omega | (simp <;> omega)))
  have M6 := Lib.hid (drk.bx_keep M5.out hk (by have hlP := LP.out; have hlR := LR.out; have hlF := LF.out; have h0 := P0.out; first | omega | (simp <;> omega)))
  have R6 := Lib.hid (drk.bx_keep R5.out hk (by have hlP := LP.out; have hlR := LR.out; have hlF := LF.out; have h0 := P0.out; first | omega | (simp <;> omega)))
  have F6 := Lib.hid (drk.bx_keep F5.out hk (by have hlP := LP.out; have hlR := LR.out; have hlF := LF.out; have h0 := P0.out; first | omega | (simp <;> omega)))
  clear hk hc  K5 C5 X5 M5 R5 F5
  clear hx0 hx1
  go_wp2_with fail
  refine reg.region_free (stw.E3 (drk.Dr p a len cap) [(6, ⟨25, w.heap.size, #[.int .i64 u, .int .i64 h, .int .i64 b]⟩), (8, ⟨27, w.heap.size + 1, #[.int .i64 k, .int .i64 f, .int .i64 t, .int .i64 s, .int .i64 g, .bool m, .bool r, .int .i64 d, .slice A n c]⟩)]) 27 [(6, 21), (8, 23)] [some [], some [], some [], some [], some [], some [(3, 24), (4, 25)], some [(0, 21)], some [(1, 22)], some [(2, 23)], some [(5, 26)]] [(0, 21), (1, 22), (2, 23), (3, 24), (4, 25), (5, 26), (7, 3), (9, 5)]
    (fun w' => Cur w' p a len cap ∧ stw.KS [p, w.heap.size, w.heap.size + 1] wb w' ∧ Bx 25 w' (br) #[.int .i64 u, .int .i64 h, .int .i64 b] ∧ Bx 27 w' (bf) #[.int .i64 k, .int .i64 f, .int .i64 t, .int .i64 s, .int .i64 g, .bool m, .bool r, .int .i64 d, .slice A n c] ∧ stw.Lies 25 (w.heap.size) 3 w' ∧ stw.Lies 27 (w.heap.size + 1) 9 w' ∧ True)
    (stw.r3 (drk.Dr p a len cap) [(6, ⟨25, w.heap.size, #[.int .i64 u, .int .i64 h, .int .i64 b]⟩), (8, ⟨27, w.heap.size + 1, #[.int .i64 k, .int .i64 f, .int .i64 t, .int .i64 s, .int .i64 g, .bool m, .bool r, .int .i64 d, .slice A n c]⟩)] [stw.is3 (drk.Dr p a len cap) [(6, ⟨25, w.heap.size, #[.int .i64 u, .int .i64 h, .int .i64 b]⟩), (8, ⟨27, w.heap.size + 1, #[.int .i64 k, .int .i64 f, .int .i64 t, .int .i64 s, .int .i64 g, .bool m, .bool r, .int .i64 d, .slice A n c]⟩)] (.agg #[.int .i64 u, .int .i64 h, .int .i64 b]), stw.is3 (drk.Dr p a len cap) [(6, ⟨25, w.heap.size, #[.int .i64 u, .int .i64 h, .int .i64 b]⟩), (8, ⟨27, w.heap.size + 1, #[.int .i64 k, .int .i64 f, .int .i64 t, .int .i64 s, .int .i64 g, .bool m, .bool r, .int .i64 d, .slice A n c]⟩)] (.int .i64 y), stw.is3 (drk.Dr p a len cap) [(6, ⟨25, w.heap.size, #[.int .i64 u, .int .i64 h, .int .i64 b]⟩), (8, ⟨27, w.heap.size + 1, #[.int .i64 k, .int .i64 f, .int .i64 t, .int .i64 s, .int .i64 g, .bool m, .bool r, .int .i64 d, .slice A n c]⟩)] (.agg #[.int .i64 k, .int .i64 f, .int .i64 t, .int .i64 s, .int .i64 g, .bool m, .bool r, .int .i64 d, .slice A n c]), stw.is3 (drk.Dr p a len cap) [(6, ⟨25, w.heap.size, #[.int .i64 u, .int .i64 h, .int .i64 b]⟩), (8, ⟨27, w.heap.size + 1, #[.int .i64 k, .int .i64 f, .int .i64 t, .int .i64 s, .int .i64 g, .bool m, .bool r, .int .i64 d, .slice A n c]⟩)] (.pointer (some ⟨p, 0, none⟩)), stw.blk3 (drk.Dr p a len cap) [(6, ⟨25, w.heap.size, #[.int .i64 u, .int .i64 h, .int .i64 b]⟩), (8, ⟨27, w.heap.size + 1, #[.int .i64 k, .int .i64 f, .int .i64 t, .int .i64 s, .int .i64 g, .bool m, .bool r, .int .i64 d, .slice A n c]⟩)] (fun b => b ≠ p) (fun h hb hX => drk.bx_keep hX h.1 hb) (fun N => .slice (some ⟨N, 0, none⟩) 8 8) 3 #[.int .i64 (-1), .int .i64 0, .int .i64 3, .int .i64 9, .int .i64 14, .int .i64 20, .int .i64 999999998999, .int .i64 999999999000], stw.val3 (drk.Dr p a len cap) [(6, ⟨25, w.heap.size, #[.int .i64 u, .int .i64 h, .int .i64 b]⟩), (8, ⟨27, w.heap.size + 1, #[.int .i64 k, .int .i64 f, .int .i64 t, .int .i64 s, .int .i64 g, .bool m, .bool r, .int .i64 d, .slice A n c]⟩)] (fun v => ∃ x : Int, v = .int .i64 x ∧ (-1) ≤ x ∧ x ≤ 999999999000), stw.val3 (drk.Dr p a len cap) [(6, ⟨25, w.heap.size, #[.int .i64 u, .int .i64 h, .int .i64 b]⟩), (8, ⟨27, w.heap.size + 1, #[.int .i64 k, .int .i64 f, .int .i64 t, .int .i64 s, .int .i64 g, .bool m, .bool r, .int .i64 d, .slice A n c]⟩)] fun _ => True, stw.is3 (drk.Dr p a len cap) [(6, ⟨25, w.heap.size, #[.int .i64 u, .int .i64 h, .int .i64 b]⟩), (8, ⟨27, w.heap.size + 1, #[.int .i64 k, .int .i64 f, .int .i64 t, .int .i64 s, .int .i64 g, .bool m, .bool r, .int .i64 d, .slice A n c]⟩)] (.int .i64 y), stw.val3 (drk.Dr p a len cap) [(6, ⟨25, w.heap.size, #[.int .i64 u, .int .i64 h, .int .i64 b]⟩), (8, ⟨27, w.heap.size + 1, #[.int .i64 k, .int .i64 f, .int .i64 t, .int .i64 s, .int .i64 g, .bool m, .bool r, .int .i64 d, .slice A n c]⟩)] fun _ => True, stw.val3 (drk.Dr p a len cap) [(6, ⟨25, w.heap.size, #[.int .i64 u, .int .i64 h, .int .i64 b]⟩), (8, ⟨27, w.heap.size + 1, #[.int .i64 k, .int .i64 f, .int .i64 t, .int .i64 s, .int .i64 g, .bool m, .bool r, .int .i64 d, .slice A n c]⟩)] (fun v => ∃ x : Int, v = .int .i64 x ∧ (-1) ≤ x ∧ x ≤ 999999999000)])
    (by kernel_rfl) (by kernel_rfl) rfl
    (fun i w1 w2 hc he => he.cases (fun hb => ⟨hb.2, hc.2.1.trans (stw.KS.keep hb.1 (by simp)), drk.bx_keep hc.2.2.1 hb.1 (by have hlP := LP.out; have hlR := LR.out; have hlF := LF.out; have h0 := P0.out; first | omega | (simp <;> omega)), drk.bx_keep hc.2.2.2.1 hb.1 (by have hlP := LP.out; have hlR := LR.out; have hlF := LF.out; have h0 := P0.out; first | omega | (simp <;> omega)), (hc.2.2.2.2.1).same (hb.1.block _ (hc.2.2.2.2.1).lt (by have hlP := LP.out; have hlR := LR.out; have hlF := LF.out; have h0 := P0.out; first | omega | (simp <;> omega))), (hc.2.2.2.2.2.1).same (hb.1.block _ (hc.2.2.2.2.2.1).lt (by have hlP := LP.out; have hlR := LR.out; have hlF := LF.out; have h0 := P0.out; first | omega | (simp <;> omega))), trivial⟩) (fun x hx hp => by
      simp only [List.mem_cons, List.not_mem_nil, or_false] at hx
      rcases hx with rfl | rfl
      · have hp : stw.Put 25 w1 (w.heap.size) #[.int .i64 u, .int .i64 h, .int .i64 b] w2 := hp; exact ⟨stw.cur_put HC.out hc.1 hp (by have hlP := LP.out; have hlR := LR.out; have hlF := LF.out; have h0 := P0.out; first | omega | (simp <;> omega)) (by have hlP := LP.out; have hlR := LR.out; have hlF := LF.out; have h0 := P0.out; first | omega | (simp <;> omega)), hc.2.1.trans (stw.KS.put hp (by simp)), hp.keep hc.2.2.1 (by have hlP := LP.out; have hlR := LR.out; have hlF := LF.out; have h0 := P0.out; first | omega | (simp <;> omega)), hp.keep hc.2.2.2.1 (by have hlP := LP.out; have hlR := LR.out; have hlF := LF.out; have h0 := P0.out; first | omega | (simp <;> omega)), (hc.2.2.2.2.1).put hp (fun e => ⟨rfl, rfl⟩), (hc.2.2.2.2.2.1).put hp (fun e => (by have hlP := LP.out; have hlR := LR.out; have hlF := LF.out; have h0 := P0.out; first | omega | (exfalso; simp at e; omega))), trivial⟩
      · have hp : stw.Put 27 w1 (w.heap.size + 1) #[.int .i64 k, .int .i64 f, .int .i64 t, .int .i64 s, .int .i64 g, .bool m, .bool r, .int .i64 d, .slice A n c] w2 := hp; exact ⟨stw.cur_put HC.out hc.1 hp (by have hlP := LP.out; have hlR := LR.out; have hlF := LF.out; have h0 := P0.out; first | omega | (simp <;> omega)) (by have hlP := LP.out; have hlR := LR.out; have hlF := LF.out; have h0 := P0.out; first | omega | (simp <;> omega)), hc.2.1.trans (stw.KS.put hp (by simp)), hp.keep hc.2.2.1 (by have hlP := LP.out; have hlR := LR.out; have hlF := LF.out; have h0 := P0.out; first | omega | (simp <;> omega)), hp.keep hc.2.2.2.1 (by have hlP := LP.out; have hlR := LR.out; have hlF := LF.out; have h0 := P0.out; first | omega | (simp <;> omega)), (hc.2.2.2.2.1).put hp (fun e => (by have hlP := LP.out; have hlR := LR.out; have hlF := LF.out; have h0 := P0.out; first | omega | (exfalso; simp at e; omega))), (hc.2.2.2.2.2.1).put hp (fun e => ⟨rfl, rfl⟩), trivial⟩))
    (stw.r3_keep (fun b => b ≠ p) (fun h hb hX => drk.bx_keep hX h.1 hb) (by intro x hx; simp only [List.mem_cons, List.not_mem_nil, or_false] at hx; rcases hx with rfl | rfl <;> (have hlP := LP.out; have hlR := LR.out; have hlF := LF.out; have h0 := P0.out; dsimp only; omega)) (by intro x hx y hy hxy; simp only [List.mem_cons, List.not_mem_nil, or_false] at hx hy; rcases hx with rfl | rfl <;> rcases hy with rfl | rfl <;> first | exact absurd rfl hxy | (have hlP := LP.out; have hlR := LR.out; have hlF := LF.out; have h0 := P0.out; dsimp only; omega)) _) (⟨show Cur w6.drew p a len cap from C6.out, (stw.KS.keep K6.out (by simp)).trans (stw.KS.keep (Keep.drew (Keep.refl p _)) (by simp)), R6.out.same rfl, F6.out.same rfl, (stw.Lies.of X6.out).same rfl, (stw.Lies.of M6.out).same rfl, trivial⟩) (by kernel_rfl) ⟨?_, ?_, ?_, ?_, ?_, ?_, ?_, ?_, ?_, ?_, trivial⟩ ?_
  · refine fun w8 hc  K hK => ?_
    (try simp only [Act.put, List.setIfInBounds_toArray, List.set_cons_zero, List.set_cons_succ])
    rw [if_pos (by rfl)]
    refine stw.wp_load_bx 25 _ rfl (br) rfl 25 _ hc.2.2.1 Try.underlying25 rfl szR ?_
    exact hK _ _ (stw.r3_ne rfl rfl) (stw.e3_ne rfl (stw.dr_same hc.1))
  · refine fun w8 hc  K hK => ?_
    (try simp only [Act.put, List.setIfInBounds_toArray, List.set_cons_zero, List.set_cons_succ])
    go_simp
    exact hK (.int .i64 y) _ (stw.r3_ne rfl rfl) (stw.e3_ne rfl (stw.dr_same hc.1))
  · refine fun w8 hc  K hK => ?_
    (try simp only [Act.put, List.setIfInBounds_toArray, List.set_cons_zero, List.set_cons_succ])
    rw [if_pos (by rfl)]
    refine stw.wp_load_bx 27 _ rfl (bf) rfl 27 _ hc.2.2.2.1 Try.underlying27 rfl szM ?_
    exact hK _ _ (stw.r3_ne rfl rfl) (stw.e3_ne rfl (stw.dr_same hc.1))
  · refine fun w8 hc  K hK => ?_
    (try simp only [Act.put, List.setIfInBounds_toArray, List.set_cons_zero, List.set_cons_succ])
    go_simp
    exact hK (.pointer (some ⟨p, 0, none⟩)) _ (stw.r3_ne rfl rfl) (stw.e3_ne rfl (stw.dr_same hc.1))
  · refine fun w8 hc  K hK => ?_
    (try simp only [Act.put, List.setIfInBounds_toArray, List.set_cons_zero, List.set_cons_succ])
    have hpl := hc.1.lt
    have hl0 := (hc.2.2.2.2.1).lt ; have hl1 := (hc.2.2.2.2.2.1).lt
    go_simp
    exact hK (.slice (some ⟨w8.heap.size, 0, none⟩) 8 8) _ (stw.r3_ne rfl ⟨w8.heap.size, rfl, by omega, (by intro x hx; simp only [List.mem_cons, List.not_mem_nil, or_false] at hx; rcases hx with rfl | rfl <;> (dsimp only; omega)), Bx.made _ _ _⟩) (stw.e3_ne rfl (stw.dr_below hc.1 (below_box _ _)))
  · refine fun w8 hc v3 h3 v4 h4 K hK => ?_
    have h3 := stw.r3_out rfl h3
    obtain rfl : v3 = .pointer (some ⟨p, 0, none⟩) := h3
    have h4 := stw.r3_out rfl h4
    obtain ⟨N, rfl, hN, hNt, hXN⟩ := h4
    (try simp only [Act.put, List.setIfInBounds_toArray, List.set_cons_zero, List.set_cons_succ])
    go_simp
    (with_reducible refine (stw.pickAt (-1) 999999999000 8 (by omega) (by omega) _ p N a len cap #[.int .i64 (-1), .int .i64 0, .int .i64 3, .int .i64 9, .int .i64 14, .int .i64 20, .int .i64 999999998999, .int .i64 999999999000] 3 hXN hN rfl (by decide) hc.1).mono ?_)
    rintro e w3 ⟨x, rfl, h1, h2, hk, hcc⟩
    exact hK (.int .i64 x) _ (stw.r3_ne rfl ⟨x, rfl, h1, h2⟩) (stw.e3_ne rfl ⟨hk, hcc⟩)
  · refine fun w8 hc v0 h0 K hK => ?_
    have h0 := stw.r3_out rfl h0
    obtain rfl : v0 = .agg #[.int .i64 u, .int .i64 h, .int .i64 b] := h0
    (try simp only [Act.put, List.setIfInBounds_toArray, List.set_cons_zero, List.set_cons_succ])
    obtain ⟨cur, hcur, hXc⟩ := hc.2.2.2.2.1
    refine stw.step_store rfl 25 _ _ rfl (w.heap.size) #[.int .i64 u, .int .i64 h, .int .i64 b] rfl rfl 25 _ hXc (by rw [hcur]; rfl) szR (oneR _ _ _) ?_
    intro wz hz
    exact hK undef _ (stw.r3_put rfl hz.box) (stw.e3_put rfl hz)
  · refine fun w8 hc v1 h1 K hK => ?_
    have h1 := stw.r3_out rfl h1
    obtain rfl : v1 = .int .i64 y := h1
    (try simp only [Act.put, List.setIfInBounds_toArray, List.set_cons_zero, List.set_cons_succ])
    go_simp
    exact hK (.int .i64 y) _ (stw.r3_ne rfl rfl) (stw.e3_ne rfl (stw.dr_same hc.1))
  · refine fun w8 hc v2 h2 K hK => ?_
    have h2 := stw.r3_out rfl h2
    obtain rfl : v2 = .agg #[.int .i64 k, .int .i64 f, .int .i64 t, .int .i64 s, .int .i64 g, .bool m, .bool r, .int .i64 d, .slice A n c] := h2
    (try simp only [Act.put, List.setIfInBounds_toArray, List.set_cons_zero, List.set_cons_succ])
    obtain ⟨cur, hcur, hXc⟩ := hc.2.2.2.2.2.1
    refine stw.step_store rfl 27 _ _ rfl (w.heap.size + 1) #[.int .i64 k, .int .i64 f, .int .i64 t, .int .i64 s, .int .i64 g, .bool m, .bool r, .int .i64 d, .slice A n c] rfl rfl 27 _ hXc (by rw [hcur]; rfl) szM (oneM _ _ _ _ _ _ _ _ _ _ _) ?_
    intro wz hz
    exact hK undef _ (stw.r3_put rfl hz.box) (stw.e3_put rfl hz)
  · refine fun w8 hc v5 h5 K hK => ?_
    have h5 := stw.r3_out rfl h5
    obtain ⟨v5, rfl, hx0, hx1⟩ := h5
    (try simp only [Act.put, List.setIfInBounds_toArray, List.set_cons_zero, List.set_cons_succ])
    go_simp
    exact hK (.int .i64 v5) _ (stw.r3_ne rfl ⟨v5, rfl, hx0, hx1⟩) (stw.e3_ne rfl (stw.dr_same hc.1))
  refine fun w9 hc v0 h0 v1 h1 v2 h2 v3 h3 v4 h4 v5 h5 v7 h7 v9 h9 => ?_
  have h0 := stw.r3_out rfl h0
  obtain rfl : v0 = .agg #[.int .i64 u, .int .i64 h, .int .i64 b] := h0
  have h1 := stw.r3_out rfl h1
  obtain rfl : v1 = .int .i64 y := h1
  have h2 := stw.r3_out rfl h2
  obtain rfl : v2 = .agg #[.int .i64 k, .int .i64 f, .int .i64 t, .int .i64 s, .int .i64 g, .bool m, .bool r, .int .i64 d, .slice A n c] := h2
  have h3 := stw.r3_out rfl h3
  obtain rfl : v3 = .pointer (some ⟨p, 0, none⟩) := h3
  have h4 := stw.r3_out rfl h4
  obtain ⟨N, rfl, hN, hNt, hXN⟩ := h4
  have h5 := stw.r3_out rfl h5
  obtain ⟨v5, rfl, hx0, hx1⟩ := h5
  have h7 := stw.r3_out rfl h7
  obtain rfl : v7 = .int .i64 y := h7
  have h9 := stw.r3_out rfl h9
  obtain ⟨v, rfl, hx0, hx1⟩ := h9
  (try simp only [reg.Obs])
  intro hrf
  have hrf2 := hrf
  clear hrf
  have g6 := stw.r3_got rfl (hrf2 (6, 21) (by simp) rfl)
  have g8 := stw.r3_got rfl (hrf2 (8, 23) (by simp) rfl)
  clear hrf2
  (try simp only [Act.put, List.setIfInBounds_toArray, List.set_cons_zero, List.set_cons_succ])
  have C7 := Lib.hid hc.1
  have H7 := Lib.hid hc.2.1
  have R7 := Lib.hid hc.2.2.1
  have F7 := Lib.hid hc.2.2.2.1
  have X7 := Lib.hid (show Bx 25 w9 (w.heap.size) #[.int .i64 u, .int .i64 h, .int .i64 b] from g6)
  have M7 := Lib.hid (show Bx 27 w9 (w.heap.size + 1) #[.int .i64 k, .int .i64 f, .int .i64 t, .int .i64 s, .int .i64 g, .bool m, .bool r, .int .i64 d, .slice A n c] from g8)
  clear hc g6 g8 K6 C6 X6 M6 R6 F6
  have HV := Lib.hid (And.intro hx0 hx1)
  clear hx0 hx1 hN hNt hXN
  go_wp2_with fail
  (try simp only [Exit.inBlock, Exit.then])
  refine bodyPost_ret (v := .tuple #[.agg #[.int .i64 u, .int .i64 h, .int .i64 b], .int .i64 y, .agg #[.int .i64 k, .int .i64 f, .int .i64 t, .int .i64 s, .int .i64 g, .bool m, .bool r, .int .i64 d, .slice A n c], .int .i64 v]) ?_ rfl ?_
  · rw [results_ctct rfl]
    refine back_to X7.out Try.underlying25 rfl szR ?_
    exact back_to M7.out Try.underlying27 rfl szM rfl
  · exact ⟨u, h, b, y, k, f, t, s, g, m, r, d, A, n, c, zs, v, rfl, HR.out, HS.out, HZ.out, HV.out, HB.out.trans (H7.out.below (by have h1 := LP.out; intro x hx; simp only [List.mem_cons, List.not_mem_nil, or_false] at hx; rcases hx with rfl | rfl | rfl <;> omega) HB.out.size)⟩
end Go.Proofs.Ytebbnopconbnlaa.draw
