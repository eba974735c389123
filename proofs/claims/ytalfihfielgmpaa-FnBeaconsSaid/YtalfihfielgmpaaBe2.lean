/- Announcements as closures, TimContains and SetTim, program and specification. Condition: none. -/
import Derived.Test.YtalfihfielgmpaaBe1
import Derived.Laws.EntriesVeiled
namespace Go.Proofs.Ytalfihfielgmpaa.be
open Go.RowKit sl harn rng bx stw bcm
set_option linter.unusedVariables false
set_option linter.unusedSimpArgs false

theorem szN : (Try.prog.info? 58).map (·.size) = some 7 := by kernel_rfl
theorem oneN (f s c d : Int) (g : Bool) (t : Int) (b : Nat) : (#[.int .i64 f, .int .i64 s, .int .i64 c, .int .i64 d, .bool g, .int .i64 t, .func (.func 68) #[] #[.pointer (some ⟨b, 0, none⟩)]] : Array Value).all (·.oneCell') = true :=
  all_oneCell_toArray (cs := [.int .i64 f, .int .i64 s, .int .i64 c, .int .i64 d, .bool g, .int .i64 t, .func (.func 68) #[] #[.pointer (some ⟨b, 0, none⟩)]]) (by intro v hv; simp only [List.mem_cons, List.not_mem_nil, or_false] at hv; rcases hv with rfl | rfl | rfl | rfl | rfl | rfl | rfl <;> rfl)
theorem field1 (f s c d : Int) (g : Bool) (t : Int) (q : Nat) (W : World) : (Instr.field 58 (.agg #[.int .i64 f, .int .i64 s, .int .i64 c, .int .i64 d, .bool g, .int .i64 t, .func (.func 68) #[] #[.pointer (some ⟨q, 0, none⟩)]]) 1).run Try.prog W = .ok (.func (.func 68) #[] #[.pointer (some ⟨q, 0, none⟩)]) W := by kernel_rfl
set_option maxRecDepth 100000 in
set_option maxHeartbeats 4000000 in
theorem call1 (i : Int) (v : Bool) (f s c d : Int) (g : Bool) (t : Int) (q : Nat) (w : World) (hX : Bx 25 w q #[.int .i64 f, .int .i64 s, .int .i64 c, .int .i64 d, .bool g, .int .i64 t]) (h : tc ⟨f, s, c, d, g, t⟩ i = v) :
    Calls Try.prog 68 #[.int .i64 i, .pointer (some ⟨q, 0, none⟩)] w (fun e w' => e = .returned (.bool v) ∧ w = w') := by
  have HX := Lib.hid hX
  obtain ⟨r, hr⟩ : ∃ x, decide (St i) = x := ⟨_, rfl⟩
  have HR := Lib.hid hr
  have H := Lib.hid h
  clear hr h hX
  have BS0 := Lib.hid (Below.refl w.heap.size w)
  cases r with
  | true =>
    have hs : St i := of_decide_eq_true HR.out
    obtain ⟨k, rfl⟩ : ∃ k : Nat, i = k := ⟨i.toNat, by unfold St at hs; omega⟩
    have HS := Lib.hid (show k ≤ 15 by unfold St at hs; omega)
    obtain ⟨b, hb⟩ : ∃ b, tb t k = b := ⟨_, rfl⟩
    have HT := Lib.hid hb
    obtain rfl : v = b := by have h := H.out; unfold tc at h; rw [HR.out, Int.toNat_natCast] at h; rw [← hb]; exact h.symm
    clear hb hs H
    obtain ⟨y, hy⟩ : ∃ y, t / 2 ^ k = y := ⟨_, rfl⟩
    have hl := low1 y
    have hk : (k : Int) ≤ 64 := by have := HS.out; omega
    cases v with
    | true =>
      have h1 : y % 2 = 1 := by have h := HT.out; unfold tb at h; rw [hy] at h; simpa using h
      rw [h1] at hl
      clear h1
      have c5 : w.cell? ⟨q, 5, none⟩ = some (.int .i64 t) := HX.out.cell 5
      go_enter Try.func68, Try.ntmps68
      go_wp2_with fail
      (with_reducible refine (isSt (k : Int) true _ HR.out).mono ?_)
      rintro e wq ⟨rfl, rfl⟩
      go_wp2_with fail
      go_ret
      exact ⟨rfl, rfl⟩
    | false =>
      have h1 : y % 2 = 0 := by have h := HT.out; unfold tb at h; rw [hy] at h; have h2 : ¬ y % 2 = 1 := (by simpa using h); omega
      rw [h1] at hl
      clear h1
      have c5 : w.cell? ⟨q, 5, none⟩ = some (.int .i64 t) := HX.out.cell 5
      go_enter Try.func68, Try.ntmps68
      go_wp2_with fail
      (with_reducible refine (isSt (k : Int) true _ HR.out).mono ?_)
      rintro e wq ⟨rfl, rfl⟩
      go_wp2_with fail
      go_ret
      exact ⟨rfl, rfl⟩
  | false =>
    obtain rfl : v = false := by have h := H.out; unfold tc at h; rw [HR.out] at h; exact h.symm
    clear H
    go_enter Try.func68, Try.ntmps68
    go_wp2_with fail
    (with_reducible refine (isSt i false _ HR.out).mono ?_)
    rintro e wq ⟨rfl, rfl⟩
    go_wp2_with fail
    go_ret
    exact ⟨rfl, rfl⟩
set_option maxRecDepth 100000 in
set_option maxHeartbeats 4000000 in
theorem implAo (f s c d : Int) (g : Bool) (t : Int) (w : World) :
    Calls Try.prog 51 #[.agg #[.int .i64 f, .int .i64 s, .int .i64 c, .int .i64 d, .bool g, .int .i64 t]] w (fun e w' => e = .returned (.agg #[.int .i64 f, .int .i64 s, .int .i64 c, .int .i64 d, .bool g, .int .i64 t, .func (.func 68) #[] #[.pointer (some ⟨w.heap.size, 0, none⟩)]]) ∧ Below w.heap.size w w' ∧ Bx 25 w' w.heap.size #[.int .i64 f, .int .i64 s, .int .i64 c, .int .i64 d, .bool g, .int .i64 t]) := by
  go_enter Try.func51, Try.ntmps51
  go_upto_region 1 with fail
  obtain ⟨w0, hW⟩ : ∃ w0, (w.alloc (.cells #[.int .i64 f, .int .i64 s, .int .i64 c, .int .i64 d, .bool g, .int .i64 t] 25)).alloc (.cells #[.int .i64 0, .int .i64 0, .int .i64 0, .int .i64 0, .bool false, .int .i64 0, .nilFunc] 58) = w0 := ⟨_, rfl⟩
  rw [hW]
  have B0 := Lib.hid (show Below w.heap.size w w0 by rw [← hW]; exact ((Below.refl _ _).alloc (by simp <;> omega) _).alloc (by simp <;> omega) _)
  have X0 := Lib.hid (show Bx 25 w0 (w.heap.size) #[.int .i64 f, .int .i64 s, .int .i64 c, .int .i64 d, .bool g, .int .i64 t] by
      rw [← hW]
      have hh := Bx.made 25 w #[.int .i64 f, .int .i64 s, .int .i64 c, .int .i64 d, .bool g, .int .i64 t]
      exact (hh.below (below_box _ _)))
  have Z0 := Lib.hid (show Bx 58 w0 (w.heap.size + 1) #[.int .i64 0, .int .i64 0, .int .i64 0, .int .i64 0, .bool false, .int .i64 0, .nilFunc] by
      rw [← hW]
      have hh : Bx 58 ((w.alloc (.cells #[.int .i64 f, .int .i64 s, .int .i64 c, .int .i64 d, .bool g, .int .i64 t] 25)).alloc (.cells #[.int .i64 0, .int .i64 0, .int .i64 0, .int .i64 0, .bool false, .int .i64 0, .nilFunc] 58)) (w.heap.size + 1) #[.int .i64 0, .int .i64 0, .int .i64 0, .int .i64 0, .bool false, .int .i64 0, .nilFunc] := by have hh := Bx.made 58 (w.alloc (.cells #[.int .i64 f, .int .i64 s, .int .i64 c, .int .i64 d, .bool g, .int .i64 t] 25)) #[.int .i64 0, .int .i64 0, .int .i64 0, .int .i64 0, .bool false, .int .i64 0, .nilFunc]; simpa using hh
      exact hh)
  clear hW
  have LTX := Lib.hid X0.out.lt
  have LTZ := Lib.hid Z0.out.lt
  go_wp2_with (first | (refine stw.list_load rfl 25 _ rfl (w.heap.size) rfl 25 _ X0.out Try.underlying25 rfl szB ?_) | (refine stw.list_store rfl 58 _ _ rfl (w.heap.size + 1) #[.int .i64 f, .int .i64 s, .int .i64 c, .int .i64 d, .bool g, .int .i64 t, .func (.func 68) #[] #[.pointer (some ⟨w.heap.size, 0, none⟩)]] rfl rfl 58 _ Z0.out rfl szN (oneN _ _ _ _ _ _ _) ?_; intro wz1 hz))
  have B1 := Lib.hid (hz.on B0.out (by have hs0 := LTX.out; have hs1 := LTZ.out; first | omega | (simp <;> omega)))
  have X1 := Lib.hid (hz.keep X0.out (by have hs0 := LTX.out; have hs1 := LTZ.out; first | omega | (simp <;> omega)))
  have Z1 := Lib.hid (hz.box)
  clear hz B0 X0 Z0
  (try simp only [Exit.inBlock, Exit.then])
  refine bodyPost_ret (v := .agg #[.int .i64 f, .int .i64 s, .int .i64 c, .int .i64 d, .bool g, .int .i64 t, .func (.func 68) #[] #[.pointer (some ⟨w.heap.size, 0, none⟩)]]) ?_ rfl ?_
  · rw [results_cell1 rfl]
    exact stw.back Z1.out Try.underlying58 rfl szN
  · exact ⟨rfl, B1.out, X1.out⟩
set_option maxRecDepth 100000 in
set_option maxHeartbeats 4000000 in
theorem implTc (f s c d : Int) (g : Bool) (t : Int) (i : Int) (w : World) :
    Calls Try.prog 22 #[.agg #[.int .i64 f, .int .i64 s, .int .i64 c, .int .i64 d, .bool g, .int .i64 t], .int .i64 i] w (BPost (tc ⟨f, s, c, d, g, t⟩ i) w) := by
  obtain ⟨v, hv⟩ : ∃ x, tc ⟨f, s, c, d, g, t⟩ i = x := ⟨_, rfl⟩
  have HV := Lib.hid hv
  clear hv
  go_enter Try.func22, Try.ntmps22
  go_wp2_with fail
  obtain ⟨w0, hW⟩ : ∃ w0, w.alloc (.cells #[.int .i64 f, .int .i64 s, .int .i64 c, .int .i64 d, .bool g, .int .i64 t] 25) = w0 := ⟨_, rfl⟩
  rw [hW]
  have B0 := Lib.hid (show Below w.heap.size w w0 by rw [← hW]; exact (Below.refl _ _).alloc (by simp <;> omega) _)
  have X0 := Lib.hid (show Bx 25 w0 (w.heap.size) #[.int .i64 f, .int .i64 s, .int .i64 c, .int .i64 d, .bool g, .int .i64 t] by
      rw [← hW]
      have hh := Bx.made 25 w #[.int .i64 f, .int .i64 s, .int .i64 c, .int .i64 d, .bool g, .int .i64 t]
      exact hh)
  clear hW
  have LTX := Lib.hid X0.out.lt
  go_wp2_with (refine stw.list_load rfl 25 _ rfl (w.heap.size) rfl 25 _ X0.out Try.underlying25 rfl szB ?_)
  (with_reducible refine (implAo f s c d g t _).mono ?_)
  rintro e w1 ⟨rfl, hb, hx⟩
  obtain ⟨q, hq⟩ : ∃ q, w0.heap.size = q := ⟨_, rfl⟩
  rw [hq] at hx ⊢
  have HX := Lib.hid hx
  clear hx hq
  have hfl := fun W => field1 f s c d g t q W
  have SS1 := Lib.hid hb.size
  have B1 := Lib.hid (B0.out.trans (hb.mono B0.out.size))
  have X1 := Lib.hid (X0.out.below hb)
  clear hb  B0 X0
  go_wp2_with fail
  clear hfl
  (with_reducible refine (call1 i v f s c d g t q _ HX.out HV.out).mono ?_)
  rintro e wq ⟨rfl, rfl⟩
  go_wp2_with fail
  go_ret
  rw [HV.out]
  exact ⟨rfl, B1.out⟩
set_option maxRecDepth 100000 in
set_option maxHeartbeats 4000000 in
theorem specTc (f s c d : Int) (g : Bool) (t : Int) (i : Int) (w : World) :
    Calls Try.prog 23 #[.agg #[.int .i64 f, .int .i64 s, .int .i64 c, .int .i64 d, .bool g, .int .i64 t], .int .i64 i] w (BPost (tc ⟨f, s, c, d, g, t⟩ i) w) := by
  obtain ⟨r, hr⟩ : ∃ x, decide (St i) = x := ⟨_, rfl⟩
  have HR := Lib.hid hr
  clear hr
  go_enter Try.func23, Try.ntmps23
  go_wp2_with fail
  obtain ⟨w0, hW⟩ : ∃ w0, w.alloc (.cells #[.int .i64 f, .int .i64 s, .int .i64 c, .int .i64 d, .bool g, .int .i64 t] 25) = w0 := ⟨_, rfl⟩
  rw [hW]
  have B0 := Lib.hid (show Below w.heap.size w w0 by rw [← hW]; exact (Below.refl _ _).alloc (by simp <;> omega) _)
  have X0 := Lib.hid (show Bx 25 w0 (w.heap.size) #[.int .i64 f, .int .i64 s, .int .i64 c, .int .i64 d, .bool g, .int .i64 t] by
      rw [← hW]
      have hh := Bx.made 25 w #[.int .i64 f, .int .i64 s, .int .i64 c, .int .i64 d, .bool g, .int .i64 t]
      exact hh)
  clear hW
  have LTX := Lib.hid X0.out.lt
  (with_reducible refine (l1R i 0 15 r _ (dec_ HR.out Iff.rfl)).mono ?_)
  rintro e wq ⟨rfl, rfl⟩
  cases r with
  | true =>
    have hs : St i := of_decide_eq_true HR.out
    obtain ⟨k, rfl⟩ : ∃ k : Nat, i = k := ⟨i.toNat, by unfold St at hs; omega⟩
    have HS := Lib.hid (show k ≤ 15 by unfold St at hs; omega)
    obtain ⟨b, hb⟩ : ∃ b, tb t k = b := ⟨_, rfl⟩
    have HT := Lib.hid hb
    have HE := Lib.hid (show tc ⟨f, s, c, d, g, t⟩ k = b by unfold tc; rw [HR.out, Int.toNat_natCast, ← hb]; rfl)
    clear hb hs
    obtain ⟨y, hy⟩ : ∃ y, t / 2 ^ k = y := ⟨_, rfl⟩
    have hl := low1 y
    have hk : (k : Int) ≤ 64 := by have := HS.out; omega
    cases b with
    | true =>
      have h1 : y % 2 = 1 := by have h := HT.out; unfold tb at h; rw [hy] at h; simpa using h
      rw [h1] at hl
      clear h1
      have cX5 : w0.cell? ⟨w.heap.size, 5, none⟩ = some (.int .i64 t) := X0.out.cell 5
      go_wp2_with fail
      go_ret
      rw [HE.out]
      exact ⟨rfl, B0.out⟩
    | false =>
      have h1 : y % 2 = 0 := by have h := HT.out; unfold tb at h; rw [hy] at h; have h2 : ¬ y % 2 = 1 := (by simpa using h); omega
      rw [h1] at hl
      clear h1
      have cX5 : w0.cell? ⟨w.heap.size, 5, none⟩ = some (.int .i64 t) := X0.out.cell 5
      go_wp2_with fail
      go_ret
      rw [HE.out]
      exact ⟨rfl, B0.out⟩
  | false =>
    have HE := Lib.hid (show tc ⟨f, s, c, d, g, t⟩ i = false by unfold tc; rw [HR.out]; rfl)
    go_wp2_with fail
    go_ret
    rw [HE.out]
    exact ⟨rfl, B0.out⟩
set_option maxRecDepth 100000 in
set_option maxHeartbeats 4000000 in
theorem call2 (i k : Nat) (v u : Bool) (f s c d : Int) (g : Bool) (t : Int) (q qs qk qa : Nat) (w : World) (hi : i < 16) (hX : Bx 25 w q #[.int .i64 f, .int .i64 s, .int .i64 c, .int .i64 d, .bool g, .int .i64 t]) (hP : Bx 3 w qs #[.int .i64 (k : Int)]) (hK : Bx 4 w qk #[.bool v]) (hA : Bx 58 w qa #[.int .i64 f, .int .i64 s, .int .i64 c, .int .i64 d, .bool g, .int .i64 t, .func (.func 68) #[] #[.pointer (some ⟨q, 0, none⟩)]]) (h : an t k v i = u) :
    Calls Try.prog 69 #[.int .i64 (i : Int), .pointer (some ⟨qs, 0, none⟩), .pointer (some ⟨qk, 0, none⟩), .pointer (some ⟨qa, 0, none⟩)] w (fun e w' => e = .returned (.bool u) ∧ w = w') := by
  have HX := Lib.hid hX
  have HA := Lib.hid hA
  have c0 : w.cell? ⟨qs, 0, none⟩ = some (.int .i64 (k : Int)) := hP.cell 0
  have d0 : w.cell? ⟨qk, 0, none⟩ = some (.bool v) := hK.cell 0
  have c6 : w.cell? ⟨qa, 6, none⟩ = some (.func (.func 68) #[] #[.pointer (some ⟨q, 0, none⟩)]) := hA.cell 6
  clear hX hA hP hK
  by_cases he : i = k
  · subst he
    obtain rfl : u = v := by rw [← h]; unfold an; rw [if_pos rfl]
    clear h
    go_enter Try.func69, Try.ntmps69
    go_wp2_with fail
    go_ret
    exact ⟨rfl, rfl⟩
  · have he2 : ((i : Int) == (k : Int)) = false := by simp; omega
    have HV := Lib.hid (show tc ⟨f, s, c, d, g, t⟩ (i : Int) = u by rw [← h]; unfold an tc; rw [if_neg he, Int.toNat_natCast, decide_eq_true (show St (i : Int) by unfold St; omega)]; rfl)
    clear h he
    go_enter Try.func69, Try.ntmps69
    go_wp2_with fail
    (with_reducible refine (call1 (i : Int) u f s c d g t q _ HX.out HV.out).mono ?_)
    rintro e wq ⟨rfl, rfl⟩
    go_wp2_with fail
    go_ret
    exact ⟨rfl, rfl⟩
theorem oneN2 (f s c d : Int) (g : Bool) (t : Int) (x y z : Nat) : (#[.int .i64 f, .int .i64 s, .int .i64 c, .int .i64 d, .bool g, .int .i64 t, .func (.func 69) #[] #[.pointer (some ⟨x, 0, none⟩), .pointer (some ⟨y, 0, none⟩), .pointer (some ⟨z, 0, none⟩)]] : Array Value).all (·.oneCell') = true :=
  all_oneCell_toArray (cs := [.int .i64 f, .int .i64 s, .int .i64 c, .int .i64 d, .bool g, .int .i64 t, .func (.func 69) #[] #[.pointer (some ⟨x, 0, none⟩), .pointer (some ⟨y, 0, none⟩), .pointer (some ⟨z, 0, none⟩)]]) (by intro v hv; simp only [List.mem_cons, List.not_mem_nil, or_false] at hv; rcases hv with rfl | rfl | rfl | rfl | rfl | rfl | rfl <;> rfl)
set_option maxRecDepth 100000 in
set_option maxHeartbeats 4000000 in
theorem implWi (f s c d : Int) (g : Bool) (t : Int) (k : Int) (v : Bool) (q : Nat) (w : World) :
    Calls Try.prog 52 #[.agg #[.int .i64 f, .int .i64 s, .int .i64 c, .int .i64 d, .bool g, .int .i64 t, .func (.func 68) #[] #[.pointer (some ⟨q, 0, none⟩)]], .int .i64 k, .bool v] w (fun e w' => e = .returned (.agg #[.int .i64 f, .int .i64 s, .int .i64 c, .int .i64 d, .bool g, .int .i64 t, .func (.func 69) #[] #[.pointer (some ⟨(w.heap.size + 1), 0, none⟩), .pointer (some ⟨(w.heap.size + 1 + 1), 0, none⟩), .pointer (some ⟨w.heap.size, 0, none⟩)]]) ∧ Below w.heap.size w w' ∧ Bx 3 w' (w.heap.size + 1) #[.int .i64 k] ∧ Bx 4 w' (w.heap.size + 1 + 1) #[.bool v] ∧ Bx 58 w' w.heap.size #[.int .i64 f, .int .i64 s, .int .i64 c, .int .i64 d, .bool g, .int .i64 t, .func (.func 68) #[] #[.pointer (some ⟨q, 0, none⟩)]]) := by
  go_enter Try.func52, Try.ntmps52
  go_upto_region 1 with fail
  obtain ⟨w0, hW⟩ : ∃ w0, (((w.alloc (.cells #[.int .i64 f, .int .i64 s, .int .i64 c, .int .i64 d, .bool g, .int .i64 t, .func (.func 68) #[] #[.pointer (some ⟨q, 0, none⟩)]] 58)).alloc (.cells #[.int .i64 k] 3)).alloc (.cells #[.bool v] 4)).alloc (.cells #[.int .i64 0, .int .i64 0, .int .i64 0, .int .i64 0, .bool false, .int .i64 0, .nilFunc] 58) = w0 := ⟨_, rfl⟩
  rw [hW]
  have B0 := Lib.hid (show Below w.heap.size w w0 by rw [← hW]; exact ((((Below.refl _ _).alloc (by simp <;> omega) _).alloc (by simp <;> omega) _).alloc (by simp <;> omega) _).alloc (by simp <;> omega) _)
  have A0 := Lib.hid (show Bx 58 w0 (w.heap.size) #[.int .i64 f, .int .i64 s, .int .i64 c, .int .i64 d, .bool g, .int .i64 t, .func (.func 68) #[] #[.pointer (some ⟨q, 0, none⟩)]] by
      rw [← hW]
      have hh := Bx.made 58 w #[.int .i64 f, .int .i64 s, .int .i64 c, .int .i64 d, .bool g, .int .i64 t, .func (.func 68) #[] #[.pointer (some ⟨q, 0, none⟩)]]
      exact (((hh.below (below_box _ _)).below (below_box _ _)).below (below_box _ _)))
  have P0 := Lib.hid (show Bx 3 w0 (w.heap.size + 1) #[.int .i64 k] by
      rw [← hW]
      have hh : Bx 3 ((w.alloc (.cells #[.int .i64 f, .int .i64 s, .int .i64 c, .int .i64 d, .bool g, .int .i64 t, .func (.func 68) #[] #[.pointer (some ⟨q, 0, none⟩)]] 58)).alloc (.cells #[.int .i64 k] 3)) (w.heap.size + 1) #[.int .i64 k] := by have hh := Bx.made 3 (w.alloc (.cells #[.int .i64 f, .int .i64 s, .int .i64 c, .int .i64 d, .bool g, .int .i64 t, .func (.func 68) #[] #[.pointer (some ⟨q, 0, none⟩)]] 58)) #[.int .i64 k]; simpa using hh
      exact ((hh.below (below_box _ _)).below (below_box _ _)))
  have K0 := Lib.hid (show Bx 4 w0 (w.heap.size + 1 + 1) #[.bool v] by
      rw [← hW]
      have hh : Bx 4 (((w.alloc (.cells #[.int .i64 f, .int .i64 s, .int .i64 c, .int .i64 d, .bool g, .int .i64 t, .func (.func 68) #[] #[.pointer (some ⟨q, 0, none⟩)]] 58)).alloc (.cells #[.int .i64 k] 3)).alloc (.cells #[.bool v] 4)) (w.heap.size + 1 + 1) #[.bool v] := by have hh := Bx.made 4 ((w.alloc (.cells #[.int .i64 f, .int .i64 s, .int .i64 c, .int .i64 d, .bool g, .int .i64 t, .func (.func 68) #[] #[.pointer (some ⟨q, 0, none⟩)]] 58)).alloc (.cells #[.int .i64 k] 3)) #[.bool v]; simpa using hh
      exact (hh.below (below_box _ _)))
  have Z0 := Lib.hid (show Bx 58 w0 (w.heap.size + 1 + 1 + 1) #[.int .i64 0, .int .i64 0, .int .i64 0, .int .i64 0, .bool false, .int .i64 0, .nilFunc] by
      rw [← hW]
      have hh : Bx 58 ((((w.alloc (.cells #[.int .i64 f, .int .i64 s, .int .i64 c, .int .i64 d, .bool g, .int .i64 t, .func (.func 68) #[] #[.pointer (some ⟨q, 0, none⟩)]] 58)).alloc (.cells #[.int .i64 k] 3)).alloc (.cells #[.bool v] 4)).alloc (.cells #[.int .i64 0, .int .i64 0, .int .i64 0, .int .i64 0, .bool false, .int .i64 0, .nilFunc] 58)) (w.heap.size + 1 + 1 + 1) #[.int .i64 0, .int .i64 0, .int .i64 0, .int .i64 0, .bool false, .int .i64 0, .nilFunc] := by have hh := Bx.made 58 (((w.alloc (.cells #[.int .i64 f, .int .i64 s, .int .i64 c, .int .i64 d, .bool g, .int .i64 t, .func (.func 68) #[] #[.pointer (some ⟨q, 0, none⟩)]] 58)).alloc (.cells #[.int .i64 k] 3)).alloc (.cells #[.bool v] 4)) #[.int .i64 0, .int .i64 0, .int .i64 0, .int .i64 0, .bool false, .int .i64 0, .nilFunc]; simpa using hh
      exact hh)
  clear hW
  have LTA := Lib.hid A0.out.lt
  have LTP := Lib.hid P0.out.lt
  have LTK := Lib.hid K0.out.lt
  have LTZ := Lib.hid Z0.out.lt
  have cA0 : w0.cell? ⟨w.heap.size, 0, none⟩ = some (.int .i64 f) := A0.out.cell 0
  have cA1 : w0.cell? ⟨w.heap.size, 1, none⟩ = some (.int .i64 s) := A0.out.cell 1
  have cA2 : w0.cell? ⟨w.heap.size, 2, none⟩ = some (.int .i64 c) := A0.out.cell 2
  have cA3 : w0.cell? ⟨w.heap.size, 3, none⟩ = some (.int .i64 d) := A0.out.cell 3
  have cA4 : w0.cell? ⟨w.heap.size, 4, none⟩ = some (.bool g) := A0.out.cell 4
  have cA5 : w0.cell? ⟨w.heap.size, 5, none⟩ = some (.int .i64 t) := A0.out.cell 5
  have cA6 : w0.cell? ⟨w.heap.size, 6, none⟩ = some (.func (.func 68) #[] #[.pointer (some ⟨q, 0, none⟩)]) := A0.out.cell 6
  go_wp2_with (first | (refine stw.list_store rfl 58 _ _ rfl (w.heap.size + 1 + 1 + 1) #[.int .i64 f, .int .i64 s, .int .i64 c, .int .i64 d, .bool g, .int .i64 t, .func (.func 69) #[] #[.pointer (some ⟨(w.heap.size + 1), 0, none⟩), .pointer (some ⟨(w.heap.size + 1 + 1), 0, none⟩), .pointer (some ⟨w.heap.size, 0, none⟩)]] rfl rfl 58 _ Z0.out rfl szN (oneN2 _ _ _ _ _ _ _ _ _) ?_; intro wz1 hz))
  clear cA0 cA1 cA2 cA3 cA4 cA5 cA6
  have B1 := Lib.hid (hz.on B0.out (by have hs0 := LTA.out; have hs1 := LTP.out; have hs2 := LTK.out; have hs3 := LTZ.out; first | omega | (simp <;> omega)))
  have A1 := Lib.hid (hz.keep A0.out (by have hs0 := LTA.out; have hs1 := LTP.out; have hs2 := LTK.out; have hs3 := LTZ.out; first | omega | (simp <;> omega)))
  have P1 := Lib.hid (hz.keep P0.out (by have hs0 := LTA.out; have hs1 := LTP.out; have hs2 := LTK.out; have hs3 := LTZ.out; first | omega | (simp <;> omega)))
  have K1 := Lib.hid (hz.keep K0.out (by have hs0 := LTA.out; have hs1 := LTP.out; have hs2 := LTK.out; have hs3 := LTZ.out; first | omega | (simp <;> omega)))
  have Z1 := Lib.hid (hz.box)
  clear hz B0 A0 P0 K0 Z0
  (try simp only [Exit.inBlock, Exit.then])
  refine bodyPost_ret (v := .agg #[.int .i64 f, .int .i64 s, .int .i64 c, .int .i64 d, .bool g, .int .i64 t, .func (.func 69) #[] #[.pointer (some ⟨(w.heap.size + 1), 0, none⟩), .pointer (some ⟨(w.heap.size + 1 + 1), 0, none⟩), .pointer (some ⟨w.heap.size, 0, none⟩)]]) ?_ rfl ?_
  · rw [results_cell1 rfl]
    exact stw.back Z1.out Try.underlying58 rfl szN
  · exact ⟨rfl, B1.out, P1.out, K1.out, A1.out⟩
end Go.Proofs.Ytalfihfielgmpaa.be
