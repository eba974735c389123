/- Acknowledged frames and given up frames, the program: a type switch and a call through an interface. Condition: none. -/
import Derived.Test.YthbmnhbnoipdfaaBs3
import Derived.Test.YthbmnhbnoipdfaaRc2
namespace Go.Proofs.Ythbmnhbnoipdfaa.bs
open Go.RowKit sl harn rng bx stw
set_option linter.unusedVariables false
set_option linter.unusedSimpArgs false

theorem quiet_nilc {P : Program} {C : World → Prop} {a : Act} {o : Oper} {K : Act → Prop} (x : Operand) (h : o.op = .nilCheck x) (T : TypeId) (v : Value) (nm : String) (hx : a.eval x = .func (.method nm) #[.iface T v] #[])
    (hn : ∀ w, (nilAhead (P.types.size + Made.depth) T v nm).run P w = .ok (some false) w) (hk : K (a.put o.dst (.func (.method nm) #[.iface T v] #[]))) : o.quiet P a C K := by
  refine ⟨_, fun w _ => ?_, hk⟩
  unfold Oper.quietAt Oper.quietUpon execOp
  simp only [h, hx]
  simp [Sem.run_bind, hn]
theorem quiet_inv1 {P : Program} {C : World → Prop} {a : Act} {o : Oper} {K : Act → Prop} (r p : Operand) (nm : String) (ts : Array TypeId) (h : o.op = .call { callee := .invoke r nm, args := #[p], argTypes := ts }) (T : TypeId) (rv pv : Value)
    (hr : a.eval r = .iface T rv) (hp : a.eval p = pv) (f : FuncId) (args : Array Value) (v : Value) (hi : ∀ w, (invoke (.fn (.method nm) #[]) #[.iface T rv, pv]).run P w = .ok (.enter f args) w)
    (hc : ∀ w, C w → Calls P f args w fun e w' => e = .returned v ∧ C w') (hk : K (a.put o.dst v)) : o.quiet P a C K := by
  refine ⟨v, fun w hw => ?_, hk⟩
  unfold Oper.quietAt Oper.quietUpon execOp
  simp only [h, resolve, Sem.run_bind, Sem.run_pure, Result.andThen_ok, List.map_toArray, List.map_cons, List.map_nil, hr, hp]
  have e : (#[(.iface T rv : Value)] ++ #[pv] : Array Value) = #[.iface T rv, pv] := rfl
  rw [e, hi]
  exact ⟨rfl, hc w hw⟩
theorem nc_at {base : World} {P : Program} {f : FuncId} {args : Array Value} {v : Value} (h : ∀ m : bx.Af base, Calls P f args m.w fun e w' => e = .returned v ∧ Below m.w.heap.size m.w w') : ∀ w, (∃ n : bx.Af base, w = n.w) → Calls P f args w fun e w' => e = .returned v ∧ ∃ n : bx.Af base, w' = n.w :=
  fun w hw => by
    obtain ⟨n, rfl⟩ := hw
    exact bx.Af.call (h n)
theorem wrap_64 (x : Int) : IntKind.i64.wrap x = wrap64 x := by unfold wrap64; exact IntKind.wrap_i64 x
theorem outs_vs {q : Bs} {x : Int} (h : x ∈ outs q) : vs q = true := by
  cases hv : vs q
  · rw [outs_no hv] at h; cases h
  · rfl
set_option maxRecDepth 100000 in
set_option maxHeartbeats 4000000 in
theorem covA (c b y : Int) (w : World) :
    Calls Try.prog 78 #[.agg #[.int .i64 c, .int .i64 b], .int .i64 y] w (BPost (cvr c b y) w) := by
  obtain ⟨d, hd⟩ : ∃ d, sqd c y = d := ⟨_, rfl⟩
  obtain ⟨t1, h1⟩ : ∃ t, nwr c y = t := ⟨_, rfl⟩
  obtain ⟨t2, h2⟩ : ∃ t, decide (0 ≤ d ∧ d ≤ 15) = t := ⟨_, rfl⟩
  obtain ⟨t3, h3⟩ : ∃ t, bit b d = t := ⟨_, rfl⟩
  have HV := Lib.hid (show cvr c b y = (t1 || (t2 && t3)) by unfold cvr; rw [h1, hd, h2, h3])
  have HD := Lib.hid hd
  have H1 := Lib.hid h1
  have H2 := Lib.hid h2
  have H3 := Lib.hid h3
  clear hd h1 h2 h3
  go_enter Try.func78, Try.ntmps78
  go_wp2_with fail
  obtain ⟨w0, hW⟩ : ∃ w0, w.alloc (.cells #[.int .i64 c, .int .i64 b] 27) = w0 := ⟨_, rfl⟩
  rw [hW]
  have B0 := Lib.hid (show Below w.heap.size w w0 by rw [← hW]; exact (Below.refl _ _).alloc (by simp <;> omega) _)
  have X0 := Lib.hid (show Bx 27 w0 (w.heap.size) #[.int .i64 c, .int .i64 b] by
      rw [← hW]
      have hh := Bx.made 27 w #[.int .i64 c, .int .i64 b]
      exact hh)
  clear hW
  have LTX := Lib.hid X0.out.lt
  have cX0 : w0.cell? ⟨w.heap.size, 0, none⟩ = some (.int .i64 c) := X0.out.cell 0
  go_wp2_with fail
  clear cX0
  (with_reducible refine (implSd c y _).mono ?_)
  rw [HD.out]
  rintro e wq ⟨rfl, rfl⟩
  have cX0 : w0.cell? ⟨w.heap.size, 0, none⟩ = some (.int .i64 c) := X0.out.cell 0
  go_wp2_with fail
  clear cX0
  (with_reducible refine (implNw c y _).mono ?_)
  rw [H1.out]
  rintro e wq ⟨rfl, rfl⟩
  cases t1 with
  | true =>
    go_wp2_with fail
    go_ret
    rw [HV.out]
    exact ⟨by simp, B0.out⟩
  | false =>
    go_wp2_with fail
    (with_reducible refine (inR d 0 15 t2 _ H2.out).mono ?_)
    rintro e wq ⟨rfl, rfl⟩
    cases t2 with
    | true =>
      have HR := Lib.hid (show 0 ≤ d ∧ d ≤ 15 from of_decide_eq_true H2.out)
      have cX1 : w0.cell? ⟨w.heap.size, 1, none⟩ = some (.int .i64 b) := X0.out.cell 1
      go_wp2_with fail
      clear cX1
      (with_reducible refine (hasB b d t3 _ (by have := HR.out; omega) H3.out).mono ?_)
      rintro e wq ⟨rfl, rfl⟩
      cases t3 with
      | true =>
        go_wp2_with fail
        go_ret
        rw [HV.out]
        exact ⟨by simp, B0.out⟩
      | false =>
        go_wp2_with fail
        go_ret
        rw [HV.out]
        exact ⟨by simp, B0.out⟩
    | false =>
      go_wp2_with fail
      go_ret
      rw [HV.out]
      exact ⟨by simp, B0.out⟩
set_option maxRecDepth 100000 in
set_option maxHeartbeats 4000000 in
theorem covG (x y : Int) (w : World) :
    Calls Try.prog 80 #[.int .i64 x, .int .i64 y] w (BPost (y == x) w) := by
  go_enter Try.func80, Try.ntmps80
  go_wp2_with fail
  go_ret
  exact ⟨rfl, Below.refl _ _⟩
set_option maxRecDepth 100000 in
set_option maxHeartbeats 4000000 in
theorem mfA (s n a : Int) (c b : Int) (w : World) :
    Calls Try.prog 56 #[.iface 27 (.agg #[.int .i64 c, .int .i64 b]), .agg #[.int .i64 s, .int .i64 n, .int .i64 a]] w (BPost (mfa ⟨s, n, a⟩ c b) w) := by
  obtain ⟨d, hd⟩ : ∃ d, sqd c n = d := ⟨_, rfl⟩
  obtain ⟨t1, h1⟩ : ∃ t, va c b = t := ⟨_, rfl⟩
  obtain ⟨t2, h2⟩ : ∃ t, decide (0 ≤ d ∧ d ≤ 2047) = t := ⟨_, rfl⟩
  have HV := Lib.hid (show mfa ⟨s, n, a⟩ c b = (t1 && t2) by unfold mfa; rw [h1, hd, h2])
  have HD := Lib.hid hd
  have H1 := Lib.hid h1
  have H2 := Lib.hid h2
  clear hd h1 h2
  have htaa : ∀ W : World, (Instr.typeAssert (.iface 27 (.agg #[.int .i64 c, .int .i64 b])) 68 27 true).run Try.prog W = .ok (.tuple #[.agg #[.int .i64 c, .int .i64 b], .bool true]) W := fun W => by kernel_rfl
  go_enter Try.func56, Try.ntmps56
  go_upto_region 1 with fail
  obtain ⟨w0, hW⟩ : ∃ w0, w.alloc (.cells #[.int .i64 s, .int .i64 n, .int .i64 a] 25) = w0 := ⟨_, rfl⟩
  rw [hW]
  have B0 := Lib.hid (show Below w.heap.size w w0 by rw [← hW]; exact (Below.refl _ _).alloc (by simp <;> omega) _)
  have X0 := Lib.hid (show Bx 25 w0 (w.heap.size) #[.int .i64 s, .int .i64 n, .int .i64 a] by
      rw [← hW]
      have hh := Bx.made 25 w #[.int .i64 s, .int .i64 n, .int .i64 a]
      exact hh)
  clear hW
  have LTX := Lib.hid X0.out.lt
  obtain ⟨ba, hbb⟩ : ∃ b, w0.heap.size = b := ⟨_, rfl⟩
  go_upto_region 4 with fail
  generalize hW : w0.alloc (.cells #[.int .i64 c, .int .i64 b] 27) = w1
  have LA := Lib.hid (show w.heap.size ≤ ba ∧ w.heap.size < ba by have h1 := B0.out.size; have h2X := X0.out.lt; have h3 := hbb; omega)
  have A1 := Lib.hid (show Bx 27 w1 ba #[.int .i64 c, .int .i64 b] by rw [← hW, ← hbb]; exact Bx.made _ _ _)
  have hb : Below w0.heap.size w0 w1 := by rw [← hW]; exact below_box _ _
  (try rw [hbb])
  clear hW hbb
  have SS1 := Lib.hid hb.size
  have B1 := Lib.hid (B0.out.trans (hb.mono B0.out.size))
  have X1 := Lib.hid (X0.out.below hb)
  clear hb B0 X0
  have LWA := Lib.hid A1.out.lt
  clear htaa
  go_wp2_with (refine stw.list_load rfl 27 _ rfl (ba) rfl 27 _ A1.out Try.underlying27 rfl szA ?_)
  (with_reducible refine (implVa c b _).mono ?_)
  rintro e w2 hp
  obtain ⟨rfl, hb⟩ := b_parts H1.out hp
  clear hp
  have SS2 := Lib.hid hb.size
  have B2 := Lib.hid (B1.out.trans (hb.mono B1.out.size))
  have X2 := Lib.hid (X1.out.below hb)
  have A2 := Lib.hid (A1.out.below hb)
  clear hb  B1 X1 A1
  cases t1 with
  | true =>
    have cA0 : w2.cell? ⟨ba, 0, none⟩ = some (.int .i64 c) := A2.out.cell 0
    have cX1 : w2.cell? ⟨w.heap.size, 1, none⟩ = some (.int .i64 n) := X2.out.cell 1
    go_wp2_with fail
    clear cA0 cX1
    (with_reducible refine (implSd c n _).mono ?_)
    rw [HD.out]
    rintro e wq ⟨rfl, rfl⟩
    go_wp2_with fail
    (with_reducible refine (inR d 0 2047 t2 _ H2.out).mono ?_)
    rintro e wq ⟨rfl, rfl⟩
    cases t2 with
    | true =>
      go_wp2_with fail
      go_ret
      rw [HV.out]
      exact ⟨by simp, B2.out⟩
    | false =>
      go_wp2_with fail
      go_ret
      rw [HV.out]
      exact ⟨by simp, B2.out⟩
  | false =>
    go_wp2_with fail
    go_ret
    rw [HV.out]
    exact ⟨by simp, B2.out⟩
set_option maxRecDepth 100000 in
set_option maxHeartbeats 4000000 in
theorem mfG (s n a : Int) (x : Int) (w : World) :
    Calls Try.prog 56 #[.iface 61 (.int .i64 x), .agg #[.int .i64 s, .int .i64 n, .int .i64 a]] w (BPost (decide (x ∈ outs ⟨s, n, a⟩)) w) := by
  have htaa : ∀ W : World, (Instr.typeAssert (.iface 61 (.int .i64 x)) 68 27 true).run Try.prog W = .ok (.tuple #[.agg #[.int .i64 0, .int .i64 0], .bool false]) W := fun W => by kernel_rfl
  have htag : ∀ W : World, (Instr.typeAssert (.iface 61 (.int .i64 x)) 68 61 true).run Try.prog W = .ok (.tuple #[.int .i64 x, .bool true]) W := fun W => by kernel_rfl
  go_enter Try.func56, Try.ntmps56
  go_upto_region 1 with fail
  obtain ⟨w0, hW⟩ : ∃ w0, w.alloc (.cells #[.int .i64 s, .int .i64 n, .int .i64 a] 25) = w0 := ⟨_, rfl⟩
  rw [hW]
  have B0 := Lib.hid (show Below w.heap.size w w0 by rw [← hW]; exact (Below.refl _ _).alloc (by simp <;> omega) _)
  have X0 := Lib.hid (show Bx 25 w0 (w.heap.size) #[.int .i64 s, .int .i64 n, .int .i64 a] by
      rw [← hW]
      have hh := Bx.made 25 w #[.int .i64 s, .int .i64 n, .int .i64 a]
      exact hh)
  clear hW
  have LTX := Lib.hid X0.out.lt
  go_wp2_with (refine stw.list_load rfl 25 _ rfl (w.heap.size) rfl 25 _ X0.out Try.underlying25 rfl szS ?_)
  clear htaa htag
  (with_reducible refine (implOs s n a _).mono ?_)
  rintro e w1 ⟨A, q, c, rfl, ho, hb⟩
  have HO := Lib.hid ho
  clear ho
  have SS1 := Lib.hid hb.size
  have B1 := Lib.hid (B0.out.trans (hb.mono B0.out.size))
  have X1 := Lib.hid (X0.out.below hb)
  clear hb B0 X0
  go_wp2_with fail
  (with_reducible refine (bx.containsI (outs ⟨s, n, a⟩) x _ _ A q c _ HO.out.rd).mono ?_)
  rintro e wq ⟨rfl, rfl⟩
  go_wp2_with fail
  go_ret
  exact ⟨rfl, B1.out⟩
set_option maxRecDepth 100000 in
set_option maxHeartbeats 4000000 in
theorem ackA (s n a : Int) (c b : Int) (w : World) :
    Calls Try.prog 40 #[.agg #[.int .i64 s, .int .i64 n, .int .i64 a], .iface 27 (.agg #[.int .i64 c, .int .i64 b])] w (SPost (rcv ⟨s, n, a⟩ c b) w) := by
  obtain ⟨v, hv⟩ : ∃ v, vs ⟨s, n, a⟩ = v := ⟨_, rfl⟩
  obtain ⟨f, hf⟩ : ∃ v, mfa ⟨s, n, a⟩ c b = v := ⟨_, rfl⟩
  have HV := Lib.hid hv
  have HF := Lib.hid hf
  have HN := Lib.hid (fun h : (v && f) = false => show rcv ⟨s, n, a⟩ c b = ⟨s, n, a⟩ by subst hv hf; unfold rcv; rw [if_neg (by rw [h]; decide)])
  have HY := Lib.hid (fun h : (v && f) = true => show rcv ⟨s, n, a⟩ c b = aft ⟨s, n, a⟩ (mks ⟨s, n, a⟩ (cvr c b)) by subst hv hf; unfold rcv; rw [if_pos h])
  clear hv hf
  go_enter Try.func40, Try.ntmps40
  go_wp2_with fail
  obtain ⟨w0, hW⟩ : ∃ w0, (w.alloc (.cells #[.int .i64 s, .int .i64 n, .int .i64 a] 25)).alloc (.cells #[.int .i64 0, .int .i64 0, .int .i64 0] 25) = w0 := ⟨_, rfl⟩
  rw [hW]
  have B0 := Lib.hid (show Below w.heap.size w w0 by rw [← hW]; exact ((Below.refl _ _).alloc (by simp <;> omega) _).alloc (by simp <;> omega) _)
  have X0 := Lib.hid (show Bx 25 w0 (w.heap.size) #[.int .i64 s, .int .i64 n, .int .i64 a] by
      rw [← hW]
      have hh := Bx.made 25 w #[.int .i64 s, .int .i64 n, .int .i64 a]
      exact (hh.below (below_box _ _)))
  have Z0 := Lib.hid (show Bx 25 w0 (w.heap.size + 1) #[.int .i64 0, .int .i64 0, .int .i64 0] by
      rw [← hW]
      have hh : Bx 25 ((w.alloc (.cells #[.int .i64 s, .int .i64 n, .int .i64 a] 25)).alloc (.cells #[.int .i64 0, .int .i64 0, .int .i64 0] 25)) (w.heap.size + 1) #[.int .i64 0, .int .i64 0, .int .i64 0] := by have hh := Bx.made 25 (w.alloc (.cells #[.int .i64 s, .int .i64 n, .int .i64 a] 25)) #[.int .i64 0, .int .i64 0, .int .i64 0]; simpa using hh
      exact hh)
  clear hW
  have LTX := Lib.hid X0.out.lt
  have LTZ := Lib.hid Z0.out.lt
  go_wp2_with (refine stw.list_load rfl 25 _ rfl (w.heap.size) rfl 25 _ X0.out Try.underlying25 rfl szS ?_)
  (with_reducible refine (implVs s n a _).mono ?_)
  rintro e w1 hp
  obtain ⟨rfl, hb⟩ := b_parts HV.out hp
  clear hp
  have SS1 := Lib.hid hb.size
  have B1 := Lib.hid (B0.out.trans (hb.mono B0.out.size))
  have X1 := Lib.hid (X0.out.below hb)
  have Z1 := Lib.hid (Z0.out.below hb)
  clear hb  B0 X0 Z0
  cases v with
  | true =>
    have cX0 : w1.cell? ⟨w.heap.size, 0, none⟩ = some (.int .i64 s) := X1.out.cell 0
    have cX1 : w1.cell? ⟨w.heap.size, 1, none⟩ = some (.int .i64 n) := X1.out.cell 1
    have cX2 : w1.cell? ⟨w.heap.size, 2, none⟩ = some (.int .i64 a) := X1.out.cell 2
    go_wp2_with fail
    clear cX0 cX1 cX2
    (with_reducible refine (mfA s n a c b _).mono ?_)
    rintro e w2 hp
    obtain ⟨rfl, hb⟩ := b_parts HF.out hp
    clear hp
    have SS2 := Lib.hid hb.size
    have B2 := Lib.hid (B1.out.trans (hb.mono B1.out.size))
    have X2 := Lib.hid (X1.out.below hb)
    have Z2 := Lib.hid (Z1.out.below hb)
    clear hb  B1 X1 Z1
    cases f with
    | true =>
      have HE := Lib.hid (HY.out rfl)
      clear HN HY
      have hv := HV.out
      obtain ⟨W, m, hV⟩ := vs_of hv
      obtain rfl : a = (m : Int) := hV.ha
      have HVV := Lib.hid hV
      have HSQ := Lib.hid (show sqd s n = (W : Int) from hV.sq)
      have HS := Lib.hid (show 0 ≤ s ∧ s ≤ 4095 from hV.hs)
      have HW := Lib.hid (show W ≤ 16 ∧ m < 65536 by have h1 := hV.hw; have h2 := hV.hb; have h3 : 2 ^ W ≤ 2 ^ 16 := Nat.pow_le_pow_right (by omega) h1; omega)
      have HOU := Lib.hid (show outs ⟨s, n, (m : Int)⟩ = (ou m W).map (fr s) from hV.outs)
      clear hV
      have cX0 : w2.cell? ⟨w.heap.size, 0, none⟩ = some (.int .i64 s) := X2.out.cell 0
      have cX1 : w2.cell? ⟨w.heap.size, 1, none⟩ = some (.int .i64 n) := X2.out.cell 1
      go_wp2_with fail
      (with_reducible refine (implSd s n _).mono ?_)
      rw [HSQ.out]
      rintro e wq ⟨rfl, rfl⟩
      go_wp2_with fail
      clear cX0 cX1
      obtain ⟨cf, hcf⟩ : ∃ cf : Nat → Bool, (fun i => (cvr c b) (fr s i)) = cf := ⟨_, rfl⟩
      have HCF := Lib.hid (fun i => show cvr c b (fr s i) = cf i by rw [← hcf])
      have HMK := Lib.hid (show mks ⟨s, n, (m : Int)⟩ (cvr c b) = setl m (List.range W) cf by rw [HVV.out.mk' (cvr c b), ← hcf])
      clear hcf
      go_loopw [21] (fun v0 wr => ∃ (k : Nat) (M : Nat), v0 = .int .i64 (k : Int) ∧ (k ≤ W) ∧ (M = setl m (List.range k) cf) ∧ Below w.heap.size w wr ∧ Bx 25 wr w.heap.size #[.int .i64 s, .int .i64 n, .int .i64 (M : Int)] ∧ Bx 25 wr (w.heap.size + 1) #[.int .i64 0, .int .i64 0, .int .i64 0]) ((fun i _ => W - (intOf i).toNat))
      case atStart => exact ⟨0, m, rfl, by omega, rfl, B2.out, X2.out, Z2.out⟩
      case round =>
        obtain ⟨k, M, rfl, ghk, ghM, gB3, gX3, gZ3⟩ := hrel
        have B3 := Lib.hid gB3
        have X3 := Lib.hid gX3
        have Z3 := Lib.hid gZ3
        have hk := Lib.hid ghk
        have hM := Lib.hid ghM
        clear gB3 gX3 gZ3 ghk ghM
        have LUX3 := Lib.hid X3.out.lt
        have LUZ3 := Lib.hid Z3.out.lt
        have SBR3 := Lib.hid B3.out.size
        have hk := hk.out
        have hk16 : k ≤ 16 := by have := HW.out; omega
        have HM := Lib.hid (show M < 65536 by rw [hM.out]; have h1 := setl_lt (c := cf) (L := List.range k) HVV.out.hb (fun i hi => by have := List.mem_range.1 hi; omega); have h2 := HVV.out.hw; have h3 : 2 ^ W ≤ 2 ^ 16 := Nat.pow_le_pow_right (by omega) h2; omega)
        by_cases hlt : k < W
        · have hlt2 : (k : Int) < W := by omega
          have HK := Lib.hid (show (k : Int) ≤ 15 ∧ k < 16 by have := HW.out; omega)
          obtain ⟨t, ht⟩ : ∃ t, cf k = t := ⟨_, rfl⟩
          have HT := Lib.hid ht
          clear ht
          go_upto_region 6 with fail
          have mX0 : ∀ m : bx.Af wr, m.w.cell? ⟨w.heap.size, 0, none⟩ = some (.int .i64 s) := fun m => (bx.Af.cells X3.out m).cell 0
          have hna := Lib.hid (fun W => by kernel_rfl : ∀ W : World, (nilAhead (Try.prog.types.size + Made.depth) 27 (.agg #[.int .i64 c, .int .i64 b]) "loop.example/g00511/impl.covers").run Try.prog W = .ok (some false) W)
          have hinv : ∀ W : World, (invoke (.fn (.method "loop.example/g00511/impl.covers") #[]) #[.iface 27 (.agg #[.int .i64 c, .int .i64 b]), .int .i64 (fr s k)]).run Try.prog W = .ok (.enter 78 #[.agg #[.int .i64 c, .int .i64 b], .int .i64 (fr s k)]) W := fun W => by kernel_rfl
          have q1 := Lib.hid (fun m => ((seqA s (k : Int) m.w HS.out (by have := HK.out; omega))).mono fun _ _ h => ⟨h.1, h.2 ▸ Below.refl _ _⟩ : ∀ m : bx.Af wr, Calls Try.prog 47 #[.int .i64 s, .int .i64 (k : Int)] m.w fun e w' => e = .returned (.int .i64 (fr s k)) ∧ Below m.w.heap.size m.w w')
          have q0 := Lib.hid (fun m => by have hh := covA c b (fr s k) m.w; rw [HCF.out k, HT.out] at hh; exact hh : ∀ m : bx.Af wr, Calls Try.prog 78 #[.agg #[.int .i64 c, .int .i64 b], .int .i64 (fr s k)] m.w fun e w' => e = .returned (.bool t) ∧ Below m.w.heap.size m.w w')
          refine bx.region_after (by kernel_rfl) (by kernel_rfl) ?_
          repeat (first
            | (go_big_quiet_want; refine quiet_nilc _ rfl 27 _ _ rfl hna.out ?_; simp only [Act.put, List.setIfInBounds_toArray, List.set_cons_zero, List.set_cons_succ]; go_big_quiet_on)
            | (go_big_quiet_want; refine quiet_inv1 _ _ _ _ rfl 27 (.agg #[.int .i64 c, .int .i64 b]) (.int .i64 (fr s k)) rfl rfl 78 _ (.bool t) hinv (nc_at q0.out) ?_; simp only [Act.put, List.setIfInBounds_toArray, List.set_cons_zero, List.set_cons_succ]; go_big_quiet_on)
            | (go_big_quiet_step ((go_at_call 47; with_reducible exact bx.Af.call (q1.out _)))))
          refine wpQuiet_nil ?_
          intro _ hw'
          obtain ⟨nq9, hw''⟩ := hw'
          subst hw''
          clear q0 q1 hinv hna mX0
          obtain ⟨w4, hw5⟩ : ∃ w5, nq9.w = w5 := ⟨_, rfl⟩
          have hb := nq9.below
          rw [hw5] at hb
          (try rw [hw5])
          clear hw5
          have SS4 := Lib.hid hb.size
          have B4 := Lib.hid (B3.out.trans (hb.mono B3.out.size))
          have X4 := Lib.hid (X3.out.below hb)
          have Z4 := Lib.hid (Z3.out.below hb)
          clear hb nq9 B3 X3 Z3
          cases t with
          | true =>
            have HL := Lib.hid (setr_yes (m := m) HT.out)
            obtain ⟨p, hp⟩ : ∃ p, wrap64 (2 ^ k) = p := ⟨_, rfl⟩
            have hp2 : IntKind.i64.wrap (2 ^ k) = p := (wrap_64 _).trans hp
            obtain ⟨M2, hM2⟩ : ∃ x, M ||| 2 ^ k = x := ⟨_, rfl⟩
            have hor : bits .or .i64 (M : Int) p = (M2 : Int) := by rw [← hp, ← hM2]; exact or_pow HM.out (by have := HK.out; omega)
            have hk64 : (k : Int) ≤ 64 := by have := HK.out; omega
            have HM2 := Lib.hid hM2
            clear hM2
            go_upto_region 7 with fail
            refine reg.region_tail reg.Bel 6 42 [some [], some [(0, 33)], some [], some [(2, 35)], some [(1, 34), (3, 36)], some [], none] [(0, 33), (1, 34), (2, 35), (3, 36), (4, 37), (5, 38)]
              (fun w' => Below w.heap.size w w' ∧ Bx 25 w' (w.heap.size) #[.int .i64 s, .int .i64 n, .int .i64 (M : Int)] ∧ Bx 25 w' (w.heap.size + 1) #[.int .i64 0, .int .i64 0, .int .i64 0] ∧ True)
              (reg.rl [reg.is (.pointer (some ⟨w.heap.size, 2, none⟩)), reg.is (.int .i64 (M : Int)), reg.is (.int .i64 ((k : Int))), reg.is (.int .i64 p), reg.is (.int .i64 (M2 : Int)), reg.is (.pointer (some ⟨w.heap.size, 2, none⟩)), reg.free])
              (by kernel_rfl) rfl (by kernel_rfl) (by kernel_rfl) rfl
              (fun w1 w2 hc hb => ⟨hc.1.trans (hb.mono hc.1.size), hc.2.1.below hb, hc.2.2.1.below hb, trivial⟩) (reg.rl_keep _) (⟨own.below_drew B4.out, X4.out.same rfl, Z4.out.same rfl, trivial⟩) (by kernel_rfl) ⟨?_, ?_, ?_, ?_, ?_, ?_, trivial⟩ ?_
            · refine fun w8 hc  K hK => ?_
              (try simp only [Act.put, List.setIfInBounds_toArray, List.set_cons_zero, List.set_cons_succ])
              go_simp
              exact hK (.pointer (some ⟨w.heap.size, 2, none⟩)) _ rfl (Below.refl _ _)
            · refine fun w8 hc v0 h0 K hK => ?_
              obtain rfl : v0 = .pointer (some ⟨w.heap.size, 2, none⟩) := h0
              (try simp only [Act.put, List.setIfInBounds_toArray, List.set_cons_zero, List.set_cons_succ])
              have c0 : w8.cell? ⟨w.heap.size, 2, none⟩ = some (.int .i64 (M : Int)) := hc.2.1.cell 2
              go_simp
              exact hK (.int .i64 (M : Int)) _ rfl (Below.refl _ _)
            · refine fun w8 hc  K hK => ?_
              (try simp only [Act.put, List.setIfInBounds_toArray, List.set_cons_zero, List.set_cons_succ])
              go_simp
              exact hK (.int .i64 ((k : Int))) _ rfl (Below.refl _ _)
            · refine fun w8 hc v2 h2 K hK => ?_
              obtain rfl : v2 = .int .i64 ((k : Int)) := h2
              (try simp only [Act.put, List.setIfInBounds_toArray, List.set_cons_zero, List.set_cons_succ])
              go_simp
              (try simp only [hp, hp2])
              exact hK (.int .i64 p) _ rfl (Below.refl _ _)
            · refine fun w8 hc v1 h1 v3 h3 K hK => ?_
              obtain rfl : v1 = .int .i64 (M : Int) := h1
              obtain rfl : v3 = .int .i64 p := h3
              (try simp only [Act.put, List.setIfInBounds_toArray, List.set_cons_zero, List.set_cons_succ])
              go_simp
              (try simp only [hor])
              exact hK (.int .i64 (M2 : Int)) _ rfl (Below.refl _ _)
            · refine fun w8 hc  K hK => ?_
              (try simp only [Act.put, List.setIfInBounds_toArray, List.set_cons_zero, List.set_cons_succ])
              go_simp
              exact hK (.pointer (some ⟨w.heap.size, 2, none⟩)) _ rfl (Below.refl _ _)
            refine fun wg5 hc v0 h0 v1 h1 v2 h2 v3 h3 v4 h4 v5 h5 => ?_
            obtain rfl : v0 = .pointer (some ⟨w.heap.size, 2, none⟩) := h0
            obtain rfl : v1 = .int .i64 (M : Int) := h1
            obtain rfl : v2 = .int .i64 ((k : Int)) := h2
            obtain rfl : v3 = .int .i64 p := h3
            obtain rfl : v4 = .int .i64 (M2 : Int) := h4
            obtain rfl : v5 = .pointer (some ⟨w.heap.size, 2, none⟩) := h5
            (try simp only [reg.Obs])
            (try simp only [Act.put, List.setIfInBounds_toArray, List.set_cons_zero, List.set_cons_succ])
            simp only [List.drop_succ_cons, List.drop_zero]
            have B5 := Lib.hid hc.1
            have X5 := Lib.hid hc.2.1
            have Z5 := Lib.hid hc.2.2.1
            clear hc B4 X4 Z4
            have cX2 : wg5.cell? ⟨w.heap.size, 2, none⟩ = some (.int .i64 (M : Int)) := X5.out.cell 2
            have fX2 : wg5.frozen? ⟨w.heap.size, 2, none⟩ = false := X5.out.free 2
            go_wp2_with fail
            clear cX2 fX2
            have hWW : (wg5.setCell ⟨w.heap.size, 2, none⟩ (.int .i64 (M2 : Int))) = (wg5.setCell ⟨w.heap.size, 2, none⟩ (.int .i64 (M2 : Int))) := rfl
            obtain ⟨w6, hW⟩ : ∃ wy, (wg5.setCell ⟨w.heap.size, 2, none⟩ (.int .i64 (M2 : Int))) = wy := ⟨_, rfl⟩
            rw [hW]
            clear hWW
            have B6 := Lib.hid (show Below w.heap.size w w6 by rw [← hW]; exact (B5.out.setCell (p := ⟨w.heap.size, 2, none⟩) (by have hs0 := LTX.out; have hs1 := LTZ.out; have hs2 := SS1.out; have hs3 := SS2.out; have hs4 := LUX3.out; have hs5 := LUZ3.out; have hs6 := SBR3.out; have hs7 := SS4.out; first | omega | (simp <;> omega)) _))
            have X6 := Lib.hid (show Bx 25 w6 (w.heap.size) #[.int .i64 s, .int .i64 n, .int .i64 (M2 : Int)] by rw [← hW]; exact (X5.out.set 2 _))
            have Z6 := Lib.hid (show Bx 25 w6 (w.heap.size + 1) #[.int .i64 0, .int .i64 0, .int .i64 0] by rw [← hW]; exact (Z5.out.other (by have hs0 := LTX.out; have hs1 := LTZ.out; have hs2 := SS1.out; have hs3 := SS2.out; have hs4 := LUX3.out; have hs5 := LUZ3.out; have hs6 := SBR3.out; have hs7 := SS4.out; first | omega | (simp <;> omega)) _ _))
            clear hW B5 X5 Z5
            go_roundw
            case rel => exact ⟨k + 1, M2, by go_num, by omega, by rw [HL.out, ← HM2.out, hM.out], B6.out, X6.out, Z6.out⟩
            case measure => simp [intOf]; omega
          | false =>
            have HL := Lib.hid (setr_no (m := m) HT.out)
            go_wp2_with fail
            go_roundw
            case rel => exact ⟨k + 1, M, by go_num, by omega, by rw [HL.out]; exact hM.out, B4.out, X4.out, Z4.out⟩
            case measure => simp [intOf]; omega
        · have hlt2 : ¬ (k : Int) < W := by omega
          obtain rfl : k = W := by omega
          obtain ⟨⟨x0, x1, x2⟩, hx⟩ : ∃ q, (⟨(adv s M).1, n, ((adv s M).2 : Int)⟩ : Bs) = q := ⟨_, rfl⟩
          have HX := Lib.hid hx
          have HE9 := Lib.hid (show rcv ⟨s, n, (m : Int)⟩ c b = ⟨x0, x1, x2⟩ by rw [HE.out, HMK.out, ← hM.out]; exact hx)
          clear hx HE
          go_wp2_with (refine stw.list_load rfl 25 _ rfl (w.heap.size) rfl 25 _ X3.out Try.underlying25 rfl szS ?_)
          (with_reducible refine (implAdv s n M HS.out HM.out _).mono ?_)
          rintro e w4 hp
          obtain ⟨rfl, hb⟩ := s_parts HX.out hp
          clear hp
          have SS4 := Lib.hid hb.size
          have B4 := Lib.hid (B3.out.trans (hb.mono B3.out.size))
          have X4 := Lib.hid (X3.out.below hb)
          have Z4 := Lib.hid (Z3.out.below hb)
          clear hb  B3 X3 Z3
          go_wp2_with (first | (refine stw.list_store rfl 25 _ _ rfl (w.heap.size + 1) #[.int .i64 x0, .int .i64 x1, .int .i64 x2] rfl rfl 25 _ Z4.out rfl szS (oneS _ _ _) ?_; intro wz5 hz))
          have B5 := Lib.hid (hz.on B4.out (by have hs0 := LTX.out; have hs1 := LTZ.out; have hs2 := SS1.out; have hs3 := SS2.out; have hs4 := LUX3.out; have hs5 := LUZ3.out; have hs6 := SBR3.out; have hs7 := SS4.out; first | omega | (simp <;> omega)))
          have X5 := Lib.hid (hz.keep X4.out (by have hs0 := LTX.out; have hs1 := LTZ.out; have hs2 := SS1.out; have hs3 := SS2.out; have hs4 := LUX3.out; have hs5 := LUZ3.out; have hs6 := SBR3.out; have hs7 := SS4.out; first | omega | (simp <;> omega)))
          have Z5 := Lib.hid (hz.box)
          clear hz B4 X4 Z4
          (try simp only [Exit.inBlock, Exit.then])
          refine bodyPost_ret (v := .agg #[.int .i64 x0, .int .i64 x1, .int .i64 x2]) ?_ rfl ?_
          · rw [results_cell1 rfl]
            exact stw.back Z5.out Try.underlying25 rfl szS
          · exact ⟨by rw [HE9.out], B5.out⟩
    | false =>
      have HE := Lib.hid (HN.out rfl)
      clear HN HY
      go_wp2_with (first | (refine stw.list_load rfl 25 _ rfl (w.heap.size) rfl 25 _ X2.out Try.underlying25 rfl szS ?_) | (refine stw.list_store rfl 25 _ _ rfl (w.heap.size + 1) #[.int .i64 s, .int .i64 n, .int .i64 a] rfl rfl 25 _ Z2.out rfl szS (oneS _ _ _) ?_; intro wz3 hz))
      have B3 := Lib.hid (hz.on B2.out (by have hs0 := LTX.out; have hs1 := LTZ.out; have hs2 := SS1.out; have hs3 := SS2.out; first | omega | (simp <;> omega)))
      have X3 := Lib.hid (hz.keep X2.out (by have hs0 := LTX.out; have hs1 := LTZ.out; have hs2 := SS1.out; have hs3 := SS2.out; first | omega | (simp <;> omega)))
      have Z3 := Lib.hid (hz.box)
      clear hz B2 X2 Z2
      (try simp only [Exit.inBlock, Exit.then])
      refine bodyPost_ret (v := .agg #[.int .i64 s, .int .i64 n, .int .i64 a]) ?_ rfl ?_
      · rw [results_cell1 rfl]
        exact stw.back Z3.out Try.underlying25 rfl szS
      · exact ⟨by rw [HE.out], B3.out⟩
  | false =>
    have HE := Lib.hid (HN.out rfl)
    clear HN HY
    go_wp2_with (first | (refine stw.list_load rfl 25 _ rfl (w.heap.size) rfl 25 _ X1.out Try.underlying25 rfl szS ?_) | (refine stw.list_store rfl 25 _ _ rfl (w.heap.size + 1) #[.int .i64 s, .int .i64 n, .int .i64 a] rfl rfl 25 _ Z1.out rfl szS (oneS _ _ _) ?_; intro wz2 hz))
    have B2 := Lib.hid (hz.on B1.out (by have hs0 := LTX.out; have hs1 := LTZ.out; have hs2 := SS1.out; first | omega | (simp <;> omega)))
    have X2 := Lib.hid (hz.keep X1.out (by have hs0 := LTX.out; have hs1 := LTZ.out; have hs2 := SS1.out; first | omega | (simp <;> omega)))
    have Z2 := Lib.hid (hz.box)
    clear hz B1 X1 Z1
    (try simp only [Exit.inBlock, Exit.then])
    refine bodyPost_ret (v := .agg #[.int .i64 s, .int .i64 n, .int .i64 a]) ?_ rfl ?_
    · rw [results_cell1 rfl]
      exact stw.back Z2.out Try.underlying25 rfl szS
    · exact ⟨by rw [HE.out], B2.out⟩
set_option maxRecDepth 100000 in
set_option maxHeartbeats 4000000 in
theorem ackG (s n a : Int) (x : Int) (w : World) :
    Calls Try.prog 40 #[.agg #[.int .i64 s, .int .i64 n, .int .i64 a], .iface 61 (.int .i64 x)] w (SPost (giv ⟨s, n, a⟩ x) w) := by
  obtain ⟨v, hv⟩ : ∃ v, vs ⟨s, n, a⟩ = v := ⟨_, rfl⟩
  obtain ⟨f, hf⟩ : ∃ v, decide (x ∈ outs ⟨s, n, a⟩) = v := ⟨_, rfl⟩
  have HV := Lib.hid hv
  have HF := Lib.hid hf
  have HN := Lib.hid (fun h : (v && f) = false => show giv ⟨s, n, a⟩ x = ⟨s, n, a⟩ by subst hv hf; unfold giv; by_cases hx : x ∈ outs ⟨s, n, a⟩; (exfalso; rw [decide_eq_true hx, outs_vs hx] at h; cases h); rw [if_neg hx])
  have HY := Lib.hid (fun h : (v && f) = true => show giv ⟨s, n, a⟩ x = aft ⟨s, n, a⟩ (mks ⟨s, n, a⟩ (fun y => y == x)) by subst hv hf; unfold giv; rw [if_pos (of_decide_eq_true (by rw [Bool.and_eq_true] at h; exact h.2))])
  clear hv hf
  go_enter Try.func40, Try.ntmps40
  go_wp2_with fail
  obtain ⟨w0, hW⟩ : ∃ w0, (w.alloc (.cells #[.int .i64 s, .int .i64 n, .int .i64 a] 25)).alloc (.cells #[.int .i64 0, .int .i64 0, .int .i64 0] 25) = w0 := ⟨_, rfl⟩
  rw [hW]
  have B0 := Lib.hid (show Below w.heap.size w w0 by rw [← hW]; exact ((Below.refl _ _).alloc (by simp <;> omega) _).alloc (by simp <;> omega) _)
  have X0 := Lib.hid (show Bx 25 w0 (w.heap.size) #[.int .i64 s, .int .i64 n, .int .i64 a] by
      rw [← hW]
      have hh := Bx.made 25 w #[.int .i64 s, .int .i64 n, .int .i64 a]
      exact (hh.below (below_box _ _)))
  have Z0 := Lib.hid (show Bx 25 w0 (w.heap.size + 1) #[.int .i64 0, .int .i64 0, .int .i64 0] by
      rw [← hW]
      have hh : Bx 25 ((w.alloc (.cells #[.int .i64 s, .int .i64 n, .int .i64 a] 25)).alloc (.cells #[.int .i64 0, .int .i64 0, .int .i64 0] 25)) (w.heap.size + 1) #[.int .i64 0, .int .i64 0, .int .i64 0] := by have hh := Bx.made 25 (w.alloc (.cells #[.int .i64 s, .int .i64 n, .int .i64 a] 25)) #[.int .i64 0, .int .i64 0, .int .i64 0]; simpa using hh
      exact hh)
  clear hW
  have LTX := Lib.hid X0.out.lt
  have LTZ := Lib.hid Z0.out.lt
  go_wp2_with (refine stw.list_load rfl 25 _ rfl (w.heap.size) rfl 25 _ X0.out Try.underlying25 rfl szS ?_)
  (with_reducible refine (implVs s n a _).mono ?_)
  rintro e w1 hp
  obtain ⟨rfl, hb⟩ := b_parts HV.out hp
  clear hp
  have SS1 := Lib.hid hb.size
  have B1 := Lib.hid (B0.out.trans (hb.mono B0.out.size))
  have X1 := Lib.hid (X0.out.below hb)
  have Z1 := Lib.hid (Z0.out.below hb)
  clear hb  B0 X0 Z0
  cases v with
  | true =>
    have cX0 : w1.cell? ⟨w.heap.size, 0, none⟩ = some (.int .i64 s) := X1.out.cell 0
    have cX1 : w1.cell? ⟨w.heap.size, 1, none⟩ = some (.int .i64 n) := X1.out.cell 1
    have cX2 : w1.cell? ⟨w.heap.size, 2, none⟩ = some (.int .i64 a) := X1.out.cell 2
    go_wp2_with fail
    clear cX0 cX1 cX2
    (with_reducible refine (mfG s n a x _).mono ?_)
    rintro e w2 hp
    obtain ⟨rfl, hb⟩ := b_parts HF.out hp
    clear hp
    have SS2 := Lib.hid hb.size
    have B2 := Lib.hid (B1.out.trans (hb.mono B1.out.size))
    have X2 := Lib.hid (X1.out.below hb)
    have Z2 := Lib.hid (Z1.out.below hb)
    clear hb  B1 X1 Z1
    cases f with
    | true =>
      have HE := Lib.hid (HY.out rfl)
      clear HN HY
      have hv := HV.out
      obtain ⟨W, m, hV⟩ := vs_of hv
      obtain rfl : a = (m : Int) := hV.ha
      have HVV := Lib.hid hV
      have HSQ := Lib.hid (show sqd s n = (W : Int) from hV.sq)
      have HS := Lib.hid (show 0 ≤ s ∧ s ≤ 4095 from hV.hs)
      have HW := Lib.hid (show W ≤ 16 ∧ m < 65536 by have h1 := hV.hw; have h2 := hV.hb; have h3 : 2 ^ W ≤ 2 ^ 16 := Nat.pow_le_pow_right (by omega) h1; omega)
      have HOU := Lib.hid (show outs ⟨s, n, (m : Int)⟩ = (ou m W).map (fr s) from hV.outs)
      clear hV
      have cX0 : w2.cell? ⟨w.heap.size, 0, none⟩ = some (.int .i64 s) := X2.out.cell 0
      have cX1 : w2.cell? ⟨w.heap.size, 1, none⟩ = some (.int .i64 n) := X2.out.cell 1
      go_wp2_with fail
      (with_reducible refine (implSd s n _).mono ?_)
      rw [HSQ.out]
      rintro e wq ⟨rfl, rfl⟩
      go_wp2_with fail
      clear cX0 cX1
      obtain ⟨cf, hcf⟩ : ∃ cf : Nat → Bool, (fun i => (fun y => y == x) (fr s i)) = cf := ⟨_, rfl⟩
      have HCF := Lib.hid (fun i => show (fr s i == x) = cf i by rw [← hcf])
      have HMK := Lib.hid (show mks ⟨s, n, (m : Int)⟩ (fun y => y == x) = setl m (List.range W) cf by rw [HVV.out.mk' (fun y => y == x), ← hcf])
      clear hcf
      go_loopw [21] (fun v0 wr => ∃ (k : Nat) (M : Nat), v0 = .int .i64 (k : Int) ∧ (k ≤ W) ∧ (M = setl m (List.range k) cf) ∧ Below w.heap.size w wr ∧ Bx 25 wr w.heap.size #[.int .i64 s, .int .i64 n, .int .i64 (M : Int)] ∧ Bx 25 wr (w.heap.size + 1) #[.int .i64 0, .int .i64 0, .int .i64 0]) ((fun i _ => W - (intOf i).toNat))
      case atStart => exact ⟨0, m, rfl, by omega, rfl, B2.out, X2.out, Z2.out⟩
      case round =>
        obtain ⟨k, M, rfl, ghk, ghM, gB3, gX3, gZ3⟩ := hrel
        have B3 := Lib.hid gB3
        have X3 := Lib.hid gX3
        have Z3 := Lib.hid gZ3
        have hk := Lib.hid ghk
        have hM := Lib.hid ghM
        clear gB3 gX3 gZ3 ghk ghM
        have LUX3 := Lib.hid X3.out.lt
        have LUZ3 := Lib.hid Z3.out.lt
        have SBR3 := Lib.hid B3.out.size
        have hk := hk.out
        have hk16 : k ≤ 16 := by have := HW.out; omega
        have HM := Lib.hid (show M < 65536 by rw [hM.out]; have h1 := setl_lt (c := cf) (L := List.range k) HVV.out.hb (fun i hi => by have := List.mem_range.1 hi; omega); have h2 := HVV.out.hw; have h3 : 2 ^ W ≤ 2 ^ 16 := Nat.pow_le_pow_right (by omega) h2; omega)
        by_cases hlt : k < W
        · have hlt2 : (k : Int) < W := by omega
          have HK := Lib.hid (show (k : Int) ≤ 15 ∧ k < 16 by have := HW.out; omega)
          obtain ⟨t, ht⟩ : ∃ t, cf k = t := ⟨_, rfl⟩
          have HT := Lib.hid ht
          clear ht
          go_upto_region 6 with fail
          have mX0 : ∀ m : bx.Af wr, m.w.cell? ⟨w.heap.size, 0, none⟩ = some (.int .i64 s) := fun m => (bx.Af.cells X3.out m).cell 0
          have hna := Lib.hid (fun W => by kernel_rfl : ∀ W : World, (nilAhead (Try.prog.types.size + Made.depth) 61 (.int .i64 x) "loop.example/g00511/impl.covers").run Try.prog W = .ok (some false) W)
          have hinv : ∀ W : World, (invoke (.fn (.method "loop.example/g00511/impl.covers") #[]) #[.iface 61 (.int .i64 x), .int .i64 (fr s k)]).run Try.prog W = .ok (.enter 80 #[.int .i64 x, .int .i64 (fr s k)]) W := fun W => by kernel_rfl
          have q1 := Lib.hid (fun m => ((seqA s (k : Int) m.w HS.out (by have := HK.out; omega))).mono fun _ _ h => ⟨h.1, h.2 ▸ Below.refl _ _⟩ : ∀ m : bx.Af wr, Calls Try.prog 47 #[.int .i64 s, .int .i64 (k : Int)] m.w fun e w' => e = .returned (.int .i64 (fr s k)) ∧ Below m.w.heap.size m.w w')
          have q0 := Lib.hid (fun m => by have hh := covG x (fr s k) m.w; rw [HCF.out k, HT.out] at hh; exact hh : ∀ m : bx.Af wr, Calls Try.prog 80 #[.int .i64 x, .int .i64 (fr s k)] m.w fun e w' => e = .returned (.bool t) ∧ Below m.w.heap.size m.w w')
          refine bx.region_after (by kernel_rfl) (by kernel_rfl) ?_
          repeat (first
            | (go_big_quiet_want; refine quiet_nilc _ rfl 61 _ _ rfl hna.out ?_; simp only [Act.put, List.setIfInBounds_toArray, List.set_cons_zero, List.set_cons_succ]; go_big_quiet_on)
            | (go_big_quiet_want; refine quiet_inv1 _ _ _ _ rfl 61 (.int .i64 x) (.int .i64 (fr s k)) rfl rfl 80 _ (.bool t) hinv (nc_at q0.out) ?_; simp only [Act.put, List.setIfInBounds_toArray, List.set_cons_zero, List.set_cons_succ]; go_big_quiet_on)
            | (go_big_quiet_step ((go_at_call 47; with_reducible exact bx.Af.call (q1.out _)))))
          refine wpQuiet_nil ?_
          intro _ hw'
          obtain ⟨nq9, hw''⟩ := hw'
          subst hw''
          clear q0 q1 hinv hna mX0
          obtain ⟨w4, hw5⟩ : ∃ w5, nq9.w = w5 := ⟨_, rfl⟩
          have hb := nq9.below
          rw [hw5] at hb
          (try rw [hw5])
          clear hw5
          have SS4 := Lib.hid hb.size
          have B4 := Lib.hid (B3.out.trans (hb.mono B3.out.size))
          have X4 := Lib.hid (X3.out.below hb)
          have Z4 := Lib.hid (Z3.out.below hb)
          clear hb nq9 B3 X3 Z3
          cases t with
          | true =>
            have HL := Lib.hid (setr_yes (m := m) HT.out)
            obtain ⟨p, hp⟩ : ∃ p, wrap64 (2 ^ k) = p := ⟨_, rfl⟩
            have hp2 : IntKind.i64.wrap (2 ^ k) = p := (wrap_64 _).trans hp
            obtain ⟨M2, hM2⟩ : ∃ x, M ||| 2 ^ k = x := ⟨_, rfl⟩
            have hor : bits .or .i64 (M : Int) p = (M2 : Int) := by rw [← hp, ← hM2]; exact or_pow HM.out (by have := HK.out; omega)
            have hk64 : (k : Int) ≤ 64 := by have := HK.out; omega
            have HM2 := Lib.hid hM2
            clear hM2
            go_upto_region 7 with fail
            refine reg.region_tail reg.Bel 6 42 [some [], some [(0, 33)], some [], some [(2, 35)], some [(1, 34), (3, 36)], some [], none] [(0, 33), (1, 34), (2, 35), (3, 36), (4, 37), (5, 38)]
              (fun w' => Below w.heap.size w w' ∧ Bx 25 w' (w.heap.size) #[.int .i64 s, .int .i64 n, .int .i64 (M : Int)] ∧ Bx 25 w' (w.heap.size + 1) #[.int .i64 0, .int .i64 0, .int .i64 0] ∧ True)
              (reg.rl [reg.is (.pointer (some ⟨w.heap.size, 2, none⟩)), reg.is (.int .i64 (M : Int)), reg.is (.int .i64 ((k : Int))), reg.is (.int .i64 p), reg.is (.int .i64 (M2 : Int)), reg.is (.pointer (some ⟨w.heap.size, 2, none⟩)), reg.free])
              (by kernel_rfl) rfl (by kernel_rfl) (by kernel_rfl) rfl
              (fun w1 w2 hc hb => ⟨hc.1.trans (hb.mono hc.1.size), hc.2.1.below hb, hc.2.2.1.below hb, trivial⟩) (reg.rl_keep _) (⟨own.below_drew B4.out, X4.out.same rfl, Z4.out.same rfl, trivial⟩) (by kernel_rfl) ⟨?_, ?_, ?_, ?_, ?_, ?_, trivial⟩ ?_
            · refine fun w8 hc  K hK => ?_
              (try simp only [Act.put, List.setIfInBounds_toArray, List.set_cons_zero, List.set_cons_succ])
              go_simp
              exact hK (.pointer (some ⟨w.heap.size, 2, none⟩)) _ rfl (Below.refl _ _)
            · refine fun w8 hc v0 h0 K hK => ?_
              obtain rfl : v0 = .pointer (some ⟨w.heap.size, 2, none⟩) := h0
              (try simp only [Act.put, List.setIfInBounds_toArray, List.set_cons_zero, List.set_cons_succ])
              have c0 : w8.cell? ⟨w.heap.size, 2, none⟩ = some (.int .i64 (M : Int)) := hc.2.1.cell 2
              go_simp
              exact hK (.int .i64 (M : Int)) _ rfl (Below.refl _ _)
            · refine fun w8 hc  K hK => ?_
              (try simp only [Act.put, List.setIfInBounds_toArray, List.set_cons_zero, List.set_cons_succ])
              go_simp
              exact hK (.int .i64 ((k : Int))) _ rfl (Below.refl _ _)
            · refine fun w8 hc v2 h2 K hK => ?_
              obtain rfl : v2 = .int .i64 ((k : Int)) := h2
              (try simp only [Act.put, List.setIfInBounds_toArray, List.set_cons_zero, List.set_cons_succ])
              go_simp
              (try simp only [hp, hp2])
              exact hK (.int .i64 p) _ rfl (Below.refl _ _)
            · refine fun w8 hc v1 h1 v3 h3 K hK => ?_
              obtain rfl : v1 = .int .i64 (M : Int) := h1
              obtain rfl : v3 = .int .i64 p := h3
              (try simp only [Act.put, List.setIfInBounds_toArray, List.set_cons_zero, List.set_cons_succ])
              go_simp
              (try simp only [hor])
              exact hK (.int .i64 (M2 : Int)) _ rfl (Below.refl _ _)
            · refine fun w8 hc  K hK => ?_
              (try simp only [Act.put, List.setIfInBounds_toArray, List.set_cons_zero, List.set_cons_succ])
              go_simp
              exact hK (.pointer (some ⟨w.heap.size, 2, none⟩)) _ rfl (Below.refl _ _)
            refine fun wg5 hc v0 h0 v1 h1 v2 h2 v3 h3 v4 h4 v5 h5 => ?_
            obtain rfl : v0 = .pointer (some ⟨w.heap.size, 2, none⟩) := h0
            obtain rfl : v1 = .int .i64 (M : Int) := h1
            obtain rfl : v2 = .int .i64 ((k : Int)) := h2
            obtain rfl : v3 = .int .i64 p := h3
            obtain rfl : v4 = .int .i64 (M2 : Int) := h4
            obtain rfl : v5 = .pointer (some ⟨w.heap.size, 2, none⟩) := h5
            (try simp only [reg.Obs])
            (try simp only [Act.put, List.setIfInBounds_toArray, List.set_cons_zero, List.set_cons_succ])
            simp only [List.drop_succ_cons, List.drop_zero]
            have B5 := Lib.hid hc.1
            have X5 := Lib.hid hc.2.1
            have Z5 := Lib.hid hc.2.2.1
            clear hc B4 X4 Z4
            have cX2 : wg5.cell? ⟨w.heap.size, 2, none⟩ = some (.int .i64 (M : Int)) := X5.out.cell 2
            have fX2 : wg5.frozen? ⟨w.heap.size, 2, none⟩ = false := X5.out.free 2
            go_wp2_with fail
            clear cX2 fX2
            have hWW : (wg5.setCell ⟨w.heap.size, 2, none⟩ (.int .i64 (M2 : Int))) = (wg5.setCell ⟨w.heap.size, 2, none⟩ (.int .i64 (M2 : Int))) := rfl
            obtain ⟨w6, hW⟩ : ∃ wy, (wg5.setCell ⟨w.heap.size, 2, none⟩ (.int .i64 (M2 : Int))) = wy := ⟨_, rfl⟩
            rw [hW]
            clear hWW
            have B6 := Lib.hid (show Below w.heap.size w w6 by rw [← hW]; exact (B5.out.setCell (p := ⟨w.heap.size, 2, none⟩) (by have hs0 := LTX.out; have hs1 := LTZ.out; have hs2 := SS1.out; have hs3 := SS2.out; have hs4 := LUX3.out; have hs5 := LUZ3.out; have hs6 := SBR3.out; have hs7 := SS4.out; first | omega | (simp <;> omega)) _))
            have X6 := Lib.hid (show Bx 25 w6 (w.heap.size) #[.int .i64 s, .int .i64 n, .int .i64 (M2 : Int)] by rw [← hW]; exact (X5.out.set 2 _))
            have Z6 := Lib.hid (show Bx 25 w6 (w.heap.size + 1) #[.int .i64 0, .int .i64 0, .int .i64 0] by rw [← hW]; exact (Z5.out.other (by have hs0 := LTX.out; have hs1 := LTZ.out; have hs2 := SS1.out; have hs3 := SS2.out; have hs4 := LUX3.out; have hs5 := LUZ3.out; have hs6 := SBR3.out; have hs7 := SS4.out; first | omega | (simp <;> omega)) _ _))
            clear hW B5 X5 Z5
            go_roundw
            case rel => exact ⟨k + 1, M2, by go_num, by omega, by rw [HL.out, ← HM2.out, hM.out], B6.out, X6.out, Z6.out⟩
            case measure => simp [intOf]; omega
          | false =>
            have HL := Lib.hid (setr_no (m := m) HT.out)
            go_wp2_with fail
            go_roundw
            case rel => exact ⟨k + 1, M, by go_num, by omega, by rw [HL.out]; exact hM.out, B4.out, X4.out, Z4.out⟩
            case measure => simp [intOf]; omega
        · have hlt2 : ¬ (k : Int) < W := by omega
          obtain rfl : k = W := by omega
          obtain ⟨⟨x0, x1, x2⟩, hx⟩ : ∃ q, (⟨(adv s M).1, n, ((adv s M).2 : Int)⟩ : Bs) = q := ⟨_, rfl⟩
          have HX := Lib.hid hx
          have HE9 := Lib.hid (show giv ⟨s, n, (m : Int)⟩ x = ⟨x0, x1, x2⟩ by rw [HE.out, HMK.out, ← hM.out]; exact hx)
          clear hx HE
          go_wp2_with (refine stw.list_load rfl 25 _ rfl (w.heap.size) rfl 25 _ X3.out Try.underlying25 rfl szS ?_)
          (with_reducible refine (implAdv s n M HS.out HM.out _).mono ?_)
          rintro e w4 hp
          obtain ⟨rfl, hb⟩ := s_parts HX.out hp
          clear hp
          have SS4 := Lib.hid hb.size
          have B4 := Lib.hid (B3.out.trans (hb.mono B3.out.size))
          have X4 := Lib.hid (X3.out.below hb)
          have Z4 := Lib.hid (Z3.out.below hb)
          clear hb  B3 X3 Z3
          go_wp2_with (first | (refine stw.list_store rfl 25 _ _ rfl (w.heap.size + 1) #[.int .i64 x0, .int .i64 x1, .int .i64 x2] rfl rfl 25 _ Z4.out rfl szS (oneS _ _ _) ?_; intro wz5 hz))
          have B5 := Lib.hid (hz.on B4.out (by have hs0 := LTX.out; have hs1 := LTZ.out; have hs2 := SS1.out; have hs3 := SS2.out; have hs4 := LUX3.out; have hs5 := LUZ3.out; have hs6 := SBR3.out; have hs7 := SS4.out; first | omega | (simp <;> omega)))
          have X5 := Lib.hid (hz.keep X4.out (by have hs0 := LTX.out; have hs1 := LTZ.out; have hs2 := SS1.out; have hs3 := SS2.out; have hs4 := LUX3.out; have hs5 := LUZ3.out; have hs6 := SBR3.out; have hs7 := SS4.out; first | omega | (simp <;> omega)))
          have Z5 := Lib.hid (hz.box)
          clear hz B4 X4 Z4
          (try simp only [Exit.inBlock, Exit.then])
          refine bodyPost_ret (v := .agg #[.int .i64 x0, .int .i64 x1, .int .i64 x2]) ?_ rfl ?_
          · rw [results_cell1 rfl]
            exact stw.back Z5.out Try.underlying25 rfl szS
          · exact ⟨by rw [HE9.out], B5.out⟩
    | false =>
      have HE := Lib.hid (HN.out rfl)
      clear HN HY
      go_wp2_with (first | (refine stw.list_load rfl 25 _ rfl (w.heap.size) rfl 25 _ X2.out Try.underlying25 rfl szS ?_) | (refine stw.list_store rfl 25 _ _ rfl (w.heap.size + 1) #[.int .i64 s, .int .i64 n, .int .i64 a] rfl rfl 25 _ Z2.out rfl szS (oneS _ _ _) ?_; intro wz3 hz))
      have B3 := Lib.hid (hz.on B2.out (by have hs0 := LTX.out; have hs1 := LTZ.out; have hs2 := SS1.out; have hs3 := SS2.out; first | omega | (simp <;> omega)))
      have X3 := Lib.hid (hz.keep X2.out (by have hs0 := LTX.out; have hs1 := LTZ.out; have hs2 := SS1.out; have hs3 := SS2.out; first | omega | (simp <;> omega)))
      have Z3 := Lib.hid (hz.box)
      clear hz B2 X2 Z2
      (try simp only [Exit.inBlock, Exit.then])
      refine bodyPost_ret (v := .agg #[.int .i64 s, .int .i64 n, .int .i64 a]) ?_ rfl ?_
      · rw [results_cell1 rfl]
        exact stw.back Z3.out Try.underlying25 rfl szS
      · exact ⟨by rw [HE.out], B3.out⟩
  | false =>
    have HE := Lib.hid (HN.out rfl)
    clear HN HY
    go_wp2_with (first | (refine stw.list_load rfl 25 _ rfl (w.heap.size) rfl 25 _ X1.out Try.underlying25 rfl szS ?_) | (refine stw.list_store rfl 25 _ _ rfl (w.heap.size + 1) #[.int .i64 s, .int .i64 n, .int .i64 a] rfl rfl 25 _ Z1.out rfl szS (oneS _ _ _) ?_; intro wz2 hz))
    have B2 := Lib.hid (hz.on B1.out (by have hs0 := LTX.out; have hs1 := LTZ.out; have hs2 := SS1.out; first | omega | (simp <;> omega)))
    have X2 := Lib.hid (hz.keep X1.out (by have hs0 := LTX.out; have hs1 := LTZ.out; have hs2 := SS1.out; first | omega | (simp <;> omega)))
    have Z2 := Lib.hid (hz.box)
    clear hz B1 X1 Z1
    (try simp only [Exit.inBlock, Exit.then])
    refine bodyPost_ret (v := .agg #[.int .i64 s, .int .i64 n, .int .i64 a]) ?_ rfl ?_
    · rw [results_cell1 rfl]
      exact stw.back Z2.out Try.underlying25 rfl szS
    · exact ⟨by rw [HE.out], B2.out⟩
set_option maxRecDepth 100000 in
set_option maxHeartbeats 4000000 in
theorem implRcv (s n a : Int) (c b : Int) (w : World) :
    Calls Try.prog 14 #[.agg #[.int .i64 s, .int .i64 n, .int .i64 a], .agg #[.int .i64 c, .int .i64 b]] w (SPost (rcv ⟨s, n, a⟩ c b) w) := by
  obtain ⟨⟨x0, x1, x2⟩, hx⟩ : ∃ q, rcv ⟨s, n, a⟩ c b = q := ⟨_, rfl⟩
  have HX := Lib.hid hx
  clear hx
  go_enter Try.func14, Try.ntmps14
  go_wp2_with fail
  obtain ⟨w0, hW⟩ : ∃ w0, ((w.alloc (.cells #[.int .i64 s, .int .i64 n, .int .i64 a] 25)).alloc (.cells #[.int .i64 c, .int .i64 b] 27)).alloc (.cells #[.int .i64 0, .int .i64 0, .int .i64 0] 25) = w0 := ⟨_, rfl⟩
  rw [hW]
  have B0 := Lib.hid (show Below w.heap.size w w0 by rw [← hW]; exact (((Below.refl _ _).alloc (by simp <;> omega) _).alloc (by simp <;> omega) _).alloc (by simp <;> omega) _)
  have X0 := Lib.hid (show Bx 25 w0 (w.heap.size) #[.int .i64 s, .int .i64 n, .int .i64 a] by
      rw [← hW]
      have hh := Bx.made 25 w #[.int .i64 s, .int .i64 n, .int .i64 a]
      exact ((hh.below (below_box _ _)).below (below_box _ _)))
  have A0 := Lib.hid (show Bx 27 w0 (w.heap.size + 1) #[.int .i64 c, .int .i64 b] by
      rw [← hW]
      have hh : Bx 27 ((w.alloc (.cells #[.int .i64 s, .int .i64 n, .int .i64 a] 25)).alloc (.cells #[.int .i64 c, .int .i64 b] 27)) (w.heap.size + 1) #[.int .i64 c, .int .i64 b] := by have hh := Bx.made 27 (w.alloc (.cells #[.int .i64 s, .int .i64 n, .int .i64 a] 25)) #[.int .i64 c, .int .i64 b]; simpa using hh
      exact (hh.below (below_box _ _)))
  have Z0 := Lib.hid (show Bx 25 w0 (w.heap.size + 1 + 1) #[.int .i64 0, .int .i64 0, .int .i64 0] by
      rw [← hW]
      have hh : Bx 25 (((w.alloc (.cells #[.int .i64 s, .int .i64 n, .int .i64 a] 25)).alloc (.cells #[.int .i64 c, .int .i64 b] 27)).alloc (.cells #[.int .i64 0, .int .i64 0, .int .i64 0] 25)) (w.heap.size + 1 + 1) #[.int .i64 0, .int .i64 0, .int .i64 0] := by have hh := Bx.made 25 ((w.alloc (.cells #[.int .i64 s, .int .i64 n, .int .i64 a] 25)).alloc (.cells #[.int .i64 c, .int .i64 b] 27)) #[.int .i64 0, .int .i64 0, .int .i64 0]; simpa using hh
      exact hh)
  clear hW
  have LTX := Lib.hid X0.out.lt
  have LTA := Lib.hid A0.out.lt
  have LTZ := Lib.hid Z0.out.lt
  go_wp2_with (first | (refine stw.list_load rfl 25 _ rfl (w.heap.size) rfl 25 _ X0.out Try.underlying25 rfl szS ?_) | (refine stw.list_load rfl 27 _ rfl (w.heap.size + 1) rfl 27 _ A0.out Try.underlying27 rfl szA ?_))
  (with_reducible refine (ackA s n a c b _).mono ?_)
  rintro e w1 hp
  obtain ⟨rfl, hb⟩ := s_parts HX.out hp
  clear hp
  have SS1 := Lib.hid hb.size
  have B1 := Lib.hid (B0.out.trans (hb.mono B0.out.size))
  have X1 := Lib.hid (X0.out.below hb)
  have A1 := Lib.hid (A0.out.below hb)
  have Z1 := Lib.hid (Z0.out.below hb)
  clear hb  B0 X0 A0 Z0
  go_wp2_with (first | (refine stw.list_store rfl 25 _ _ rfl (w.heap.size + 1 + 1) #[.int .i64 x0, .int .i64 x1, .int .i64 x2] rfl rfl 25 _ Z1.out rfl szS (oneS _ _ _) ?_; intro wz2 hz))
  have B2 := Lib.hid (hz.on B1.out (by have hs0 := LTX.out; have hs1 := LTA.out; have hs2 := LTZ.out; have hs3 := SS1.out; first | omega | (simp <;> omega)))
  have X2 := Lib.hid (hz.keep X1.out (by have hs0 := LTX.out; have hs1 := LTA.out; have hs2 := LTZ.out; have hs3 := SS1.out; first | omega | (simp <;> omega)))
  have A2 := Lib.hid (hz.keep A1.out (by have hs0 := LTX.out; have hs1 := LTA.out; have hs2 := LTZ.out; have hs3 := SS1.out; first | omega | (simp <;> omega)))
  have Z2 := Lib.hid (hz.box)
  clear hz B1 X1 A1 Z1
  (try simp only [Exit.inBlock, Exit.then])
  refine bodyPost_ret (v := .agg #[.int .i64 x0, .int .i64 x1, .int .i64 x2]) ?_ rfl ?_
  · rw [results_cell1 rfl]
    exact stw.back Z2.out Try.underlying25 rfl szS
  · exact ⟨by rw [HX.out], B2.out⟩
set_option maxRecDepth 100000 in
set_option maxHeartbeats 4000000 in
theorem implGiv (s n a : Int) (x : Int) (w : World) :
    Calls Try.prog 21 #[.agg #[.int .i64 s, .int .i64 n, .int .i64 a], .int .i64 x] w (SPost (giv ⟨s, n, a⟩ x) w) := by
  obtain ⟨⟨x0, x1, x2⟩, hx⟩ : ∃ q, giv ⟨s, n, a⟩ x = q := ⟨_, rfl⟩
  have HX := Lib.hid hx
  clear hx
  go_enter Try.func21, Try.ntmps21
  go_wp2_with fail
  obtain ⟨w0, hW⟩ : ∃ w0, (w.alloc (.cells #[.int .i64 s, .int .i64 n, .int .i64 a] 25)).alloc (.cells #[.int .i64 0, .int .i64 0, .int .i64 0] 25) = w0 := ⟨_, rfl⟩
  rw [hW]
  have B0 := Lib.hid (show Below w.heap.size w w0 by rw [← hW]; exact ((Below.refl _ _).alloc (by simp <;> omega) _).alloc (by simp <;> omega) _)
  have X0 := Lib.hid (show Bx 25 w0 (w.heap.size) #[.int .i64 s, .int .i64 n, .int .i64 a] by
      rw [← hW]
      have hh := Bx.made 25 w #[.int .i64 s, .int .i64 n, .int .i64 a]
      exact (hh.below (below_box _ _)))
  have Z0 := Lib.hid (show Bx 25 w0 (w.heap.size + 1) #[.int .i64 0, .int .i64 0, .int .i64 0] by
      rw [← hW]
      have hh : Bx 25 ((w.alloc (.cells #[.int .i64 s, .int .i64 n, .int .i64 a] 25)).alloc (.cells #[.int .i64 0, .int .i64 0, .int .i64 0] 25)) (w.heap.size + 1) #[.int .i64 0, .int .i64 0, .int .i64 0] := by have hh := Bx.made 25 (w.alloc (.cells #[.int .i64 s, .int .i64 n, .int .i64 a] 25)) #[.int .i64 0, .int .i64 0, .int .i64 0]; simpa using hh
      exact hh)
  clear hW
  have LTX := Lib.hid X0.out.lt
  have LTZ := Lib.hid Z0.out.lt
  go_wp2_with (refine stw.list_load rfl 25 _ rfl (w.heap.size) rfl 25 _ X0.out Try.underlying25 rfl szS ?_)
  (with_reducible refine (ackG s n a x _).mono ?_)
  rintro e w1 hp
  obtain ⟨rfl, hb⟩ := s_parts HX.out hp
  clear hp
  have SS1 := Lib.hid hb.size
  have B1 := Lib.hid (B0.out.trans (hb.mono B0.out.size))
  have X1 := Lib.hid (X0.out.below hb)
  have Z1 := Lib.hid (Z0.out.below hb)
  clear hb  B0 X0 Z0
  go_wp2_with (first | (refine stw.list_store rfl 25 _ _ rfl (w.heap.size + 1) #[.int .i64 x0, .int .i64 x1, .int .i64 x2] rfl rfl 25 _ Z1.out rfl szS (oneS _ _ _) ?_; intro wz2 hz))
  have B2 := Lib.hid (hz.on B1.out (by have hs0 := LTX.out; have hs1 := LTZ.out; have hs2 := SS1.out; first | omega | (simp <;> omega)))
  have X2 := Lib.hid (hz.keep X1.out (by have hs0 := LTX.out; have hs1 := LTZ.out; have hs2 := SS1.out; first | omega | (simp <;> omega)))
  have Z2 := Lib.hid (hz.box)
  clear hz B1 X1 Z1
  (try simp only [Exit.inBlock, Exit.then])
  refine bodyPost_ret (v := .agg #[.int .i64 x0, .int .i64 x1, .int .i64 x2]) ?_ rfl ?_
  · rw [results_cell1 rfl]
    exact stw.back Z2.out Try.underlying25 rfl szS
  · exact ⟨by rw [HX.out], B2.out⟩
end Go.Proofs.Ythbmnhbnoipdfaa.bs
