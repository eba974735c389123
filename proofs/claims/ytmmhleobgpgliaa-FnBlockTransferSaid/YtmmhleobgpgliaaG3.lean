/- Merged texts of this seat. Bs4: Acknowledged frames and given up frames, the program: a type switch and a call through an interface. Condition: none. | Bs5: Acknowledged frames and given up frames, the specification. Condition: none. | Mrw: Slices whose elements are structs of several cells, one of them a slice of bytes: what such a slice that is read holds (Rq), what one of the call's own holds (Oe, Oq), whatever the struct. Condition: none. | Mrs: Rows of elements of several cells: an element stored behind the others, a cell changed, a slice of an element changed, an element removed. Condition: none. | Mra: Appends onto rows of elements of several cells, told exactly: the old slice stays, only its own block may change. Condition: together at most 2^30 elements. | StrBytes: The bytes of a string in new memory ('[]byte(s)'), as a slice that is read. Condition: the string fits. | Om: Rows of numbers of the call's own whose block may bear a mark that hits none of their cells ('[]byte(s)' makes such a row): as Ow, but nothing is appended onto them; marking them. Condition: sizes up to 2^26. | Draw2: What the draws of numbers and strings return, in ranges. Condition: the bytes that are drawn from are a slice that came in. | Drk: Blocks, cursors and draws: small laws whatever the struct. Condition: none. | Rgk: A region that draws its order and stores whole variables whose places are known, in whatever order the stores come: what each operation may do to the world, what is right of its value and stays so. Condition: none. | Ux: Values of any type as data: what is read of one (R), what one of the call's own owns, block by block (O), how great it is, what marking it leaves; slices of numbers and slices of whatever elements. Condition: none. -/
import Derived.Laws.IdiomStrings
import Derived.Test.YtmmhleobgpgliaaG1
import Derived.Test.YtmmhleobgpgliaaG2
section
namespace Go.Proofs.Ytmmhleobgpgliaa.bs
open Go.RowKit sl harn rng bx stw
set_option linter.unusedVariables false
set_option linter.unusedSimpArgs false

theorem quiet_nilc {P : Program} {C : World → Prop} {a : Act} {o : Oper} {K : Act → Prop} (x : Operand) (h : o.op = .nilCheck x) (T : TypeId) (v : Value) (nm : String) (hx : a.eval x = .func (.method nm) #[.iface T v] #[])
    (hn : ∀ w, (nilAhead (P.types.size + Made.depth) T v nm).run P w = .ok (some false) w) (hk : K (a.put o.dst (.func (.method nm) #[.iface T v] #[]))) : o.quiet P a C K := by
  refine ⟨_, fun w _ => ?_, hk⟩
  unfold Oper.quietAt Oper.quietUpon execOp
  simp only [h, hx]
  simp [Sem.run_bind, hn]
theorem quiet_inv1 {P : Program} {C : World → Prop} {a : Act} {o : Oper} {K : Act → Prop} (r p : Operand) (nm : String) (ts : Array TypeId) (h : o.op = .call { callee := .invoke r nm, args := #[p], argTypes := ts }) (T : TypeId) (rv pv : Value)
    (hr : a.eval r = .iface T rv) (hp : a.eval p = pv) (f : FuncId) (args : Array Value) (v : Value) (hi : ∀ w, (invoke (.fn (.method nm) #[]) #[.iface T rv, pv]).run P w = .ok (.enter f args) w)
    (hc : ∀ w, C w → Calls P f args w fun e w' => e = .returned v ∧ C w') (hk : K (a.put o.dst v)) : o.quiet P a C K := by
  refine ⟨v, fun w hw => ?_, hk⟩
  unfold Oper.quietAt Oper.quietUpon execOp
  simp only [h, resolve, Sem.run_bind, Sem.run_pure, Result.andThen_ok, List.map_toArray, List.map_cons, List.map_nil, hr, hp]
  have e : (#[(.iface T rv : Value)] ++ #[pv] : Array Value) = #[.iface T rv, pv] := rfl
  rw [e, hi]
  exact ⟨rfl, hc w hw⟩
theorem nc_at {base : World} {P : Program} {f : FuncId} {args : Array Value} {v : Value} (h : ∀ m : bx.Af base, Calls P f args m.w fun e w' => e = .returned v ∧ Below m.w.heap.size m.w w') : ∀ w, (∃ n : bx.Af base, w = n.w) → Calls P f args w fun e w' => e = .returned v ∧ ∃ n : bx.Af base, w' = n.w :=
  fun w hw => by
    obtain ⟨n, rfl⟩ := hw
    exact bx.Af.call (h n)
theorem wrap_64 (x : Int) : IntKind.i64.wrap x = wrap64 x := by unfold wrap64; exact IntKind.wrap_i64 x
theorem outs_vs {q : Bs} {x : Int} (h : x ∈ outs q) : vs q = true := by
  cases hv : vs q
  · rw [outs_no hv] at h; cases h
  · rfl
set_option maxRecDepth 100000 in
set_option maxHeartbeats 4000000 in
theorem covA (c b y : Int) (w : World) :
    Calls Try.prog 122 #[.agg #[.int .i64 c, .int .i64 b], .int .i64 y] w (BPost (cvr c b y) w) := by
  obtain ⟨d, hd⟩ : ∃ d, sqd c y = d := ⟨_, rfl⟩
  obtain ⟨t1, h1⟩ : ∃ t, nwr c y = t := ⟨_, rfl⟩
  obtain ⟨t2, h2⟩ : ∃ t, decide (0 ≤ d ∧ d ≤ 15) = t := ⟨_, rfl⟩
  obtain ⟨t3, h3⟩ : ∃ t, bit b d = t := ⟨_, rfl⟩
  have HV := Lib.hid (show cvr c b y = (t1 || (t2 && t3)) by unfold cvr; rw [h1, hd, h2, h3])
  have HD := Lib.hid hd
  have H1 := Lib.hid h1
  have H2 := Lib.hid h2
  have H3 := Lib.hid h3
  clear hd h1 h2 h3
  go_enter Try.func122, Try.ntmps122
  go_wp2_with fail
  obtain ⟨w0, hW⟩ : ∃ w0, w.alloc (.cells #[.int .i64 c, .int .i64 b] 42) = w0 := ⟨_, rfl⟩
  rw [hW]
  have B0 := Lib.hid (show Below w.heap.size w w0 by rw [← hW]; exact (Below.refl _ _).alloc (by simp <;> omega) _)
  have X0 := Lib.hid (show Bx 42 w0 (w.heap.size) #[.int .i64 c, .int .i64 b] by
      rw [← hW]
      have hh := Bx.made 42 w #[.int .i64 c, .int .i64 b]
      exact hh)
  clear hW
  have LTX := Lib.hid X0.out.lt
  have cX0 : w0.cell? ⟨w.heap.size, 0, none⟩ = some (.int .i64 c) := X0.out.cell 0
  go_wp2_with fail
  clear cX0
  (with_reducible refine (implSd c y _).mono ?_)
  rw [HD.out]
  rintro e wq ⟨rfl, rfl⟩
  have cX0 : w0.cell? ⟨w.heap.size, 0, none⟩ = some (.int .i64 c) := X0.out.cell 0
  go_wp2_with fail
  clear cX0
  (with_reducible refine (implNw c y _).mono ?_)
  rw [H1.out]
  rintro e wq ⟨rfl, rfl⟩
  cases t1 with
  | true =>
    go_wp2_with fail
    go_ret
    rw [HV.out]
    exact ⟨by simp, B0.out⟩
  | false =>
    go_wp2_with fail
    (with_reducible refine (inR d 0 15 t2 _ H2.out).mono ?_)
    rintro e wq ⟨rfl, rfl⟩
    cases t2 with
    | true =>
      have HR := Lib.hid (show 0 ≤ d ∧ d ≤ 15 from of_decide_eq_true H2.out)
      have cX1 : w0.cell? ⟨w.heap.size, 1, none⟩ = some (.int .i64 b) := X0.out.cell 1
      go_wp2_with fail
      clear cX1
      (with_reducible refine (hasB b d t3 _ (by have := HR.out; omega) H3.out).mono ?_)
      rintro e wq ⟨rfl, rfl⟩
      cases t3 with
      | true =>
        go_wp2_with fail
        go_ret
        rw [HV.out]
        exact ⟨by simp, B0.out⟩
      | false =>
        go_wp2_with fail
        go_ret
        rw [HV.out]
        exact ⟨by simp, B0.out⟩
    | false =>
      go_wp2_with fail
      go_ret
      rw [HV.out]
      exact ⟨by simp, B0.out⟩
set_option maxRecDepth 100000 in
set_option maxHeartbeats 4000000 in
theorem covG (x y : Int) (w : World) :
    Calls Try.prog 124 #[.int .i64 x, .int .i64 y] w (BPost (y == x) w) := by
  go_enter Try.func124, Try.ntmps124
  go_wp2_with fail
  go_ret
  exact ⟨rfl, Below.refl _ _⟩
set_option maxRecDepth 100000 in
set_option maxHeartbeats 4000000 in
theorem mfA (s n a : Int) (c b : Int) (w : World) :
    Calls Try.prog 92 #[.iface 42 (.agg #[.int .i64 c, .int .i64 b]), .agg #[.int .i64 s, .int .i64 n, .int .i64 a]] w (BPost (mfa ⟨s, n, a⟩ c b) w) := by
  obtain ⟨d, hd⟩ : ∃ d, sqd c n = d := ⟨_, rfl⟩
  obtain ⟨t1, h1⟩ : ∃ t, va c b = t := ⟨_, rfl⟩
  obtain ⟨t2, h2⟩ : ∃ t, decide (0 ≤ d ∧ d ≤ 2047) = t := ⟨_, rfl⟩
  have HV := Lib.hid (show mfa ⟨s, n, a⟩ c b = (t1 && t2) by unfold mfa; rw [h1, hd, h2])
  have HD := Lib.hid hd
  have H1 := Lib.hid h1
  have H2 := Lib.hid h2
  clear hd h1 h2
  have htaa : ∀ W : World, (Instr.typeAssert (.iface 42 (.agg #[.int .i64 c, .int .i64 b])) 105 42 true).run Try.prog W = .ok (.tuple #[.agg #[.int .i64 c, .int .i64 b], .bool true]) W := fun W => by kernel_rfl
  go_enter Try.func92, Try.ntmps92
  go_upto_region 1 with fail
  obtain ⟨w0, hW⟩ : ∃ w0, w.alloc (.cells #[.int .i64 s, .int .i64 n, .int .i64 a] 27) = w0 := ⟨_, rfl⟩
  rw [hW]
  have B0 := Lib.hid (show Below w.heap.size w w0 by rw [← hW]; exact (Below.refl _ _).alloc (by simp <;> omega) _)
  have X0 := Lib.hid (show Bx 27 w0 (w.heap.size) #[.int .i64 s, .int .i64 n, .int .i64 a] by
      rw [← hW]
      have hh := Bx.made 27 w #[.int .i64 s, .int .i64 n, .int .i64 a]
      exact hh)
  clear hW
  have LTX := Lib.hid X0.out.lt
  obtain ⟨ba, hbb⟩ : ∃ b, w0.heap.size = b := ⟨_, rfl⟩
  go_upto_region 4 with fail
  generalize hW : w0.alloc (.cells #[.int .i64 c, .int .i64 b] 42) = w1
  have LA := Lib.hid (show w.heap.size ≤ ba ∧ w.heap.size < ba by have h1 := B0.out.size; have h2X := X0.out.lt; have h3 := hbb; omega)
  have A1 := Lib.hid (show Bx 42 w1 ba #[.int .i64 c, .int .i64 b] by rw [← hW, ← hbb]; exact Bx.made _ _ _)
  have hb : Below w0.heap.size w0 w1 := by rw [← hW]; exact below_box _ _
  (try rw [hbb])
  clear hW hbb
  have SS1 := Lib.hid hb.size
  have B1 := Lib.hid (B0.out.trans (hb.mono B0.out.size))
  have X1 := Lib.hid (X0.out.below hb)
  clear hb B0 X0
  have LWA := Lib.hid A1.out.lt
  clear htaa
  go_wp2_with (refine stw.list_load rfl 42 _ rfl (ba) rfl 42 _ A1.out Try.underlying42 rfl szA ?_)
  (with_reducible refine (implVa c b _).mono ?_)
  rintro e w2 hp
  obtain ⟨rfl, hb⟩ := b_parts H1.out hp
  clear hp
  have SS2 := Lib.hid hb.size
  have B2 := Lib.hid (B1.out.trans (hb.mono B1.out.size))
  have X2 := Lib.hid (X1.out.below hb)
  have A2 := Lib.hid (A1.out.below hb)
  clear hb  B1 X1 A1
  cases t1 with
  | true =>
    have cA0 : w2.cell? ⟨ba, 0, none⟩ = some (.int .i64 c) := A2.out.cell 0
    have cX1 : w2.cell? ⟨w.heap.size, 1, none⟩ = some (.int .i64 n) := X2.out.cell 1
    go_wp2_with fail
    clear cA0 cX1
    (with_reducible refine (implSd c n _).mono ?_)
    rw [HD.out]
    rintro e wq ⟨rfl, rfl⟩
    go_wp2_with fail
    (with_reducible refine (inR d 0 2047 t2 _ H2.out).mono ?_)
    rintro e wq ⟨rfl, rfl⟩
    cases t2 with
    | true =>
      go_wp2_with fail
      go_ret
      rw [HV.out]
      exact ⟨by simp, B2.out⟩
    | false =>
      go_wp2_with fail
      go_ret
      rw [HV.out]
      exact ⟨by simp, B2.out⟩
  | false =>
    go_wp2_with fail
    go_ret
    rw [HV.out]
    exact ⟨by simp, B2.out⟩
set_option maxRecDepth 100000 in
set_option maxHeartbeats 4000000 in
theorem mfG (s n a : Int) (x : Int) (w : World) :
    Calls Try.prog 92 #[.iface 116 (.int .i64 x), .agg #[.int .i64 s, .int .i64 n, .int .i64 a]] w (BPost (decide (x ∈ outs ⟨s, n, a⟩)) w) := by
  have htaa : ∀ W : World, (Instr.typeAssert (.iface 116 (.int .i64 x)) 105 42 true).run Try.prog W = .ok (.tuple #[.agg #[.int .i64 0, .int .i64 0], .bool false]) W := fun W => by kernel_rfl
  have htag : ∀ W : World, (Instr.typeAssert (.iface 116 (.int .i64 x)) 105 116 true).run Try.prog W = .ok (.tuple #[.int .i64 x, .bool true]) W := fun W => by kernel_rfl
  go_enter Try.func92, Try.ntmps92
  go_upto_region 1 with fail
  obtain ⟨w0, hW⟩ : ∃ w0, w.alloc (.cells #[.int .i64 s, .int .i64 n, .int .i64 a] 27) = w0 := ⟨_, rfl⟩
  rw [hW]
  have B0 := Lib.hid (show Below w.heap.size w w0 by rw [← hW]; exact (Below.refl _ _).alloc (by simp <;> omega) _)
  have X0 := Lib.hid (show Bx 27 w0 (w.heap.size) #[.int .i64 s, .int .i64 n, .int .i64 a] by
      rw [← hW]
      have hh := Bx.made 27 w #[.int .i64 s, .int .i64 n, .int .i64 a]
      exact hh)
  clear hW
  have LTX := Lib.hid X0.out.lt
  go_wp2_with (refine stw.list_load rfl 27 _ rfl (w.heap.size) rfl 27 _ X0.out Try.underlying27 rfl szS ?_)
  clear htaa htag
  (with_reducible refine (implOs s n a _).mono ?_)
  rintro e w1 ⟨A, q, c, rfl, ho, hb⟩
  have HO := Lib.hid ho
  clear ho
  have SS1 := Lib.hid hb.size
  have B1 := Lib.hid (B0.out.trans (hb.mono B0.out.size))
  have X1 := Lib.hid (X0.out.below hb)
  clear hb B0 X0
  go_wp2_with fail
  (with_reducible refine (bx.containsI (outs ⟨s, n, a⟩) x _ _ A q c _ HO.out.rd).mono ?_)
  rintro e wq ⟨rfl, rfl⟩
  go_wp2_with fail
  go_ret
  exact ⟨rfl, B1.out⟩
set_option maxRecDepth 100000 in
set_option maxHeartbeats 4000000 in
theorem ackA (s n a : Int) (c b : Int) (w : World) :
    Calls Try.prog 67 #[.agg #[.int .i64 s, .int .i64 n, .int .i64 a], .iface 42 (.agg #[.int .i64 c, .int .i64 b])] w (SPost (rcv ⟨s, n, a⟩ c b) w) := by
  obtain ⟨v, hv⟩ : ∃ v, vs ⟨s, n, a⟩ = v := ⟨_, rfl⟩
  obtain ⟨f, hf⟩ : ∃ v, mfa ⟨s, n, a⟩ c b = v := ⟨_, rfl⟩
  have HV := Lib.hid hv
  have HF := Lib.hid hf
  have HN := Lib.hid (fun h : (v && f) = false => show rcv ⟨s, n, a⟩ c b = ⟨s, n, a⟩ by subst hv hf; unfold rcv; rw [if_neg (by rw [h]; decide)])
  have HY := Lib.hid (fun h : (v && f) = true => show rcv ⟨s, n, a⟩ c b = aft ⟨s, n, a⟩ (mks ⟨s, n, a⟩ (cvr c b)) by subst hv hf; unfold rcv; rw [if_pos h])
  clear hv hf
  go_enter Try.func67, Try.ntmps67
  go_wp2_with fail
  obtain ⟨w0, hW⟩ : ∃ w0, (w.alloc (.cells #[.int .i64 s, .int .i64 n, .int .i64 a] 27)).alloc (.cells #[.int .i64 0, .int .i64 0, .int .i64 0] 27) = w0 := ⟨_, rfl⟩
  rw [hW]
  have B0 := Lib.hid (show Below w.heap.size w w0 by rw [← hW]; exact ((Below.refl _ _).alloc (by simp <;> omega) _).alloc (by simp <;> omega) _)
  have X0 := Lib.hid (show Bx 27 w0 (w.heap.size) #[.int .i64 s, .int .i64 n, .int .i64 a] by
      rw [← hW]
      have hh := Bx.made 27 w #[.int .i64 s, .int .i64 n, .int .i64 a]
      exact (hh.below (below_box _ _)))
  have Z0 := Lib.hid (show Bx 27 w0 (w.heap.size + 1) #[.int .i64 0, .int .i64 0, .int .i64 0] by
      rw [← hW]
      have hh : Bx 27 ((w.alloc (.cells #[.int .i64 s, .int .i64 n, .int .i64 a] 27)).alloc (.cells #[.int .i64 0, .int .i64 0, .int .i64 0] 27)) (w.heap.size + 1) #[.int .i64 0, .int .i64 0, .int .i64 0] := by have hh := Bx.made 27 (w.alloc (.cells #[.int .i64 s, .int .i64 n, .int .i64 a] 27)) #[.int .i64 0, .int .i64 0, .int .i64 0]; simpa using hh
      exact hh)
  clear hW
  have LTX := Lib.hid X0.out.lt
  have LTZ := Lib.hid Z0.out.lt
  go_wp2_with (refine stw.list_load rfl 27 _ rfl (w.heap.size) rfl 27 _ X0.out Try.underlying27 rfl szS ?_)
  (with_reducible refine (implVs s n a _).mono ?_)
  rintro e w1 hp
  obtain ⟨rfl, hb⟩ := b_parts HV.out hp
  clear hp
  have SS1 := Lib.hid hb.size
  have B1 := Lib.hid (B0.out.trans (hb.mono B0.out.size))
  have X1 := Lib.hid (X0.out.below hb)
  have Z1 := Lib.hid (Z0.out.below hb)
  clear hb  B0 X0 Z0
  cases v with
  | true =>
    have cX0 : w1.cell? ⟨w.heap.size, 0, none⟩ = some (.int .i64 s) := X1.out.cell 0
    have cX1 : w1.cell? ⟨w.heap.size, 1, none⟩ = some (.int .i64 n) := X1.out.cell 1
    have cX2 : w1.cell? ⟨w.heap.size, 2, none⟩ = some (.int .i64 a) := X1.out.cell 2
    go_wp2_with fail
    clear cX0 cX1 cX2
    (with_reducible refine (mfA s n a c b _).mono ?_)
    rintro e w2 hp
    obtain ⟨rfl, hb⟩ := b_parts HF.out hp
    clear hp
    have SS2 := Lib.hid hb.size
    have B2 := Lib.hid (B1.out.trans (hb.mono B1.out.size))
    have X2 := Lib.hid (X1.out.below hb)
    have Z2 := Lib.hid (Z1.out.below hb)
    clear hb  B1 X1 Z1
    cases f with
    | true =>
      have HE := Lib.hid (HY.out rfl)
      clear HN HY
      have hv := HV.out
      obtain ⟨W, m, hV⟩ := vs_of hv
      obtain rfl : a = (m : Int) := hV.ha
      have HVV := Lib.hid hV
      have HSQ := Lib.hid (show sqd s n = (W : Int) from hV.sq)
      have HS := Lib.hid (show 0 ≤ s ∧ s ≤ 4095 from hV.hs)
      have HW := Lib.hid (show W ≤ 16 ∧ m < 65536 by have h1 := hV.hw; have h2 := hV.hb; have h3 : 2 ^ W ≤ 2 ^ 16 := Nat.pow_le_pow_right (by omega) h1; omega)
      have HOU := Lib.hid (show outs ⟨s, n, (m : Int)⟩ = (ou m W).map (fr s) from hV.outs)
      clear hV
      have cX0 : w2.cell? ⟨w.heap.size, 0, none⟩ = some (.int .i64 s) := X2.out.cell 0
      have cX1 : w2.cell? ⟨w.heap.size, 1, none⟩ = some (.int .i64 n) := X2.out.cell 1
      go_wp2_with fail
      (with_reducible refine (implSd s n _).mono ?_)
      rw [HSQ.out]
      rintro e wq ⟨rfl, rfl⟩
      go_wp2_with fail
      clear cX0 cX1
      obtain ⟨cf, hcf⟩ : ∃ cf : Nat → Bool, (fun i => (cvr c b) (fr s i)) = cf := ⟨_, rfl⟩
      have HCF := Lib.hid (fun i => show cvr c b (fr s i) = cf i by rw [← hcf])
      have HMK := Lib.hid (show mks ⟨s, n, (m : Int)⟩ (cvr c b) = setl m (List.range W) cf by rw [HVV.out.mk' (cvr c b), ← hcf])
      clear hcf
      go_loopw [21] (fun v0 wr => ∃ (k : Nat) (M : Nat), v0 = .int .i64 (k : Int) ∧ (k ≤ W) ∧ (M = setl m (List.range k) cf) ∧ Below w.heap.size w wr ∧ Bx 27 wr w.heap.size #[.int .i64 s, .int .i64 n, .int .i64 (M : Int)] ∧ Bx 27 wr (w.heap.size + 1) #[.int .i64 0, .int .i64 0, .int .i64 0]) ((fun i _ => W - (intOf i).toNat))
      case atStart => exact ⟨0, m, rfl, by omega, rfl, B2.out, X2.out, Z2.out⟩
      case round =>
        obtain ⟨k, M, rfl, ghk, ghM, gB3, gX3, gZ3⟩ := hrel
        have B3 := Lib.hid gB3
        have X3 := Lib.hid gX3
        have Z3 := Lib.hid gZ3
        have hk := Lib.hid ghk
        have hM := Lib.hid ghM
        clear gB3 gX3 gZ3 ghk ghM
        have LUX3 := Lib.hid X3.out.lt
        have LUZ3 := Lib.hid Z3.out.lt
        have SBR3 := Lib.hid B3.out.size
        have hk := hk.out
        have hk16 : k ≤ 16 := by have := HW.out; omega
        have HM := Lib.hid (show M < 65536 by rw [hM.out]; have h1 := setl_lt (c := cf) (L := List.range k) HVV.out.hb (fun i hi => by have := List.mem_range.1 hi; omega); have h2 := HVV.out.hw; have h3 : 2 ^ W ≤ 2 ^ 16 := Nat.pow_le_pow_right (by omega) h2; omega)
        by_cases hlt : k < W
        · have hlt2 : (k : Int) < W := by omega
          have HK := Lib.hid (show (k : Int) ≤ 15 ∧ k < 16 by have := HW.out; omega)
          obtain ⟨t, ht⟩ : ∃ t, cf k = t := ⟨_, rfl⟩
          have HT := Lib.hid ht
          clear ht
          go_upto_region 6 with fail
          have mX0 : ∀ m : bx.Af wr, m.w.cell? ⟨w.heap.size, 0, none⟩ = some (.int .i64 s) := fun m => (bx.Af.cells X3.out m).cell 0
          have hna := Lib.hid (fun W => by kernel_rfl : ∀ W : World, (nilAhead (Try.prog.types.size + Made.depth) 42 (.agg #[.int .i64 c, .int .i64 b]) "loop.example/g00511/impl.covers").run Try.prog W = .ok (some false) W)
          have hinv : ∀ W : World, (invoke (.fn (.method "loop.example/g00511/impl.covers") #[]) #[.iface 42 (.agg #[.int .i64 c, .int .i64 b]), .int .i64 (fr s k)]).run Try.prog W = .ok (.enter 122 #[.agg #[.int .i64 c, .int .i64 b], .int .i64 (fr s k)]) W := fun W => by kernel_rfl
          have q1 := Lib.hid (fun m => ((seqA s (k : Int) m.w HS.out (by have := HK.out; omega))).mono fun _ _ h => ⟨h.1, h.2 ▸ Below.refl _ _⟩ : ∀ m : bx.Af wr, Calls Try.prog 56 #[.int .i64 s, .int .i64 (k : Int)] m.w fun e w' => e = .returned (.int .i64 (fr s k)) ∧ Below m.w.heap.size m.w w')
          have q0 := Lib.hid (fun m => by have hh := covA c b (fr s k) m.w; rw [HCF.out k, HT.out] at hh; exact hh : ∀ m : bx.Af wr, Calls Try.prog 122 #[.agg #[.int .i64 c, .int .i64 b], .int .i64 (fr s k)] m.w fun e w' => e = .returned (.bool t) ∧ Below m.w.heap.size m.w w')
          refine bx.region_after (by kernel_rfl) (by kernel_rfl) ?_
          repeat (first
            | (go_big_quiet_want; refine quiet_nilc _ rfl 42 _ _ rfl hna.out ?_; simp only [Act.put, List.setIfInBounds_toArray, List.set_cons_zero, List.set_cons_succ]; go_big_quiet_on)
            | (go_big_quiet_want; refine quiet_inv1 _ _ _ _ rfl 42 (.agg #[.int .i64 c, .int .i64 b]) (.int .i64 (fr s k)) rfl rfl 122 _ (.bool t) hinv (nc_at q0.out) ?_; simp only [Act.put, List.setIfInBounds_toArray, List.set_cons_zero, List.set_cons_succ]; go_big_quiet_on)
            | (go_big_quiet_step ((go_at_call 56; with_reducible exact bx.Af.call (q1.out _)))))
          refine wpQuiet_nil ?_
          intro _ hw'
          obtain ⟨nq9, hw''⟩ := hw'
          subst hw''
          clear q0 q1 hinv hna mX0
          obtain ⟨w4, hw5⟩ : ∃ w5, nq9.w = w5 := ⟨_, rfl⟩
          have hb := nq9.below
          rw [hw5] at hb
          (try rw [hw5])
          clear hw5
          have SS4 := Lib.hid hb.size
          have B4 := Lib.hid (B3.out.trans (hb.mono B3.out.size))
          have X4 := Lib.hid (X3.out.below hb)
          have Z4 := Lib.hid (Z3.out.below hb)
          clear hb nq9 B3 X3 Z3
          cases t with
          | true =>
            have HL := Lib.hid (setr_yes (m := m) HT.out)
            obtain ⟨p, hp⟩ : ∃ p, wrap64 (2 ^ k) = p := ⟨_, rfl⟩
            have hp2 : IntKind.i64.wrap (2 ^ k) = p := (wrap_64 _).trans hp
            obtain ⟨M2, hM2⟩ : ∃ x, M ||| 2 ^ k = x := ⟨_, rfl⟩
            have hor : bits .or .i64 (M : Int) p = (M2 : Int) := by rw [← hp, ← hM2]; exact or_pow HM.out (by have := HK.out; omega)
            have hk64 : (k : Int) ≤ 64 := by have := HK.out; omega
            have HM2 := Lib.hid hM2
            clear hM2
            go_upto_region 7 with fail
            refine reg.region_tail reg.Bel 6 42 [some [], some [(0, 33)], some [], some [(2, 35)], some [(1, 34), (3, 36)], some [], none] [(0, 33), (1, 34), (2, 35), (3, 36), (4, 37), (5, 38)]
              (fun w' => Below w.heap.size w w' ∧ Bx 27 w' (w.heap.size) #[.int .i64 s, .int .i64 n, .int .i64 (M : Int)] ∧ Bx 27 w' (w.heap.size + 1) #[.int .i64 0, .int .i64 0, .int .i64 0] ∧ True)
              (reg.rl [reg.is (.pointer (some ⟨w.heap.size, 2, none⟩)), reg.is (.int .i64 (M : Int)), reg.is (.int .i64 ((k : Int))), reg.is (.int .i64 p), reg.is (.int .i64 (M2 : Int)), reg.is (.pointer (some ⟨w.heap.size, 2, none⟩)), reg.free])
              (by kernel_rfl) rfl (by kernel_rfl) (by kernel_rfl) rfl
              (fun w1 w2 hc hb => ⟨hc.1.trans (hb.mono hc.1.size), hc.2.1.below hb, hc.2.2.1.below hb, trivial⟩) (reg.rl_keep _) (⟨own.below_drew B4.out, X4.out.same rfl, Z4.out.same rfl, trivial⟩) (by kernel_rfl) ⟨?_, ?_, ?_, ?_, ?_, ?_, trivial⟩ ?_
            · refine fun w8 hc  K hK => ?_
              (try simp only [Act.put, List.setIfInBounds_toArray, List.set_cons_zero, List.set_cons_succ])
              go_simp
              exact hK (.pointer (some ⟨w.heap.size, 2, none⟩)) _ rfl (Below.refl _ _)
            · refine fun w8 hc v0 h0 K hK => ?_
              obtain rfl : v0 = .pointer (some ⟨w.heap.size, 2, none⟩) := h0
              (try simp only [Act.put, List.setIfInBounds_toArray, List.set_cons_zero, List.set_cons_succ])
              have c0 : w8.cell? ⟨w.heap.size, 2, none⟩ = some (.int .i64 (M : Int)) := hc.2.1.cell 2
              go_simp
              exact hK (.int .i64 (M : Int)) _ rfl (Below.refl _ _)
            · refine fun w8 hc  K hK => ?_
              (try simp only [Act.put, List.setIfInBounds_toArray, List.set_cons_zero, List.set_cons_succ])
              go_simp
              exact hK (.int .i64 ((k : Int))) _ rfl (Below.refl _ _)
            · refine fun w8 hc v2 h2 K hK => ?_
              obtain rfl : v2 = .int .i64 ((k : Int)) := h2
              (try simp only [Act.put, List.setIfInBounds_toArray, List.set_cons_zero, List.set_cons_succ])
              go_simp
              (try simp only [hp, hp2])
              exact hK (.int .i64 p) _ rfl (Below.refl _ _)
            · refine fun w8 hc v1 h1 v3 h3 K hK => ?_
              obtain rfl : v1 = .int .i64 (M : Int) := h1
              obtain rfl : v3 = .int .i64 p := h3
              (try simp only [Act.put, List.setIfInBounds_toArray, List.set_cons_zero, List.set_cons_succ])
              go_simp
              (try simp only [hor])
              exact hK (.int .i64 (M2 : Int)) _ rfl (Below.refl _ _)
            · refine fun w8 hc  K hK => ?_
              (try simp only [Act.put, List.setIfInBounds_toArray, List.set_cons_zero, List.set_cons_succ])
              go_simp
              exact hK (.pointer (some ⟨w.heap.size, 2, none⟩)) _ rfl (Below.refl _ _)
            refine fun wg5 hc v0 h0 v1 h1 v2 h2 v3 h3 v4 h4 v5 h5 => ?_
            obtain rfl : v0 = .pointer (some ⟨w.heap.size, 2, none⟩) := h0
            obtain rfl : v1 = .int .i64 (M : Int) := h1
            obtain rfl : v2 = .int .i64 ((k : Int)) := h2
            obtain rfl : v3 = .int .i64 p := h3
            obtain rfl : v4 = .int .i64 (M2 : Int) := h4
            obtain rfl : v5 = .pointer (some ⟨w.heap.size, 2, none⟩) := h5
            (try simp only [reg.Obs])
            (try simp only [Act.put, List.setIfInBounds_toArray, List.set_cons_zero, List.set_cons_succ])
            simp only [List.drop_succ_cons, List.drop_zero]
            have B5 := Lib.hid hc.1
            have X5 := Lib.hid hc.2.1
            have Z5 := Lib.hid hc.2.2.1
            clear hc B4 X4 Z4
            have cX2 : wg5.cell? ⟨w.heap.size, 2, none⟩ = some (.int .i64 (M : Int)) := X5.out.cell 2
            have fX2 : wg5.frozen? ⟨w.heap.size, 2, none⟩ = false := X5.out.free 2
            go_wp2_with fail
            clear cX2 fX2
            have hWW : (wg5.setCell ⟨w.heap.size, 2, none⟩ (.int .i64 (M2 : Int))) = (wg5.setCell ⟨w.heap.size, 2, none⟩ (.int .i64 (M2 : Int))) := rfl
            obtain ⟨w6, hW⟩ : ∃ wy, (wg5.setCell ⟨w.heap.size, 2, none⟩ (.int .i64 (M2 : Int))) = wy := ⟨_, rfl⟩
            rw [hW]
            clear hWW
            have B6 := Lib.hid (show Below w.heap.size w w6 by rw [← hW]; exact (B5.out.setCell (p := ⟨w.heap.size, 2, none⟩) (by have hs0 := LTX.out; have hs1 := LTZ.out; have hs2 := SS1.out; have hs3 := SS2.out; have hs4 := LUX3.out; have hs5 := LUZ3.out; have hs6 := SBR3.out; have hs7 := SS4.out; first | omega | (simp <;> omega)) _))
            have X6 := Lib.hid (show Bx 27 w6 (w.heap.size) #[.int .i64 s, .int .i64 n, .int .i64 (M2 : Int)] by rw [← hW]; exact (X5.out.set 2 _))
            have Z6 := Lib.hid (show Bx 27 w6 (w.heap.size + 1) #[.int .i64 0, .int .i64 0, .int .i64 0] by rw [← hW]; exact (Z5.out.other (by have hs0 := LTX.out; have hs1 := LTZ.out; have hs2 := SS1.out; have hs3 := SS2.out; have hs4 := LUX3.out; have hs5 := LUZ3.out; have hs6 := SBR3.out; have hs7 := SS4.out; first | omega | (simp <;> omega)) _ _))
            clear hW B5 X5 Z5
            go_roundw
            case rel => exact ⟨k + 1, M2, by go_num, by omega, by rw [HL.out, ← HM2.out, hM.out], B6.out, X6.out, Z6.out⟩
            case measure => simp [intOf]; omega
          | false =>
            have HL := Lib.hid (setr_no (m := m) HT.out)
            go_wp2_with fail
            go_roundw
            case rel => exact ⟨k + 1, M, by go_num, by omega, by rw [HL.out]; exact hM.out, B4.out, X4.out, Z4.out⟩
            case measure => simp [intOf]; omega
        · have hlt2 : ¬ (k : Int) < W := by omega
          obtain rfl : k = W := by omega
          obtain ⟨⟨x0, x1, x2⟩, hx⟩ : ∃ q, (⟨(adv s M).1, n, ((adv s M).2 : Int)⟩ : Bs) = q := ⟨_, rfl⟩
          have HX := Lib.hid hx
          have HE9 := Lib.hid (show rcv ⟨s, n, (m : Int)⟩ c b = ⟨x0, x1, x2⟩ by rw [HE.out, HMK.out, ← hM.out]; exact hx)
          clear hx HE
          go_wp2_with (refine stw.list_load rfl 27 _ rfl (w.heap.size) rfl 27 _ X3.out Try.underlying27 rfl szS ?_)
          (with_reducible refine (implAdv s n M HS.out HM.out _).mono ?_)
          rintro e w4 hp
          obtain ⟨rfl, hb⟩ := s_parts HX.out hp
          clear hp
          have SS4 := Lib.hid hb.size
          have B4 := Lib.hid (B3.out.trans (hb.mono B3.out.size))
          have X4 := Lib.hid (X3.out.below hb)
          have Z4 := Lib.hid (Z3.out.below hb)
          clear hb  B3 X3 Z3
          go_wp2_with (first | (refine stw.list_store rfl 27 _ _ rfl (w.heap.size + 1) #[.int .i64 x0, .int .i64 x1, .int .i64 x2] rfl rfl 27 _ Z4.out rfl szS (oneS _ _ _) ?_; intro wz5 hz))
          have B5 := Lib.hid (hz.on B4.out (by have hs0 := LTX.out; have hs1 := LTZ.out; have hs2 := SS1.out; have hs3 := SS2.out; have hs4 := LUX3.out; have hs5 := LUZ3.out; have hs6 := SBR3.out; have hs7 := SS4.out; first | omega | (simp <;> omega)))
          have X5 := Lib.hid (hz.keep X4.out (by have hs0 := LTX.out; have hs1 := LTZ.out; have hs2 := SS1.out; have hs3 := SS2.out; have hs4 := LUX3.out; have hs5 := LUZ3.out; have hs6 := SBR3.out; have hs7 := SS4.out; first | omega | (simp <;> omega)))
          have Z5 := Lib.hid (hz.box)
          clear hz B4 X4 Z4
          (try simp only [Exit.inBlock, Exit.then])
          refine bodyPost_ret (v := .agg #[.int .i64 x0, .int .i64 x1, .int .i64 x2]) ?_ rfl ?_
          · rw [results_cell1 rfl]
            exact stw.back Z5.out Try.underlying27 rfl szS
          · exact ⟨by rw [HE9.out], B5.out⟩
    | false =>
      have HE := Lib.hid (HN.out rfl)
      clear HN HY
      go_wp2_with (first | (refine stw.list_load rfl 27 _ rfl (w.heap.size) rfl 27 _ X2.out Try.underlying27 rfl szS ?_) | (refine stw.list_store rfl 27 _ _ rfl (w.heap.size + 1) #[.int .i64 s, .int .i64 n, .int .i64 a] rfl rfl 27 _ Z2.out rfl szS (oneS _ _ _) ?_; intro wz3 hz))
      have B3 := Lib.hid (hz.on B2.out (by have hs0 := LTX.out; have hs1 := LTZ.out; have hs2 := SS1.out; have hs3 := SS2.out; first | omega | (simp <;> omega)))
      have X3 := Lib.hid (hz.keep X2.out (by have hs0 := LTX.out; have hs1 := LTZ.out; have hs2 := SS1.out; have hs3 := SS2.out; first | omega | (simp <;> omega)))
      have Z3 := Lib.hid (hz.box)
      clear hz B2 X2 Z2
      (try simp only [Exit.inBlock, Exit.then])
      refine bodyPost_ret (v := .agg #[.int .i64 s, .int .i64 n, .int .i64 a]) ?_ rfl ?_
      · rw [results_cell1 rfl]
        exact stw.back Z3.out Try.underlying27 rfl szS
      · exact ⟨by rw [HE.out], B3.out⟩
  | false =>
    have HE := Lib.hid (HN.out rfl)
    clear HN HY
    go_wp2_with (first | (refine stw.list_load rfl 27 _ rfl (w.heap.size) rfl 27 _ X1.out Try.underlying27 rfl szS ?_) | (refine stw.list_store rfl 27 _ _ rfl (w.heap.size + 1) #[.int .i64 s, .int .i64 n, .int .i64 a] rfl rfl 27 _ Z1.out rfl szS (oneS _ _ _) ?_; intro wz2 hz))
    have B2 := Lib.hid (hz.on B1.out (by have hs0 := LTX.out; have hs1 := LTZ.out; have hs2 := SS1.out; first | omega | (simp <;> omega)))
    have X2 := Lib.hid (hz.keep X1.out (by have hs0 := LTX.out; have hs1 := LTZ.out; have hs2 := SS1.out; first | omega | (simp <;> omega)))
    have Z2 := Lib.hid (hz.box)
    clear hz B1 X1 Z1
    (try simp only [Exit.inBlock, Exit.then])
    refine bodyPost_ret (v := .agg #[.int .i64 s, .int .i64 n, .int .i64 a]) ?_ rfl ?_
    · rw [results_cell1 rfl]
      exact stw.back Z2.out Try.underlying27 rfl szS
    · exact ⟨by rw [HE.out], B2.out⟩
set_option maxRecDepth 100000 in
set_option maxHeartbeats 4000000 in
theorem ackG (s n a : Int) (x : Int) (w : World) :
    Calls Try.prog 67 #[.agg #[.int .i64 s, .int .i64 n, .int .i64 a], .iface 116 (.int .i64 x)] w (SPost (giv ⟨s, n, a⟩ x) w) := by
  obtain ⟨v, hv⟩ : ∃ v, vs ⟨s, n, a⟩ = v := ⟨_, rfl⟩
  obtain ⟨f, hf⟩ : ∃ v, decide (x ∈ outs ⟨s, n, a⟩) = v := ⟨_, rfl⟩
  have HV := Lib.hid hv
  have HF := Lib.hid hf
  have HN := Lib.hid (fun h : (v && f) = false => show giv ⟨s, n, a⟩ x = ⟨s, n, a⟩ by subst hv hf; unfold giv; by_cases hx : x ∈ outs ⟨s, n, a⟩; (exfalso; rw [decide_eq_true hx, outs_vs hx] at h; cases h); rw [if_neg hx])
  have HY := Lib.hid (fun h : (v && f) = true => show giv ⟨s, n, a⟩ x = aft ⟨s, n, a⟩ (mks ⟨s, n, a⟩ (fun y => y == x)) by subst hv hf; unfold giv; rw [if_pos (of_decide_eq_true (by rw [Bool.and_eq_true] at h; exact h.2))])
  clear hv hf
  go_enter Try.func67, Try.ntmps67
  go_wp2_with fail
  obtain ⟨w0, hW⟩ : ∃ w0, (w.alloc (.cells #[.int .i64 s, .int .i64 n, .int .i64 a] 27)).alloc (.cells #[.int .i64 0, .int .i64 0, .int .i64 0] 27) = w0 := ⟨_, rfl⟩
  rw [hW]
  have B0 := Lib.hid (show Below w.heap.size w w0 by rw [← hW]; exact ((Below.refl _ _).alloc (by simp <;> omega) _).alloc (by simp <;> omega) _)
  have X0 := Lib.hid (show Bx 27 w0 (w.heap.size) #[.int .i64 s, .int .i64 n, .int .i64 a] by
      rw [← hW]
      have hh := Bx.made 27 w #[.int .i64 s, .int .i64 n, .int .i64 a]
      exact (hh.below (below_box _ _)))
  have Z0 := Lib.hid (show Bx 27 w0 (w.heap.size + 1) #[.int .i64 0, .int .i64 0, .int .i64 0] by
      rw [← hW]
      have hh : Bx 27 ((w.alloc (.cells #[.int .i64 s, .int .i64 n, .int .i64 a] 27)).alloc (.cells #[.int .i64 0, .int .i64 0, .int .i64 0] 27)) (w.heap.size + 1) #[.int .i64 0, .int .i64 0, .int .i64 0] := by have hh := Bx.made 27 (w.alloc (.cells #[.int .i64 s, .int .i64 n, .int .i64 a] 27)) #[.int .i64 0, .int .i64 0, .int .i64 0]; simpa using hh
      exact hh)
  clear hW
  have LTX := Lib.hid X0.out.lt
  have LTZ := Lib.hid Z0.out.lt
  go_wp2_with (refine stw.list_load rfl 27 _ rfl (w.heap.size) rfl 27 _ X0.out Try.underlying27 rfl szS ?_)
  (with_reducible refine (implVs s n a _).mono ?_)
  rintro e w1 hp
  obtain ⟨rfl, hb⟩ := b_parts HV.out hp
  clear hp
  have SS1 := Lib.hid hb.size
  have B1 := Lib.hid (B0.out.trans (hb.mono B0.out.size))
  have X1 := Lib.hid (X0.out.below hb)
  have Z1 := Lib.hid (Z0.out.below hb)
  clear hb  B0 X0 Z0
  cases v with
  | true =>
    have cX0 : w1.cell? ⟨w.heap.size, 0, none⟩ = some (.int .i64 s) := X1.out.cell 0
    have cX1 : w1.cell? ⟨w.heap.size, 1, none⟩ = some (.int .i64 n) := X1.out.cell 1
    have cX2 : w1.cell? ⟨w.heap.size, 2, none⟩ = some (.int .i64 a) := X1.out.cell 2
    go_wp2_with fail
    clear cX0 cX1 cX2
    (with_reducible refine (mfG s n a x _).mono ?_)
    rintro e w2 hp
    obtain ⟨rfl, hb⟩ := b_parts HF.out hp
    clear hp
    have SS2 := Lib.hid hb.size
    have B2 := Lib.hid (B1.out.trans (hb.mono B1.out.size))
    have X2 := Lib.hid (X1.out.below hb)
    have Z2 := Lib.hid (Z1.out.below hb)
    clear hb  B1 X1 Z1
    cases f with
    | true =>
      have HE := Lib.hid (HY.out rfl)
      clear HN HY
      have hv := HV.out
      obtain ⟨W, m, hV⟩ := vs_of hv
      obtain rfl : a = (m : Int) := hV.ha
      have HVV := Lib.hid hV
      have HSQ := Lib.hid (show sqd s n = (W : Int) from hV.sq)
      have HS := Lib.hid (show 0 ≤ s ∧ s ≤ 4095 from hV.hs)
      have HW := Lib.hid (show W ≤ 16 ∧ m < 65536 by have h1 := hV.hw; have h2 := hV.hb; have h3 : 2 ^ W ≤ 2 ^ 16 := Nat.pow_le_pow_right (by omega) h1; omega)
      have HOU := Lib.hid (show outs ⟨s, n, (m : Int)⟩ = (ou m W).map (fr s) from hV.outs)
      clear hV
      have cX0 : w2.cell? ⟨w.heap.size, 0, none⟩ = some (.int .i64 s) := X2.out.cell 0
      have cX1 : w2.cell? ⟨w.heap.size, 1, none⟩ = some (.int .i64 n) := X2.out.cell 1
      go_wp2_with fail
      (with_reducible refine (implSd s n _).mono ?_)
      rw [HSQ.out]
      rintro e wq ⟨rfl, rfl⟩
      go_wp2_with fail
      clear cX0 cX1
      obtain ⟨cf, hcf⟩ : ∃ cf : Nat → Bool, (fun i => (fun y => y == x) (fr s i)) = cf := ⟨_, rfl⟩
      have HCF := Lib.hid (fun i => show (fr s i == x) = cf i by rw [← hcf])
      have HMK := Lib.hid (show mks ⟨s, n, (m : Int)⟩ (fun y => y == x) = setl m (List.range W) cf by rw [HVV.out.mk' (fun y => y == x), ← hcf])
      clear hcf
      go_loopw [21] (fun v0 wr => ∃ (k : Nat) (M : Nat), v0 = .int .i64 (k : Int) ∧ (k ≤ W) ∧ (M = setl m (List.range k) cf) ∧ Below w.heap.size w wr ∧ Bx 27 wr w.heap.size #[.int .i64 s, .int .i64 n, .int .i64 (M : Int)] ∧ Bx 27 wr (w.heap.size + 1) #[.int .i64 0, .int .i64 0, .int .i64 0]) ((fun i _ => W - (intOf i).toNat))
      case atStart => exact ⟨0, m, rfl, by omega, rfl, B2.out, X2.out, Z2.out⟩
      case round =>
        obtain ⟨k, M, rfl, ghk, ghM, gB3, gX3, gZ3⟩ := hrel
        have B3 := Lib.hid gB3
        have X3 := Lib.hid gX3
        have Z3 := Lib.hid gZ3
        have hk := Lib.hid ghk
        have hM := Lib.hid ghM
        clear gB3 gX3 gZ3 ghk ghM
        have LUX3 := Lib.hid X3.out.lt
        have LUZ3 := Lib.hid Z3.out.lt
        have SBR3 := Lib.hid B3.out.size
        have hk := hk.out
        have hk16 : k ≤ 16 := by have := HW.out; omega
        have HM := Lib.hid (show M < 65536 by rw [hM.out]; have h1 := setl_lt (c := cf) (L := List.range k) HVV.out.hb (fun i hi => by have := List.mem_range.1 hi; omega); have h2 := HVV.out.hw; have h3 : 2 ^ W ≤ 2 ^ 16 := Nat.pow_le_pow_right (by omega) h2; omega)
        by_cases hlt : k < W
        · have hlt2 : (k : Int) < W := by omega
          have HK := Lib.hid (show (k : Int) ≤ 15 ∧ k < 16 by have := HW.out; omega)
          obtain ⟨t, ht⟩ : ∃ t, cf k = t := ⟨_, rfl⟩
          have HT := Lib.hid ht
          clear ht
          go_upto_region 6 with fail
          have mX0 : ∀ m : bx.Af wr, m.w.cell? ⟨w.heap.size, 0, none⟩ = some (.int .i64 s) := fun m => (bx.Af.cells X3.out m).cell 0
          have hna := Lib.hid (fun W => by kernel_rfl : ∀ W : World, (nilAhead (Try.prog.types.size + Made.depth) 116 (.int .i64 x) "loop.example/g00511/impl.covers").run Try.prog W = .ok (some false) W)
          have hinv : ∀ W : World, (invoke (.fn (.method "loop.example/g00511/impl.covers") #[]) #[.iface 116 (.int .i64 x), .int .i64 (fr s k)]).run Try.prog W = .ok (.enter 124 #[.int .i64 x, .int .i64 (fr s k)]) W := fun W => by kernel_rfl
          have q1 := Lib.hid (fun m => ((seqA s (k : Int) m.w HS.out (by have := HK.out; omega))).mono fun _ _ h => ⟨h.1, h.2 ▸ Below.refl _ _⟩ : ∀ m : bx.Af wr, Calls Try.prog 56 #[.int .i64 s, .int .i64 (k : Int)] m.w fun e w' => e = .returned (.int .i64 (fr s k)) ∧ Below m.w.heap.size m.w w')
          have q0 := Lib.hid (fun m => by have hh := covG x (fr s k) m.w; rw [HCF.out k, HT.out] at hh; exact hh : ∀ m : bx.Af wr, Calls Try.prog 124 #[.int .i64 x, .int .i64 (fr s k)] m.w fun e w' => e = .returned (.bool t) ∧ Below m.w.heap.size m.w w')
          refine bx.region_after (by kernel_rfl) (by kernel_rfl) ?_
          repeat (first
            | (go_big_quiet_want; refine quiet_nilc _ rfl 116 _ _ rfl hna.out ?_; simp only [Act.put, List.setIfInBounds_toArray, List.set_cons_zero, List.set_cons_succ]; go_big_quiet_on)
            | (go_big_quiet_want; refine quiet_inv1 _ _ _ _ rfl 116 (.int .i64 x) (.int .i64 (fr s k)) rfl rfl 124 _ (.bool t) hinv (nc_at q0.out) ?_; simp only [Act.put, List.setIfInBounds_toArray, List.set_cons_zero, List.set_cons_succ]; go_big_quiet_on)
            | (go_big_quiet_step ((go_at_call 56; with_reducible exact bx.Af.call (q1.out _)))))
          refine wpQuiet_nil ?_
          intro _ hw'
          obtain ⟨nq9, hw''⟩ := hw'
          subst hw''
          clear q0 q1 hinv hna mX0
          obtain ⟨w4, hw5⟩ : ∃ w5, nq9.w = w5 := ⟨_, rfl⟩
          have hb := nq9.below
          rw [hw5] at hb
          (try rw [hw5])
          clear hw5
          have SS4 := Lib.hid hb.size
          have B4 := Lib.hid (B3.out.trans (hb.mono B3.out.size))
          have X4 := Lib.hid (X3.out.below hb)
          have Z4 := Lib.hid (Z3.out.below hb)
          clear hb nq9 B3 X3 Z3
          cases t with
          | true =>
            have HL := Lib.hid (setr_yes (m := m) HT.out)
            obtain ⟨p, hp⟩ : ∃ p, wrap64 (2 ^ k) = p := ⟨_, rfl⟩
            have hp2 : IntKind.i64.wrap (2 ^ k) = p := (wrap_64 _).trans hp
            obtain ⟨M2, hM2⟩ : ∃ x, M ||| 2 ^ k = x := ⟨_, rfl⟩
            have hor : bits .or .i64 (M : Int) p = (M2 : Int) := by rw [← hp, ← hM2]; exact or_pow HM.out (by have := HK.out; omega)
            have hk64 : (k : Int) ≤ 64 := by have := HK.out; omega
            have HM2 := Lib.hid hM2
            clear hM2
            go_upto_region 7 with fail
            refine reg.region_tail reg.Bel 6 42 [some [], some [(0, 33)], some [], some [(2, 35)], some [(1, 34), (3, 36)], some [], none] [(0, 33), (1, 34), (2, 35), (3, 36), (4, 37), (5, 38)]
              (fun w' => Below w.heap.size w w' ∧ Bx 27 w' (w.heap.size) #[.int .i64 s, .int .i64 n, .int .i64 (M : Int)] ∧ Bx 27 w' (w.heap.size + 1) #[.int .i64 0, .int .i64 0, .int .i64 0] ∧ True)
              (reg.rl [reg.is (.pointer (some ⟨w.heap.size, 2, none⟩)), reg.is (.int .i64 (M : Int)), reg.is (.int .i64 ((k : Int))), reg.is (.int .i64 p), reg.is (.int .i64 (M2 : Int)), reg.is (.pointer (some ⟨w.heap.size, 2, none⟩)), reg.free])
              (by kernel_rfl) rfl (by kernel_rfl) (by kernel_rfl) rfl
              (fun w1 w2 hc hb => ⟨hc.1.trans (hb.mono hc.1.size), hc.2.1.below hb, hc.2.2.1.below hb, trivial⟩) (reg.rl_keep _) (⟨own.below_drew B4.out, X4.out.same rfl, Z4.out.same rfl, trivial⟩) (by kernel_rfl) ⟨?_, ?_, ?_, ?_, ?_, ?_, trivial⟩ ?_
            · refine fun w8 hc  K hK => ?_
              (try simp only [Act.put, List.setIfInBounds_toArray, List.set_cons_zero, List.set_cons_succ])
              go_simp
              exact hK (.pointer (some ⟨w.heap.size, 2, none⟩)) _ rfl (Below.refl _ _)
            · refine fun w8 hc v0 h0 K hK => ?_
              obtain rfl : v0 = .pointer (some ⟨w.heap.size, 2, none⟩) := h0
              (try simp only [Act.put, List.setIfInBounds_toArray, List.set_cons_zero, List.set_cons_succ])
              have c0 : w8.cell? ⟨w.heap.size, 2, none⟩ = some (.int .i64 (M : Int)) := hc.2.1.cell 2
              go_simp
              exact hK (.int .i64 (M : Int)) _ rfl (Below.refl _ _)
            · refine fun w8 hc  K hK => ?_
              (try simp only [Act.put, List.setIfInBounds_toArray, List.set_cons_zero, List.set_cons_succ])
              go_simp
              exact hK (.int .i64 ((k : Int))) _ rfl (Below.refl _ _)
            · refine fun w8 hc v2 h2 K hK => ?_
              obtain rfl : v2 = .int .i64 ((k : Int)) := h2
              (try simp only [Act.put, List.setIfInBounds_toArray, List.set_cons_zero, List.set_cons_succ])
              go_simp
              (try simp only [hp, hp2])
              exact hK (.int .i64 p) _ rfl (Below.refl _ _)
            · refine fun w8 hc v1 h1 v3 h3 K hK => ?_
              obtain rfl : v1 = .int .i64 (M : Int) := h1
              obtain rfl : v3 = .int .i64 p := h3
              (try simp only [Act.put, List.setIfInBounds_toArray, List.set_cons_zero, List.set_cons_succ])
              go_simp
              (try simp only [hor])
              exact hK (.int .i64 (M2 : Int)) _ rfl (Below.refl _ _)
            · refine fun w8 hc  K hK => ?_
              (try simp only [Act.put, List.setIfInBounds_toArray, List.set_cons_zero, List.set_cons_succ])
              go_simp
              exact hK (.pointer (some ⟨w.heap.size, 2, none⟩)) _ rfl (Below.refl _ _)
            refine fun wg5 hc v0 h0 v1 h1 v2 h2 v3 h3 v4 h4 v5 h5 => ?_
            obtain rfl : v0 = .pointer (some ⟨w.heap.size, 2, none⟩) := h0
            obtain rfl : v1 = .int .i64 (M : Int) := h1
            obtain rfl : v2 = .int .i64 ((k : Int)) := h2
            obtain rfl : v3 = .int .i64 p := h3
            obtain rfl : v4 = .int .i64 (M2 : Int) := h4
            obtain rfl : v5 = .pointer (some ⟨w.heap.size, 2, none⟩) := h5
            (try simp only [reg.Obs])
            (try simp only [Act.put, List.setIfInBounds_toArray, List.set_cons_zero, List.set_cons_succ])
            simp only [List.drop_succ_cons, List.drop_zero]
            have B5 := Lib.hid hc.1
            have X5 := Lib.hid hc.2.1
            have Z5 := Lib.hid hc.2.2.1
            clear hc B4 X4 Z4
            have cX2 : wg5.cell? ⟨w.heap.size, 2, none⟩ = some (.int .i64 (M : Int)) := X5.out.cell 2
            have fX2 : wg5.frozen? ⟨w.heap.size, 2, none⟩ = false := X5.out.free 2
            go_wp2_with fail
            clear cX2 fX2
            have hWW : (wg5.setCell ⟨w.heap.size, 2, none⟩ (.int .i64 (M2 : Int))) = (wg5.setCell ⟨w.heap.size, 2, none⟩ (.int .i64 (M2 : Int))) := rfl
            obtain ⟨w6, hW⟩ : ∃ wy, (wg5.setCell ⟨w.heap.size, 2, none⟩ (.int .i64 (M2 : Int))) = wy := ⟨_, rfl⟩
            rw [hW]
            clear hWW
            have B6 := Lib.hid (show Below w.heap.size w w6 by rw [← hW]; exact (B5.out.setCell (p := ⟨w.heap.size, 2, none⟩) (by have hs0 := LTX.out; have hs1 := LTZ.out; have hs2 := SS1.out; have hs3 := SS2.out; have hs4 := LUX3.out; have hs5 := LUZ3.out; have hs6 := SBR3.out; have hs7 := SS4.out; first | omega | (simp <;> omega)) _))
            have X6 := Lib.hid (show Bx 27 w6 (w.heap.size) #[.int .i64 s, .int .i64 n, .int .i64 (M2 : Int)] by rw [← hW]; exact (X5.out.set 2 _))
            have Z6 := Lib.hid (show Bx 27 w6 (w.heap.size + 1) #[.int .i64 0, .int .i64 0, .int .i64 0] by rw [← hW]; exact (Z5.out.other (by have hs0 := LTX.out; have hs1 := LTZ.out; have hs2 := SS1.out; have hs3 := SS2.out; have hs4 := LUX3.out; have hs5 := LUZ3.out; have hs6 := SBR3.out; have hs7 := SS4.out; first | omega | (simp <;> omega)) _ _))
            clear hW B5 X5 Z5
            go_roundw
            case rel => exact ⟨k + 1, M2, by go_num, by omega, by rw [HL.out, ← HM2.out, hM.out], B6.out, X6.out, Z6.out⟩
            case measure => simp [intOf]; omega
          | false =>
            have HL := Lib.hid (setr_no (m := m) HT.out)
            go_wp2_with fail
            go_roundw
            case rel => exact ⟨k + 1, M, by go_num, by omega, by rw [HL.out]; exact hM.out, B4.out, X4.out, Z4.out⟩
            case measure => simp [intOf]; omega
        · have hlt2 : ¬ (k : Int) < W := by omega
          obtain rfl : k = W := by omega
          obtain ⟨⟨x0, x1, x2⟩, hx⟩ : ∃ q, (⟨(adv s M).1, n, ((adv s M).2 : Int)⟩ : Bs) = q := ⟨_, rfl⟩
          have HX := Lib.hid hx
          have HE9 := Lib.hid (show giv ⟨s, n, (m : Int)⟩ x = ⟨x0, x1, x2⟩ by rw [HE.out, HMK.out, ← hM.out]; exact hx)
          clear hx HE
          go_wp2_with (refine stw.list_load rfl 27 _ rfl (w.heap.size) rfl 27 _ X3.out Try.underlying27 rfl szS ?_)
          (with_reducible refine (implAdv s n M HS.out HM.out _).mono ?_)
          rintro e w4 hp
          obtain ⟨rfl, hb⟩ := s_parts HX.out hp
          clear hp
          have SS4 := Lib.hid hb.size
          have B4 := Lib.hid (B3.out.trans (hb.mono B3.out.size))
          have X4 := Lib.hid (X3.out.below hb)
          have Z4 := Lib.hid (Z3.out.below hb)
          clear hb  B3 X3 Z3
          go_wp2_with (first | (refine stw.list_store rfl 27 _ _ rfl (w.heap.size + 1) #[.int .i64 x0, .int .i64 x1, .int .i64 x2] rfl rfl 27 _ Z4.out rfl szS (oneS _ _ _) ?_; intro wz5 hz))
          have B5 := Lib.hid (hz.on B4.out (by have hs0 := LTX.out; have hs1 := LTZ.out; have hs2 := SS1.out; have hs3 := SS2.out; have hs4 := LUX3.out; have hs5 := LUZ3.out; have hs6 := SBR3.out; have hs7 := SS4.out; first | omega | (simp <;> omega)))
          have X5 := Lib.hid (hz.keep X4.out (by have hs0 := LTX.out; have hs1 := LTZ.out; have hs2 := SS1.out; have hs3 := SS2.out; have hs4 := LUX3.out; have hs5 := LUZ3.out; have hs6 := SBR3.out; have hs7 := SS4.out; first | omega | (simp <;> omega)))
          have Z5 := Lib.hid (hz.box)
          clear hz B4 X4 Z4
          (try simp only [Exit.inBlock, Exit.then])
          refine bodyPost_ret (v := .agg #[.int .i64 x0, .int .i64 x1, .int .i64 x2]) ?_ rfl ?_
          · rw [results_cell1 rfl]
            exact stw.back Z5.out Try.underlying27 rfl szS
          · exact ⟨by rw [HE9.out], B5.out⟩
    | false =>
      have HE := Lib.hid (HN.out rfl)
      clear HN HY
      go_wp2_with (first | (refine stw.list_load rfl 27 _ rfl (w.heap.size) rfl 27 _ X2.out Try.underlying27 rfl szS ?_) | (refine stw.list_store rfl 27 _ _ rfl (w.heap.size + 1) #[.int .i64 s, .int .i64 n, .int .i64 a] rfl rfl 27 _ Z2.out rfl szS (oneS _ _ _) ?_; intro wz3 hz))
      have B3 := Lib.hid (hz.on B2.out (by have hs0 := LTX.out; have hs1 := LTZ.out; have hs2 := SS1.out; have hs3 := SS2.out; first | omega | (simp <;> omega)))
      have X3 := Lib.hid (hz.keep X2.out (by have hs0 := LTX.out; have hs1 := LTZ.out; have hs2 := SS1.out; have hs3 := SS2.out; first | omega | (simp <;> omega)))
      have Z3 := Lib.hid (hz.box)
      clear hz B2 X2 Z2
      (try simp only [Exit.inBlock, Exit.then])
      refine bodyPost_ret (v := .agg #[.int .i64 s, .int .i64 n, .int .i64 a]) ?_ rfl ?_
      · rw [results_cell1 rfl]
        exact stw.back Z3.out Try.underlying27 rfl szS
      · exact ⟨by rw [HE.out], B3.out⟩
  | false =>
    have HE := Lib.hid (HN.out rfl)
    clear HN HY
    go_wp2_with (first | (refine stw.list_load rfl 27 _ rfl (w.heap.size) rfl 27 _ X1.out Try.underlying27 rfl szS ?_) | (refine stw.list_store rfl 27 _ _ rfl (w.heap.size + 1) #[.int .i64 s, .int .i64 n, .int .i64 a] rfl rfl 27 _ Z1.out rfl szS (oneS _ _ _) ?_; intro wz2 hz))
    have B2 := Lib.hid (hz.on B1.out (by have hs0 := LTX.out; have hs1 := LTZ.out; have hs2 := SS1.out; first | omega | (simp <;> omega)))
    have X2 := Lib.hid (hz.keep X1.out (by have hs0 := LTX.out; have hs1 := LTZ.out; have hs2 := SS1.out; first | omega | (simp <;> omega)))
    have Z2 := Lib.hid (hz.box)
    clear hz B1 X1 Z1
    (try simp only [Exit.inBlock, Exit.then])
    refine bodyPost_ret (v := .agg #[.int .i64 s, .int .i64 n, .int .i64 a]) ?_ rfl ?_
    · rw [results_cell1 rfl]
      exact stw.back Z2.out Try.underlying27 rfl szS
    · exact ⟨by rw [HE.out], B2.out⟩
set_option maxRecDepth 100000 in
set_option maxHeartbeats 4000000 in
theorem implRcv (s n a : Int) (c b : Int) (w : World) :
    Calls Try.prog 20 #[.agg #[.int .i64 s, .int .i64 n, .int .i64 a], .agg #[.int .i64 c, .int .i64 b]] w (SPost (rcv ⟨s, n, a⟩ c b) w) := by
  obtain ⟨⟨x0, x1, x2⟩, hx⟩ : ∃ q, rcv ⟨s, n, a⟩ c b = q := ⟨_, rfl⟩
  have HX := Lib.hid hx
  clear hx
  go_enter Try.func20, Try.ntmps20
  go_wp2_with fail
  obtain ⟨w0, hW⟩ : ∃ w0, ((w.alloc (.cells #[.int .i64 s, .int .i64 n, .int .i64 a] 27)).alloc (.cells #[.int .i64 c, .int .i64 b] 42)).alloc (.cells #[.int .i64 0, .int .i64 0, .int .i64 0] 27) = w0 := ⟨_, rfl⟩
  rw [hW]
  have B0 := Lib.hid (show Below w.heap.size w w0 by rw [← hW]; exact (((Below.refl _ _).alloc (by simp <;> omega) _).alloc (by simp <;> omega) _).alloc (by simp <;> omega) _)
  have X0 := Lib.hid (show Bx 27 w0 (w.heap.size) #[.int .i64 s, .int .i64 n, .int .i64 a] by
      rw [← hW]
      have hh := Bx.made 27 w #[.int .i64 s, .int .i64 n, .int .i64 a]
      exact ((hh.below (below_box _ _)).below (below_box _ _)))
  have A0 := Lib.hid (show Bx 42 w0 (w.heap.size + 1) #[.int .i64 c, .int .i64 b] by
      rw [← hW]
      have hh : Bx 42 ((w.alloc (.cells #[.int .i64 s, .int .i64 n, .int .i64 a] 27)).alloc (.cells #[.int .i64 c, .int .i64 b] 42)) (w.heap.size + 1) #[.int .i64 c, .int .i64 b] := by have hh := Bx.made 42 (w.alloc (.cells #[.int .i64 s, .int .i64 n, .int .i64 a] 27)) #[.int .i64 c, .int .i64 b]; simpa using hh
      exact (hh.below (below_box _ _)))
  have Z0 := Lib.hid (show Bx 27 w0 (w.heap.size + 1 + 1) #[.int .i64 0, .int .i64 0, .int .i64 0] by
      rw [← hW]
      have hh : Bx 27 (((w.alloc (.cells #[.int .i64 s, .int .i64 n, .int .i64 a] 27)).alloc (.cells #[.int .i64 c, .int .i64 b] 42)).alloc (.cells #[.int .i64 0, .int .i64 0, .int .i64 0] 27)) (w.heap.size + 1 + 1) #[.int .i64 0, .int .i64 0, .int .i64 0] := by have hh := Bx.made 27 ((w.alloc (.cells #[.int .i64 s, .int .i64 n, .int .i64 a] 27)).alloc (.cells #[.int .i64 c, .int .i64 b] 42)) #[.int .i64 0, .int .i64 0, .int .i64 0]; simpa using hh
      exact hh)
  clear hW
  have LTX := Lib.hid X0.out.lt
  have LTA := Lib.hid A0.out.lt
  have LTZ := Lib.hid Z0.out.lt
  go_wp2_with (first | (refine stw.list_load rfl 27 _ rfl (w.heap.size) rfl 27 _ X0.out Try.underlying27 rfl szS ?_) | (refine stw.list_load rfl 42 _ rfl (w.heap.size + 1) rfl 42 _ A0.out Try.underlying42 rfl szA ?_))
  (with_reducible refine (ackA s n a c b _).mono ?_)
  rintro e w1 hp
  obtain ⟨rfl, hb⟩ := s_parts HX.out hp
  clear hp
  have SS1 := Lib.hid hb.size
  have B1 := Lib.hid (B0.out.trans (hb.mono B0.out.size))
  have X1 := Lib.hid (X0.out.below hb)
  have A1 := Lib.hid (A0.out.below hb)
  have Z1 := Lib.hid (Z0.out.below hb)
  clear hb  B0 X0 A0 Z0
  go_wp2_with (first | (refine stw.list_store rfl 27 _ _ rfl (w.heap.size + 1 + 1) #[.int .i64 x0, .int .i64 x1, .int .i64 x2] rfl rfl 27 _ Z1.out rfl szS (oneS _ _ _) ?_; intro wz2 hz))
  have B2 := Lib.hid (hz.on B1.out (by have hs0 := LTX.out; have hs1 := LTA.out; have hs2 := LTZ.out; have hs3 := SS1.out; first | omega | (simp <;> omega)))
  have X2 := Lib.hid (hz.keep X1.out (by have hs0 := LTX.out; have hs1 := LTA.out; have hs2 := LTZ.out; have hs3 := SS1.out; first | omega | (simp <;> omega)))
  have A2 := Lib.hid (hz.keep A1.out (by have hs0 := LTX.out; have hs1 := LTA.out; have hs2 := LTZ.out; have hs3 := SS1.out; first | omega | (simp <;> omega)))
  have Z2 := Lib.hid (hz.box)
  clear hz B1 X1 A1 Z1
  (try simp only [Exit.inBlock, Exit.then])
  refine bodyPost_ret (v := .agg #[.int .i64 x0, .int .i64 x1, .int .i64 x2]) ?_ rfl ?_
  · rw [results_cell1 rfl]
    exact stw.back Z2.out Try.underlying27 rfl szS
  · exact ⟨by rw [HX.out], B2.out⟩
end Go.Proofs.Ytmmhleobgpgliaa.bs
end

section
namespace Go.Proofs.Ytmmhleobgpgliaa.bs
open Go.RowKit sl harn rng bx stw
set_option linter.unusedVariables false
set_option linter.unusedSimpArgs false

theorem specSdE (a b d : Int) (h : sqd a b = d) (w : World) : Calls Try.prog 29 #[.int .i64 a, .int .i64 b] w fun e w' => e = .returned (.int .i64 d) ∧ w = w' := by subst h; exact specSd a b w
theorem nwr_of {c y e : Int} (h : sqd y c = e) : nwr c y = decide (1 ≤ e ∧ e ≤ 2047) := by unfold nwr; rw [h]
theorem cvr_yes {c b y : Int} (h : nwr c y = true) : cvr c b y = true := by unfold cvr; rw [h]; rfl
theorem cvr_far {c b y e : Int} (h : nwr c y = false) (he : sqd c y = e) (h2 : ¬ e < 16) : cvr c b y = false := by unfold cvr; rw [h, he, decide_eq_false (by omega)]; rfl
theorem cvr_near {c b y e : Int} (h : nwr c y = false) (he : sqd c y = e) (h1 : 0 ≤ e) (h2 : e < 16) : cvr c b y = bit b e := by unfold cvr; rw [h, he, decide_eq_true (by omega)]; rfl
end Go.Proofs.Ytmmhleobgpgliaa.bs
end

section
namespace Go.Proofs.Ytmmhleobgpgliaa.mrw
open Go.RowKit sl harn bx
set_option linter.unusedVariables false

/-- How an element lies in memory: its cells, one of them a slice of bytes. -/
structure Sh (α : Type) where
  T : TypeId
  s : Nat
  C : α → Option Addr → Nat → Nat → List Value
  B : α → List Int
  len : ∀ x A n c, (C x A n c).length = s
  one : ∀ x A n c, ∀ u ∈ C x A n c, u.oneCell' = true
  pos : 0 < s
  ne : T ≠ 5
/-- An element with the header of its slice. -/
structure El (α : Type) where
  x : α
  A : Option Addr
  n : Nat
  c : Nat

theorem rangeAt_same {w w' : World} {b o : Nat} {cs : List Value} (h : w.rangeAt b o cs) (hb : w'.heap[b]? = w.heap[b]?) : w'.rangeAt b o cs :=
  fun j v hj => (World.cell?_of_block (w := w) hb).trans (h j v hj)

section
variable {α : Type} (S : Sh α)
def cells (e : El α) : List Value := S.C e.x e.A e.n e.c
def flat (es : List (El α)) : List Value := es.flatMap (cells S)
theorem cells_len (e : El α) : (cells S e).length = S.s := S.len _ _ _ _
theorem flat_len (es : List (El α)) : (flat S es).length = es.length * S.s := by
  induction es with
  | nil => simp [flat]
  | cons e r ih =>
    have h1 : flat S (e :: r) = cells S e ++ flat S r := rfl
    rw [h1, List.length_append, cells_len, ih, List.length_cons, Nat.add_mul, Nat.one_mul, Nat.add_comm]
theorem flat_append (a b : List (El α)) : flat S (a ++ b) = flat S a ++ flat S b := by simp [flat]
theorem flat_one (es : List (El α)) : ∀ u ∈ flat S es, u.oneCell' = true := by
  intro u hu
  obtain ⟨e, _, h2⟩ := List.mem_flatMap.1 hu
  exact S.one _ _ _ _ u h2
theorem flat_at {es : List (El α)} {i : Nat} {e : El α} (h : es[i]? = some e) : ((flat S es).drop (i * S.s)).take S.s = cells S e := by
  induction es generalizing i with
  | nil => simp at h
  | cons f r ih =>
    have h1 : flat S (f :: r) = cells S f ++ flat S r := rfl
    cases i with
    | zero =>
      have : f = e := by simpa using h
      subst this
      rw [h1, Nat.zero_mul, List.drop_zero, List.take_append_of_le_length (by rw [cells_len]; omega), List.take_of_length_le (by rw [cells_len]; omega)]
    | succ i =>
      have h2 : r[i]? = some e := by simpa using h
      rw [h1, Nat.add_mul, Nat.one_mul, List.drop_append, List.drop_eq_nil_of_le (by rw [cells_len]; omega), List.nil_append, cells_len, Nat.add_sub_cancel]
      exact ih h2
theorem flat_cell {es : List (El α)} {i : Nat} {e : El α} (h : es[i]? = some e) {j : Nat} {v : Value} (hv : (cells S e)[j]? = some v) : (flat S es)[i * S.s + j]? = some v := by
  have hj : j < S.s := by have := (List.getElem?_eq_some_iff.1 hv).1; rwa [cells_len] at this
  rw [← flat_at S h, List.getElem?_take, if_pos hj, List.getElem?_drop] at hv
  exact hv
theorem flat_take (es : List (El α)) (k : Nat) : (flat S es).take (k * S.s) = flat S (es.take k) := by
  rcases Nat.lt_or_ge k es.length with h | h
  · conv => lhs; rw [← List.take_append_drop k es, flat_append]
    rw [List.take_append_of_le_length (by rw [flat_len, List.length_take, Nat.min_eq_left (by omega)]; omega), List.take_of_length_le (by rw [flat_len, List.length_take, Nat.min_eq_left (by omega)]; omega)]
  · rw [List.take_of_length_le h, List.take_of_length_le (by rw [flat_len]; exact Nat.mul_le_mul_right _ h)]
theorem flat_drop (es : List (El α)) (k : Nat) : (flat S es).drop (k * S.s) = flat S (es.drop k) := by
  rcases Nat.lt_or_ge k es.length with h | h
  · have e : (flat S (es.take k)).length = k * S.s := by rw [flat_len, List.length_take, Nat.min_eq_left (by omega)]
    conv => lhs; rw [← List.take_append_drop k es, flat_append]
    rw [List.drop_append, e, List.drop_eq_nil_of_le (by omega), Nat.sub_self, List.drop_zero, List.nil_append]
  · rw [List.drop_eq_nil_of_le h, List.drop_eq_nil_of_le (by rw [flat_len]; exact Nat.mul_le_mul_right _ h)]; rfl

/-- An element that is read at a place. -/
def At (w : World) (lo hi b o : Nat) (x : α) : Prop := ∃ A n c, w.rangeAt b o (S.C x A n c) ∧ Rd .u8 w lo hi A n c (S.B x)
/-- A slice of elements that is read. -/
def Rq (w : World) (lo hi : Nat) (A : Option Addr) (n cap : Nat) (xs : List α) : Prop :=
  xs.length = n ∧ n ≤ cap ∧ cap ≤ maxLen ∧ hi ≤ w.heap.size ∧ (0 < n → ∃ b off, A = some ⟨b, off, none⟩ ∧ lo ≤ b ∧ b < hi ∧ ∀ i x, xs[i]? = some x → At S w lo hi b (off + i * S.s) x)
/-- Their slices do not lie in one block. -/
def Ds (es : List (El α)) : Prop := es.Pairwise fun e f => ∀ a b, e.A = some a → f.A = some b → a.block ≠ b.block
/-- A slice of elements of the call's own, with the headers of their slices. -/
structure Oe (w : World) (lo hi : Nat) (A : Option Addr) (n cap : Nat) (es : List (El α)) : Prop where
  row : w.ownsRow lo S.T S.s (.slice A n cap) n (flat S es)
  body : ∀ e ∈ es, Ow 5 .u8 w lo hi e.A e.n e.c (S.B e.x)
  ds : Ds es
  hi_ : hi ≤ w.heap.size
  lt : ∀ g o, A = some ⟨g, o, none⟩ → g < hi
def Oq (w : World) (lo hi : Nat) (A : Option Addr) (n cap : Nat) (xs : List α) : Prop := ∃ es, es.map (·.x) = xs ∧ Oe S w lo hi A n cap es
end

section
variable {α : Type} {S : Sh α} {w w' : World} {lo hi n cap : Nat} {A : Option Addr} {xs : List α} {es : List (El α)}
theorem At.same {b o : Nat} {x : α} (h : At S w lo hi b o x) (hl : lo ≤ b) (hh : b < hi) (hs : w.heap.size ≤ w'.heap.size) (hb : ∀ b, lo ≤ b → b < hi → w'.heap[b]? = w.heap[b]?) : At S w' lo hi b o x := by
  obtain ⟨A, n, c, h1, h2⟩ := h
  exact ⟨A, n, c, rangeAt_same h1 (hb b hl hh), h2.same hs hb⟩
theorem Rq.len (h : Rq S w lo hi A n cap xs) : xs.length = n := h.1
theorem Rq.cap_ (h : Rq S w lo hi A n cap xs) : n ≤ cap ∧ cap ≤ 9223372036854775807 := ⟨h.2.1, by have := h.2.2.1; unfold maxLen at this; omega⟩
theorem Rq.hi_ (h : Rq S w lo hi A n cap xs) : hi ≤ w.heap.size := h.2.2.2.1
theorem Rq.at_ (h : Rq S w lo hi A n cap xs) {i : Nat} (hi' : i < n) : ∃ b off x, A = some ⟨b, off, none⟩ ∧ xs[i]? = some x ∧ lo ≤ b ∧ b < hi ∧ At S w lo hi b (off + i * S.s) x := by
  obtain ⟨b, off, e, h1, h2, h3⟩ := h.2.2.2.2 (by omega)
  have hl : i < xs.length := by rw [h.len]; exact hi'
  exact ⟨b, off, xs[i], e, List.getElem?_eq_getElem hl, h1, h2, h3 i _ (List.getElem?_eq_getElem hl)⟩
theorem Rq.same (h : Rq S w lo hi A n cap xs) (hs : w.heap.size ≤ w'.heap.size) (hb : ∀ b, lo ≤ b → b < hi → w'.heap[b]? = w.heap[b]?) : Rq S w' lo hi A n cap xs := by
  obtain ⟨h1, h2, h3, h4, h5⟩ := h
  refine ⟨h1, h2, h3, by omega, fun hn => ?_⟩
  obtain ⟨b, off, e, g1, g2, g3⟩ := h5 hn
  exact ⟨b, off, e, g1, g2, fun i x hx => (g3 i x hx).same g1 g2 hs hb⟩
theorem Rq.below (h : Rq S w lo hi A n cap xs) (hb : Below w.heap.size w w') : Rq S w' lo hi A n cap xs :=
  h.same hb.size fun b _ hlt => hb.block b (by have := h.hi_; omega)
theorem Rq.tch (h : Rq S w lo hi A n cap xs) {l r : Nat} (hb : Tch l r w w') (hd : hi ≤ l ∨ r ≤ lo) : Rq S w' lo hi A n cap xs :=
  h.same hb.size fun b h1 h2 => hb.block b (by have := h.hi_; omega) (by omega)
theorem Rq.nil (w : World) (A : Option Addr) (cap lo hi : Nat) (hc : cap ≤ maxLen) (hh : hi ≤ w.heap.size) : Rq S w lo hi A 0 cap [] :=
  ⟨rfl, by omega, hc, hh, fun h => absurd h (by omega)⟩

theorem Oe.len (h : Oe S w lo hi A n cap es) : es.length = n := by
  have h1 := h.row.1
  rw [flat_len] at h1
  exact Nat.eq_of_mul_eq_mul_right S.pos h1
theorem Oe.form (h : Oe S w lo hi A n cap es) : (A = none ∧ n = 0 ∧ cap = 0) ∨ ∃ g cur, A = some ⟨g, 0, none⟩ ∧ lo ≤ g ∧ g < hi ∧ w.heap[g]? = some (.cells cur S.T (0, 0)) ∧ n ≤ cap ∧ cap ≤ maxLen ∧ cur.size = cap * S.s ∧ cur.toList.take (n * S.s) = flat S es := by
  rcases h.row.2 with ⟨e, h0⟩ | ⟨g, c, cur, e, h1, h2, h3, h4, h5, h6⟩
  · injection e with e1 e2 e3
    exact Or.inl ⟨e1, e2, e3⟩
  · injection e with e1 e2 e3
    subst e3
    exact Or.inr ⟨g, cur, e1, h1, h.lt g 0 e1, h2, h3, h4, h5, h6⟩
theorem Oe.at_ (h : Oe S w lo hi A n cap es) {i : Nat} {e : El α} (he : es[i]? = some e) : ∃ g, A = some ⟨g, 0, none⟩ ∧ lo ≤ g ∧ g < hi ∧ w.rangeAt g (i * S.s) (cells S e) := by
  have hi' : i < es.length := (List.getElem?_eq_some_iff.1 he).1
  rw [h.len] at hi'
  rcases h.form with ⟨_, h0, _⟩ | ⟨g, cur, rfl, h1, h2, h3, h4, h5, h6, h7⟩
  · omega
  · refine ⟨g, rfl, h1, h2, fun j v hv => ?_⟩
    have hj : j < S.s := by have := (List.getElem?_eq_some_iff.1 hv).1; rwa [cells_len] at this
    have hlt : i * S.s + j < n * S.s := by
      have := Nat.mul_le_mul_right S.s (show i + 1 ≤ n by omega)
      rw [Nat.add_mul, Nat.one_mul] at this
      omega
    rw [h.row.cellAt (i * S.s + j) hlt]
    exact flat_cell S he hv
theorem Oe.rq (h : Oe S w lo hi A n cap es) : Rq S w lo hi A n cap (es.map (·.x)) := by
  have hl := h.len
  rcases h.form with ⟨rfl, rfl, rfl⟩ | ⟨g, cur, rfl, h1, h2, h3, h4, h5, h6, h7⟩
  · exact ⟨by simpa using hl, Nat.le_refl _, by unfold maxLen; omega, h.hi_, fun h => absurd h (by omega)⟩
  · refine ⟨by simpa using hl, h4, h5, h.hi_, fun _ => ⟨g, 0, rfl, h1, h2, fun i x hx => ?_⟩⟩
    rw [List.getElem?_map] at hx
    cases he : es[i]? with
    | none => rw [he] at hx; cases hx
    | some e =>
      rw [he] at hx
      obtain rfl : e.x = x := by simpa using hx
      obtain ⟨g', e1, _, _, hr⟩ := h.at_ he
      injection e1 with e1; injection e1 with e1 _
      subst e1
      refine ⟨e.A, e.n, e.c, by rw [Nat.zero_add]; exact hr, (h.body e (List.mem_of_getElem? he)).rd⟩
theorem Oe.same (h : Oe S w lo hi A n cap es) (hs : w.heap.size ≤ w'.heap.size) (hb : ∀ b, lo ≤ b → b < hi → w'.heap[b]? = w.heap[b]?) : Oe S w' lo hi A n cap es := by
  refine ⟨⟨h.row.1, ?_⟩, fun e he => (h.body e he).same hs hb, h.ds, by have := h.hi_; omega, h.lt⟩
  rcases h.row.2 with h2 | ⟨g, c, cur, e, g1, g2, g3⟩
  · exact Or.inl h2
  · injection e with e1 e2 e3
    refine Or.inr ⟨g, c, cur, by rw [e1, e3], g1, ?_, g3⟩
    rw [hb g g1 (h.lt g 0 e1)]; exact g2
theorem Oe.below (h : Oe S w lo hi A n cap es) (hb : Below w.heap.size w w') : Oe S w' lo hi A n cap es :=
  h.same hb.size fun b _ hlt => hb.block b (by have := h.hi_; omega)
theorem Oe.up (h : Oe S w lo hi A n cap es) : Oe S w lo w.heap.size A n cap es :=
  ⟨h.row, fun e he => (h.body e he).up, h.ds, Nat.le_refl _, fun g o e => by have := h.lt g o e; have := h.hi_; omega⟩
theorem row_down {v : Value} {lo2 : Nat} {T : TypeId} {s m : Nat} {l : List Value} (h : w.ownsRow lo T s v m l) (hl : lo2 ≤ lo) : w.ownsRow lo2 T s v m l := by
  refine ⟨h.1, ?_⟩
  rcases h.2 with h2 | ⟨g, c, cur, e, g1, g2⟩
  · exact Or.inl h2
  · exact Or.inr ⟨g, c, cur, e, by omega, g2⟩
theorem Oe.down {lo2 : Nat} (h : Oe S w lo hi A n cap es) (hl : lo2 ≤ lo) : Oe S w lo2 hi A n cap es :=
  ⟨row_down h.row hl, fun e he => (h.body e he).down hl, h.ds, h.hi_, h.lt⟩
theorem Oe.nil_ (S : Sh α) (w : World) (lo hi : Nat) (hh : hi ≤ w.heap.size) : Oe S w lo hi none 0 0 [] :=
  ⟨⟨by simp [flat], .inl ⟨rfl, rfl⟩⟩, fun _ h => (by cases h), List.Pairwise.nil, hh, fun _ _ e => by cases e⟩
theorem Oe.empty (S : Sh α) (w : World) : Oe S (w.alloc (.cells #[] S.T)) w.heap.size (w.heap.size + 1) (some ⟨w.heap.size, 0, none⟩) 0 0 [] :=
  ⟨⟨by simp [flat], .inr ⟨w.heap.size, 0, #[], rfl, Nat.le_refl _, heap_alloc_new w _, Nat.le_refl _, by unfold maxLen; omega, by simp, by simp [flat]⟩⟩, fun _ h => (by cases h), List.Pairwise.nil, by simp, fun g o e => by
    injection e with e; injection e with e _; omega⟩
/-- A row of zero elements of which none is told. -/
theorem Oe.made (S : Sh α) (w : World) (z : Array Value) (m : Nat) (hm : m ≤ maxLen) (hz : z.size = m * S.s) : Oe S (w.alloc (.cells z S.T)) w.heap.size (w.heap.size + 1) (some ⟨w.heap.size, 0, none⟩) 0 m [] :=
  ⟨⟨by simp [flat], .inr ⟨w.heap.size, m, z, rfl, Nat.le_refl _, heap_alloc_new w _, Nat.zero_le _, hm, hz, by simp [flat]⟩⟩, fun _ h => (by cases h), List.Pairwise.nil, by simp, fun g o e => by
    injection e with e; injection e with e _; omega⟩
/-- A new element whose slice lies above the others. -/
theorem Ds.push (hd : Ds es) (hb : ∀ e ∈ es, Ow 5 .u8 w lo hi e.A e.n e.c (S.B e.x)) {f : El α} {lo2 hi2 : Nat} {w2 : World} {zs : List Int} (hf : Ow 5 .u8 w2 lo2 hi2 f.A f.n f.c zs) (h : hi ≤ lo2) : Ds (es ++ [f]) := by
  refine List.pairwise_append.2 ⟨hd, List.pairwise_singleton _ _, fun e he f' hf' a b ha hb' => ?_⟩
  obtain rfl : f' = f := by simpa using hf'
  rcases (hb e he).form with ⟨h0, _⟩ | ⟨g, cur, h0, _, h2, _⟩
  · rw [h0] at ha; cases ha
  · rcases hf.form with ⟨k0, _⟩ | ⟨g', cur', k0, k1, _⟩
    · rw [k0] at hb'; cases hb'
    · rw [h0] at ha; rw [k0] at hb'
      obtain rfl := Option.some.inj ha
      obtain rfl := Option.some.inj hb'
      show g ≠ g'
      omega
/-- Elements appended. -/
theorem Oe.app {P : Program} (t ty : TypeId) (i : TypeInfo) (z : Value) (h1 : P.underlying t = some (.slice S.T)) (h2 : P.info? S.T = some i) (h3 : i.zero = some z) (h4 : i.size = S.s) (h5 : i.bytes ≤ 128) (h6 : z.cells.size = S.s)
    (h : Oe S w lo hi A n cap es) (ad : Addr) (m c : Nat) (fs : List (El α)) (hm : fs.length = m) (hsrc : ∀ j u, (flat S fs)[j]? = some u → w.cell? (ad.add j) = some u)
    (hb : ∀ f ∈ fs, ∃ lo2 hi2, lo ≤ lo2 ∧ Ow 5 .u8 w lo2 hi2 f.A f.n f.c (S.B f.x)) (hd : Ds (es ++ fs)) (hn : n + m ≤ 1073741824) (hlo : lo ≤ w.heap.size) :
    ∃ A' cap' w', (Builtin.append_ #[t, t] ty #[.slice A n cap, .slice (some ad) m c]).run P w = .ok (.slice A' (n + m) cap') w' ∧ Oe S w' lo w'.heap.size A' (n + m) cap' (es ++ fs) ∧ Below lo w w' := by
  have hb8 : (n + m) * i.bytes ≤ 140737488355328 := by
    have := Nat.mul_le_mul hn h5
    omega
  obtain ⟨v', w', hrun, g1, g2, _, g3⟩ := run_append_own_at (P := P) w lo t ty S.T i z S.s i.bytes h1 h2 h3 h4 rfl h6 S.pos _ n _ h.row ad m c (flat S fs) (by rw [flat_len, hm]) hsrc (flat_one S fs) (by unfold maxLen; omega) hb8 hlo
  rw [← flat_append] at g1
  have hkeep : ∀ (f : El α) (lo2 hi2 : Nat), Ow 5 .u8 w lo2 hi2 f.A f.n f.c (S.B f.x) → Ow 5 .u8 w' lo2 hi2 f.A f.n f.c (S.B f.x) := by
    intro f lo2 hi2 hf
    rcases hf.form with ⟨e1, e2, e3⟩ | ⟨g, cur, e1, k1, k2, k3, k4⟩
    · have hz : S.B f.x = [] := List.eq_nil_of_length_eq_zero (by rw [hf.len, e2])
      rw [e1, e2, e3, hz]
      exact Ow.nil_ _ _ _ _ _ (by have := hf.hi_; have := g2.size; omega)
    · obtain ⟨⟨q1, q2⟩, q3, q4, q5⟩ := hf
      refine ⟨⟨q1, ?_⟩, q3, by have := g2.size; omega, q5⟩
      rcases q2 with q2 | ⟨g', c', cur', e, r1, r2, r3⟩
      · exact Or.inl q2
      · refine Or.inr ⟨g', c', cur', e, r1, ?_, r3⟩
        rw [g2.block g' (lt_of_block r2) ?_]
        · exact r2
        · intro heq
          rcases h.form with ⟨e0, _⟩ | ⟨gr, curr, e0, _, _, s3, _⟩
          · rw [e0] at heq; simp [Value.ownBlock] at heq
          · rw [e0] at heq
            simp only [Value.ownBlock, Option.some.injEq] at heq
            subst heq
            rw [r2] at s3
            simp only [Option.some.injEq, Obj.cells.injEq] at s3
            exact S.ne s3.2.1.symm
  have hB : Below lo w w' := (Below.refl _ _).grown g2 hlo fun q hq => by
    rcases h.form with ⟨e0, _⟩ | ⟨gr, curr, e0, s1, _⟩
    · rw [e0] at hq; simp [Value.ownBlock] at hq
    · rw [e0] at hq; simp [Value.ownBlock] at hq; omega
  have hv : ∃ A' cap', v' = .slice A' (n + m) cap' ∧ ∀ g o, A' = some ⟨g, o, none⟩ → g < w'.heap.size := by
    rcases g1.2 with ⟨rfl, h0⟩ | ⟨g, c, cur, rfl, _, k2, _⟩
    · exact ⟨none, 0, by rw [h0], fun _ _ e => by cases e⟩
    · exact ⟨_, c, rfl, fun g' o e => by injection e with e; injection e with e _; subst e; exact lt_of_block k2⟩
  obtain ⟨A', cap', rfl, hlt⟩ := hv
  refine ⟨A', cap', w', hrun, ⟨g1, fun e he => ?_, hd, Nat.le_refl _, hlt⟩, hB⟩
  rcases List.mem_append.1 he with he | he
  · exact (hkeep e lo hi (h.body e he)).up
  · obtain ⟨lo2, hi2, hl, ho⟩ := hb e he
    exact ((hkeep e lo2 hi2 ho).up).down hl
end
end Go.Proofs.Ytmmhleobgpgliaa.mrw
end

section
namespace Go.Proofs.Ytmmhleobgpgliaa.mrw
open Go.RowKit sl harn bx
set_option linter.unusedVariables false

/-- Cells written one behind the other. -/
def lay (cur : Array Value) : Nat → List Value → Array Value
  | _, [] => cur
  | o, v :: r => lay (cur.setIfInBounds o v) (o + 1) r
theorem lay_size : ∀ (vs : List Value) (cur : Array Value) (o : Nat), (lay cur o vs).size = cur.size
  | [], _, _ => rfl
  | v :: r, cur, o => by rw [lay, lay_size r]; simp
theorem lay_list : ∀ (vs : List Value) (cur : Array Value) (o : Nat), o + vs.length ≤ cur.size → (lay cur o vs).toList = cur.toList.take o ++ vs ++ cur.toList.drop (o + vs.length)
  | [], cur, o, h => by simp [lay]
  | v :: r, cur, o, h => by
    have hl : o < cur.toList.length := by simp at h ⊢; omega
    rw [lay, lay_list r _ _ (by simp at h ⊢; omega), Array.toList_setIfInBounds]
    have e1 : (cur.toList.set o v).take (o + 1) = cur.toList.take o ++ [v] := by
      rw [List.take_set, List.take_add_one, List.getElem?_eq_getElem hl]
      have hlt : (cur.toList.take o).length = o := by rw [List.length_take]; omega
      rw [List.set_append_right _ _ (by omega), hlt, Nat.sub_self]
      rfl
    have e2 : (cur.toList.set o v).drop (o + 1 + r.length) = cur.toList.drop (o + (v :: r).length) := by
      rw [List.drop_set, if_pos (by omega), List.length_cons]
      congr 1; omega
    rw [e1, e2]
    simp
theorem size_setCells (b : Nat) : ∀ (vs : List Value) (o : Nat) (w : World), (w.setCells b o vs).heap.size = w.heap.size
  | [], _, _ => rfl
  | v :: r, o, w => by rw [World.setCells, size_setCells b r]; simp [World.setCell]
theorem heap_setCells_ne {b k : Nat} (h : k ≠ b) : ∀ (vs : List Value) (o : Nat) (w : World), (w.setCells b o vs).heap[k]? = w.heap[k]?
  | [], _, _ => rfl
  | v :: r, o, w => by rw [World.setCells, heap_setCells_ne h r, Below.heap_setCell _ _ _ _ h]
theorem heap_setCells_same {b : Nat} {T : TypeId} : ∀ (vs : List Value) (o : Nat) (w : World) (cur : Array Value), w.heap[b]? = some (.cells cur T (0, 0)) → (w.setCells b o vs).heap[b]? = some (.cells (lay cur o vs) T (0, 0))
  | [], _, _, _, h => h
  | v :: r, o, w, cur, h => by
    rw [World.setCells, lay]
    exact heap_setCells_same r (o + 1) _ _ (heap_setCell_same w b o cur T v h)
theorem below_setCells {B b : Nat} {w0 : World} : ∀ (vs : List Value) (o : Nat) (w : World), Below B w0 w → B ≤ b → Below B w0 (w.setCells b o vs)
  | [], _, _, h, _ => h
  | v :: r, o, w, h, hB => by rw [World.setCells]; exact below_setCells r (o + 1) _ (h.setCell (p := ⟨b, o, none⟩) hB v) hB

section
variable {α : Type} {S : Sh α} {w w' : World} {lo hi n cap : Nat} {A : Option Addr} {xs : List α} {es : List (El α)}
theorem row_at {g : Nat} {T : TypeId} {s m : Nat} {l : List Value} (h : w.ownsRow lo T s (.slice (some ⟨g, 0, none⟩) m cap) m l) : ∃ cur, w.heap[g]? = some (.cells cur T (0, 0)) ∧ lo ≤ g ∧ m ≤ cap ∧ cap ≤ maxLen ∧ cur.size = cap * s ∧ cur.toList.take (m * s) = l := by
  rcases h.2 with ⟨e, _⟩ | ⟨g', c, cur, e, h1, h2, h3, h4, h5, h6⟩
  · cases e
  · injection e with e1 e2 e3
    injection e1 with e1; injection e1 with e1 _
    subst e1 e3
    exact ⟨cur, h2, h1, h3, h4, h5, h6⟩
theorem Oe.there {g : Nat} (h : Oe S w lo hi (some ⟨g, 0, none⟩) n cap es) {k : Nat} (hk : k < cap) : w.there g (k * S.s) S.s := by
  obtain ⟨cur, h1, _, _, _, h5, _⟩ := row_at h.row
  intro j hj
  have hlt : k * S.s + j < cur.size := by
    have := Nat.mul_le_mul_right S.s (show k + 1 ≤ cap by omega)
    rw [Nat.add_mul, Nat.one_mul] at this
    omega
  exact ⟨by rw [cell_of_row w g _ cur S.T (0, 0) h1]; simp; omega, frozen_of_row w g _ cur S.T h1⟩
/-- An element stored behind the others, within the capacity. -/
theorem Oe.put {g : Nat} (h : Oe S w lo hi (some ⟨g, 0, none⟩) n cap es) (hk : n < cap) (f : El α) {lo2 hi2 : Nat} (hf : Ow 5 .u8 w lo2 hi2 f.A f.n f.c (S.B f.x)) (hl : hi ≤ lo2) :
    Oe S (w.setCells g (n * S.s) (cells S f)) lo w.heap.size (some ⟨g, 0, none⟩) (n + 1) cap (es ++ [f]) := by
  obtain ⟨cur, h1, h2, h3, h4, h5, h6⟩ := row_at h.row
  have hgl := h.lt g 0 rfl
  have hcap : n * S.s + S.s ≤ cur.size := by
    have := Nat.mul_le_mul_right S.s (show n + 1 ≤ cap by omega)
    rw [Nat.add_mul, Nat.one_mul] at this
    omega
  have hsz := size_setCells g (cells S f) (n * S.s) w
  have kp : ∀ (e : El α) (l r : Nat), Ow 5 .u8 w l r e.A e.n e.c (S.B e.x) → Ow 5 .u8 (w.setCells g (n * S.s) (cells S f)) l r e.A e.n e.c (S.B e.x) := by
    intro e l r he
    obtain ⟨⟨q1, q2⟩, q3, q4, q5⟩ := he
    refine ⟨⟨q1, ?_⟩, q3, by omega, q5⟩
    rcases q2 with q2 | ⟨g', c', cur', e', r1, r2, r3⟩
    · exact Or.inl q2
    · refine Or.inr ⟨g', c', cur', e', r1, ?_, r3⟩
      rw [heap_setCells_ne (fun heq => by
        subst heq
        rw [h1] at r2
        simp only [Option.some.injEq, Obj.cells.injEq] at r2
        exact S.ne r2.2.1)]
      exact r2
  refine ⟨⟨by rw [flat_len, List.length_append, h.len]; rfl, .inr ⟨g, cap, _, rfl, h2, heap_setCells_same _ _ _ _ h1, by omega, h4, by rw [lay_size]; exact h5, ?_⟩⟩, fun e he => ?_, h.ds.push h.body hf hl, by omega, fun g' o e => by injection e with e; injection e with e _; subst e; have := h.hi_; omega⟩
  · rw [lay_list _ _ _ (by rw [cells_len]; exact hcap), cells_len, h6, Nat.add_mul, Nat.one_mul, flat_append]
    have e1 : flat S [f] = cells S f := by simp [flat]
    have hlen : (flat S es ++ cells S f).length = n * S.s + S.s := by rw [List.length_append, flat_len, cells_len, h.len]
    rw [e1, List.take_append_of_le_length (by omega), List.take_of_length_le (by omega)]
  · rw [← hsz]
    rcases List.mem_append.1 he with he | he
    · exact (kp e lo hi (h.body e he)).up
    · obtain rfl : e = f := by simpa using he
      exact (kp e lo2 hi2 hf).up.down (by omega)
/-- Cells behind the elements changed. -/
theorem Oe.tail {g : Nat} (h : Oe S w lo hi (some ⟨g, 0, none⟩) n cap es) {o : Nat} (ho : n * S.s ≤ o) (vs : List Value) (hv : o + vs.length ≤ cap * S.s) : Oe S (w.setCells g o vs) lo hi (some ⟨g, 0, none⟩) n cap es := by
  obtain ⟨cur, h1, h2, h3, h4, h5, h6⟩ := row_at h.row
  have hsz := size_setCells g vs o w
  refine ⟨⟨h.row.1, .inr ⟨g, cap, _, rfl, h2, heap_setCells_same _ _ _ _ h1, h3, h4, by rw [lay_size]; exact h5, ?_⟩⟩, fun e he => ?_, h.ds, by have := h.hi_; omega, h.lt⟩
  · rw [lay_list _ _ _ (by omega), ← h6, List.append_assoc, List.take_append_of_le_length (by rw [List.length_take]; simp; omega), List.take_take, Nat.min_eq_left ho]
  · obtain ⟨⟨q1, q2⟩, q3, q4, q5⟩ := h.body e he
    refine ⟨⟨q1, ?_⟩, q3, by omega, q5⟩
    rcases q2 with q2 | ⟨g', c', cur', e', r1, r2, r3⟩
    · exact Or.inl q2
    · refine Or.inr ⟨g', c', cur', e', r1, ?_, r3⟩
      rw [heap_setCells_ne (fun heq => by
        subst heq
        rw [h1] at r2
        simp only [Option.some.injEq, Obj.cells.injEq] at r2
        exact S.ne r2.2.1)]
      exact r2
theorem set_pairwise {es : List (El α)} (h : Ds es) {i : Nat} {e f : El α} (he : es[i]? = some e) (hA : f.A = e.A) : Ds (es.set i f) := by
  have hi : i < es.length := (List.getElem?_eq_some_iff.1 he).1
  have hv : es[i] = e := (List.getElem?_eq_some_iff.1 he).2
  unfold Ds at h ⊢
  rw [List.pairwise_iff_getElem] at h ⊢
  intro a b ha hb hab
  have ha' : a < es.length := by simpa using ha
  have hb' : b < es.length := by simpa using hb
  have h0 := h a b ha' hb' hab
  have hAa : (es.set i f)[a].A = es[a].A := by
    rw [List.getElem_set]
    split
    · rename_i heq; subst heq; rw [hA, ← hv]
    · rfl
  have hAb : (es.set i f)[b].A = es[b].A := by
    rw [List.getElem_set]
    split
    · rename_i heq; subst heq; rw [hA, ← hv]
    · rfl
  rw [hAa, hAb]
  exact h0
theorem flat_set {es : List (El α)} {i : Nat} {e f : El α} (he : es[i]? = some e) {j : Nat} {v : Value} (hj : j < S.s) (hC : cells S f = (cells S e).set j v) : flat S (es.set i f) = (flat S es).set (i * S.s + j) v := by
  have hi : i < es.length := (List.getElem?_eq_some_iff.1 he).1
  have hv : es[i] = e := (List.getElem?_eq_some_iff.1 he).2
  have e0 : es = es.take i ++ e :: es.drop (i + 1) := by rw [← hv, ← List.drop_eq_getElem_cons hi, List.take_append_drop]
  have hlt : (es.take i).length = i := by rw [List.length_take]; omega
  have e1 : es.set i f = es.take i ++ f :: es.drop (i + 1) := by
    conv => lhs; rw [e0]
    rw [List.set_append_right _ _ (by omega), hlt, Nat.sub_self]
    rfl
  have c1 : ∀ (x : El α) (r : List (El α)), flat S (x :: r) = cells S x ++ flat S r := fun _ _ => rfl
  rw [e1, flat_append, c1, hC]
  conv => rhs; rw [e0, flat_append, c1]
  rw [List.set_append_right _ _ (by rw [flat_len, hlt]; omega), flat_len, hlt, Nat.add_sub_cancel_left, List.set_append_left _ _ (by rw [cells_len]; exact hj)]
/-- One cell of an element changed. -/
theorem Oe.cell {g : Nat} (h : Oe S w lo hi (some ⟨g, 0, none⟩) n cap es) {i : Nat} {e : El α} (he : es[i]? = some e) (x' : α) {j : Nat} (v : Value) (hj : j < S.s) (hC : S.C x' e.A e.n e.c = (S.C e.x e.A e.n e.c).set j v) (hB : S.B x' = S.B e.x) :
    Oe S (w.setCell ⟨g, i * S.s + j, none⟩ v) lo hi (some ⟨g, 0, none⟩) n cap (es.set i ⟨x', e.A, e.n, e.c⟩) := by
  have hs := (h.row.stored (i * S.s + j) v).1
  rw [← flat_set (S := S) (f := ⟨x', e.A, e.n, e.c⟩) he hj hC] at hs
  obtain ⟨cur, h1, h2, h3, h4, h5, h6⟩ := row_at h.row
  refine ⟨hs, fun f hf => ?_, set_pairwise h.ds he rfl, by have := h.hi_; simpa [World.setCell] using this, h.lt⟩
  have hfo : Ow 5 .u8 w lo hi f.A f.n f.c (S.B f.x) := by
    rcases List.mem_or_eq_of_mem_set hf with hf | hf
    · exact h.body f hf
    · subst hf
      show Ow 5 .u8 w lo hi e.A e.n e.c (S.B x')
      rw [hB]; exact h.body e (List.mem_of_getElem? he)
  obtain ⟨⟨q1, q2⟩, q3, q4, q5⟩ := hfo
  refine ⟨⟨q1, ?_⟩, q3, by simpa [World.setCell] using q4, q5⟩
  rcases q2 with q2 | ⟨g', c', cur', e', r1, r2, r3⟩
  · exact Or.inl q2
  · refine Or.inr ⟨g', c', cur', e', r1, ?_, r3⟩
    rw [Below.heap_setCell _ _ _ _ (show g' ≠ g from fun heq => by
      subst heq
      rw [h1] at r2
      simp only [Option.some.injEq, Obj.cells.injEq] at r2
      exact S.ne r2.2.1)]
    exact r2
/-- The slice of an element, narrowed to its own block; changed there. -/
theorem Oe.part (h : Oe S w lo hi A n cap es) {i : Nat} {e : El α} (he : es[i]? = some e) : ∃ l r, lo ≤ l ∧ r ≤ hi ∧ Ow 5 .u8 w l r e.A e.n e.c (S.B e.x) ∧
    ∀ (w' : World) (zs : List Int) (x' : α), Tch l r w w' → Ow 5 .u8 w' l r e.A e.n e.c zs → S.B x' = zs → S.C x' e.A e.n e.c = S.C e.x e.A e.n e.c → Oe S w' lo hi A n cap (es.set i ⟨x', e.A, e.n, e.c⟩) ∧ Tch lo hi w w' := by
  have hin : i < es.length := (List.getElem?_eq_some_iff.1 he).1
  obtain ⟨g, rfl, hg1, hg2, _⟩ := h.at_ he
  obtain ⟨cur, h1, h2, h3, h4, h5, h6⟩ := row_at h.row
  have hmem := List.mem_of_getElem? he
  have ho := h.body e hmem
  have fin : ∀ l r, lo ≤ l → r ≤ hi → (∀ q, l ≤ q → q < r → ∃ a, e.A = some a ∧ a.block = q) → Ow 5 .u8 w l r e.A e.n e.c (S.B e.x) →
      ∀ (w' : World) (zs : List Int) (x' : α), Tch l r w w' → Ow 5 .u8 w' l r e.A e.n e.c zs → S.B x' = zs → S.C x' e.A e.n e.c = S.C e.x e.A e.n e.c → Oe S w' lo hi (some ⟨g, 0, none⟩) n cap (es.set i ⟨x', e.A, e.n, e.c⟩) ∧ Tch lo hi w w' := by
    intro l r hl hr hq hnar w' zs x' ht hw hB hC
    have hgq : g < l ∨ r ≤ g := by
      rcases Nat.lt_or_ge g l with hlt | hge
      · exact Or.inl hlt
      · rcases Nat.lt_or_ge g r with hlt2 | hge2
        · exfalso
          obtain ⟨a, ha, hb⟩ := hq g hge hlt2
          rcases hnar.form with ⟨k0, _⟩ | ⟨g', cur', k0, _, _, k3, _⟩
          · rw [k0] at ha; cases ha
          · rw [k0] at ha
            obtain rfl := Option.some.inj ha
            have hb' : g' = g := hb
            subst hb'
            rw [h1] at k3
            simp only [Option.some.injEq, Obj.cells.injEq] at k3
            exact S.ne k3.2.1
        · exact Or.inr hge2
    have hfl : flat S (es.set i ⟨x', e.A, e.n, e.c⟩) = flat S es := by
      have e1 : cells S ⟨x', e.A, e.n, e.c⟩ = (cells S e).set 0 ((cells S e)[0]'(by rw [cells_len]; exact S.pos)) := by
        rw [List.set_getElem_self]; exact hC
      rw [flat_set (S := S) he S.pos e1]
      have := flat_cell S he (List.getElem?_eq_getElem (show 0 < (cells S e).length by rw [cells_len]; exact S.pos))
      apply List.ext_getElem?
      intro q
      rw [List.getElem?_set]
      split
      · rename_i heq
        subst heq
        split
        · exact this.symm
        · rename_i hge; rw [List.getElem?_eq_none (by omega)]
      · rfl
    have hrow : w'.ownsRow lo S.T S.s (.slice (some ⟨g, 0, none⟩) n cap) n (flat S (es.set i ⟨x', e.A, e.n, e.c⟩)) := by
      rw [hfl]
      refine ⟨h.row.1, .inr ⟨g, cap, cur, rfl, h2, ?_, h3, h4, h5, h6⟩⟩
      rw [ht.block g (by have := h.hi_; omega) (by omega)]; exact h1
    refine ⟨⟨hrow, fun f hf => ?_, set_pairwise h.ds he rfl, by have := h.hi_; have := ht.size; omega, h.lt⟩, ⟨ht.os, ht.tape, ht.output, ht.size, fun q hq1 hq2 => ht.block q hq1 (by omega)⟩⟩
    obtain ⟨a, ha, hfa⟩ := List.getElem_of_mem hf
    have ha' : a < es.length := by simpa using ha
    rw [List.getElem_set] at hfa
    split at hfa
    · subst hfa
      show Ow 5 .u8 w' lo hi e.A e.n e.c (S.B x')
      rw [hB]
      obtain ⟨q1, q2, q3, q4⟩ := hw
      refine ⟨row_down q1 hl, q2, by have := h.hi_; have := ht.size; omega, fun g' o e' => by have := q4 g' o e'; omega⟩
    · rename_i hne
      subst hfa
      have hfo := h.body es[a] (List.getElem_mem ha')
      obtain ⟨⟨q1, q2⟩, q3, q4, q5⟩ := hfo
      refine ⟨⟨q1, ?_⟩, q3, by have := ht.size; omega, q5⟩
      rcases q2 with q2 | ⟨g', c', cur', e', r1, r2, r3⟩
      · exact Or.inl q2
      · refine Or.inr ⟨g', c', cur', e', r1, ?_, r3⟩
        injection e' with e1' e2' e3'
        rw [ht.block g' (lt_of_block r2) ?_]
        · exact r2
        · rcases Nat.lt_or_ge g' l with hlt | hge
          · exact Or.inl hlt
          · rcases Nat.lt_or_ge g' r with hlt2 | hge2
            · exfalso
              obtain ⟨a0, ha0, hb0⟩ := hq g' hge hlt2
              have hd := h.ds
              unfold Ds at hd
              rw [List.pairwise_iff_getElem] at hd
              have hie : es[i] = e := (List.getElem?_eq_some_iff.1 he).2
              rcases Nat.lt_or_gt_of_ne hne with hlt3 | hgt3
              · have := hd i a hin ha' hlt3
                rw [hie] at this
                exact this a0 ⟨g', 0, none⟩ ha0 e1' hb0
              · have := hd a i ha' hin hgt3
                rw [hie] at this
                exact this ⟨g', 0, none⟩ a0 e1' ha0 hb0.symm
            · exact Or.inr hge2
  rcases ho.form with ⟨k0, k1, k2⟩ | ⟨q, cq, k0, k1, k2, k3, _⟩
  · have hz : S.B e.x = [] := List.eq_nil_of_length_eq_zero (by rw [ho.len, k1])
    have hnar : Ow 5 .u8 w hi hi e.A e.n e.c (S.B e.x) := by rw [k0, k1, k2, hz]; exact Ow.nil_ _ _ _ _ _ h.hi_
    exact ⟨hi, hi, by omega, Nat.le_refl _, hnar, fin hi hi (by omega) (Nat.le_refl _) (fun q h1 h2 => by omega) hnar⟩
  · have hnar : Ow 5 .u8 w q (q + 1) e.A e.n e.c (S.B e.x) := by
      obtain ⟨⟨p1, p2⟩, p3, p4, p5⟩ := ho
      refine ⟨⟨p1, ?_⟩, p3, by have := h.hi_; omega, fun g' o e' => by rw [k0] at e'; injection e' with e'; injection e' with e' _; omega⟩
      rcases p2 with p2 | ⟨g', c', cur', e', r1, r2, r3⟩
      · exact Or.inl p2
      · injection e' with e1' e2' e3'
        rw [k0] at e1'; injection e1' with e1'; injection e1' with e1' _
        subst e1'
        exact Or.inr ⟨q, c', cur', by rw [k0, e3'], Nat.le_refl _, r2, r3⟩
    exact ⟨q, q + 1, k1, by omega, hnar, fin q (q + 1) k1 (by omega) (fun q' h1 h2 => ⟨_, k0, by show q = q'; omega⟩) hnar⟩
end
/-- Cells stored at a place, as the walk meets it. -/
theorem list_storeAt {P : Program} {ops : Array Oper} {rest : List Oper} {dst : Option Tmp} {tp : TypeId} {ps : String} {af : Array Edge} {a : Act} {w : World} {Q : Exit → Act → World → Prop} {ty : TypeId} {x y : Operand}
    (b o : Nat) (cs : Array Value) (ht : w.there b o cs.size) (hi : (P.info? ty).map (·.size) = some cs.size) (h1 : cs.all (·.oneCell') = true) (hx : a.eval x = .pointer (some ⟨b, o, none⟩)) (hy : a.eval y = .agg cs)
    (h : wpList P ops Q rest (a.put dst undef) (w.setCells b o cs.toList)) : wpList P ops Q ({ dst := dst, op := .store ty x y, type := tp, pos := ps, after := af, guard := none } :: rest) a w :=
  wpList_store_mid rfl ty x y rfl b o cs hx hy ht hi h1 h
end Go.Proofs.Ytmmhleobgpgliaa.mrw
end

section
namespace Go.Proofs.Ytmmhleobgpgliaa.mrw
open Go.RowKit sl harn bx
set_option linter.unusedVariables false

theorem grown_bx {T : TypeId} {w w' : World} {b : Nat} {cs : Array Value} {r : Option Nat} (h : Bx T w b cs) (hg : w.grownBy w' r) (hne : some b ≠ r) : Bx T w' b cs := h.same (hg.block b h.lt hne)
theorem grown_below {w w' : World} (h : Below w.heap.size w w') (r : Option Nat) : w.grownBy w' r := ⟨h.os, h.tape, h.output, h.size, fun k hk _ => h.block k hk⟩
theorem grown_trans {a b c : World} {r : Option Nat} (h : a.grownBy b r) (g : b.grownBy c r) : a.grownBy c r :=
  ⟨g.os.trans h.os, g.tape.trans h.tape, g.output.trans h.output, Nat.le_trans h.size g.size, fun k hk hd => (g.block k (Nat.lt_of_lt_of_le hk h.size) hd).trans (h.block k hk hd)⟩
theorem below_grown {lo : Nat} {w0 w w' : World} {r : Option Nat} (h : Below lo w0 w) (hg : w.grownBy w' r) (hr : ∀ q, r = some q → lo ≤ q) (hl : lo ≤ w.heap.size) : Below lo w0 w' :=
  h.grown hg hl hr
abbrev blkOf (A : Option Addr) : Option Nat := A.map (·.block)
section
variable {α : Type} {S : Sh α} {w w' : World} {lo hi n cap : Nat} {A : Option Addr} {xs : List α} {es : List (El α)}
theorem Oe.lo_ (h : Oe S w lo hi A n cap es) {q : Nat} (hq : blkOf A = some q) : lo ≤ q ∧ q < hi := by
  rcases h.form with ⟨e0, _⟩ | ⟨g, cur, e0, h1, h2, _⟩
  · rw [e0] at hq; cases hq
  · rw [e0] at hq
    obtain rfl : g = q := by simpa using hq
    exact ⟨h1, h2⟩
/-- A slice of bytes of the call's own beside a row that changes. -/
theorem ow_grown (h : Oe S w lo hi A n cap es) (hg : w.grownBy w' (blkOf A)) {lo2 hi2 m c : Nat} {B : Option Addr} {zs : List Int} (ho : Ow 5 .u8 w lo2 hi2 B m c zs) : Ow 5 .u8 w' lo2 hi2 B m c zs := by
  obtain ⟨⟨q1, q2⟩, q3, q4, q5⟩ := ho
  refine ⟨⟨q1, ?_⟩, q3, by have := hg.size; omega, q5⟩
  rcases q2 with q2 | ⟨g', c', cur', e, r1, r2, r3⟩
  · exact Or.inl q2
  · refine Or.inr ⟨g', c', cur', e, r1, ?_, r3⟩
    rw [hg.block g' (lt_of_block r2) ?_]
    · exact r2
    · intro heq
      rcases h.form with ⟨e0, _⟩ | ⟨gr, curr, e0, _, _, s3, _⟩
      · rw [e0] at heq; cases heq
      · rw [e0] at heq
        obtain rfl : g' = gr := by simpa using heq
        rw [r2] at s3
        simp only [Option.some.injEq, Obj.cells.injEq] at s3
        exact S.ne s3.2.1.symm
/-- Elements appended: the new slice; the old one stays; only its block may change. -/
theorem Oe.more {P : Program} (t ty : TypeId) (i : TypeInfo) (z : Value) (h1 : P.underlying t = some (.slice S.T)) (h2 : P.info? S.T = some i) (h3 : i.zero = some z) (h4 : i.size = S.s) (h5 : i.bytes ≤ 128) (h6 : z.cells.size = S.s)
    (h : Oe S w lo hi A n cap es) (ad : Addr) (m c : Nat) (fs : List (El α)) (hm : fs.length = m) (hsrc : ∀ j u, (flat S fs)[j]? = some u → w.cell? (ad.add j) = some u)
    (hb : ∀ f ∈ fs, ∃ lo2 hi2, lo ≤ lo2 ∧ Ow 5 .u8 w lo2 hi2 f.A f.n f.c (S.B f.x)) (hd : Ds (es ++ fs)) (hn : n + m ≤ 1073741824) (hlo : lo ≤ w.heap.size) :
    ∃ A' cap' w', (Builtin.append_ #[t, t] ty #[.slice A n cap, .slice (some ad) m c]).run P w = .ok (.slice A' (n + m) cap') w' ∧ Oe S w' lo w'.heap.size A' (n + m) cap' (es ++ fs) ∧ w.grownBy w' (blkOf A) ∧ Oe S w' lo hi A n cap es ∧ (blkOf A' = blkOf A ∨ ∀ q, blkOf A' = some q → w.heap.size ≤ q) := by
  have hb8 : (n + m) * i.bytes ≤ 140737488355328 := by
    have := Nat.mul_le_mul hn h5
    omega
  have fin : ∀ (A' : Option Addr) (cap' : Nat) (w' : World), w'.ownsRow lo S.T S.s (.slice A' (n + m) cap') (n + m) (flat S (es ++ fs)) → w.grownBy w' (blkOf A) → Oe S w' lo w'.heap.size A' (n + m) cap' (es ++ fs) := by
    intro A' cap' w' hrow hg
    refine ⟨hrow, fun e he => ?_, hd, Nat.le_refl _, fun g o e => ?_⟩
    · rcases List.mem_append.1 he with he | he
      · exact (ow_grown h hg (h.body e he)).up
      · obtain ⟨lo2, hi2, hl, ho⟩ := hb e he
        exact ((ow_grown h hg ho).up).down hl
    · rcases hrow.2 with ⟨e0, _⟩ | ⟨g', c', cur', e0, _, k2, _⟩
      · injection e0 with e0; rw [e0] at e; cases e
      · injection e0 with e0
        rw [e0] at e; injection e with e; injection e with e _; subst e
        exact lt_of_block k2
  have hlen : (flat S es ++ flat S fs).length = (n + m) * S.s := by rw [List.length_append, h.row.1, flat_len, hm, Nat.add_mul]
  have grown : ∀ (old : Nat), old < n + m →
      (w.drew.alloc (.cells ((flat S es).toArray ++ (flat S fs).toArray ++ Builtin.zeroCells z.cells (grownCap w (n + m) old S.T - (n + m))) S.T)).ownsRow lo S.T S.s
        (.slice (some ⟨w.heap.size, 0, none⟩) (n + m) (grownCap w (n + m) old S.T)) (n + m) (flat S (es ++ fs)) ∧
      Below w.heap.size w (w.drew.alloc (.cells ((flat S es).toArray ++ (flat S fs).toArray ++ Builtin.zeroCells z.cells (grownCap w (n + m) old S.T - (n + m))) S.T)) := by
    intro old ho
    have hge := grownCap_ge w (n + m) old S.T
    have hcm : grownCap w (n + m) old S.T ≤ maxLen := grownCap_le_maxLen w (n + m) old S.T (by unfold maxLen; omega)
    refine ⟨⟨by rw [flat_append]; exact hlen, .inr ⟨w.heap.size, _, _, rfl, hlo, heap_alloc_new w.drew _, hge, hcm, ?_, ?_⟩⟩, ⟨rfl, rfl, rfl, by simp, fun k hk => heap_alloc_old w.drew _ hk⟩⟩
    · simp only [Array.size_append, List.size_toArray, size_zeroCells, h6, h.row.1, flat_len, hm, ← Nat.add_mul]
      congr 1
      omega
    · simp only [Array.toList_append, List.append_assoc]
      rw [← List.append_assoc, ← hlen, flat_append]
      exact List.take_left
  rcases h.form with ⟨rfl, rfl, rfl⟩ | ⟨g, cur, rfl, hg1, hg2, hcur, hnc, hcm, hcs, htake⟩
  · have he : es = [] := List.eq_nil_of_length_eq_zero h.len
    subst he
    by_cases hm0 : m = 0
    · subst hm0
      have hf : fs = [] := List.eq_nil_of_length_eq_zero hm
      subst hf
      refine ⟨none, 0, w, ?_, (Oe.nil_ S w lo _ (Nat.le_refl _)), ⟨rfl, rfl, rfl, Nat.le_refl _, fun _ _ _ => rfl⟩, h, Or.inl rfl⟩
      simp [Builtin.append_, run_underlying h1, sizeOf, typeInfo, h2, Builtin.lenOf, Builtin.firstCells, loadCells, loadCellsFrom]
    · have hr := run_append_nil (P := P) w t ty S.T i z h1 h2 h3 ad m c (flat S fs) (by rw [flat_len, hm, h4]) hsrc (by omega) (by omega) (by have hb := hb8; simp only [Nat.zero_add] at hb; omega)
      have hgr := grown 0 (by omega)
      have hf : flat S ([] : List (El α)) = [] := rfl
      simp only [Nat.zero_add, List.nil_append, hf, Array.empty_append] at hgr ⊢
      refine ⟨_, _, _, hr, ?_, grown_below hgr.2 _, h.below hgr.2, Or.inr fun q hq => ?_⟩
      · have := fin (some ⟨w.heap.size, 0, none⟩) _ _ (by simpa using hgr.1) (grown_below hgr.2 _)
        simpa using this
      · have : w.heap.size = q := by simpa using hq
        omega
  · by_cases hroom : n + m ≤ cap
    · obtain ⟨w', hr, g1, g2⟩ := run_append_fits (P := P) w lo t ty S.T i S.s h1 h2 h4 g n cap (flat S es) h.row ad m c (flat S fs) (by rw [flat_len, hm]) hsrc (flat_one S fs) hroom
      rw [← flat_append] at g1
      refine ⟨_, _, w', hr, fin _ _ _ g1 g2, g2, ⟨?_, fun e he => (ow_grown h g2 (h.body e he)), h.ds, by have := h.hi_; have := g2.size; omega, h.lt⟩, Or.inl rfl⟩
      obtain ⟨cur', k1, k2, k3, k4, k5, k6⟩ := row_at g1
      refine ⟨h.row.1, .inr ⟨g, cap, cur', rfl, k2, k1, hnc, hcm, k5, ?_⟩⟩
      have := congrArg (List.take (n * S.s)) k6
      rw [List.take_take, Nat.min_eq_left (Nat.mul_le_mul_right _ (by omega)), flat_append, List.take_append_of_le_length (by rw [h.row.1]; exact Nat.le_refl _)] at this
      exact this.trans (List.take_of_length_le (by rw [h.row.1]; exact Nat.le_refl _))
    · have holds : ∀ j u, (flat S es)[j]? = some u → w.cell? ((⟨g, 0, none⟩ : Addr).add j) = some u := h.row.cells (g := g) rfl
      have hr := run_append_grow (P := P) w t ty S.T i z h1 h2 h3 ⟨g, 0, none⟩ n cap (flat S es) (by rw [h4]; exact h.row.1) holds ad m c (flat S fs) (by rw [flat_len, hm, h4]) hsrc (by omega) (by omega) (growslice_fits (by omega) hb8)
      have hgr := grown cap (by omega)
      refine ⟨_, _, _, hr, fin _ _ _ hgr.1 (grown_below hgr.2 _), grown_below hgr.2 _, h.below hgr.2, Or.inr fun q hq => ?_⟩
      have : w.heap.size = q := by simpa using hq
      omega
/-- The walk's form. -/
theorem list_more {P : Program} (w : World) {ops : Array Oper} {rest : List Oper} {o : Oper} {a : Act} {Q : Exit → Act → World → Prop} (hgd : o.guard = none) (s x : Operand) (t : TypeId)
    (hop : o.op = .call { callee := .builtin .append, args := #[s, x], argTypes := #[t, t] })
    {i : TypeInfo} {z : Value} (h1 : P.underlying t = some (.slice S.T)) (h2 : P.info? S.T = some i) (h3 : i.zero = some z) (h4 : i.size = S.s) (h5 : i.bytes ≤ 128) (h6 : z.cells.size = S.s)
    {lo hi n cap m c : Nat} {A : Option Addr} {ad : Addr} {es fs : List (El α)} (hs : a.eval s = .slice A n cap) (hx : a.eval x = .slice (some ad) m c) (h : Oe S w lo hi A n cap es) (hm : fs.length = m)
    (hsrc : ∀ j u, (flat S fs)[j]? = some u → w.cell? (ad.add j) = some u) (hb : ∀ f ∈ fs, ∃ lo2 hi2, lo ≤ lo2 ∧ Ow 5 .u8 w lo2 hi2 f.A f.n f.c (S.B f.x)) (hd : Ds (es ++ fs)) (hn : n + m ≤ 1073741824) (hlo : lo ≤ w.heap.size)
    (hK : ∀ A' cap' w', Oe S w' lo w'.heap.size A' (n + m) cap' (es ++ fs) → w.grownBy w' (blkOf A) → wpList P ops Q rest (a.put o.dst (.slice A' (n + m) cap')) w') : wpList P ops Q (o :: rest) a w := by
  refine wpList_plain hgd fun K hK' => ?_
  obtain ⟨A', cap', w', hrun, g1, g2, _, _⟩ := h.more (P := P) t o.type i z h1 h2 h3 h4 h5 h6 ad m c fs hm hsrc hb hd hn hlo
  unfold Oper.wp execOp
  simp only [hop, resolve, invoke, builtin, Sem.run_bind, Sem.run_pure, Result.andThen_ok, List.map_toArray, List.map_cons, List.map_nil, hs, hx, hrun]
  exact hK' _ _ (hK A' cap' w' g1 g2)
theorem step_more {P : Program} {ops : Array Oper} {o : Oper} {a : Act} {w : World} {K : Act → World → Prop} {Q : Exit → Act → World → Prop} {X : Prop} (hgd : o.guard = none) (s x : Operand) (t : TypeId)
    (hop : o.op = .call { callee := .builtin .append, args := #[s, x], argTypes := #[t, t] })
    {i : TypeInfo} {z : Value} (h1 : P.underlying t = some (.slice S.T)) (h2 : P.info? S.T = some i) (h3 : i.zero = some z) (h4 : i.size = S.s) (h5 : i.bytes ≤ 128) (h6 : z.cells.size = S.s)
    {lo hi n cap m c : Nat} {A : Option Addr} {ad : Addr} {es fs : List (El α)} (hs : a.eval s = .slice A n cap) (hx : a.eval x = .slice (some ad) m c) (h : Oe S w lo hi A n cap es) (hm : fs.length = m)
    (hsrc : ∀ j u, (flat S fs)[j]? = some u → w.cell? (ad.add j) = some u) (hb : ∀ f ∈ fs, ∃ lo2 hi2, lo ≤ lo2 ∧ Ow 5 .u8 w lo2 hi2 f.A f.n f.c (S.B f.x)) (hd : Ds (es ++ fs)) (hn : n + m ≤ 1073741824) (hlo : lo ≤ w.heap.size)
    (hK : ∀ A' cap' w', Oe S w' lo w'.heap.size A' (n + m) cap' (es ++ fs) → w.grownBy w' (blkOf A) → K (a.put o.dst (.slice A' (n + m) cap')) w') :
    if Region.wanted o (yielded ops a.tmps) = true then Oper.wp P o a w K Q else X := by
  have hw : Region.wanted o (yielded ops a.tmps) = true := by simp [Region.wanted, hgd]
  rw [if_pos hw]
  obtain ⟨A', cap', w', hrun, g1, g2, _, _⟩ := h.more (P := P) t o.type i z h1 h2 h3 h4 h5 h6 ad m c fs hm hsrc hb hd hn hlo
  unfold Oper.wp execOp
  simp only [hop, resolve, invoke, builtin, Sem.run_bind, Sem.run_pure, Result.andThen_ok, List.map_toArray, List.map_cons, List.map_nil, hs, hx, hrun]
  exact hK A' cap' w' g1 g2
/-- A new block that holds one element. -/
theorem one_src (f : El α) (w : World) : ∀ j u, (flat S [f])[j]? = some u → (w.alloc (.cells (cells S f).toArray S.T)).cell? ((⟨w.heap.size, 0, none⟩ : Addr).add j) = some u := by
  intro j u hu
  have e : flat S [f] = cells S f := by simp [flat]
  rw [e] at hu
  have e2 : (⟨w.heap.size, 0, none⟩ : Addr).add j = ⟨w.heap.size, j, none⟩ := by unfold Addr.add; split <;> simp_all
  rw [e2, cell_of_row _ _ _ _ _ _ (heap_alloc_new w _)]
  simpa using hu
/-- One element appended out of a block made for it: what stands in whatever order. -/
theorem Oe.push {P : Program} (t ty : TypeId) (i : TypeInfo) (z : Value) (h1 : P.underlying t = some (.slice S.T)) (h2 : P.info? S.T = some i) (h3 : i.zero = some z) (h4 : i.size = S.s) (h5 : i.bytes ≤ 128) (h6 : z.cells.size = S.s)
    (h : Oe S w lo hi A n cap es) (f : El α) {lo2 hi2 : Nat} (hf : Ow 5 .u8 w lo2 hi2 f.A f.n f.c (S.B f.x)) (hl : hi ≤ lo2) (hll : lo ≤ lo2) (hn : n + 1 ≤ 1073741824) (hlo : lo ≤ w.heap.size) :
    ∃ A' cap' w', (Builtin.append_ #[t, t] ty #[.slice A n cap, .slice (some ⟨w.heap.size, 0, none⟩) 1 1]).run P (w.alloc (.cells (cells S f).toArray S.T)) = .ok (.slice A' (n + 1) cap') w' ∧ Oe S w' lo w'.heap.size A' (n + 1) cap' (es ++ [f]) ∧ w.grownBy w' (blkOf A) := by
  have hb := below_box w (.cells (cells S f).toArray S.T)
  obtain ⟨A', cap', w', hrun, g1, g2, _, _⟩ := (h.below hb).more (P := P) t ty i z h1 h2 h3 h4 h5 h6 ⟨w.heap.size, 0, none⟩ 1 1 [f] rfl (one_src f w) (fun f' hf' => by
    obtain rfl : f' = f := by simpa using hf'
    exact ⟨lo2, hi2, hll, hf.below hb⟩) (h.ds.push h.body hf hl) hn (by simp; omega)
  exact ⟨A', cap', w', hrun, g1, grown_trans (grown_below hb _) g2⟩
theorem list_push {P : Program} (w : World) {ops : Array Oper} {rest : List Oper} {o : Oper} {a : Act} {Q : Exit → Act → World → Prop} (hgd : o.guard = none) (s x : Operand) (t : TypeId)
    (hop : o.op = .call { callee := .builtin .append, args := #[s, x], argTypes := #[t, t] })
    {i : TypeInfo} {z : Value} (h1 : P.underlying t = some (.slice S.T)) (h2 : P.info? S.T = some i) (h3 : i.zero = some z) (h4 : i.size = S.s) (h5 : i.bytes ≤ 128) (h6 : z.cells.size = S.s)
    {lo hi n cap : Nat} {A : Option Addr} {es : List (El α)} (hs : a.eval s = .slice A n cap) (hx : a.eval x = .slice (some ⟨w.heap.size, 0, none⟩) 1 1) (h : Oe S w lo hi A n cap es) (f : El α)
    {lo2 hi2 : Nat} (hf : Ow 5 .u8 w lo2 hi2 f.A f.n f.c (S.B f.x)) (hl : hi ≤ lo2) (hll : lo ≤ lo2) (hn : n + 1 ≤ 1073741824) (hlo : lo ≤ w.heap.size)
    (hK : ∀ A' cap' w', Oe S w' lo w'.heap.size A' (n + 1) cap' (es ++ [f]) → w.grownBy w' (blkOf A) → wpList P ops Q rest (a.put o.dst (.slice A' (n + 1) cap')) w') : wpList P ops Q (o :: rest) a (w.alloc (.cells (cells S f).toArray S.T)) := by
  refine wpList_plain hgd fun K hK' => ?_
  obtain ⟨A', cap', w', hrun, g1, g2⟩ := h.push (P := P) t o.type i z h1 h2 h3 h4 h5 h6 f hf hl hll hn hlo
  unfold Oper.wp execOp
  simp only [hop, resolve, invoke, builtin, Sem.run_bind, Sem.run_pure, Result.andThen_ok, List.map_toArray, List.map_cons, List.map_nil, hs, hx, hrun]
  exact hK' _ _ (hK A' cap' w' g1 g2)
theorem rq_grown {β : Type} {S2 : Sh β} {ys : List β} {lo2 hi2 m c : Nat} {B : Option Addr} (h : Rq S2 w lo2 hi2 B m c ys) (o : Oe S w lo hi A n cap es) (hg : w.grownBy w' (blkOf A)) (hd : hi2 ≤ lo) : Rq S2 w' lo2 hi2 B m c ys :=
  h.same hg.size fun b _ hlt => hg.block b (by have := h.hi_; omega) (fun e => by have := (o.lo_ e.symm).1; omega)
theorem rd_grown {k : IntKind} {zs : List Int} {lo2 hi2 m c : Nat} {B : Option Addr} (o : Oe S w lo hi A n cap es) (hg : w.grownBy w' (blkOf A)) (h : Rd k w lo2 hi2 B m c zs) (hd : hi2 ≤ lo) : Rd k w' lo2 hi2 B m c zs :=
  h.same hg.size fun b _ hlt => hg.block b (by have := h.hi_; omega) (fun e => by have := (o.lo_ e.symm).1; omega)
theorem oe_grown {β : Type} {S2 : Sh β} {fs : List (El β)} {lo2 hi2 m c : Nat} {B : Option Addr} (h : Oe S2 w lo2 hi2 B m c fs) (o : Oe S w lo hi A n cap es) (hg : w.grownBy w' (blkOf A)) (hd : hi2 ≤ lo ∨ hi ≤ lo2) : Oe S2 w' lo2 hi2 B m c fs :=
  h.same hg.size fun b h1 hlt => hg.block b (by have := h.hi_; omega) (fun e => by have := o.lo_ e.symm; omega)
end
end Go.Proofs.Ytmmhleobgpgliaa.mrw
end

section
namespace Go.Proofs.Ytmmhleobgpgliaa.sl
open Go.RowKit

/-- The bytes of a string, as numbers. -/
def sb (s : ByteArray) : List Int := s.data.toList.map fun b => (b.toNat : Int)
theorem sb_len (s : ByteArray) : (sb s).length = s.size := by unfold sb; rw [List.length_map, Array.length_toList]; rfl
theorem sb_wf (s : ByteArray) : Wf .u8 (sb s) := Wf.of_u8 fun z hz => by
  obtain ⟨b, _, rfl⟩ := List.mem_map.1 hz
  have := b.toNat_lt
  omega
theorem sb_at (s : ByteArray) {i : Nat} (h : i < s.data.size) : (sb s).getD i 0 = (s.data[i].toNat : Int) := by
  rw [sb, List.getD_eq_getElem?_getD, List.getElem?_map, Array.getElem?_toList, Array.getElem?_eq_getElem h]; rfl
theorem Rd.bytes (s : ByteArray) (w : World) (E : TypeId) (c : Nat) (fz : Nat × Nat) (h1 : s.size ≤ c) (h2 : c ≤ maxLen) :
    Rd .u8 (w.alloc (.cells (bytesRow s c) E fz)).drew w.heap.size (w.heap.size + 1) (some ⟨w.heap.size, 0, none⟩) s.size c (sb s) := by
  refine ⟨sb_len s, h1, h2, by simp, sb_wf s, fun _ => ⟨_, 0, rfl, Nat.le_refl _, by omega, fun i hi => ?_⟩⟩
  have hb : (w.alloc (.cells (bytesRow s c) E fz)).drew.heap[w.heap.size]? = some (.cells (bytesRow s c) E fz) := by
    show (w.heap.push _)[w.heap.size]? = _
    simp
  have hi2 : i < s.data.size := hi
  simp only [World.cell?, hb, Nat.zero_add]
  rw [bytesRow_at s c i hi2, sb_at s hi2]; rfl
end Go.Proofs.Ytmmhleobgpgliaa.sl
end

section
namespace Go.Proofs.Ytmmhleobgpgliaa.om
open Go.RowKit sl harn
set_option linter.unusedVariables false
set_option linter.unusedSimpArgs false

/-- A slice of numbers of the call's own; the mark of its block hits none of its cells. -/
def Om (E : TypeId) (k : IntKind) (w : World) (lo hi : Nat) (A : Option Addr) (n cap : Nat) (zs : List Int) : Prop :=
  zs.length = n ∧ n ≤ cap ∧ cap ≤ maxLen ∧ Wf k zs ∧ hi ≤ w.heap.size ∧ ((A = none ∧ n = 0 ∧ cap = 0) ∨ ∃ (g : Nat) (cur : Array Value) (fz : Nat × Nat), A = some ⟨g, 0, none⟩ ∧ lo ≤ g ∧ g < hi ∧ w.heap[g]? = some (.cells cur E fz) ∧ (∀ j, j < n → ¬ (fz.1 ≤ j ∧ j < fz.2)) ∧ cur.size = cap ∧ cur.toList.take n = zs.map (Value.int k))
section
variable {E : TypeId} {k : IntKind} {w w' : World} {n cap lo hi : Nat} {A : Option Addr} {zs : List Int}
theorem Om.len (h : Om E k w lo hi A n cap zs) : zs.length = n := h.1
theorem Om.cap_ (h : Om E k w lo hi A n cap zs) : n ≤ cap ∧ cap ≤ 9223372036854775807 := ⟨h.2.1, by have := h.2.2.1; unfold maxLen at this; omega⟩
theorem Om.wf (h : Om E k w lo hi A n cap zs) : Wf k zs := h.2.2.2.1
theorem Om.hi_ (h : Om E k w lo hi A n cap zs) : hi ≤ w.heap.size := h.2.2.2.2.1
theorem of_ow (h : Ow E k w lo hi A n cap zs) : Om E k w lo hi A n cap zs := by
  rcases h.form with ⟨h1, h2, h3⟩ | ⟨g, cur, h1, h2, h3, h4, h5, h6, h7, h8⟩
  · exact ⟨h.len, by omega, by unfold maxLen; omega, h.wf, h.hi_, .inl ⟨h1, h2, h3⟩⟩
  · exact ⟨h.len, h5, h6, h.wf, h.hi_, .inr ⟨g, cur, (0, 0), h1, h2, h3, h4, fun j _ h => by have := h.2; simp at this, h7, h8⟩⟩
theorem Om.same (h : Om E k w lo hi A n cap zs) (hs : w.heap.size ≤ w'.heap.size) (hb : ∀ b, lo ≤ b → b < hi → w'.heap[b]? = w.heap[b]?) : Om E k w' lo hi A n cap zs := by
  obtain ⟨h1, h2, h3, h4, h5, h6⟩ := h
  refine ⟨h1, h2, h3, h4, by omega, ?_⟩
  rcases h6 with h6 | ⟨g, cur, fz, e, g1, g2, g3, g4⟩
  · exact .inl h6
  · exact .inr ⟨g, cur, fz, e, g1, g2, (hb g g1 g2).trans g3, g4⟩
theorem Om.below (h : Om E k w lo hi A n cap zs) (hb : Below w.heap.size w w') : Om E k w' lo hi A n cap zs := h.same hb.size fun b _ hlt => hb.block b (by have := h.hi_; omega)
theorem Om.rd (h : Om E k w lo hi A n cap zs) : Rd k w lo hi A n cap zs := by
  obtain ⟨h1, h2, h3, h4, h5, h6⟩ := h
  refine ⟨h1, h2, h3, h5, h4, fun hn => ?_⟩
  rcases h6 with h6 | ⟨g, cur, fz, e, g1, g2, g3, g4, g5, g6⟩
  · omega
  · refine ⟨g, 0, e, g1, g2, fun i hi' => ?_⟩
    have h7 : (cur.toList.take n)[i]? = some (.int k (zs.getD i 0)) := by
      rw [g6, List.getElem?_map, List.getElem?_eq_getElem (by omega), List.getD_eq_getElem?_getD, List.getElem?_eq_getElem (by omega)]; rfl
    rw [List.getElem?_take] at h7
    split at h7
    · rw [Nat.zero_add]
      simp only [World.cell?, g3]
      simpa using h7
    · omega
theorem Om.free {g : Nat} (h : Om E k w lo hi (some ⟨g, 0, none⟩) n cap zs) {j : Nat} (hj : j < n) : w.frozen? ⟨g, j, none⟩ = false := by
  obtain ⟨h1, h2, h3, h4, h5, h6⟩ := h
  rcases h6 with ⟨h6, _⟩ | ⟨g', cur, fz, e, g1, g2, g3, g4, g5, g6⟩
  · cases h6
  · injection e with e; injection e with e _; subst e
    have := g4 j hj
    simp only [World.frozen?, g3]
    simpa [Bool.and_eq_false_iff, Nat.not_le, Nat.not_lt, Classical.not_and_iff_not_or_not] using this
theorem heap_set (w : World) {b : Nat} {c : Array Value} {E : TypeId} {fz : Nat × Nat} (h : w.heap[b]? = some (.cells c E fz)) (i : Nat) (v : Value) : (w.setCell ⟨b, i, none⟩ v).heap[b]? = some (.cells (c.setIfInBounds i v) E fz) := by
  have hb := (Array.getElem?_eq_some_iff.1 h)
  obtain ⟨hb, he⟩ := hb
  unfold World.setCell
  simp only [Array.getElem?_modify, if_pos, h, Option.map_some]
  rfl
theorem Om.set {g : Nat} (h : Om E k w lo hi (some ⟨g, 0, none⟩) n cap zs) (i : Nat) (v : Int) (hv : (Lit.int k v).wf = true) : Om E k (w.setCell ⟨g, i, none⟩ (.int k v)) lo hi (some ⟨g, 0, none⟩) n cap (zs.set i v) := by
  obtain ⟨h1, h2, h3, h4, h5, h6⟩ := h
  refine ⟨by simpa using h1, h2, h3, ?_, by simpa [World.setCell] using h5, ?_⟩
  · intro z hz
    rcases List.mem_or_eq_of_mem_set hz with hz | hz
    · exact h4 z hz
    · rw [hz]; exact hv
  · rcases h6 with ⟨h6, _⟩ | ⟨g', cur, fz, e, g1, g2, g3, g4, g5, g6⟩
    · cases h6
    · injection e with e; injection e with e _; subst e
      refine .inr ⟨g, _, fz, rfl, g1, g2, heap_set w g3 i _, g4, by simpa using g5, ?_⟩
      rw [Array.toList_setIfInBounds, List.take_set, g6, List.map_set]
theorem om_in (h : Om E k w lo hi A n cap zs) {g : Nat} (e : A = some ⟨g, 0, none⟩) : lo ≤ g ∧ g < hi := by
  rcases h.2.2.2.2.2 with ⟨h6, _⟩ | ⟨g', cur, fz, e', g1, g2, _⟩
  · rw [h6] at e; cases e
  · rw [e'] at e; injection e with e; injection e with e _; omega
theorem om_at (h : Om E k w lo hi A n cap zs) (hn : 0 < n) : ∃ g, A = some ⟨g, 0, none⟩ := by
  rcases h.2.2.2.2.2 with ⟨_, h6, _⟩ | ⟨g', cur, fz, e', _⟩
  · omega
  · exact ⟨g', e'⟩
end
/-- '[]byte(s)'. -/
theorem om_bytes (s : ByteArray) (w : World) (E : TypeId) (c m : Nat) (h1 : s.size ≤ c) (h2 : c ≤ maxLen) (hm : s.size ≤ m) :
    Om E .u8 (w.drew.alloc (.cells (bytesRow s c) E (m, m + 1))) w.heap.size (w.heap.size + 1) (some ⟨w.heap.size, 0, none⟩) s.size c (sb s) := by
  refine ⟨sb_len s, h1, h2, sb_wf s, by show w.heap.size + 1 ≤ (w.heap.push _).size; simp, .inr ⟨w.heap.size, bytesRow s c, (m, m + 1), rfl, Nat.le_refl _, by omega, ?_, fun j hj h => by have h3 : m ≤ j := h.1; omega, ?_, ?_⟩⟩
  · show (w.heap.push _)[w.heap.size]? = _
    simp
  · have : s.data.size = s.size := rfl
    simp only [bytesRow, Array.size_append, Array.size_map, Array.size_replicate]
    omega
  · have h0 : s.data.size = s.size := rfl
    simp only [bytesRow, Array.toList_append]
    rw [List.take_append_of_le_length (by simp [h0]), List.take_of_length_le (by simp [h0])]
    simp [sb, Function.comp_def]
/-- A marking that has come to i. -/
def Mk8 (E : TypeId) (w wr : World) (lo hi : Nat) (A : Option Addr) (n cap : Nat) (k : Int) (i : Nat) : Prop :=
  ∃ ys, Om E .u8 wr lo hi A n cap ys ∧ (∀ j, j < i → ys.getD j 0 = IntKind.u8.wrap (k + j)) ∧ w.heap.size = wr.heap.size ∧ (wr.os = w.os ∧ wr.tape = w.tape ∧ wr.output = w.output) ∧ ∀ q, (∀ o, A ≠ some ⟨q, o, none⟩) → wr.heap[q]? = w.heap[q]?
theorem Mk8.step {E : TypeId} {w wr : World} {lo hi n cap : Nat} {k : Int} {i b : Nat} (h : Mk8 E w wr lo hi (some ⟨b, 0, none⟩) n cap k i) (hi' : i < n) : Mk8 E w (wr.setCell ⟨b, i, none⟩ (.int .u8 (IntKind.u8.wrap (k + i)))) lo hi (some ⟨b, 0, none⟩) n cap k (i + 1) := by
  obtain ⟨ys, h1, h2, h3, h4, h5⟩ := h
  have hl := h1.len
  refine ⟨_, h1.set i _ (wf_u8_wrap _), fun j hj => ?_, by simpa [World.setCell] using h3, h4, fun q hq => ?_⟩
  · rw [List.getD_eq_getElem?_getD, List.getElem?_set]
    by_cases e : i = j
    · subst e
      rw [if_pos rfl, if_pos (by omega)]; rfl
    · rw [if_neg e, ← List.getD_eq_getElem?_getD]; exact h2 j (by omega)
  · rw [← h5 q hq]
    exact Below.heap_setCell _ _ _ _ (fun e => hq 0 (by rw [e]))
theorem mark_om (zs : List Int) (lo hi : Nat) (A : Option Addr) (n cap : Nat) (k : Int) (w : World) (h : Om 5 .u8 w lo hi A n cap zs) (hk0 : 0 ≤ k) (hk : k ≤ 1099511627776) (hn : n ≤ 67108864) :
    Calls Try.prog 41 #[.slice A n cap, .int .i64 k] w fun e w' => e = .returned (.int .i64 (k + n)) ∧ Om 5 .u8 w' lo hi A n cap (marks .u8 k n) ∧ w.heap.size = w'.heap.size ∧ (w'.os = w.os ∧ w'.tape = w.tape ∧ w'.output = w.output) ∧ ∀ q, (∀ o, A ≠ some ⟨q, o, none⟩) → w'.heap[q]? = w.heap[q]? := by
  have HR := Lib.hid h
  clear h
  go_enter Try.func41, Try.ntmps41
  go_wp2
  go_loopw [1, 5] (fun q i wr => ∃ j : Nat, i = .int .i64 j ∧ q = .int .i64 (k + j) ∧ j ≤ n ∧ Mk8 5 w wr lo hi A n cap k j) (fun _ i _ => n - (intOf i).toNat)
  case atStart => exact ⟨0, rfl, by simp, by omega, zs, HR.out, fun j hj => absurd hj (by omega), rfl, ⟨rfl, rfl, rfl⟩, fun _ _ => rfl⟩
  case round =>
    obtain ⟨j, rfl, rfl, hj, hp⟩ := hrel
    have HP := Lib.hid hp
    clear hp
    by_cases hlt : j < n
    · obtain ⟨b, rfl⟩ : ∃ b, A = some ⟨b, 0, none⟩ := by
        obtain ⟨ys, h1, _⟩ := HP.out
        exact om_at h1 (by omega)
      obtain ⟨v, hv⟩ : ∃ v, wr.cell? ⟨b, j, none⟩ = some v := by
        obtain ⟨ys, h1, _⟩ := HP.out
        obtain ⟨b', off, e, _, _, hc⟩ := h1.rd.at_ hlt
        injection e with e; injection e with e1 e2 e3
        subst e1 e2
        rw [Nat.zero_add] at hc
        exact ⟨_, hc⟩
      have hf : wr.frozen? ⟨b, j, none⟩ = false := by
        obtain ⟨ys, h1, _⟩ := HP.out
        exact h1.free hlt
      have hlt2 : (j : Int) < n := by omega
      go_wp2
      go_roundw
      case rel => exact ⟨j + 1, by go_num, by go_num, by omega, HP.out.step hlt⟩
      case measure => simp [intOf]; omega
    · have hlt2 : ¬ (j : Int) < n := by omega
      obtain rfl : j = n := by omega
      go_wp2
      go_ret
      obtain ⟨ys, h1, h2, h3, h4, h5⟩ := HP.out
      have e : ys = marks .u8 k j := eq_all h1.len (marks_len .u8 k j) fun i hi => by rw [h2 i hi, marks_at .u8 k hi]
      rw [e] at h1
      exact ⟨rfl, h1, h3, h4, h5⟩
end Go.Proofs.Ytmmhleobgpgliaa.om
end

section
namespace Go.Proofs.Ytmmhleobgpgliaa.draw
open Go.RowKit

def okInt (lo hi : Int) : Value → Bool
  | .int .i64 z => decide (lo ≤ z ∧ z ≤ hi)
  | _ => false
theorem of_okInt {lo hi : Int} {v : Value} (h : okInt lo hi v = true) : ∃ z, v = .int .i64 z ∧ (lo ≤ z ∧ z ≤ hi) := by
  unfold okInt at h
  split at h
  · exact ⟨_, rfl, of_decide_eq_true h⟩
  · cases h
theorem row_new {P : Value → Prop} {ok : Value → Bool} (hok : ∀ v, ok v = true → P v) (w : World) (p : Nat) (hp : p < w.heap.size) (vs : Array Value) (t : TypeId) (n : Nat) (hn : vs.size = n) (ha : vs.toList.all ok = true) :
    Row P (w.alloc (.cells vs t)) p w.heap.size n := by
  have hb : (w.alloc (.cells vs t)).heap[w.heap.size]? = some (.cells vs t (0, 0)) := by show (w.heap.push _)[w.heap.size]? = _; simp
  refine ⟨by omega, by simp, fun i hi => ⟨vs[i]'(by omega), hok _ (List.all_eq_true.1 ha _ (by simp)), ?_⟩⟩
  have hi2 : i < vs.size := by omega
  simp only [World.cell?, hb]
  exact Array.getElem?_eq_getElem hi2
theorem Cur.lt {w : World} {p : Nat} {a : Option Addr} {len cap : Nat} (h : Cur w p a len cap) : p < w.heap.size := by
  obtain ⟨-, i, g, -, hb⟩ := h
  exact lt_of_block hb
theorem Cur.alloc {w : World} {p : Nat} {a : Option Addr} {len cap : Nat} (h : Cur w p a len cap) (o : Obj) : Cur (w.alloc o) p a len cap := by
  have hp := h.lt
  obtain ⟨hc, i, g, hi, hb⟩ := h
  exact ⟨hc.keep ((Keep.refl p w).alloc o), i, g, hi, by rw [Below.heap_alloc w o p hp]; exact hb⟩

/-- A number in a range. -/
def IntPost (lo hi : Int) (p : Nat) (a : Option Addr) (len cap : Nat) (w : World) (e : Ending) (w' : World) : Prop := ∃ z : Int, e = .returned (.int .i64 z) ∧ lo ≤ z ∧ z ≤ hi ∧ Keep p w w' ∧ Cur w' p a len cap

theorem pickIn (lo hi : Int) (n : Nat) (hn0 : 0 < n) (hn : (n : Int) ≤ 9223372036854775807) (w : World) (p : Nat) (a : Option Addr) (len cap : Nat) (hc : Cur w p a len cap) (vs : Array Value) (hs : vs.size = n) (ha : vs.toList.all (okInt lo hi) = true) :
    Calls Try.prog 74 #[.pointer (some ⟨p, 0, none⟩), .slice (some ⟨w.heap.size, 0, none⟩) n n] (w.alloc (.cells vs 3)) (IntPost lo hi p a len cap w) := by
  refine (pickInt (fun z => lo ≤ z ∧ z ≤ hi) n hn0 hn _ p w.heap.size a len cap n (row_new (fun v => of_okInt) w p hc.lt vs 3 n hs ha) (hc.alloc _)).mono ?_
  rintro e w1 ⟨v, rfl, ⟨z, rfl, h1, h2⟩, hk, hc1⟩
  exact ⟨z, rfl, h1, h2, ((Keep.refl p w).alloc _).trans hk, hc1⟩

theorem keep_below {w w1 w2 : World} (h : Keep w.heap.size w w1) (h2 : Keep w.heap.size w1 w2) : Below w.heap.size w w2 :=
  have k := h.trans h2
  ⟨k.os, k.tape, k.output, k.size, fun j hj => k.block j hj (by omega)⟩
theorem code_later {w w' : World} {a : Option Addr} {len : Nat} (h : Code w w.heap.size a len) (hb : Below w.heap.size w w') : Code w' w'.heap.size a len := by
  refine ⟨h.1, fun hl => ?_⟩
  obtain ⟨b, off, e, -, hlt, hc⟩ := h.2 hl
  have := hb.size
  refine ⟨b, off, e, by omega, by omega, fun i hi => ?_⟩
  obtain ⟨z, h1, h2, h3⟩ := hc i hi
  exact ⟨z, h1, h2, by rw [hb.cell (p := ⟨b, off + i, none⟩) hlt]; exact h3⟩
end Go.Proofs.Ytmmhleobgpgliaa.draw
end

section
namespace Go.Proofs.Ytmmhleobgpgliaa.drk
open Go.RowKit sl harn bx draw
set_option linter.unusedVariables false

theorem bx_keep {T : TypeId} {w w' : World} {p b : Nat} {cs : Array Value} (h : Bx T w b cs) (k : Keep p w w') (hn : b ≠ p) : Bx T w' b cs := h.same (k.block b h.lt hn)
theorem later {p : Nat} {w w1 w2 : World} (h : Keep p w w1) {B : Nat} (hB : w.heap.size ≤ B) (hb : Below B w1 w2) : Keep p w w2 :=
  ⟨hb.os.trans h.os, hb.tape.trans h.tape, hb.output.trans h.output, Nat.le_trans h.size hb.size, fun j hj hn => (hb.block j (by omega)).trans (h.block j hj hn)⟩
/-- The cursor behind a change above it. -/
theorem cur_later {w w1 w2 : World} {p B : Nat} {a : Option Addr} {len cap : Nat} (h0 : Cur w p a len cap) (hk : Keep p w w1) (h : Cur w1 p a len cap) (hB : w.heap.size ≤ B) (hb : Below B w1 w2) : Cur w2 p a len cap := by
  have hp := h0.lt
  have k2 := later hk hB hb
  obtain ⟨-, i, g, hi, hblk⟩ := h
  exact ⟨h0.1.keep k2, i, g, hi, (hb.block p (by omega)).trans hblk⟩
/-- A cursor's world in which all that stood there stands. -/
theorem cur_below {w w' : World} {p : Nat} {a : Option Addr} {len cap : Nat} (h : Cur w p a len cap) (hb : Below w.heap.size w w') : Cur w' p a len cap := cur_later h (Keep.refl p w) h (Nat.le_refl _) hb
/-- Stores into one block that was made behind a world. -/
theorem below_four {B c : Nat} {a w : World} (h : Below B a w) (hc : B ≤ c) (v0 v1 v2 v3 : Value) :
    Below B a ((((w.setCell ⟨c, 0, none⟩ v0).setCell ⟨c, 1, none⟩ v1).setCell ⟨c, 2, none⟩ v2).setCell ⟨c, 3, none⟩ v3) :=
  (((h.setCell (p := ⟨c, 0, none⟩) hc v0).setCell (p := ⟨c, 1, none⟩) hc v1).setCell (p := ⟨c, 2, none⟩) hc v2).setCell (p := ⟨c, 3, none⟩) hc v3
theorem keep_bel {w w1 w2 : World} {B : Nat} (h : Below B w w1) (hB : B ≤ w1.heap.size) (k : Keep w1.heap.size w1 w2) : Below B w w2 :=
  h.trans ⟨k.os, k.tape, k.output, k.size, fun j hj => k.block j (by omega) (by omega)⟩
/-- How a draw, or what makes memory beside one, changes the world. -/
def Dr (p : Nat) (A : Option Addr) (len cap : Nat) (w w' : World) : Prop := Keep p w w' ∧ Cur w' p A len cap
end Go.Proofs.Ytmmhleobgpgliaa.drk
end

section
namespace Go.Proofs.Ytmmhleobgpgliaa.stw
open Go.RowKit sl harn bx draw drk
set_option linter.unusedVariables false

/-- What a store leaves, and where. -/
structure Tgt where
  T : TypeId
  b : Nat
  cs : Array Value
section
variable (D : World → World → Prop) (ts : List (Nat × Tgt))
/-- Operation i: a store that is listed, or what the relation D allows. -/
def E3 (i : Nat) (w w' : World) : Prop := match ts.lookup i with
  | some t => Put t.T w t.b t.cs w'
  | none => D w w'
structure St3 where
  q : Value → World → Prop
  h1 : ∀ v w w', q v w → D w w' → q v w'
  h2 : ∀ v w w' x, x ∈ ts → q v w → Put x.2.T w x.2.b x.2.cs w' → q v w'
def is3 (x : Value) : St3 D ts := ⟨fun v _ => v = x, fun _ _ _ h _ => h, fun _ _ _ _ _ h _ => h⟩
def val3 (p : Value → Prop) : St3 D ts := ⟨fun v _ => p v, fun _ _ _ h _ => h, fun _ _ _ _ _ h _ => h⟩
/-- A block that the region makes. -/
def blk3 (kp : Nat → Prop) (hD : ∀ {w w' : World} {T : TypeId} {b : Nat} {cs : Array Value}, D w w' → kp b → Bx T w b cs → Bx T w' b cs) (f : Nat → Value) (T : TypeId) (cs : Array Value) : St3 D ts :=
  ⟨fun v w => ∃ N, v = f N ∧ kp N ∧ (∀ x ∈ ts, x.2.b ≠ N) ∧ Bx T w N cs, fun v w w' ⟨N, h1, h2, h3, h4⟩ h => ⟨N, h1, h2, h3, hD h h2 h4⟩, fun v w w' x hx ⟨N, h1, h2, h3, h4⟩ h => ⟨N, h1, h2, h3, h.keep h4 (fun e => h3 x hx e.symm)⟩⟩
def r3 (l : List (St3 D ts)) (j : Nat) (v : Value) (w : World) : Prop := match ts.lookup j with
  | some t => Bx t.T w t.b t.cs
  | none => (l.getD j (val3 D ts fun _ => True)).q v w
end
section
variable {D : World → World → Prop} {ts : List (Nat × Tgt)}
theorem lookup_mem : ∀ {ts : List (Nat × Tgt)} {i : Nat} {t : Tgt}, ts.lookup i = some t → (i, t) ∈ ts
  | (k, u) :: l, i, t, h => by
    rw [List.lookup_cons] at h
    split at h
    · rename_i he
      have e : i = k := by simpa using he
      rw [e, Option.some.inj h]
      exact List.mem_cons_self
    · exact List.mem_cons_of_mem _ (lookup_mem h)
theorem r3_keep (kp : Nat → Prop) (hD : ∀ {w w' : World} {T : TypeId} {b : Nat} {cs : Array Value}, D w w' → kp b → Bx T w b cs → Bx T w' b cs) (hp : ∀ x ∈ ts, kp x.2.b) (hd : ∀ x ∈ ts, ∀ y ∈ ts, x.1 ≠ y.1 → x.2.b ≠ y.2.b) (l : List (St3 D ts))
    (i j : Nat) (v : Value) (w w' : World) (hij : i ≠ j) (h : r3 D ts l j v w) (he : E3 D ts i w w') : r3 D ts l j v w' := by
  unfold r3 at h ⊢
  unfold E3 at he
  cases hj : ts.lookup j with
  | some t =>
    rw [hj] at h
    simp only at h ⊢
    cases hi : ts.lookup i with
    | some u =>
      rw [hi] at he
      exact Put.keep he h (hd _ (lookup_mem hj) _ (lookup_mem hi) (fun e => hij e.symm))
    | none => rw [hi] at he; exact hD he (hp _ (lookup_mem hj)) h
  | none =>
    rw [hj] at h
    simp only at h ⊢
    cases hi : ts.lookup i with
    | some u => rw [hi] at he; exact (l.getD j (val3 D ts fun _ => True)).h2 v w w' _ (lookup_mem hi) h he
    | none => rw [hi] at he; exact (l.getD j (val3 D ts fun _ => True)).h1 v w w' h he
theorem r3_ne {l : List (St3 D ts)} {j : Nat} {v : Value} {w : World} (hj : ts.lookup j = none) (h : (l.getD j (val3 D ts fun _ => True)).q v w) : r3 D ts l j v w := by
  unfold r3; rw [hj]; exact h
theorem r3_out {l : List (St3 D ts)} {j : Nat} {v : Value} {w : World} (hj : ts.lookup j = none) (h : r3 D ts l j v w) : (l.getD j (val3 D ts fun _ => True)).q v w := by
  unfold r3 at h; rw [hj] at h; exact h
theorem r3_put {l : List (St3 D ts)} {j : Nat} {v : Value} {w : World} {t : Tgt} (hj : ts.lookup j = some t) (h : Bx t.T w t.b t.cs) : r3 D ts l j v w := by
  unfold r3; rw [hj]; exact h
theorem r3_got {l : List (St3 D ts)} {j : Nat} {v : Value} {w : World} {t : Tgt} (hj : ts.lookup j = some t) (h : r3 D ts l j v w) : Bx t.T w t.b t.cs := by
  unfold r3 at h; rw [hj] at h; exact h
theorem e3_ne {i : Nat} {w w' : World} (hi : ts.lookup i = none) (h : D w w') : E3 D ts i w w' := by unfold E3; rw [hi]; exact h
theorem e3_put {i : Nat} {w w' : World} {t : Tgt} (hi : ts.lookup i = some t) (h : Put t.T w t.b t.cs w') : E3 D ts i w w' := by unfold E3; rw [hi]; exact h
theorem E3.cases {i : Nat} {w w' : World} {X : Prop} (h : E3 D ts i w w') (h1 : D w w' → X) (h2 : ∀ x ∈ ts, Put x.2.T w x.2.b x.2.cs w' → X) : X := by
  unfold E3 at h
  cases hi : ts.lookup i with
  | some u => rw [hi] at h; exact h2 _ (lookup_mem hi) h
  | none => rw [hi] at h; exact h1 h
end
/-- A variable lies there, whatever it holds. -/
def Lies (T : TypeId) (b n : Nat) (w : World) : Prop := ∃ cs, cs.size = n ∧ Bx T w b cs
theorem Lies.of {T : TypeId} {w : World} {b : Nat} {cs : Array Value} (h : Bx T w b cs) : Lies T b cs.size w := ⟨cs, rfl, h⟩
theorem Lies.same {T : TypeId} {b n : Nat} {w w' : World} (h : Lies T b n w) (hb : w'.heap[b]? = w.heap[b]?) : Lies T b n w' := by
  obtain ⟨cs, h1, h2⟩ := h; exact ⟨cs, h1, h2.same hb⟩
theorem Lies.lt {T : TypeId} {b n : Nat} {w : World} (h : Lies T b n w) : b < w.heap.size := by
  obtain ⟨cs, h1, h2⟩ := h; exact h2.lt
theorem Lies.put {T U : TypeId} {b c n : Nat} {w w' : World} {cs : Array Value} (h : Lies T b n w) (hp : Put U w c cs w') (he : c = b → U = T ∧ cs.size = n) : Lies T b n w' := by
  by_cases hc : c = b
  · obtain ⟨e1, e2⟩ := he hc
    subst hc e1
    exact ⟨cs, e2, hp.box⟩
  · exact h.same (hp.other b (fun e => hc e.symm))
/-- Of what was there only listed blocks may have been written. -/
structure KS (S : List Nat) (w w' : World) : Prop where
  os : w'.os = w.os
  tape : w'.tape = w.tape
  output : w'.output = w.output
  size : w.heap.size ≤ w'.heap.size
  block : ∀ k, k < w.heap.size → k ∉ S → w'.heap[k]? = w.heap[k]?
theorem KS.refl (S : List Nat) (w : World) : KS S w w := ⟨rfl, rfl, rfl, Nat.le_refl _, fun _ _ _ => rfl⟩
theorem KS.trans {S : List Nat} {a b c : World} (h : KS S a b) (g : KS S b c) : KS S a c :=
  ⟨g.os.trans h.os, g.tape.trans h.tape, g.output.trans h.output, Nat.le_trans h.size g.size, fun k h1 h2 => (g.block k (Nat.lt_of_lt_of_le h1 h.size) h2).trans (h.block k h1 h2)⟩
theorem KS.keep {S : List Nat} {p : Nat} {w w' : World} (h : Keep p w w') (hp : p ∈ S) : KS S w w' := ⟨h.os, h.tape, h.output, h.size, fun k h1 h2 => h.block k h1 (fun e => h2 (e ▸ hp))⟩
theorem KS.put {S : List Nat} {T : TypeId} {w w' : World} {b : Nat} {cs : Array Value} (h : Put T w b cs w') (hb : b ∈ S) : KS S w w' :=
  ⟨h.below.os, h.below.tape, h.below.output, h.below.size, fun k _ h2 => h.other k (fun e => h2 (e ▸ hb))⟩
theorem KS.below {S : List Nat} {w w' : World} {B : Nat} (h : KS S w w') (hS : ∀ x ∈ S, B ≤ x) (hB : B ≤ w.heap.size) : Below B w w' :=
  ⟨h.os, h.tape, h.output, h.size, fun k hk => h.block k (by omega) (fun hm => by have := hS k hm; omega)⟩
/-- The cursor behind a store beside it. -/
theorem cur_put {T : TypeId} {w0 w w' : World} {p q b : Nat} {A : Option Addr} {len cap : Nat} {cs : Array Value} (hc : draw.Code w0 q A len) (h : Cur w p A len cap) (hp : Put T w b cs w') (hb0 : w0.heap.size ≤ b) (hbp : b ≠ p) : Cur w' p A len cap := by
  obtain ⟨⟨hl, hcode⟩, i, g, hi, hblk⟩ := h
  refine ⟨⟨hl, fun h0 => ?_⟩, i, g, hi, (hp.other p (fun e => hbp e.symm)).trans hblk⟩
  obtain ⟨b1, off, e, hn, hb, hcells⟩ := hcode h0
  obtain ⟨b2, off2, e2, _, hb2, _⟩ := hc.2 h0
  obtain rfl : b1 = b2 := by
    have := e.symm.trans e2
    injection this with this
    injection this
  have hh := hp.other b1 (by omega)
  refine ⟨b1, off, e, hn, Nat.lt_of_lt_of_le hb hp.below.size, fun j hj => ?_⟩
  obtain ⟨z, h1, h2, h3⟩ := hcells j hj
  exact ⟨z, h1, h2, by rw [show w'.cell? ⟨b1, off + j, none⟩ = w.cell? ⟨b1, off + j, none⟩ by simp [World.cell?, hh]]; exact h3⟩
/-- One of some numbers that lie in a block. -/
theorem pickAt (lo hi : Int) (n : Nat) (hn0 : 0 < n) (hn : (n : Int) ≤ 9223372036854775807) (w : World) (p q : Nat) (a : Option Addr) (len cap : Nat) (vs : Array Value) (T : TypeId) (hX : Bx T w q vs) (hq : q ≠ p) (hs : vs.size = n) (ha : vs.toList.all (okInt lo hi) = true) (hc : Cur w p a len cap) :
    Calls Try.prog 74 #[.pointer (some ⟨p, 0, none⟩), .slice (some ⟨q, 0, none⟩) n n] w (IntPost lo hi p a len cap w) := by
  refine (pickInt (fun z => lo ≤ z ∧ z ≤ hi) n hn0 hn _ p q a len cap n ⟨hq, hX.lt, fun i hi => ⟨vs[i]'(by omega), of_okInt (List.all_eq_true.1 ha _ (by simp)), ?_⟩⟩ hc).mono ?_
  · rw [hX.cell i]; simp [show i < vs.size by omega]
  · rintro e w1 ⟨v, rfl, ⟨z, rfl, h1, h2⟩, hk, hc1⟩
    exact ⟨z, rfl, h1, h2, hk, hc1⟩
theorem dr_same {p : Nat} {a : Option Addr} {len cap : Nat} {w : World} (hc : Cur w p a len cap) : Dr p a len cap w w := ⟨Keep.refl p w, hc⟩
theorem dr_below {p : Nat} {a : Option Addr} {len cap : Nat} {w w' : World} (hc : Cur w p a len cap) (hb : Below w.heap.size w w') : Dr p a len cap w w' := ⟨later (Keep.refl p w) (Nat.le_refl _) hb, cur_below hc hb⟩
end Go.Proofs.Ytmmhleobgpgliaa.stw
end

section
namespace Go.Proofs.Ytmmhleobgpgliaa.ux
open Go.RowKit sl harn bx
set_option linter.unusedVariables false

/-- A type's values as data. -/
structure Rep (α : Type) where
  n : Nat
  R : World → Nat → Nat → Value → α → Prop
  O : World → List Nat → Value → α → Prop
  sz : α → Nat
  tot : α → Nat
  mkx : Int → α → α
  pos : 0 < n
  len : ∀ {w lo hi v x}, R w lo hi v x → v.cells.size = n
  one : ∀ {w lo hi v x}, R w lo hi v x → v.cells.all (·.oneCell') = true
  same : ∀ {w w' lo hi v x}, R w lo hi v x → w.heap.size ≤ w'.heap.size → (∀ b, lo ≤ b → b < hi → w'.heap[b]? = w.heap[b]?) → R w' lo hi v x
  hi_ : ∀ {w lo hi v x}, R w lo hi v x → hi ≤ w.heap.size
  osame : ∀ {w w' fp v x}, O w fp v x → w.heap.size ≤ w'.heap.size → (∀ b, b ∈ fp → w'.heap[b]? = w.heap[b]?) → O w' fp v x
  rd : ∀ {w fp lo hi v x}, O w fp v x → (∀ b, b ∈ fp → lo ≤ b ∧ b < hi) → hi ≤ w.heap.size → R w lo hi v x
  lt : ∀ {w fp v x}, O w fp v x → ∀ b, b ∈ fp → b < w.heap.size
  nd : ∀ {w fp v x}, O w fp v x → fp.Nodup
  tle : ∀ x, tot x ≤ 64 * sz x + 64

/-- A value that is read. -/
def RR {α : Type} (S : Rep α) (w : World) (lo hi : Nat) (v : Value) (x : α) : Prop := S.R w lo hi v x
/-- A value of the call's own: all its blocks lie from lo to below hi. -/
def OO {α : Type} (S : Rep α) (w : World) (lo hi : Nat) (fp : List Nat) (v : Value) (x : α) : Prop := S.O w fp v x ∧ (∀ b, b ∈ fp → lo ≤ b ∧ b < hi) ∧ hi ≤ w.heap.size
section
variable {α : Type} {S : Rep α} {w w' : World} {lo hi : Nat} {v : Value} {x : α} {fp : List Nat}
theorem RR.same (h : RR S w lo hi v x) (hs : w.heap.size ≤ w'.heap.size) (hb : ∀ b, lo ≤ b → b < hi → w'.heap[b]? = w.heap[b]?) : RR S w' lo hi v x := S.same h hs hb
theorem RR.hi_ (h : RR S w lo hi v x) : hi ≤ w.heap.size := S.hi_ h
theorem RR.below (h : RR S w lo hi v x) (hb : Below w.heap.size w w') : RR S w' lo hi v x := h.same hb.size fun b _ hlt => hb.block b (by have := h.hi_; omega)
theorem RR.ks (h : RR S w lo hi v x) (hb : stw.KS fp w w') (hd : ∀ b, lo ≤ b → b < hi → b ∉ fp) : RR S w' lo hi v x := h.same hb.size fun b h1 h2 => hb.block b (by have := h.hi_; omega) (hd b h1 h2)
theorem OO.same (h : OO S w lo hi fp v x) (hs : w.heap.size ≤ w'.heap.size) (hb : ∀ b, lo ≤ b → b < hi → w'.heap[b]? = w.heap[b]?) : OO S w' lo hi fp v x :=
  ⟨S.osame h.1 hs fun b hm => hb b (h.2.1 b hm).1 (h.2.1 b hm).2, h.2.1, by have := h.2.2; omega⟩
theorem OO.hi_ (h : OO S w lo hi fp v x) : hi ≤ w.heap.size := h.2.2
theorem OO.below (h : OO S w lo hi fp v x) (hb : Below w.heap.size w w') : OO S w' lo hi fp v x := h.same hb.size fun b _ hlt => hb.block b (by have := h.hi_; omega)
theorem OO.ks {f2 : List Nat} (h : OO S w lo hi fp v x) (hb : stw.KS f2 w w') (hd : ∀ b, b ∈ fp → b ∉ f2) : OO S w' lo hi fp v x :=
  ⟨S.osame h.1 hb.size fun b hm => hb.block b (S.lt h.1 b hm) (hd b hm), h.2.1, by have := h.2.2; have := hb.size; omega⟩
theorem OO.rd (h : OO S w lo hi fp v x) : RR S w lo hi v x := S.rd h.1 h.2.1 h.2.2
theorem OO.inn (h : OO S w lo hi fp v x) : ∀ b, b ∈ fp → lo ≤ b ∧ b < hi := h.2.1
end
/-- What a function hands back that copies. -/
def ToPost {α : Type} (S : Rep α) (x : α) (w : World) (e : Ending) (w' : World) : Prop := ∃ v fp, e = .returned v ∧ OO S w' w.heap.size w'.heap.size fp v x ∧ Below w.heap.size w w'
theorem ToPost.parts {α : Type} {S : Rep α} {x : α} {w w' : World} {e : Ending} (h : ToPost S x w e w') : ∃ v fp, e = .returned v ∧ OO S w' w.heap.size w'.heap.size fp v x ∧ Below w.heap.size w w' := h
/-- What marking leaves. -/
def MkPost {α : Type} (S : Rep α) (x' : α) (k : Int) (lo hi : Nat) (fp : List Nat) (v : Value) (w : World) (e : Ending) (w' : World) : Prop := e = .returned (.int .i64 k) ∧ OO S w' lo hi fp v x' ∧ stw.KS fp w w'
theorem MkPost.parts {α : Type} {S : Rep α} {x' : α} {k : Int} {lo hi : Nat} {fp : List Nat} {v : Value} {w w' : World} {e : Ending} (h : MkPost S x' k lo hi fp v w e w') : e = .returned (.int .i64 k) ∧ OO S w' lo hi fp v x' ∧ stw.KS fp w w' := h
/-- What remains of a bound behind t: -1 if it does not suffice. -/
def ZPost (left : Int) (t : Nat) (w : World) (e : Ending) (w' : World) : Prop := ∃ r : Int, e = .returned (.int .i64 r) ∧ ((r = -1 ∧ left < t) ∨ (r = left - t ∧ (t : Int) ≤ left)) ∧ Below w.heap.size w w'
theorem ZPost.parts {left : Int} {t : Nat} {w w' : World} {e : Ending} (h : ZPost left t w e w') : ∃ r : Int, e = .returned (.int .i64 r) ∧ ((r = -1 ∧ left < t) ∨ (r = left - t ∧ (t : Int) ≤ left)) ∧ Below w.heap.size w w' := h

/-- The block of a slice's address. -/
def blks : Option Addr → List Nat
  | none => []
  | some a => [a.block]
theorem ks_below {w w' : World} (h : Below w.heap.size w w') (F : List Nat) : stw.KS F w w' := ⟨h.os, h.tape, h.output, h.size, fun k hk _ => h.block k hk⟩
theorem ks_more {F G : List Nat} {w w' : World} (h : stw.KS F w w') (hs : ∀ b, b ∈ F → b ∈ G) : stw.KS G w w' := ⟨h.os, h.tape, h.output, h.size, fun k h1 h2 => h.block k h1 fun hm => h2 (hs k hm)⟩
theorem ks_set {F : List Nat} {w : World} {b : Nat} (hb : b ∈ F) (i : Nat) (v : Value) : stw.KS F w (w.setCell ⟨b, i, none⟩ v) :=
  ⟨rfl, rfl, rfl, by simp [World.setCell], fun k h1 h2 => Below.heap_setCell _ _ _ _ (fun e => h2 (e ▸ hb))⟩
theorem ks_bel {F : List Nat} {w w' : World} {B : Nat} (h : stw.KS F w w') (hF : ∀ b, b ∈ F → B ≤ b) (hB : B ≤ w.heap.size) : Below B w w' := h.below hF hB

section nums
variable {E : TypeId} {k : IntKind} {w w' : World} {n c lo hi : Nat} {A : Option Addr} {zs : List Int}
theorem ow_as (h : Ow E k w lo hi A n c zs) (hs : w.heap.size ≤ w'.heap.size) (hb : ∀ b, b ∈ blks A → w'.heap[b]? = w.heap[b]?) : Ow E k w' lo hi A n c zs := by
  obtain ⟨⟨h1, h2⟩, h3, h4, h5⟩ := h
  refine ⟨⟨h1, ?_⟩, h3, by omega, h5⟩
  rcases h2 with h2 | ⟨g, c, cur, e, g1, g2, g3⟩
  · exact Or.inl h2
  · injection e with e1 e2 e3
    refine Or.inr ⟨g, c, cur, by rw [e1, e3], g1, ?_, g3⟩
    rw [hb g (by rw [e1]; exact List.mem_singleton.2 rfl)]; exact g2
theorem ow_to {lo2 hi2 : Nat} (h : Ow E k w lo hi A n c zs) (hb : ∀ b, b ∈ blks A → lo2 ≤ b ∧ b < hi2) (hh : hi2 ≤ w.heap.size) : Ow E k w lo2 hi2 A n c zs := by
  obtain ⟨⟨h1, h2⟩, h3, h4, h5⟩ := h
  refine ⟨⟨h1, ?_⟩, h3, hh, fun g o e => (hb g (by rw [e]; exact List.mem_singleton.2 rfl)).2⟩
  rcases h2 with h2 | ⟨g, c, cur, e, g1, g2, g3⟩
  · exact Or.inl h2
  · injection e with e1 e2 e3
    exact Or.inr ⟨g, c, cur, by rw [e1, e3], (hb g (by rw [e1]; exact List.mem_singleton.2 rfl)).1, g2, g3⟩
theorem ow_in (h : Ow E k w lo hi A n c zs) : ∀ b, b ∈ blks A → lo ≤ b ∧ b < hi := by
  intro b hb
  rcases h.form with ⟨rfl, _⟩ | ⟨g, cur, rfl, h1, h2, _⟩
  · cases hb
  · obtain rfl : b = g := by simpa [blks] using hb
    exact ⟨h1, h2⟩
open om in
theorem om_as (h : Om E k w lo hi A n c zs) (hs : w.heap.size ≤ w'.heap.size) (hb : ∀ b, b ∈ blks A → w'.heap[b]? = w.heap[b]?) : Om E k w' lo hi A n c zs := by
  obtain ⟨h1, h2, h3, h4, h5, h6⟩ := h
  refine ⟨h1, h2, h3, h4, by omega, ?_⟩
  rcases h6 with h6 | ⟨g, cur, fz, e, g1, g2, g3, g4⟩
  · exact .inl h6
  · exact .inr ⟨g, cur, fz, e, g1, g2, (hb g (by rw [e]; exact List.mem_singleton.2 rfl)).trans g3, g4⟩
open om in
theorem om_to {lo2 hi2 : Nat} (h : Om E k w lo hi A n c zs) (hb : ∀ b, b ∈ blks A → lo2 ≤ b ∧ b < hi2) (hh : hi2 ≤ w.heap.size) : Om E k w lo2 hi2 A n c zs := by
  obtain ⟨h1, h2, h3, h4, h5, h6⟩ := h
  refine ⟨h1, h2, h3, h4, hh, ?_⟩
  rcases h6 with h6 | ⟨g, cur, fz, e, g1, g2, g3, g4⟩
  · exact .inl h6
  · have := hb g (by rw [e]; exact List.mem_singleton.2 rfl)
    exact .inr ⟨g, cur, fz, e, this.1, this.2, g3, g4⟩
open om in
theorem om_in (h : Om E k w lo hi A n c zs) : ∀ b, b ∈ blks A → lo ≤ b ∧ b < hi := by
  intro b hb
  rcases h.2.2.2.2.2 with ⟨rfl, _⟩ | ⟨g, cur, fz, rfl, h1, h2, _⟩
  · cases hb
  · obtain rfl : b = g := by simpa [blks] using hb
    exact ⟨h1, h2⟩
open om in
theorem om_wide (h : Om E k w lo hi A n c zs) : Om E k w 0 w.heap.size A n c zs := om_to h (fun b hb => by have := om_in h b hb; have := h.hi_; omega) (Nat.le_refl _)
end nums
theorem sl_one (A : Option Addr) (n c : Nat) : (Value.slice A n c).cells.all (·.oneCell') = true := by
  have h := all_oneCell_toArray (cs := [.slice A n c]) (by intro v hv; simp only [List.mem_singleton] at hv; subst hv; rfl)
  exact h
/-- Slices of numbers. -/
def num (E : TypeId) (k : IntKind) : Rep (List Int) where
  n := 1
  R := fun w lo hi v zs => ∃ A n c, v = .slice A n c ∧ Rd k w lo hi A n c zs
  O := fun w fp v zs => ∃ A n c, v = .slice A n c ∧ om.Om E k w 0 w.heap.size A n c zs ∧ fp = blks A
  sz := fun zs => zs.length
  tot := fun zs => zs.length
  mkx := fun q zs => marks k q zs.length
  pos := Nat.one_pos
  len := fun ⟨A, n, c, e, h⟩ => by subst e; rfl
  one := fun ⟨A, n, c, e, h⟩ => by subst e; exact sl_one _ _ _
  same := fun ⟨A, n, c, e, h⟩ hs hb => ⟨A, n, c, e, h.same hs hb⟩
  hi_ := fun ⟨A, n, c, e, h⟩ => h.hi_
  osame := fun ⟨A, n, c, e, h, hf⟩ hs hb => ⟨A, n, c, e, om_wide (om_as h hs (fun b hm => hb b (hf ▸ hm))), hf⟩
  rd := fun ⟨A, n, c, e, h, hf⟩ hb hh => ⟨A, n, c, e, (om_to h (fun b hm => hb b (hf ▸ hm)) hh).rd⟩
  lt := fun ⟨A, n, c, e, h, hf⟩ b hm => (om_in h b (hf ▸ hm)).2
  nd := fun ⟨A, n, c, e, h, hf⟩ => by rw [hf]; cases A <;> simp [blks]
  tle := fun zs => by show zs.length ≤ 64 * zs.length + 64; omega
theorem num_om {E : TypeId} {k : IntKind} {w : World} {n c lo hi : Nat} {A : Option Addr} {zs : List Int} (h : om.Om E k w lo hi A n c zs) : OO (num E k) w lo hi (blks A) (.slice A n c) zs :=
  ⟨⟨A, n, c, rfl, om_wide h, rfl⟩, om_in h, h.hi_⟩
theorem num_of {E : TypeId} {k : IntKind} {w : World} {n c lo hi : Nat} {A : Option Addr} {zs : List Int} (h : Ow E k w lo hi A n c zs) : OO (num E k) w lo hi (blks A) (.slice A n c) zs := num_om (om.of_ow h)
theorem num_rd {E : TypeId} {k : IntKind} {w : World} {n c lo hi : Nat} {A : Option Addr} {zs : List Int} (h : Rd k w lo hi A n c zs) : RR (num E k) w lo hi (.slice A n c) zs := ⟨A, n, c, rfl, h⟩
theorem num_open {E : TypeId} {k : IntKind} {w : World} {lo hi : Nat} {fp : List Nat} {v : Value} {zs : List Int} (h : OO (num E k) w lo hi fp v zs) : ∃ A n c, v = .slice A n c ∧ om.Om E k w lo hi A n c zs ∧ fp = blks A := by
  obtain ⟨⟨A, n, c, e, ho, hf⟩, h2, h3⟩ := h
  exact ⟨A, n, c, e, om_to ho (fun b hm => h2 b (hf ▸ hm)) h3, hf⟩

/-- An element with its blocks. -/
structure Ue (α : Type) where
  fp : List Nat
  v : Value
  x : α
section rows
variable {α : Type} (S : Rep α)
def flt (es : List (Ue α)) : List Value := es.flatMap fun e => e.v.cells.toList
def fps (es : List (Ue α)) : List Nat := es.flatMap (·.fp)
def mks (mk : Int → α → α) (tot : α → Nat) : Int → List α → List α
  | _, [] => []
  | q, x :: r => mk q x :: mks mk tot (q + tot x) r
def sumT (tot : α → Nat) (l : List α) : Nat := (l.map tot).sum
def rowR (w : World) (lo hi : Nat) (v : Value) (xs : List α) : Prop :=
  ∃ A n c, v = .slice A n c ∧ xs.length = n ∧ n ≤ c ∧ c ≤ maxLen ∧ hi ≤ w.heap.size ∧ (0 < n → ∃ b off, A = some ⟨b, off, none⟩ ∧ lo ≤ b ∧ b < hi ∧ ∀ i x, xs[i]? = some x → ∃ u, w.rangeAt b (off + i * S.n) u.cells.toList ∧ S.R w lo hi u x)
def rowO (T : TypeId) (w : World) (fp : List Nat) (v : Value) (xs : List α) : Prop :=
  ∃ (A : Option Addr) (n c : Nat) (es : List (Ue α)), v = .slice A n c ∧ es.map (·.x) = xs ∧ (∀ e ∈ es, S.O w e.fp e.v e.x ∧ e.v.cells.size = S.n ∧ e.v.cells.all (·.oneCell') = true) ∧ fp.Nodup ∧
    ((A = none ∧ n = 0 ∧ c = 0 ∧ es = [] ∧ fp = []) ∨ ∃ g cur, A = some ⟨g, 0, none⟩ ∧ w.heap[g]? = some (.cells cur T (0, 0)) ∧ es.length = n ∧ n ≤ c ∧ c ≤ maxLen ∧ cur.size = c * S.n ∧ cur.toList.take (n * S.n) = flt es ∧ fp = g :: fps es)
end rows
theorem flt_append {α : Type} (a b : List (Ue α)) : flt (a ++ b) = flt a ++ flt b := by simp [flt]
theorem fps_append {α : Type} (a b : List (Ue α)) : fps (a ++ b) = fps a ++ fps b := by simp [fps]
theorem flt_len {α : Type} {s : Nat} : ∀ (es : List (Ue α)), (∀ e ∈ es, e.v.cells.size = s) → (flt es).length = es.length * s
  | [], _ => by simp [flt]
  | e :: r, h => by
    have h1 : flt (e :: r) = e.v.cells.toList ++ flt r := rfl
    rw [h1, List.length_append, flt_len r (fun f hf => h f (List.mem_cons_of_mem _ hf)), List.length_cons, Nat.add_mul, Nat.one_mul, Nat.add_comm]
    have := h e List.mem_cons_self
    simp; omega
theorem mem_fps {α : Type} {es : List (Ue α)} {e : Ue α} (he : e ∈ es) {b : Nat} (hb : b ∈ e.fp) : b ∈ fps es := List.mem_flatMap.2 ⟨e, he, hb⟩
theorem sumT_snoc {α : Type} (tot : α → Nat) (l : List α) (x : α) : sumT tot (l ++ [x]) = sumT tot l + tot x := by simp [sumT]
theorem sumT_cons {α : Type} (tot : α → Nat) (l : List α) (x : α) : sumT tot (x :: l) = tot x + sumT tot l := by simp [sumT]
theorem sumT_append {α : Type} (tot : α → Nat) (a b : List α) : sumT tot (a ++ b) = sumT tot a + sumT tot b := by simp [sumT]
theorem sumT_take {α : Type} (tot : α → Nat) (l : List α) (k : Nat) : sumT tot (l.take k) ≤ sumT tot l := by
  have := sumT_append tot (l.take k) (l.drop k)
  rw [List.take_append_drop] at this
  omega
theorem sumT_mem {α : Type} (tot : α → Nat) {l : List α} {x : α} (h : x ∈ l) : tot x ≤ sumT tot l := by
  induction l with
  | nil => cases h
  | cons a r ih =>
    rw [sumT_cons]
    rcases List.mem_cons.1 h with rfl | h
    · omega
    · have := ih h; omega
theorem sumT_le {α : Type} (tot sz : α → Nat) (h : ∀ x, tot x ≤ 64 * sz x + 64) : ∀ l : List α, sumT tot l ≤ 64 * (l.length + sumT sz l)
  | [] => by simp [sumT]
  | x :: r => by
    have := h x
    have := sumT_le tot sz h r
    rw [sumT_cons, sumT_cons, List.length_cons]; omega
theorem take_snoc {α : Type} {l : List α} {i : Nat} {x : α} (h : l[i]? = some x) : l.take (i + 1) = l.take i ++ [x] := by rw [List.take_add_one, h]; rfl
section marks
variable {α : Type} (mk : Int → α → α) (tot : α → Nat)
theorem mks_snoc (x : α) : ∀ (l : List α) (q : Int), mks mk tot q (l ++ [x]) = mks mk tot q l ++ [mk (q + sumT tot l) x]
  | [], q => by simp [mks, sumT]
  | y :: r, q => by
    have e : q + (tot y : Int) + (sumT tot r : Nat) = q + (sumT tot (y :: r) : Nat) := by rw [sumT_cons]; omega
    rw [List.cons_append, mks, mks_snoc x r, mks, e]
    rfl
theorem mks_len : ∀ (l : List α) (q : Int), (mks mk tot q l).length = l.length
  | [], _ => rfl
  | x :: r, q => by rw [mks, List.length_cons, mks_len r, List.length_cons]
theorem mks_at {l : List α} {j : Nat} {m : α} (h : l[j]? = some m) (q : Int) : (mks mk tot q l)[j]? = some (mk (q + (sumT tot (l.take j) : Nat)) m) := by
  induction l generalizing j q with
  | nil => simp at h
  | cons x r ih =>
    cases j with
    | zero =>
      have : x = m := by simpa using h
      subst this
      simp [mks, sumT]
    | succ j =>
      have h2 : r[j]? = some m := by simpa using h
      rw [mks, List.getElem?_cons_succ, ih h2, List.take_succ_cons, sumT_cons]
      congr 2
      omega
end marks
theorem rangeAt_same {w w' : World} {b o : Nat} {cs : List Value} (h : w.rangeAt b o cs) (hb : w'.heap[b]? = w.heap[b]?) : w'.rangeAt b o cs :=
  fun j v hj => (World.cell?_of_block (w := w) hb).trans (h j v hj)
/-- The cells of element number i. -/
theorem flt_at {α : Type} {s : Nat} : ∀ {es : List (Ue α)} {i : Nat} {e : Ue α}, (∀ e ∈ es, e.v.cells.size = s) → es[i]? = some e → ∀ {j : Nat} {v : Value}, e.v.cells.toList[j]? = some v → (flt es)[i * s + j]? = some v
  | f :: r, 0, e, hs, h, j, v, hv => by
    have : f = e := by simpa using h
    subst this
    have h1 : flt (f :: r) = f.v.cells.toList ++ flt r := rfl
    have hj : j < f.v.cells.toList.length := (List.getElem?_eq_some_iff.1 hv).1
    rw [h1, Nat.zero_mul, Nat.zero_add, List.getElem?_append_left hj]; exact hv
  | f :: r, i + 1, e, hs, h, j, v, hv => by
    have h2 : r[i]? = some e := by simpa using h
    have h1 : flt (f :: r) = f.v.cells.toList ++ flt r := rfl
    have hl : f.v.cells.toList.length = s := by simpa using hs f List.mem_cons_self
    have ih := flt_at (s := s) (es := r) (fun g hg => hs g (List.mem_cons_of_mem _ hg)) h2 hv
    rw [h1, List.getElem?_append_right (by rw [hl, Nat.add_mul, Nat.one_mul]; omega), hl, show (i + 1) * s + j - s = i * s + j by rw [Nat.add_mul, Nat.one_mul]; omega]
    exact ih
section
variable {α : Type} {S : Rep α} {T : TypeId} {w w' : World} {lo hi : Nat} {fp : List Nat} {v : Value} {xs : List α}
theorem rowR.same (h : rowR S w lo hi v xs) (hs : w.heap.size ≤ w'.heap.size) (hb : ∀ b, lo ≤ b → b < hi → w'.heap[b]? = w.heap[b]?) : rowR S w' lo hi v xs := by
  obtain ⟨A, n, c, e, h1, h2, h3, h4, h5⟩ := h
  refine ⟨A, n, c, e, h1, h2, h3, by omega, fun hn => ?_⟩
  obtain ⟨b, off, eA, g1, g2, g3⟩ := h5 hn
  refine ⟨b, off, eA, g1, g2, fun i x hx => ?_⟩
  obtain ⟨u, r1, r2⟩ := g3 i x hx
  exact ⟨u, rangeAt_same r1 (hb b g1 g2), S.same r2 hs hb⟩
theorem rowO.same (h : rowO S T w fp v xs) (hs : w.heap.size ≤ w'.heap.size) (hb : ∀ b, b ∈ fp → w'.heap[b]? = w.heap[b]?) : rowO S T w' fp v xs := by
  obtain ⟨A, n, c, es, e, hm, ho, hnd, h⟩ := h
  rcases h with ⟨rfl, rfl, rfl, rfl, rfl⟩ | ⟨g, cur, rfl, hg, h2, h3, h4, h5, h6, hf⟩
  · exact ⟨none, 0, 0, [], e, hm, fun _ h => (by cases h), hnd, .inl ⟨rfl, rfl, rfl, rfl, rfl⟩⟩
  · refine ⟨_, n, c, es, e, hm, fun f hf2 => ⟨S.osame (ho f hf2).1 hs fun b hbf => hb b (by rw [hf]; exact List.mem_cons_of_mem _ (mem_fps hf2 hbf)), (ho f hf2).2⟩, hnd, .inr ⟨g, cur, rfl, ?_, h2, h3, h4, h5, h6, hf⟩⟩
    rw [hb g (by rw [hf]; exact List.mem_cons_self)]; exact hg
theorem rowO.lt (h : rowO S T w fp v xs) : ∀ b, b ∈ fp → b < w.heap.size := by
  obtain ⟨A, n, c, es, e, hm, ho, hnd, h⟩ := h
  intro b hb
  rcases h with ⟨rfl, rfl, rfl, rfl, rfl⟩ | ⟨g, cur, rfl, hg, h2, h3, h4, h5, h6, hf⟩
  · cases hb
  · rw [hf] at hb
    rcases List.mem_cons.1 hb with rfl | hb
    · exact lt_of_block hg
    · obtain ⟨f, hf2, hbf⟩ := List.mem_flatMap.1 hb
      exact S.lt (ho f hf2).1 b hbf
theorem rowO.rd (h : rowO S T w fp v xs) (hb : ∀ b, b ∈ fp → lo ≤ b ∧ b < hi) (hh : hi ≤ w.heap.size) : rowR S w lo hi v xs := by
  obtain ⟨A, n, c, es, e, hm, ho, hnd, h⟩ := h
  rcases h with ⟨rfl, rfl, rfl, rfl, rfl⟩ | ⟨g, cur, rfl, hg, h2, h3, h4, h5, h6, hf⟩
  · exact ⟨none, 0, 0, e, by rw [← hm]; rfl, Nat.le_refl _, by unfold maxLen; omega, hh, fun h => absurd h (by omega)⟩
  · have hg1 := hb g (by rw [hf]; exact List.mem_cons_self)
    refine ⟨_, n, c, e, by rw [← hm]; simpa using h2, h3, h4, hh, fun hn => ⟨g, 0, rfl, hg1.1, hg1.2, fun i x hx => ?_⟩⟩
    rw [← hm, List.getElem?_map] at hx
    cases he : es[i]? with
    | none => rw [he] at hx; cases hx
    | some f =>
      rw [he] at hx
      obtain rfl : f.x = x := by simpa using hx
      have hfm := List.mem_of_getElem? he
      refine ⟨f.v, fun j u hu => ?_, S.rd (ho f hfm).1 (fun b hbf => hb b (by rw [hf]; exact List.mem_cons_of_mem _ (mem_fps hfm hbf))) hh⟩
      have h7 := flt_at (fun e he => (ho e he).2.1) he hu
      rw [← h6, List.getElem?_take] at h7
      split at h7
      · rw [Nat.zero_add]
        simp only [World.cell?, hg]
        simpa using h7
      · cases h7
end
/-- Slices of whatever elements; T: the elements' type. -/
def row {α : Type} (T : TypeId) (S : Rep α) : Rep (List α) where
  n := 1
  R := rowR S
  O := rowO S T
  sz := fun xs => xs.length + sumT S.sz xs
  tot := sumT S.tot
  mkx := mks S.mkx S.tot
  pos := Nat.one_pos
  len := fun ⟨A, n, c, e, h⟩ => by subst e; rfl
  one := fun ⟨A, n, c, e, h⟩ => by subst e; exact sl_one _ _ _
  same := rowR.same
  hi_ := fun ⟨A, n, c, e, h1, h2, h3, h4, _⟩ => h4
  osame := rowO.same
  rd := rowO.rd
  lt := rowO.lt
  nd := fun ⟨A, n, c, es, e, hm, ho, hnd, h⟩ => hnd
  tle := fun xs => by have := sumT_le S.tot S.sz S.tle xs; show sumT S.tot xs ≤ 64 * (xs.length + sumT S.sz xs) + 64; omega
theorem row_tot {α : Type} (T : TypeId) (S : Rep α) (xs : List α) : (row T S).tot xs ≤ 64 * (row T S).sz xs := sumT_le S.tot S.sz S.tle xs
section
variable {α : Type} {S : Rep α} {T : TypeId} {w w' : World} {lo hi : Nat} {fp : List Nat} {v : Value} {xs : List α}
/-- A slice that is read, opened. -/
theorem row_open (h : RR (row T S) w lo hi v xs) : ∃ A n c, v = .slice A n c ∧ xs.length = n ∧ n ≤ c ∧ c ≤ 9223372036854775807 := by
  obtain ⟨A, n, c, e, h1, h2, h3, _⟩ := h
  exact ⟨A, n, c, e, h1, h2, by unfold maxLen at h3; omega⟩
theorem row_at {A : Option Addr} {n c : Nat} (h : RR (row T S) w lo hi (.slice A n c) xs) {i : Nat} (hi' : i < n) : ∃ b off x u, A = some ⟨b, off, none⟩ ∧ xs[i]? = some x ∧ lo ≤ b ∧ b < hi ∧ w.rangeAt b (off + i * S.n) u.cells.toList ∧ RR S w lo hi u x := by
  obtain ⟨A', n', c', e, h1, h2, h3, h4, h5⟩ := h
  injection e with e1 e2 e3
  subst e1 e2 e3
  obtain ⟨b, off, eA, g1, g2, g3⟩ := h5 (by omega)
  have hx : xs[i]? = some xs[i] := List.getElem?_eq_getElem (by omega)
  obtain ⟨u, r1, r2⟩ := g3 i _ hx
  exact ⟨b, off, _, u, eA, hx, g1, g2, r1, r2⟩
end
end Go.Proofs.Ytmmhleobgpgliaa.ux
end
