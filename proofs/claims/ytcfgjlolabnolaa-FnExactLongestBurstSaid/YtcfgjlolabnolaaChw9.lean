/- MergePatterns, the specification: an insertion by three appends, in whatever order the region draws. Condition: lengths up to 2^26. -/
import Derived.Test.YtcfgjlolabnolaaChw8
namespace Go.Proofs.Ytcfgjlolabnolaa.chw
open Go.RowKit sl harn chm own
set_option linter.unusedVariables false

theorem step_app {P : Program} {ops : Array Oper} {o : Oper} {a : Act} {w : World} {K : Act → World → Prop} {Q : Exit → Act → World → Prop} {X : Prop} (hg : o.guard = none) (s x : Operand) (t : TypeId)
    (hop : o.op = .call { callee := .builtin .append, args := #[s, x], argTypes := #[t, t] })
    (E : TypeId) (i : TypeInfo) (z : Value) (k : IntKind) (h1 : P.underlying t = some (.slice E)) (h2 : P.info? E = some i) (h3 : i.zero = some z) (h4 : i.size = 1) (h5 : i.bytes ≤ 8) (h6 : z.cells.size = 1)
    {lo hi lo2 hi2 n cap m c : Nat} {A B : Option Addr} {zs ys : List Int} (hs : a.eval s = .slice A n cap) (hx : a.eval x = .slice B m c) (ho : Ow E k w lo hi A n cap zs) (hr : Rd k w lo2 hi2 B m c ys) (hn : n + m ≤ 1073741824) (hlo : lo ≤ w.heap.size)
    (hK : ∀ A' cap' w', Ow E k w' lo w'.heap.size A' (n + m) cap' (zs ++ ys) → Below lo w w' → K (a.put o.dst (.slice A' (n + m) cap')) w') :
    if Region.wanted o (yielded ops a.tmps) = true then Oper.wp P o a w K Q else X := by
  have hw : Region.wanted o (yielded ops a.tmps) = true := by simp [Region.wanted, hg]
  rw [if_pos hw]
  obtain ⟨A', cap', w', hrun, g1, g2⟩ := app (P := P) t o.type E i z k h1 h2 h3 h4 h5 h6 ho hr hn hlo
  unfold Oper.wp execOp
  simp only [hop, resolve, invoke, builtin, Sem.run_bind, Sem.run_pure, Result.andThen_ok, List.map_toArray, List.map_cons, List.map_nil, hs, hx, hrun]
  exact hK A' cap' w' g1 g2
/-- The same, sparing some blocks; a slice without an address is appended as well. -/
theorem app_spare {P : Program} (t ty E : TypeId) (i : TypeInfo) (z : Value) (k : IntKind) (h1 : P.underlying t = some (.slice E)) (h2 : P.info? E = some i) (h3 : i.zero = some z) (h4 : i.size = 1) (h5 : i.bytes ≤ 8) (h6 : z.cells.size = 1)
    {w : World} {lo hi lo2 hi2 n cap m c : Nat} {A B : Option Addr} {zs ys : List Int} (ho : Ow E k w lo hi A n cap zs) (hr : Rd k w lo2 hi2 B m c ys) (hn : n + m ≤ 1073741824) (hlo : lo ≤ w.heap.size)
    {c1 c2 : Nat} (hA : Out c1 c2 A) (hc : c2 ≤ w.heap.size) :
    ∃ A' cap' w', (Builtin.append_ #[t, t] ty #[.slice A n cap, .slice B m c]).run P w = .ok (.slice A' (n + m) cap') w' ∧ Ow E k w' lo w'.heap.size A' (n + m) cap' (zs ++ ys) ∧ Below lo w w' ∧ Spares c1 c2 w w' := by
  cases B with
  | some ad =>
    obtain ⟨A', cap', w', g1, g2, g3, g4, g5⟩ := app_out (P := P) t ty E i z k h1 h2 h3 h4 h5 h6 ho hr hn hlo hA hc
    exact ⟨A', cap', w', g1, g2, g3, g5⟩
  | none =>
    have hm : m = 0 := by
      rcases Nat.eq_zero_or_pos m with h | h
      · exact h
      · obtain ⟨b, off, e, _⟩ := hr.at_ h; cases e
    subst hm
    have hy : ys = [] := List.eq_nil_of_length_eq_zero hr.len
    subst hy
    refine ⟨A, cap, w, ?_, by simpa using ho.up, Below.refl _ _, Spares.refl _ _ _⟩
    rcases ho.form with ⟨rfl, rfl, rfl⟩ | ⟨g, cur, rfl, _, _, _, hnc, _⟩
    · simp [Builtin.append_, run_underlying h1, sizeOf, typeInfo, h2, Builtin.lenOf, Builtin.firstCells]
    · simp [Builtin.append_, run_underlying h1, sizeOf, typeInfo, h2, Builtin.lenOf, Builtin.firstCells, hnc, storeCells]
theorem step_spare {P : Program} {ops : Array Oper} {o : Oper} {a : Act} {w : World} {K : Act → World → Prop} {Q : Exit → Act → World → Prop} {X : Prop} (hg : o.guard = none) (s x : Operand) (t : TypeId)
    (hop : o.op = .call { callee := .builtin .append, args := #[s, x], argTypes := #[t, t] })
    (E : TypeId) (i : TypeInfo) (z : Value) (k : IntKind) (h1 : P.underlying t = some (.slice E)) (h2 : P.info? E = some i) (h3 : i.zero = some z) (h4 : i.size = 1) (h5 : i.bytes ≤ 8) (h6 : z.cells.size = 1)
    {lo hi lo2 hi2 n cap m c : Nat} {A B : Option Addr} {zs ys : List Int} (hs : a.eval s = .slice A n cap) (hx : a.eval x = .slice B m c) (ho : Ow E k w lo hi A n cap zs) (hr : Rd k w lo2 hi2 B m c ys) (hn : n + m ≤ 1073741824) (hlo : lo ≤ w.heap.size)
    {c1 c2 : Nat} (hA : Out c1 c2 A) (hc : c2 ≤ w.heap.size)
    (hK : ∀ A' cap' w', Ow E k w' lo w'.heap.size A' (n + m) cap' (zs ++ ys) → Below lo w w' → Spares c1 c2 w w' → K (a.put o.dst (.slice A' (n + m) cap')) w') :
    if Region.wanted o (yielded ops a.tmps) = true then Oper.wp P o a w K Q else X := by
  have hw : Region.wanted o (yielded ops a.tmps) = true := by simp [Region.wanted, hg]
  rw [if_pos hw]
  obtain ⟨A', cap', w', hrun, g1, g2, g3⟩ := app_spare (P := P) t o.type E i z k h1 h2 h3 h4 h5 h6 ho hr hn hlo hA hc
  unfold Oper.wp execOp
  simp only [hop, resolve, invoke, builtin, Sem.run_bind, Sem.run_pure, Result.andThen_ok, List.map_toArray, List.map_cons, List.map_nil, hs, hx, hrun]
  exact hK A' cap' w' g1 g2 g3

set_option maxRecDepth 100000 in
set_option maxHeartbeats 4000000 in
theorem specMerge (zs ys : List Int) (lo hi lo2 hi2 : Nat) (A A2 : Option Addr) (n cap m cap2 : Nat) (w : World) (h : Rd .i64 w lo hi A n cap zs) (h2 : Rd .i64 w lo2 hi2 A2 m cap2 ys) (hn : n ≤ 67108864) (hm : m ≤ 67108864) :
    Calls Try.prog 29 #[.slice A n cap, .slice A2 m cap2] w (SlPost 3 .i64 w (mrg (zs ++ ys))) := by
  obtain ⟨i0, hi0, hz0, hz1, hz2⟩ := info_parts intInfo
  have HZ := Lib.hid (And.intro hi0 (And.intro hz0 (And.intro hz1 hz2)))
  have HLen := Lib.hid (And.intro h.len h2.len)
  have HR1 := Lib.hid h
  have HR2 := Lib.hid h2
  clear h h2 hi0 hz0 hz1 hz2
  go_enter Try.func29, Try.ntmps29
  go_wp2_with (first
    | (at_builtin; refine wpList_app _ rfl _ _ 24 rfl 3 i0 _ .i64 Try.underlying24 HZ.out.1 HZ.out.2.1 HZ.out.2.2.1 (by rw [HZ.out.2.2.2]; omega) rfl rfl rfl (Ow.empty _ _ _) (HR1.out.alloc _) (by omega) (by simp) ?_; intro A1 cap1 w1 ho hb1; have HO1 := Lib.hid (show Ow 3 .i64 w1 w.heap.size w1.heap.size A1 n cap1 zs by simpa using ho); have HB1 := Lib.hid (((Below.refl _ _).alloc (Nat.le_refl _) _).trans hb1); clear ho hb1)
    | (at_builtin; refine wpList_app _ rfl _ _ 24 rfl 3 i0 _ .i64 Try.underlying24 HZ.out.1 HZ.out.2.1 HZ.out.2.2.1 (by rw [HZ.out.2.2.2]; omega) rfl rfl rfl HO1.out (HR2.out.below HB1.out) (by omega) HB1.out.size ?_; intro A5 cap5 w2 ho hb1; have HO2 := Lib.hid ho; have HB2 := Lib.hid (HB1.out.trans hb1); clear ho hb1))
  obtain ⟨N, hN⟩ : ∃ N, n + m = N := ⟨_, rfl⟩
  rw [hN]
  rw [hN] at HO2
  have hN2 : N ≤ 134217728 := by omega
  obtain ⟨S, hS⟩ : ∃ S, zs ++ ys = S := ⟨_, rfl⟩
  rw [hS] at HO2
  have HSS := Lib.hid hS
  have HR := Lib.hid HO2.out.rd
  have HSl := Lib.hid HR.out.len
  have hcap := HR.out.cap_
  clear HO1 HB1 HR1 HR2 HLen HO2 hN hS hn hm
  go_wp2_with fail
  go_loopw [6, 7] (fun v i wr => ∃ (k : Nat) (o : List Int) (b q c : Nat), i = .int .i64 k ∧ v = .slice (some ⟨b, 0, none⟩) q c ∧ k ≤ N ∧ Some_ o S k ∧ Ow 3 .i64 wr w2.heap.size wr.heap.size (some ⟨b, 0, none⟩) q c o ∧ Below w2.heap.size w2 wr) (fun _ i _ => N - (intOf i).toNat)
  case atStart => exact ⟨0, [], _, 0, 0, rfl, rfl, by omega, some_start _, (Ow.empty 3 .i64 w2).up, (Below.refl _ _).alloc (Nat.le_refl _) _⟩
  case round =>
    obtain ⟨k, o, b, q, c3, rfl, rfl, hk, hod, ho, hb⟩ := hrel
    have HO := Lib.hid ho
    have HB := Lib.hid hb
    have HD := Lib.hid hod
    have hq : q ≤ 134217728 := by have h1 := ho.len; have h2 := hod.len; rw [HSl.out] at h2; omega
    have hqc := ho.rd.cap_
    clear ho hb hod
    by_cases hlt : k < N
    · have hlt2 : (k : Int) < N := by omega
      have HK := Lib.hid (show k < S.length by rw [HSl.out]; exact hlt)
      obtain ⟨b', off, rfl, g1, g2, hc⟩ := (HR.out.below HB.out).at_ hlt
      obtain ⟨x, hx⟩ : ∃ x, S.getD k 0 = x := ⟨_, rfl⟩
      have HX := Lib.hid hx
      have HW := Lib.hid (show (Lit.int .i64 x).wf = true from wf_at HR.out.wf HSl.out hlt hx)
      rw [hx] at hc
      obtain ⟨C, hC⟩ : ∃ C, S.count x = C := ⟨_, rfl⟩
      have HC := Lib.hid hC
      have hCle : C ≤ 134217728 := by have := List.count_le_length (a := x) (l := S); rw [hC, HSl.out] at this; omega
      obtain ⟨r, hr⟩ : ∃ r : Nat, C % 2 = r := ⟨_, rfl⟩
      have HRr := Lib.hid hr
      have hr2 : (C : Int) % 2 = r := by omega
      have hr3 : (C : Int).tmod 2 = r := by rw [Int.tmod_eq_emod_of_nonneg (by omega)]; exact hr2
      have hr4 : r = 0 ∨ r = 1 := by omega
      clear hx g1 g2 hC hr
      have HRW := Lib.hid (HR.out.below HB.out)
      rcases hr4 with rfl | rfl
      · have HN := Lib.hid (some_even HD.out HK.out HX.out (by rw [HC.out]; exact HRr.out))
        go_wp2_with fail
        (with_reducible refine (count_ S x _ _ _ N _ _ HRW.out (by omega)).mono ?_)
        rw [HC.out]
        rintro e w3 ⟨rfl, rfl⟩
        go_wp2_with fail
        go_roundw
        case rel => exact ⟨k + 1, _, _, _, _, by go_num, rfl, by omega, HN.out, HO.out, HB.out⟩
        case measure => simp [intOf]; omega
      · obtain ⟨D, hD⟩ : ∃ D, o.count x = D := ⟨_, rfl⟩
        have HDc := Lib.hid hD
        clear hD
        rcases Nat.eq_zero_or_pos D with h0 | h0
        · have HNo := Lib.hid (show x ∉ o from fun g => by have := List.count_pos_iff.2 g; have := HDc.out; omega)
          subst h0
          go_wp2_with fail
          (with_reducible refine (count_ S x _ _ _ N _ _ HRW.out (by omega)).mono ?_)
          rw [HC.out]
          rintro e w3 ⟨rfl, rfl⟩
          go_wp2_with fail
          (with_reducible refine (count_ o x _ _ _ q _ _ HO.out.rd (by omega)).mono ?_)
          rw [HDc.out]
          rintro e w3 ⟨rfl, rfl⟩
          go_wp2_with fail
          clear hr2 hr3
          go_loopw [8] (fun i w4 => ∃ j : Nat, i = .int .i64 j ∧ j ≤ q ∧ (∀ i, i < j → o.getD i 0 < x) ∧ Ow 3 .i64 w4 w2.heap.size w4.heap.size (some ⟨b, 0, none⟩) q c3 o ∧ Below w2.heap.size w2 w4) (fun i _ => q - (intOf i).toNat)
          case atStart => exact ⟨0, rfl, by omega, fun i hi => by omega, HO.out, HB.out⟩
          case round =>
            clear HO HB HRW hc
            obtain ⟨j, rfl, hj, hg, ho, hb⟩ := hrel
            have HO := Lib.hid ho
            have HB := Lib.hid hb
            have HG := Lib.hid hg
            obtain ⟨b2, f2, e2, _, _, hc⟩ := (HR.out.below hb).at_ hlt
            injection e2 with e2
            injection e2 with e3 e4 _
            subst e3 e4
            rw [HX.out] at hc
            clear ho hb hg
            by_cases hjq : j < q
            · have hjq2 : (j : Int) < q := by omega
              have hjq3 : decide ((j : Int) < q) = true := decide_eq_true hjq2
              have hcy := cell_of HO.out hjq
              obtain ⟨y, hy⟩ : ∃ y, o.getD j 0 = y := ⟨_, rfl⟩
              have HY := Lib.hid hy
              rw [hy] at hcy
              clear hy
              by_cases hyx : y < x
              · have hyx2 : decide (y < x) = true := decide_eq_true hyx
                have HN := Lib.hid (show ∀ i, i < j + 1 → o.getD i 0 < x from fun i hi => by
                  by_cases e : i < j
                  · exact HG.out i e
                  · obtain rfl : i = j := by omega
                    rw [HY.out]; exact hyx)
                clear hyx HG
                go_wp2_with fail
                go_quiet (fail)
                clear hc hcy hyx2 hjq3
                go_wp2_with fail
                go_roundw
                case rel => exact ⟨j + 1, by go_num, by omega, HN.out, ow_drewN HO.out, below_drewN HB.out⟩
                case measure => simp [intOf]; omega
              · have hyx2 : decide (y < x) = false := decide_eq_false hyx
                have HN := Lib.hid (show j < q → x ≤ o.getD j 0 from fun _ => by rw [HY.out]; omega)
                clear hyx
                go_wp2_with fail
                go_quiet (fail)
                clear hcy hyx2 hjq3
                go_wp2_with fail
                obtain ⟨P1, hP1, sp1⟩ := slice_pre (P := Try.prog) 24 3 i0 Try.underlying24 HZ.out.1 HZ.out.2.2.1 (some ⟨b, 0, none⟩) q c3 j (by omega)
                obtain ⟨P2, hP2, sp2⟩ := slice_post (P := Try.prog) 24 3 i0 Try.underlying24 HZ.out.1 HZ.out.2.2.1 (some ⟨b, 0, none⟩) q c3 j (by omega) (by omega)
                have HJ := Lib.hid (show j ≤ q by omega)
                have HP1 := Lib.hid hP1
                have HP2 := Lib.hid hP2
                clear hP1 hP2 hc
                generalize hW : wr.drewN nq = W
                have HOW := Lib.hid (show Ow 3 .i64 W w2.heap.size W.heap.size (some ⟨b, 0, none⟩) q c3 o by rw [← hW]; exact ow_drewN HO.out)
                have HBW := Lib.hid (show Below w2.heap.size w2 W by rw [← hW]; exact below_drewN HB.out)
                clear hW HO HB
                obtain ⟨b2, f2, e2, _, hbl, hc⟩ := (HR.out.below HBW.out).at_ hlt
                injection e2 with e2
                injection e2 with e3 e4 _
                subst e3 e4
                rw [HX.out] at hc
                have HBL := Lib.hid (show b' < W.heap.size by have := HBW.out.size; omega)
                have RP := Lib.hid (rd_drew (rd_pre HOW.out.rd HJ.out P1 HP1.out))
                have RQ := Lib.hid (rd_drew (rd_post HOW.out.rd HJ.out P2 HP2.out))
                have HE1 := Lib.hid (show Ow 3 .i64 ((W.drew.alloc (.cells #[.int .i64 x] 3)).alloc (.cells #[] 3)) (W.heap.size + 1) (W.heap.size + 1 + 1) (some ⟨W.heap.size + 1, 0, none⟩) 0 0 [] by have := Ow.empty 3 .i64 (W.drew.alloc (.cells #[.int .i64 x] 3)); simpa using this)
                have HBB := Lib.hid (show Below (W.heap.size + 1) (W.drew.alloc (.cells #[.int .i64 x] 3)) ((W.drew.alloc (.cells #[.int .i64 x] 3)).alloc (.cells #[] 3)) from (Below.refl _ _).alloc (by simp) _)
                have hcD : W.drew.cell? ⟨b', off + k, none⟩ = some (.int .i64 x) := hc
                have HCD := Lib.hid hcD
                have ne1 := World.new_ne W ⟨b', off + k, none⟩ hc
                clear hbl
                go_region_held3 (fun w' => w'.cell? ⟨b', off + k, none⟩ = some (.int .i64 x)) (first | exact hcD | exact k8 | exact k9 | go_keep)
                  (first
                  | (refine step_app rfl _ _ 24 rfl 3 i0 _ .i64 Try.underlying24 HZ.out.1 HZ.out.2.1 HZ.out.2.2.1 (by rw [HZ.out.2.2.2]; omega) rfl rfl rfl (Ow.empty _ _ W.drew) (RP.out.alloc _) (by omega) (by simp) ?_; intro A8 c8 w8 ho8 hb8; have B8 := Lib.hid (((Below.refl W.heap.size W.drew).alloc (Nat.le_refl _) _).trans hb8); have O8r := Lib.hid ho8; have O8 := Lib.hid (show Ow 3 .i64 w8 W.heap.size w8.heap.size A8 j c8 (o.take j) by simpa using O8r.out); have k8 := (B8.out.cell (p := ⟨b', off + k, none⟩) HBL.out).trans HCD.out; have ne8 := World.new_ne w8 ⟨b', off + k, none⟩ k8; clear ho8 hb8)
                  | (refine step_spare rfl _ _ 24 rfl 3 i0 _ .i64 Try.underlying24 HZ.out.1 HZ.out.2.1 HZ.out.2.2.1 (by rw [HZ.out.2.2.2]; omega) rfl rfl rfl ((Ow.empty _ _ W.drew).alloc (.cells #[.int .i64 x] 3)) ((RP.out.alloc _).alloc _) (by omega) (by simp; omega) (c1 := W.heap.size + 1) (c2 := W.heap.size + 2) (fun g o e => by injection e with e; injection e with e _; subst e; left; simp) (by simp) ?_; intro A8 c8 w8 ho8 hb8 hsp; have B8 := Lib.hid ((((Below.refl W.heap.size W.drew).alloc (Nat.le_refl _) _).alloc (by simp) _).trans hb8); have X8 := Lib.hid (show Rd .i64 w8 (W.heap.size + 1) (W.heap.size + 1 + 1) (some ⟨W.heap.size + 1, 0, none⟩) 1 1 [x] by have := (Rd.one .i64 3 (W.drew.alloc (.cells #[] 3)) x HW.out).spared hsp (by simp) (by simp); simpa using this); have O8r := Lib.hid ho8; have O8 := Lib.hid (show Ow 3 .i64 w8 W.heap.size w8.heap.size A8 j c8 (o.take j) by simpa using O8r.out); have k8 := (B8.out.cell (p := ⟨b', off + k, none⟩) HBL.out).trans HCD.out; have ne8 := World.new_ne w8 ⟨b', off + k, none⟩ k8; clear ho8 hb8 hsp)
                  | (refine step_app rfl _ _ 24 rfl 3 i0 _ .i64 Try.underlying24 HZ.out.1 HZ.out.2.1 HZ.out.2.2.1 (by rw [HZ.out.2.2.2]; omega) rfl rfl rfl O8.out X8.out (by omega) B8.out.size ?_; intro A9 c9 w9 ho9 hb9; have B9 := Lib.hid (B8.out.trans hb9); have O9 := Lib.hid ho9; have k9 := (B9.out.cell (p := ⟨b', off + k, none⟩) HBL.out).trans HCD.out; clear ho9 hb9)
                  | (refine step_app rfl _ _ 24 rfl 3 i0 _ .i64 Try.underlying24 HZ.out.1 HZ.out.2.1 HZ.out.2.2.1 (by rw [HZ.out.2.2.2]; omega) rfl rfl rfl O8r.out X8.out (by omega) B8.out.size ?_; intro A9 c9 w9 ho9 hb9; have B9 := Lib.hid (B8.out.trans hb9); have O9 := Lib.hid ho9; have k9 := (B9.out.cell (p := ⟨b', off + k, none⟩) HBL.out).trans HCD.out; clear ho9 hb9)
                  | (refine step_app rfl _ _ 24 rfl 3 i0 _ .i64 Try.underlying24 HZ.out.1 HZ.out.2.1 HZ.out.2.2.1 (by rw [HZ.out.2.2.2]; omega) rfl rfl rfl (O8r.out.alloc _) (Rd.one .i64 _ w8 x HW.out) (by omega) (by have h8 : W.heap.size ≤ w8.heap.size := B8.out.size; simp; omega) ?_; intro A9 c9 w9 ho9 hb9; have B9 := Lib.hid ((B8.out.alloc B8.out.size _).trans hb9); have O9 := Lib.hid ho9; have k9 := (B9.out.cell (p := ⟨b', off + k, none⟩) HBL.out).trans HCD.out; clear ho9 hb9)
                  | (refine step_app rfl _ _ 24 rfl 3 i0 _ .i64 Try.underlying24 HZ.out.1 HZ.out.2.1 HZ.out.2.2.1 (by rw [HZ.out.2.2.2]; omega) rfl rfl rfl (O8.out.alloc _) (Rd.one .i64 _ w8 x HW.out) (by omega) (by have h8 : W.heap.size ≤ w8.heap.size := B8.out.size; simp; omega) ?_; intro A9 c9 w9 ho9 hb9; have B9 := Lib.hid ((B8.out.alloc B8.out.size _).trans hb9); have O9 := Lib.hid ho9; have k9 := (B9.out.cell (p := ⟨b', off + k, none⟩) HBL.out).trans HCD.out; clear ho9 hb9)
                  | (refine step_app rfl _ _ 24 rfl 3 i0 _ .i64 Try.underlying24 HZ.out.1 HZ.out.2.1 HZ.out.2.2.1 (by rw [HZ.out.2.2.2]; omega) rfl rfl rfl O9.out (RQ.out.below B9.out) (by omega) B9.out.size ?_; intro A10 c10 w10 ho10 hb10; have B10 := Lib.hid (B9.out.trans hb10); have O10 := Lib.hid ho10; have k10 := (B10.out.cell (p := ⟨b', off + k, none⟩) HBL.out).trans HCD.out; clear ho10 hb10)
                  | (refine step_app rfl _ _ 24 rfl 3 i0 _ .i64 Try.underlying24 HZ.out.1 HZ.out.2.1 HZ.out.2.2.1 (by rw [HZ.out.2.2.2]; omega) rfl rfl rfl HE1.out ((RP.out.alloc _).alloc _) (by omega) (by simp) ?_; intro A8 c8 w8 ho8 hb8; have hb9 := HBB.out.trans hb8; have B8 := Lib.hid (((Below.refl W.heap.size W.drew).alloc (Nat.le_refl _) (.cells #[.int .i64 x] 3)).trans (hb9.mono (Nat.le_succ _))); have X8 := Lib.hid ((Rd.one .i64 3 W.drew x HW.out).same hb9.size (fun bb h1 h2 => hb9.block bb h2)); have O8r := Lib.hid (ho8.down (lo2 := W.heap.size) (Nat.le_succ _)); have O8 := Lib.hid (show Ow 3 .i64 w8 W.heap.size w8.heap.size A8 j c8 (o.take j) by simpa using O8r.out); have k8 := (B8.out.cell (p := ⟨b', off + k, none⟩) HBL.out).trans HCD.out; have ne8 := World.new_ne w8 ⟨b', off + k, none⟩ k8; clear ho8 hb8 hb9))
                all_goals
                 (clear k8 ne8 k9 k10 hc hcD ne1
                  have hlen := HD.out.len
                  have HN9 := Lib.hid (some_put HD.out HK.out HX.out (by rw [HC.out]; exact HRr.out) HNo.out HG.out (by have := HOW.out.len; have := HJ.out; omega) (by have h1 := HOW.out.len; have h2 := HN.out; rw [h1]; exact h2))
                  obtain ⟨b9, rfl, _⟩ := own_some O10.out (by omega)
                  have HO10 := Lib.hid (show Ow 3 .i64 w10 w2.heap.size w10.heap.size _ _ _ (o.take j ++ [x] ++ o.drop j) by have := O10.out.down HBW.out.size; simpa using this)
                  have HB10 := Lib.hid ((below_drew HBW.out).trans (B10.out.mono HBW.out.size))
                  go_wp2
                  go_roundw
                  case rel => exact ⟨k + 1, _, _, _, _, by go_num, rfl, by omega, HN9.out, HO10.out, HB10.out⟩
                  case measure => simp [intOf]; omega)
            · have hjq3 : decide ((j : Int) < q) = false := decide_eq_false (by omega)
              have hjq4 : decide (j < q) = false := decide_eq_false hjq
              have HN := Lib.hid (show j < q → x ≤ o.getD j 0 from fun g => absurd g hjq)
              · clear hjq
                go_wp2_with fail
                go_quiet (fail)
                clear hjq3 hjq4
                go_wp2_with fail
                obtain ⟨P1, hP1, sp1⟩ := slice_pre (P := Try.prog) 24 3 i0 Try.underlying24 HZ.out.1 HZ.out.2.2.1 (some ⟨b, 0, none⟩) q c3 j (by omega)
                obtain ⟨P2, hP2, sp2⟩ := slice_post (P := Try.prog) 24 3 i0 Try.underlying24 HZ.out.1 HZ.out.2.2.1 (some ⟨b, 0, none⟩) q c3 j (by omega) (by omega)
                have HJ := Lib.hid (show j ≤ q by omega)
                have HP1 := Lib.hid hP1
                have HP2 := Lib.hid hP2
                clear hP1 hP2 hc
                generalize hW : wr.drewN nq = W
                have HOW := Lib.hid (show Ow 3 .i64 W w2.heap.size W.heap.size (some ⟨b, 0, none⟩) q c3 o by rw [← hW]; exact ow_drewN HO.out)
                have HBW := Lib.hid (show Below w2.heap.size w2 W by rw [← hW]; exact below_drewN HB.out)
                clear hW HO HB
                obtain ⟨b2, f2, e2, _, hbl, hc⟩ := (HR.out.below HBW.out).at_ hlt
                injection e2 with e2
                injection e2 with e3 e4 _
                subst e3 e4
                rw [HX.out] at hc
                have HBL := Lib.hid (show b' < W.heap.size by have := HBW.out.size; omega)
                have RP := Lib.hid (rd_drew (rd_pre HOW.out.rd HJ.out P1 HP1.out))
                have RQ := Lib.hid (rd_drew (rd_post HOW.out.rd HJ.out P2 HP2.out))
                have HE1 := Lib.hid (show Ow 3 .i64 ((W.drew.alloc (.cells #[.int .i64 x] 3)).alloc (.cells #[] 3)) (W.heap.size + 1) (W.heap.size + 1 + 1) (some ⟨W.heap.size + 1, 0, none⟩) 0 0 [] by have := Ow.empty 3 .i64 (W.drew.alloc (.cells #[.int .i64 x] 3)); simpa using this)
                have HBB := Lib.hid (show Below (W.heap.size + 1) (W.drew.alloc (.cells #[.int .i64 x] 3)) ((W.drew.alloc (.cells #[.int .i64 x] 3)).alloc (.cells #[] 3)) from (Below.refl _ _).alloc (by simp) _)
                have hcD : W.drew.cell? ⟨b', off + k, none⟩ = some (.int .i64 x) := hc
                have HCD := Lib.hid hcD
                have ne1 := World.new_ne W ⟨b', off + k, none⟩ hc
                clear hbl
                go_region_held3 (fun w' => w'.cell? ⟨b', off + k, none⟩ = some (.int .i64 x)) (first | exact hcD | exact k8 | exact k9 | go_keep)
                  (first
                  | (refine step_app rfl _ _ 24 rfl 3 i0 _ .i64 Try.underlying24 HZ.out.1 HZ.out.2.1 HZ.out.2.2.1 (by rw [HZ.out.2.2.2]; omega) rfl rfl rfl (Ow.empty _ _ W.drew) (RP.out.alloc _) (by omega) (by simp) ?_; intro A8 c8 w8 ho8 hb8; have B8 := Lib.hid (((Below.refl W.heap.size W.drew).alloc (Nat.le_refl _) _).trans hb8); have O8r := Lib.hid ho8; have O8 := Lib.hid (show Ow 3 .i64 w8 W.heap.size w8.heap.size A8 j c8 (o.take j) by simpa using O8r.out); have k8 := (B8.out.cell (p := ⟨b', off + k, none⟩) HBL.out).trans HCD.out; have ne8 := World.new_ne w8 ⟨b', off + k, none⟩ k8; clear ho8 hb8)
                  | (refine step_spare rfl _ _ 24 rfl 3 i0 _ .i64 Try.underlying24 HZ.out.1 HZ.out.2.1 HZ.out.2.2.1 (by rw [HZ.out.2.2.2]; omega) rfl rfl rfl ((Ow.empty _ _ W.drew).alloc (.cells #[.int .i64 x] 3)) ((RP.out.alloc _).alloc _) (by omega) (by simp; omega) (c1 := W.heap.size + 1) (c2 := W.heap.size + 2) (fun g o e => by injection e with e; injection e with e _; subst e; left; simp) (by simp) ?_; intro A8 c8 w8 ho8 hb8 hsp; have B8 := Lib.hid ((((Below.refl W.heap.size W.drew).alloc (Nat.le_refl _) _).alloc (by simp) _).trans hb8); have X8 := Lib.hid (show Rd .i64 w8 (W.heap.size + 1) (W.heap.size + 1 + 1) (some ⟨W.heap.size + 1, 0, none⟩) 1 1 [x] by have := (Rd.one .i64 3 (W.drew.alloc (.cells #[] 3)) x HW.out).spared hsp (by simp) (by simp); simpa using this); have O8r := Lib.hid ho8; have O8 := Lib.hid (show Ow 3 .i64 w8 W.heap.size w8.heap.size A8 j c8 (o.take j) by simpa using O8r.out); have k8 := (B8.out.cell (p := ⟨b', off + k, none⟩) HBL.out).trans HCD.out; have ne8 := World.new_ne w8 ⟨b', off + k, none⟩ k8; clear ho8 hb8 hsp)
                  | (refine step_app rfl _ _ 24 rfl 3 i0 _ .i64 Try.underlying24 HZ.out.1 HZ.out.2.1 HZ.out.2.2.1 (by rw [HZ.out.2.2.2]; omega) rfl rfl rfl O8.out X8.out (by omega) B8.out.size ?_; intro A9 c9 w9 ho9 hb9; have B9 := Lib.hid (B8.out.trans hb9); have O9 := Lib.hid ho9; have k9 := (B9.out.cell (p := ⟨b', off + k, none⟩) HBL.out).trans HCD.out; clear ho9 hb9)
                  | (refine step_app rfl _ _ 24 rfl 3 i0 _ .i64 Try.underlying24 HZ.out.1 HZ.out.2.1 HZ.out.2.2.1 (by rw [HZ.out.2.2.2]; omega) rfl rfl rfl O8r.out X8.out (by omega) B8.out.size ?_; intro A9 c9 w9 ho9 hb9; have B9 := Lib.hid (B8.out.trans hb9); have O9 := Lib.hid ho9; have k9 := (B9.out.cell (p := ⟨b', off + k, none⟩) HBL.out).trans HCD.out; clear ho9 hb9)
                  | (refine step_app rfl _ _ 24 rfl 3 i0 _ .i64 Try.underlying24 HZ.out.1 HZ.out.2.1 HZ.out.2.2.1 (by rw [HZ.out.2.2.2]; omega) rfl rfl rfl (O8r.out.alloc _) (Rd.one .i64 _ w8 x HW.out) (by omega) (by have h8 : W.heap.size ≤ w8.heap.size := B8.out.size; simp; omega) ?_; intro A9 c9 w9 ho9 hb9; have B9 := Lib.hid ((B8.out.alloc B8.out.size _).trans hb9); have O9 := Lib.hid ho9; have k9 := (B9.out.cell (p := ⟨b', off + k, none⟩) HBL.out).trans HCD.out; clear ho9 hb9)
                  | (refine step_app rfl _ _ 24 rfl 3 i0 _ .i64 Try.underlying24 HZ.out.1 HZ.out.2.1 HZ.out.2.2.1 (by rw [HZ.out.2.2.2]; omega) rfl rfl rfl (O8.out.alloc _) (Rd.one .i64 _ w8 x HW.out) (by omega) (by have h8 : W.heap.size ≤ w8.heap.size := B8.out.size; simp; omega) ?_; intro A9 c9 w9 ho9 hb9; have B9 := Lib.hid ((B8.out.alloc B8.out.size _).trans hb9); have O9 := Lib.hid ho9; have k9 := (B9.out.cell (p := ⟨b', off + k, none⟩) HBL.out).trans HCD.out; clear ho9 hb9)
                  | (refine step_app rfl _ _ 24 rfl 3 i0 _ .i64 Try.underlying24 HZ.out.1 HZ.out.2.1 HZ.out.2.2.1 (by rw [HZ.out.2.2.2]; omega) rfl rfl rfl O9.out (RQ.out.below B9.out) (by omega) B9.out.size ?_; intro A10 c10 w10 ho10 hb10; have B10 := Lib.hid (B9.out.trans hb10); have O10 := Lib.hid ho10; have k10 := (B10.out.cell (p := ⟨b', off + k, none⟩) HBL.out).trans HCD.out; clear ho10 hb10)
                  | (refine step_app rfl _ _ 24 rfl 3 i0 _ .i64 Try.underlying24 HZ.out.1 HZ.out.2.1 HZ.out.2.2.1 (by rw [HZ.out.2.2.2]; omega) rfl rfl rfl HE1.out ((RP.out.alloc _).alloc _) (by omega) (by simp) ?_; intro A8 c8 w8 ho8 hb8; have hb9 := HBB.out.trans hb8; have B8 := Lib.hid (((Below.refl W.heap.size W.drew).alloc (Nat.le_refl _) (.cells #[.int .i64 x] 3)).trans (hb9.mono (Nat.le_succ _))); have X8 := Lib.hid ((Rd.one .i64 3 W.drew x HW.out).same hb9.size (fun bb h1 h2 => hb9.block bb h2)); have O8r := Lib.hid (ho8.down (lo2 := W.heap.size) (Nat.le_succ _)); have O8 := Lib.hid (show Ow 3 .i64 w8 W.heap.size w8.heap.size A8 j c8 (o.take j) by simpa using O8r.out); have k8 := (B8.out.cell (p := ⟨b', off + k, none⟩) HBL.out).trans HCD.out; have ne8 := World.new_ne w8 ⟨b', off + k, none⟩ k8; clear ho8 hb8 hb9))
                all_goals
                 (clear k8 ne8 k9 k10 hc hcD ne1
                  have hlen := HD.out.len
                  have HN9 := Lib.hid (some_put HD.out HK.out HX.out (by rw [HC.out]; exact HRr.out) HNo.out HG.out (by have := HOW.out.len; have := HJ.out; omega) (by have h1 := HOW.out.len; have h2 := HN.out; rw [h1]; exact h2))
                  obtain ⟨b9, rfl, _⟩ := own_some O10.out (by omega)
                  have HO10 := Lib.hid (show Ow 3 .i64 w10 w2.heap.size w10.heap.size _ _ _ (o.take j ++ [x] ++ o.drop j) by have := O10.out.down HBW.out.size; simpa using this)
                  have HB10 := Lib.hid ((below_drew HBW.out).trans (B10.out.mono HBW.out.size))
                  go_wp2
                  go_roundw
                  case rel => exact ⟨k + 1, _, _, _, _, by go_num, rfl, by omega, HN9.out, HO10.out, HB10.out⟩
                  case measure => simp [intOf]; omega)
        · have HN := Lib.hid (some_had HD.out HK.out HX.out (List.count_pos_iff.1 (by rw [HDc.out]; exact h0)))
          have hDle : D ≤ 134217728 := by have h1 := List.count_le_length (a := x) (l := o); rw [HDc.out] at h1; have := HO.out.len; omega
          have hD2 : (0 : Int) < D := by omega
          go_wp2_with fail
          (with_reducible refine (count_ S x _ _ _ N _ _ HRW.out (by omega)).mono ?_)
          rw [HC.out]
          rintro e w3 ⟨rfl, rfl⟩
          go_wp2_with fail
          (with_reducible refine (count_ o x _ _ _ q _ _ HO.out.rd (by omega)).mono ?_)
          rw [HDc.out]
          rintro e w3 ⟨rfl, rfl⟩
          go_wp2_with fail
          go_roundw
          case rel => exact ⟨k + 1, _, _, _, _, by go_num, rfl, by omega, HN.out, HO.out, HB.out⟩
          case measure => simp [intOf]; omega
    · have hlt2 : ¬ (k : Int) < N := by omega
      have HM := Lib.hid (Odds.eq (some_end HD.out (by rw [HSl.out]; omega)))
      go_wp2_with fail
      go_ret
      rw [HSS.out, HM.out]
      exact ⟨_, _, _, rfl, HO.out.down HB2.out.size, HB2.out.trans (HB.out.mono HB2.out.size)⟩
end Go.Proofs.Ytcfgjlolabnolaa.chw
