/- The program's table of parameters and ParamsFor, program and specification; comparison of parameters. Condition: the table reads as laid. -/
import Derived.Test.YtkfkfejjhfkobaaDoorAc3
import Derived.Test.YtkfkfejjhfkobaaDoorDraw2
import Derived.Laws.CopyRow
import Derived.Deep.RegionLaw
import Derived.Deep.MidRow
namespace Go.Proofs.YtkfkfejjhfkobaaDoor.bx
open Go.RowKit sl harn rng acm
set_option linter.unusedVariables false

/-- 'copy' of a whole row onto a whole block of the call's own, whatever the elements' size, as one step of a region that draws. -/
theorem step_copy_all {P : Program} {ops : Array Oper} {o : Oper} {a : Act} {w : World} {K : Act → World → Prop} {Q : Exit → Act → World → Prop} {E : Prop} (hgd : o.guard = none) (d s : Operand) (dT sT : TypeId)
    (ho : o.op = .call { callee := .builtin .copy, args := #[d, s], argTypes := #[dT, sT] }) (elem : TypeId) (hu : P.underlying dT = some (.slice elem)) (m : Nat) (hsz : (P.info? elem).map (·.size) = some m)
    (g n dCap : Nat) (ad : Addr) (sCap : Nat) (hd : a.eval d = .slice (some ⟨g, 0, none⟩) n dCap) (hs : a.eval s = .slice (some ad) n sCap)
    (cur : Array Value) (t : TypeId) (hg : w.heap[g]? = some (.cells cur t (0, 0))) (cs : List Value) (hn : cs.length = n * m)
    (hsrc : ∀ j v, cs[j]? = some v → w.cell? (ad.add j) = some v) (hfit : cur.size = cs.length) (h1 : ∀ v ∈ cs, v.oneCell' = true) (B : Nat) (w0 : World) (hb : Below B w0 w) (hBg : B ≤ g)
    (h : ∀ w', Hid (w'.heap[g]? = some (.cells cs.toArray t (0, 0))) → Below B w0 w' → K (a.put o.dst (goInt n)) w') :
    if Region.wanted o (yielded ops a.tmps) = true then Oper.wp P o a w K Q else E := by
  have hw : Region.wanted o (yielded ops a.tmps) = true := by simp [Region.wanted, hgd]
  rw [if_pos hw]
  have hl := run_loadCells_list (P := P) w ad cs hsrc
  have hst := run_storeCells_at P g 0 t cs 0 cur w hg (by simp; omega) h1
  have hrow : (cur.toList.take (0 + 0) ++ cs ++ cur.toList.drop (0 + 0 + cs.length)).toArray = cs.toArray := by
    rw [Nat.add_zero, Nat.zero_add, List.take_zero, List.drop_eq_nil_of_le (by simp; omega)]
    simp
  rw [hrow] at hst
  rw [hn] at hl
  have hrun : (Builtin.copy_ #[dT, sT] o.type #[.slice (some ⟨g, 0, none⟩) n dCap, .slice (some ad) n sCap]).run P w = .ok (goInt n) (w.setRow g cs.toArray) := by
    cases hq : P.info? elem with
    | none => simp [hq] at hsz
    | some i =>
      have hi : i.size = m := by simpa [hq] using hsz
      simp [Builtin.copy_, run_underlying hu, Builtin.lenOf, Builtin.firstCells, sizeOf, typeInfo, hq, hi, hl, hst]
  unfold Oper.wp
  simp [execOp, ho, resolve, invoke, builtin, hd, hs, hrun, Result.andThen]
  refine h _ (show _ = _ from setRow_heap w g _ _ t _ hg) (hb.trans ⟨rfl, rfl, rfl, by simp [World.setRow], fun k hk => setRow_other w g k _ (by omega)⟩)

/-- The table's sixteen numbers. -/
def tcs : List Int := [7, 15, 1023, 10, 3, 15, 1023, 10, 2, 7, 15, 40, 2, 3, 7, 20]
/-- The program's table reads as laid. -/
def Tbl (w : World) : Prop := ∃ (b off cap : Nat), w.cell? ⟨0, 0, none⟩ = some (.slice (some ⟨b, off, none⟩) 4 cap) ∧ 4 ≤ cap ∧ ∀ i v, tcs[i]? = some v → w.cell? ⟨b, off + i, none⟩ = some (.int .i64 v)
theorem Tbl.below {w w' : World} (h : Tbl w) (hb : Below w.heap.size w w') : Tbl w' := by
  obtain ⟨b, off, cap, h1, h2, h3⟩ := h
  refine ⟨b, off, cap, by rw [hb.cell (draw.lt_of_cell h1)]; exact h1, h2, fun i v hi => ?_⟩
  have := h3 i v hi
  rw [hb.cell (draw.lt_of_cell this)]; exact this
abbrev tvs : List Value := [.int .i64 7, .int .i64 15, .int .i64 1023, .int .i64 10, .int .i64 3, .int .i64 15, .int .i64 1023, .int .i64 10, .int .i64 2, .int .i64 7, .int .i64 15, .int .i64 40, .int .i64 2, .int .i64 3, .int .i64 7, .int .i64 20]
theorem tvs_map : tcs.map (Value.int .i64) = tvs := rfl
theorem tvs_one : ∀ v ∈ tvs, v.oneCell' = true := by decide
abbrev z16 : Array Value := #[.int .i64 0, .int .i64 0, .int .i64 0, .int .i64 0, .int .i64 0, .int .i64 0, .int .i64 0, .int .i64 0, .int .i64 0, .int .i64 0, .int .i64 0, .int .i64 0, .int .i64 0, .int .i64 0, .int .i64 0, .int .i64 0]
theorem src_at {w : World} {b off : Nat} (h : ∀ i v, tcs[i]? = some v → w.cell? ⟨b, off + i, none⟩ = some (.int .i64 v)) : ∀ j v, tvs[j]? = some v → w.cell? ((⟨b, off, none⟩ : Addr).add j) = some v := by
  intro j v hj
  rw [← tvs_map, List.getElem?_map] at hj
  cases hx : tcs[j]? with
  | none => rw [hx] at hj; cases hj
  | some x =>
    rw [hx] at hj
    obtain rfl : Value.int .i64 x = v := Option.some.inj hj
    have e : (⟨b, off, none⟩ : Addr).add j = ⟨b, off + j, none⟩ := by unfold Addr.add; split <;> simp_all
    rw [e]; exact h j x hx
theorem below_cells {B b : Nat} {w0 : World} : ∀ (vs : List Value) (o : Nat) (w : World), Below B w0 w → B ≤ b → Below B w0 (w.setCells b o vs)
  | [], _, _, h, _ => h
  | v :: r, o, w, h, hB => by rw [World.setCells]; exact below_cells r (o + 1) _ (h.setCell (p := ⟨b, o, none⟩) hB v) hB
theorem back_var {P : Program} {w : World} {b : Nat} {ty : TypeId} {cs : List Value} {d : TypeDesc} (hc : w.rangeAt b 0 cs) (hu : P.underlying ty = some d) (hd : d.isRow = true) (hi : (P.info? ty).map (·.size) = some cs.length) :
    ((asAddr (.pointer (some ⟨b, 0, none⟩))).run P w).andThen (fun a w₁ => (loadVar ty a).run P w₁) = .ok (.agg cs.toArray) w :=
  run_loadVar_mid w b 0 ty cs d hc hu hd hi
theorem cells_run {P : Program} {w : World} {b : Nat} {cs : List Value} (ht : w.there b 0 cs.length) (h1 : ∀ v ∈ cs, v.oneCell' = true) : (storeCells ⟨b, 0, none⟩ cs.toArray.toList).run P w = .ok () (w.setCells b 0 cs) := by
  have := run_storeCells_cells (P := P) b 0 cs 0 w (fun j hj => by simpa using (ht j hj).1) (fun j hj => by simpa using (ht j hj).2) h1
  simpa using this
theorem range_bx {T : TypeId} {w : World} {b : Nat} {cs : List Value} (h : Bx T w b cs.toArray) : w.rangeAt b 0 cs := fun j v hj => by
  rw [Nat.zero_add, h.cell j]; simpa using hj
theorem there_bx {T : TypeId} {w : World} {b n : Nat} {cs : Array Value} (h : Bx T w b cs) (hn : n ≤ cs.size) : w.there b 0 n := fun j hj => by
  rw [Nat.zero_add, h.cell j]
  exact ⟨by simp; omega, h.free j⟩
set_option maxRecDepth 100000 in
set_option maxHeartbeats 4000000 in
theorem implTab (w : World) (h : Tbl w) :
    Calls Tryd.prog 33 #[] w fun e w' => e = .returned (.agg tvs.toArray) ∧ Below w.heap.size w w' := by
  have HT := Lib.hid h
  clear h
  have hi : (Tryd.prog.info? 26).map (·.size) = some 4 := by kernel_rfl
  go_enter Tryd.func33, Tryd.ntmps33
  go_wp2_with fail
  obtain ⟨w1, hW⟩ : ∃ w1, (w.alloc (.cells z16 51)).alloc (.cells z16 51) = w1 := ⟨_, rfl⟩
  rw [hW]
  have B1 := Lib.hid (show Below w.heap.size w w1 by rw [← hW]; exact below_box2 w _ _)
  have X1 := Lib.hid (show Bx 51 w1 w.heap.size z16 by rw [← hW]; exact (Bx.made _ w _).below (below_box _ _))
  have Y1 := Lib.hid (show Bx 51 w1 (w.heap.size + 1) z16 by rw [← hW]; have hh := Bx.made 51 (w.alloc (.cells z16 51)) z16; simpa using hh)
  have B1D := Lib.hid (show Below w.heap.size w w1.drew from own.below_drew B1.out)
  have X1D := Lib.hid (show Bx 51 w1.drew w.heap.size z16 from X1.out)
  have Y1D := Lib.hid (show Bx 51 w1.drew (w.heap.size + 1) z16 from Y1.out)
  obtain ⟨b, off, cap, h1, h2, h3⟩ := HT.out.below B1D.out
  have HS := Lib.hid (src_at h3)
  have HI := Lib.hid hi
  clear hW h3 hi HT B1 X1 Y1
  go_region_law (refine step_copy_all rfl _ _ 63 63 rfl 26 Tryd.underlying63 4 HI.out (w.heap.size + 1) 4 4 ⟨b, off, none⟩ cap rfl rfl z16 51 Y1D.out tvs rfl HS.out rfl tvs_one (w.heap.size + 1) w1.drew (Below.refl _ _) (Nat.le_refl _) ?_; intro w3 hg3 hb3)
  have S1 := Lib.hid (show w.heap.size < w1.drew.heap.size from X1D.out.lt)
  have Y3 : Bx 51 w3 (w.heap.size + 1) tvs.toArray := hg3.out
  have X3 := X1D.out.up hb3 (Nat.lt_succ_self _)
  have B3 := Lib.hid (B1D.out.trans (⟨hb3.os, hb3.tape, hb3.output, hb3.size, fun k hk => hb3.block k (by omega)⟩ : Below w.heap.size w1.drew w3))
  have R3 := Lib.hid (range_bx Y3)
  have Q3 := Lib.hid (there_bx X3 (n := 16) (by decide))
  have H43 := Lib.hid (show (Tryd.prog.info? 51).map (·.size) = some tvs.length by kernel_rfl)
  have ON := Lib.hid (show tvs.toArray.all (·.oneCell') = true from all_oneCell_toArray tvs_one)
  clear X3 Y3 hg3 hb3 HS HI h1 h2 B1D X1D Y1D
  go_wp2_with (first
    | (refine wpList_load_mid rfl 51 _ rfl (w.heap.size + 1) 0 rfl tvs _ R3.out Tryd.underlying51 rfl H43.out ?_)
    | (refine wpList_store_mid rfl 51 _ _ rfl w.heap.size 0 tvs.toArray rfl rfl Q3.out H43.out ON.out ?_))
  refine bodyPost_ret (v := .agg tvs.toArray) ?_ rfl ⟨rfl, ?_⟩
  · rw [results_cell1 rfl]
    exact back_var (World.rangeAt_setCells_same _ _ _ _ Q3.out) Tryd.underlying51 rfl H43.out
  · exact below_cells tvs 0 _ B3.out (Nat.le_refl _)

/-- The parameters of a category. -/
def pvs (x : Int) : Int × Int × Int × Int := if x = 0 then (7, 15, 1023, 10) else if x = 1 then (3, 15, 1023, 10) else if x = 2 then (2, 7, 15, 40) else if x = 3 then (2, 3, 7, 20) else (0, 0, 0, 0)
/-- Parameters that a function hands back. -/
def APost (q : Int × Int × Int × Int) (w : World) (e : Ending) (w' : World) : Prop := e = .returned (.agg #[.int .i64 q.1, .int .i64 q.2.1, .int .i64 q.2.2.1, .int .i64 q.2.2.2]) ∧ Below w.heap.size w w'
theorem pvs_out {x : Int} (h : ¬ (0 ≤ x ∧ x ≤ 3)) : pvs x = (0, 0, 0, 0) := by
  unfold pvs
  rw [if_neg (by omega), if_neg (by omega), if_neg (by omega), if_neg (by omega)]
set_option maxRecDepth 100000 in
set_option maxHeartbeats 4000000 in
theorem specPar (x : Int) (w : World) :
    Calls Tryd.prog 30 #[.int .i64 x] w (APost (pvs x) w) := by
  by_cases hr : 0 ≤ x ∧ x ≤ 3
  · rcases four hr with rfl | rfl | rfl | rfl
    · clear hr
      go_enter Tryd.func30, Tryd.ntmps30
      go_wp2_with fail
      (try simp only [Exit.inBlock, Exit.then])
      refine bodyPost_ret (v := .agg #[.int .i64 7, .int .i64 15, .int .i64 1023, .int .i64 10]) ?_ rfl ⟨rfl, ?_⟩
      · rw [results_cell1 rfl]
        go_simp
      · (repeat' (first | exact Below.refl _ _ | refine Below.setCell ?_ (by simp) _ | refine Below.alloc ?_ (by simp <;> omega) _))
    · clear hr
      go_enter Tryd.func30, Tryd.ntmps30
      go_wp2_with fail
      (try simp only [Exit.inBlock, Exit.then])
      refine bodyPost_ret (v := .agg #[.int .i64 3, .int .i64 15, .int .i64 1023, .int .i64 10]) ?_ rfl ⟨rfl, ?_⟩
      · rw [results_cell1 rfl]
        go_simp
      · (repeat' (first | exact Below.refl _ _ | refine Below.setCell ?_ (by simp) _ | refine Below.alloc ?_ (by simp <;> omega) _))
    · clear hr
      go_enter Tryd.func30, Tryd.ntmps30
      go_wp2_with fail
      (try simp only [Exit.inBlock, Exit.then])
      refine bodyPost_ret (v := .agg #[.int .i64 2, .int .i64 7, .int .i64 15, .int .i64 40]) ?_ rfl ⟨rfl, ?_⟩
      · rw [results_cell1 rfl]
        go_simp
      · (repeat' (first | exact Below.refl _ _ | refine Below.setCell ?_ (by simp) _ | refine Below.alloc ?_ (by simp <;> omega) _))
    · clear hr
      go_enter Tryd.func30, Tryd.ntmps30
      go_wp2_with fail
      (try simp only [Exit.inBlock, Exit.then])
      refine bodyPost_ret (v := .agg #[.int .i64 2, .int .i64 3, .int .i64 7, .int .i64 20]) ?_ rfl ⟨rfl, ?_⟩
      · rw [results_cell1 rfl]
        go_simp
      · (repeat' (first | exact Below.refl _ _ | refine Below.setCell ?_ (by simp) _ | refine Below.alloc ?_ (by simp <;> omega) _))
  · rw [pvs_out hr]
    have e0 : (x == 0) = false := by simp; omega
    have e1 : (x == 1) = false := by simp; omega
    have e2 : (x == 2) = false := by simp; omega
    have e3 : (x == 3) = false := by simp; omega
    clear hr
    go_enter Tryd.func30, Tryd.ntmps30
    go_wp2_with fail
    (try simp only [Exit.inBlock, Exit.then])
    refine bodyPost_ret (v := .agg #[.int .i64 0, .int .i64 0, .int .i64 0, .int .i64 0]) ?_ rfl ⟨rfl, ?_⟩
    · rw [results_cell1 rfl]
      go_simp
    · (repeat' (first | exact Below.refl _ _ | refine Below.setCell ?_ (by simp) _ | refine Below.alloc ?_ (by simp <;> omega) _))
set_option maxRecDepth 100000 in
set_option maxHeartbeats 4000000 in
theorem implPar (x : Int) (w : World) (h : Tbl w) :
    Calls Tryd.prog 18 #[.int .i64 x] w (APost (pvs x) w) := by
  have HT := Lib.hid h
  clear h
  by_cases hr : 0 ≤ x ∧ x ≤ 3
  · rcases four hr with rfl | rfl | rfl | rfl
    · clear hr
      go_enter Tryd.func18, Tryd.ntmps18
      go_wp2_with fail
      obtain ⟨w0, hW⟩ : ∃ w0, w.alloc (.cells #[.int .i64 0, .int .i64 0, .int .i64 0, .int .i64 0] 26) = w0 := ⟨_, rfl⟩
      rw [hW]
      have B0 := Lib.hid (show Below w.heap.size w w0 by rw [← hW]; exact below_box _ _)
      have X0 := Lib.hid (show Bx 26 w0 w.heap.size #[.int .i64 0, .int .i64 0, .int .i64 0, .int .i64 0] by rw [← hW]; exact Bx.made _ _ _)
      have T0 := Lib.hid (HT.out.below B0.out)
      clear hW HT
      (with_reducible refine (isCat 0 true _ rfl).mono ?_)
      rintro e w1 ⟨rfl, rfl⟩
      go_wp2_with fail
      (with_reducible refine (implTab _ T0.out).mono ?_)
      rintro e w2 ⟨rfl, hb⟩
      have B2 := Lib.hid (B0.out.trans (hb.mono B0.out.size))
      have X2 := Lib.hid (X0.out.below hb)
      clear hb B0 X0 T0
      obtain ⟨tv, htv⟩ : ∃ tv : Array Value, tv = tvs.toArray := ⟨_, rfl⟩
      rw [← htv]
      have N3 := Lib.hid (there_bx (Bx.made 51 w2 z16) (n := 16) (by decide))
      have hsz : tv.size = 16 := by rw [htv]; rfl
      have hs1 : (storeCells ⟨w2.heap.size, 0, none⟩ tv.toList).run Tryd.prog (w2.alloc (.cells #[.int .i64 0, .int .i64 0, .int .i64 0, .int .i64 0, .int .i64 0, .int .i64 0, .int .i64 0, .int .i64 0, .int .i64 0, .int .i64 0, .int .i64 0, .int .i64 0, .int .i64 0, .int .i64 0, .int .i64 0, .int .i64 0] 51)) = .ok () ((w2.alloc (.cells z16 51)).setCells w2.heap.size 0 tvs) := by rw [htv]; exact cells_run N3.out tvs_one
      have R4 := World.rangeAt_setCells_same (w2.alloc (.cells z16 51)) w2.heap.size 0 tvs N3.out
      have D4 : Below w2.heap.size w2 ((w2.alloc (.cells z16 51)).setCells w2.heap.size 0 tvs) := below_cells (b := w2.heap.size) tvs 0 _ (below_box _ _) (Nat.le_refl _)
      obtain ⟨w4, hw4⟩ : ∃ w4, ((w2.alloc (.cells z16 51)).setCells w2.heap.size 0 tvs) = w4 := ⟨_, rfl⟩
      rw [hw4] at hs1 R4 D4
      have X4 := Lib.hid (X2.out.below D4)
      have B4 := Lib.hid (B2.out.trans (D4.mono B2.out.size))
      clear hw4 N3 htv X2 B2 D4
      have x0 : w4.cell? ⟨w.heap.size, 0, none⟩ = some (.int .i64 0) := X4.out.cell 0
      have x1 : w4.cell? ⟨w.heap.size, 1, none⟩ = some (.int .i64 0) := X4.out.cell 1
      have x2 : w4.cell? ⟨w.heap.size, 2, none⟩ = some (.int .i64 0) := X4.out.cell 2
      have x3 : w4.cell? ⟨w.heap.size, 3, none⟩ = some (.int .i64 0) := X4.out.cell 3
      have f0 : w4.frozen? ⟨w.heap.size, 0, none⟩ = false := X4.out.free 0
      have f1 : w4.frozen? ⟨w.heap.size, 1, none⟩ = false := X4.out.free 1
      have f2 : w4.frozen? ⟨w.heap.size, 2, none⟩ = false := X4.out.free 2
      have f3 : w4.frozen? ⟨w.heap.size, 3, none⟩ = false := X4.out.free 3
      have y0 : w4.cell? ⟨w2.heap.size, 0, none⟩ = some (.int .i64 7) := by simpa using R4 0 _ rfl
      have y1 : w4.cell? ⟨w2.heap.size, 1, none⟩ = some (.int .i64 15) := by simpa using R4 1 _ rfl
      have y2 : w4.cell? ⟨w2.heap.size, 2, none⟩ = some (.int .i64 1023) := by simpa using R4 2 _ rfl
      have y3 : w4.cell? ⟨w2.heap.size, 3, none⟩ = some (.int .i64 10) := by simpa using R4 3 _ rfl
      clear R4
      go_wp2_with fail
      (try simp only [Exit.inBlock, Exit.then])
      refine bodyPost_ret (v := .agg #[.int .i64 7, .int .i64 15, .int .i64 1023, .int .i64 10]) ?_ rfl ⟨rfl, ?_⟩
      · rw [results_cell1 rfl]
        go_simp
      · (repeat' (first | exact B4.out | refine Below.setCell ?_ (by simp) _))
    · clear hr
      go_enter Tryd.func18, Tryd.ntmps18
      go_wp2_with fail
      obtain ⟨w0, hW⟩ : ∃ w0, w.alloc (.cells #[.int .i64 0, .int .i64 0, .int .i64 0, .int .i64 0] 26) = w0 := ⟨_, rfl⟩
      rw [hW]
      have B0 := Lib.hid (show Below w.heap.size w w0 by rw [← hW]; exact below_box _ _)
      have X0 := Lib.hid (show Bx 26 w0 w.heap.size #[.int .i64 0, .int .i64 0, .int .i64 0, .int .i64 0] by rw [← hW]; exact Bx.made _ _ _)
      have T0 := Lib.hid (HT.out.below B0.out)
      clear hW HT
      (with_reducible refine (isCat 1 true _ rfl).mono ?_)
      rintro e w1 ⟨rfl, rfl⟩
      go_wp2_with fail
      (with_reducible refine (implTab _ T0.out).mono ?_)
      rintro e w2 ⟨rfl, hb⟩
      have B2 := Lib.hid (B0.out.trans (hb.mono B0.out.size))
      have X2 := Lib.hid (X0.out.below hb)
      clear hb B0 X0 T0
      obtain ⟨tv, htv⟩ : ∃ tv : Array Value, tv = tvs.toArray := ⟨_, rfl⟩
      rw [← htv]
      have N3 := Lib.hid (there_bx (Bx.made 51 w2 z16) (n := 16) (by decide))
      have hsz : tv.size = 16 := by rw [htv]; rfl
      have hs1 : (storeCells ⟨w2.heap.size, 0, none⟩ tv.toList).run Tryd.prog (w2.alloc (.cells #[.int .i64 0, .int .i64 0, .int .i64 0, .int .i64 0, .int .i64 0, .int .i64 0, .int .i64 0, .int .i64 0, .int .i64 0, .int .i64 0, .int .i64 0, .int .i64 0, .int .i64 0, .int .i64 0, .int .i64 0, .int .i64 0] 51)) = .ok () ((w2.alloc (.cells z16 51)).setCells w2.heap.size 0 tvs) := by rw [htv]; exact cells_run N3.out tvs_one
      have R4 := World.rangeAt_setCells_same (w2.alloc (.cells z16 51)) w2.heap.size 0 tvs N3.out
      have D4 : Below w2.heap.size w2 ((w2.alloc (.cells z16 51)).setCells w2.heap.size 0 tvs) := below_cells (b := w2.heap.size) tvs 0 _ (below_box _ _) (Nat.le_refl _)
      obtain ⟨w4, hw4⟩ : ∃ w4, ((w2.alloc (.cells z16 51)).setCells w2.heap.size 0 tvs) = w4 := ⟨_, rfl⟩
      rw [hw4] at hs1 R4 D4
      have X4 := Lib.hid (X2.out.below D4)
      have B4 := Lib.hid (B2.out.trans (D4.mono B2.out.size))
      clear hw4 N3 htv X2 B2 D4
      have x0 : w4.cell? ⟨w.heap.size, 0, none⟩ = some (.int .i64 0) := X4.out.cell 0
      have x1 : w4.cell? ⟨w.heap.size, 1, none⟩ = some (.int .i64 0) := X4.out.cell 1
      have x2 : w4.cell? ⟨w.heap.size, 2, none⟩ = some (.int .i64 0) := X4.out.cell 2
      have x3 : w4.cell? ⟨w.heap.size, 3, none⟩ = some (.int .i64 0) := X4.out.cell 3
      have f0 : w4.frozen? ⟨w.heap.size, 0, none⟩ = false := X4.out.free 0
      have f1 : w4.frozen? ⟨w.heap.size, 1, none⟩ = false := X4.out.free 1
      have f2 : w4.frozen? ⟨w.heap.size, 2, none⟩ = false := X4.out.free 2
      have f3 : w4.frozen? ⟨w.heap.size, 3, none⟩ = false := X4.out.free 3
      have y0 : w4.cell? ⟨w2.heap.size, 4, none⟩ = some (.int .i64 3) := by simpa using R4 4 _ rfl
      have y1 : w4.cell? ⟨w2.heap.size, 5, none⟩ = some (.int .i64 15) := by simpa using R4 5 _ rfl
      have y2 : w4.cell? ⟨w2.heap.size, 6, none⟩ = some (.int .i64 1023) := by simpa using R4 6 _ rfl
      have y3 : w4.cell? ⟨w2.heap.size, 7, none⟩ = some (.int .i64 10) := by simpa using R4 7 _ rfl
      clear R4
      go_wp2_with fail
      (try simp only [Exit.inBlock, Exit.then])
      refine bodyPost_ret (v := .agg #[.int .i64 3, .int .i64 15, .int .i64 1023, .int .i64 10]) ?_ rfl ⟨rfl, ?_⟩
      · rw [results_cell1 rfl]
        go_simp
      · (repeat' (first | exact B4.out | refine Below.setCell ?_ (by simp) _))
    · clear hr
      go_enter Tryd.func18, Tryd.ntmps18
      go_wp2_with fail
      obtain ⟨w0, hW⟩ : ∃ w0, w.alloc (.cells #[.int .i64 0, .int .i64 0, .int .i64 0, .int .i64 0] 26) = w0 := ⟨_, rfl⟩
      rw [hW]
      have B0 := Lib.hid (show Below w.heap.size w w0 by rw [← hW]; exact below_box _ _)
      have X0 := Lib.hid (show Bx 26 w0 w.heap.size #[.int .i64 0, .int .i64 0, .int .i64 0, .int .i64 0] by rw [← hW]; exact Bx.made _ _ _)
      have T0 := Lib.hid (HT.out.below B0.out)
      clear hW HT
      (with_reducible refine (isCat 2 true _ rfl).mono ?_)
      rintro e w1 ⟨rfl, rfl⟩
      go_wp2_with fail
      (with_reducible refine (implTab _ T0.out).mono ?_)
      rintro e w2 ⟨rfl, hb⟩
      have B2 := Lib.hid (B0.out.trans (hb.mono B0.out.size))
      have X2 := Lib.hid (X0.out.below hb)
      clear hb B0 X0 T0
      obtain ⟨tv, htv⟩ : ∃ tv : Array Value, tv = tvs.toArray := ⟨_, rfl⟩
      rw [← htv]
      have N3 := Lib.hid (there_bx (Bx.made 51 w2 z16) (n := 16) (by decide))
      have hsz : tv.size = 16 := by rw [htv]; rfl
      have hs1 : (storeCells ⟨w2.heap.size, 0, none⟩ tv.toList).run Tryd.prog (w2.alloc (.cells #[.int .i64 0, .int .i64 0, .int .i64 0, .int .i64 0, .int .i64 0, .int .i64 0, .int .i64 0, .int .i64 0, .int .i64 0, .int .i64 0, .int .i64 0, .int .i64 0, .int .i64 0, .int .i64 0, .int .i64 0, .int .i64 0] 51)) = .ok () ((w2.alloc (.cells z16 51)).setCells w2.heap.size 0 tvs) := by rw [htv]; exact cells_run N3.out tvs_one
      have R4 := World.rangeAt_setCells_same (w2.alloc (.cells z16 51)) w2.heap.size 0 tvs N3.out
      have D4 : Below w2.heap.size w2 ((w2.alloc (.cells z16 51)).setCells w2.heap.size 0 tvs) := below_cells (b := w2.heap.size) tvs 0 _ (below_box _ _) (Nat.le_refl _)
      obtain ⟨w4, hw4⟩ : ∃ w4, ((w2.alloc (.cells z16 51)).setCells w2.heap.size 0 tvs) = w4 := ⟨_, rfl⟩
      rw [hw4] at hs1 R4 D4
      have X4 := Lib.hid (X2.out.below D4)
      have B4 := Lib.hid (B2.out.trans (D4.mono B2.out.size))
      clear hw4 N3 htv X2 B2 D4
      have x0 : w4.cell? ⟨w.heap.size, 0, none⟩ = some (.int .i64 0) := X4.out.cell 0
      have x1 : w4.cell? ⟨w.heap.size, 1, none⟩ = some (.int .i64 0) := X4.out.cell 1
      have x2 : w4.cell? ⟨w.heap.size, 2, none⟩ = some (.int .i64 0) := X4.out.cell 2
      have x3 : w4.cell? ⟨w.heap.size, 3, none⟩ = some (.int .i64 0) := X4.out.cell 3
      have f0 : w4.frozen? ⟨w.heap.size, 0, none⟩ = false := X4.out.free 0
      have f1 : w4.frozen? ⟨w.heap.size, 1, none⟩ = false := X4.out.free 1
      have f2 : w4.frozen? ⟨w.heap.size, 2, none⟩ = false := X4.out.free 2
      have f3 : w4.frozen? ⟨w.heap.size, 3, none⟩ = false := X4.out.free 3
      have y0 : w4.cell? ⟨w2.heap.size, 8, none⟩ = some (.int .i64 2) := by simpa using R4 8 _ rfl
      have y1 : w4.cell? ⟨w2.heap.size, 9, none⟩ = some (.int .i64 7) := by simpa using R4 9 _ rfl
      have y2 : w4.cell? ⟨w2.heap.size, 10, none⟩ = some (.int .i64 15) := by simpa using R4 10 _ rfl
      have y3 : w4.cell? ⟨w2.heap.size, 11, none⟩ = some (.int .i64 40) := by simpa using R4 11 _ rfl
      clear R4
      go_wp2_with fail
      (try simp only [Exit.inBlock, Exit.then])
      refine bodyPost_ret (v := .agg #[.int .i64 2, .int .i64 7, .int .i64 15, .int .i64 40]) ?_ rfl ⟨rfl, ?_⟩
      · rw [results_cell1 rfl]
        go_simp
      · (repeat' (first | exact B4.out | refine Below.setCell ?_ (by simp) _))
    · clear hr
      go_enter Tryd.func18, Tryd.ntmps18
      go_wp2_with fail
      obtain ⟨w0, hW⟩ : ∃ w0, w.alloc (.cells #[.int .i64 0, .int .i64 0, .int .i64 0, .int .i64 0] 26) = w0 := ⟨_, rfl⟩
      rw [hW]
      have B0 := Lib.hid (show Below w.heap.size w w0 by rw [← hW]; exact below_box _ _)
      have X0 := Lib.hid (show Bx 26 w0 w.heap.size #[.int .i64 0, .int .i64 0, .int .i64 0, .int .i64 0] by rw [← hW]; exact Bx.made _ _ _)
      have T0 := Lib.hid (HT.out.below B0.out)
      clear hW HT
      (with_reducible refine (isCat 3 true _ rfl).mono ?_)
      rintro e w1 ⟨rfl, rfl⟩
      go_wp2_with fail
      (with_reducible refine (implTab _ T0.out).mono ?_)
      rintro e w2 ⟨rfl, hb⟩
      have B2 := Lib.hid (B0.out.trans (hb.mono B0.out.size))
      have X2 := Lib.hid (X0.out.below hb)
      clear hb B0 X0 T0
      obtain ⟨tv, htv⟩ : ∃ tv : Array Value, tv = tvs.toArray := ⟨_, rfl⟩
      rw [← htv]
      have N3 := Lib.hid (there_bx (Bx.made 51 w2 z16) (n := 16) (by decide))
      have hsz : tv.size = 16 := by rw [htv]; rfl
      have hs1 : (storeCells ⟨w2.heap.size, 0, none⟩ tv.toList).run Tryd.prog (w2.alloc (.cells #[.int .i64 0, .int .i64 0, .int .i64 0, .int .i64 0, .int .i64 0, .int .i64 0, .int .i64 0, .int .i64 0, .int .i64 0, .int .i64 0, .int .i64 0, .int .i64 0, .int .i64 0, .int .i64 0, .int .i64 0, .int .i64 0] 51)) = .ok () ((w2.alloc (.cells z16 51)).setCells w2.heap.size 0 tvs) := by rw [htv]; exact cells_run N3.out tvs_one
      have R4 := World.rangeAt_setCells_same (w2.alloc (.cells z16 51)) w2.heap.size 0 tvs N3.out
      have D4 : Below w2.heap.size w2 ((w2.alloc (.cells z16 51)).setCells w2.heap.size 0 tvs) := below_cells (b := w2.heap.size) tvs 0 _ (below_box _ _) (Nat.le_refl _)
      obtain ⟨w4, hw4⟩ : ∃ w4, ((w2.alloc (.cells z16 51)).setCells w2.heap.size 0 tvs) = w4 := ⟨_, rfl⟩
      rw [hw4] at hs1 R4 D4
      have X4 := Lib.hid (X2.out.below D4)
      have B4 := Lib.hid (B2.out.trans (D4.mono B2.out.size))
      clear hw4 N3 htv X2 B2 D4
      have x0 : w4.cell? ⟨w.heap.size, 0, none⟩ = some (.int .i64 0) := X4.out.cell 0
      have x1 : w4.cell? ⟨w.heap.size, 1, none⟩ = some (.int .i64 0) := X4.out.cell 1
      have x2 : w4.cell? ⟨w.heap.size, 2, none⟩ = some (.int .i64 0) := X4.out.cell 2
      have x3 : w4.cell? ⟨w.heap.size, 3, none⟩ = some (.int .i64 0) := X4.out.cell 3
      have f0 : w4.frozen? ⟨w.heap.size, 0, none⟩ = false := X4.out.free 0
      have f1 : w4.frozen? ⟨w.heap.size, 1, none⟩ = false := X4.out.free 1
      have f2 : w4.frozen? ⟨w.heap.size, 2, none⟩ = false := X4.out.free 2
      have f3 : w4.frozen? ⟨w.heap.size, 3, none⟩ = false := X4.out.free 3
      have y0 : w4.cell? ⟨w2.heap.size, 12, none⟩ = some (.int .i64 2) := by simpa using R4 12 _ rfl
      have y1 : w4.cell? ⟨w2.heap.size, 13, none⟩ = some (.int .i64 3) := by simpa using R4 13 _ rfl
      have y2 : w4.cell? ⟨w2.heap.size, 14, none⟩ = some (.int .i64 7) := by simpa using R4 14 _ rfl
      have y3 : w4.cell? ⟨w2.heap.size, 15, none⟩ = some (.int .i64 20) := by simpa using R4 15 _ rfl
      clear R4
      go_wp2_with fail
      (try simp only [Exit.inBlock, Exit.then])
      refine bodyPost_ret (v := .agg #[.int .i64 2, .int .i64 3, .int .i64 7, .int .i64 20]) ?_ rfl ⟨rfl, ?_⟩
      · rw [results_cell1 rfl]
        go_simp
      · (repeat' (first | exact B4.out | refine Below.setCell ?_ (by simp) _))
  · rw [pvs_out hr]
    have HD := Lib.hid (decide_eq_false hr)
    clear hr
    go_enter Tryd.func18, Tryd.ntmps18
    go_wp2_with fail
    obtain ⟨w0, hW⟩ : ∃ w0, w.alloc (.cells #[.int .i64 0, .int .i64 0, .int .i64 0, .int .i64 0] 26) = w0 := ⟨_, rfl⟩
    rw [hW]
    have B0 := Lib.hid (show Below w.heap.size w w0 by rw [← hW]; exact below_box _ _)
    have X0 := Lib.hid (show Bx 26 w0 w.heap.size #[.int .i64 0, .int .i64 0, .int .i64 0, .int .i64 0] by rw [← hW]; exact Bx.made _ _ _)
    have T0 := Lib.hid (HT.out.below B0.out)
    clear hW HT
    (with_reducible refine (isCat x false _ HD.out).mono ?_)
    rintro e w1 ⟨rfl, rfl⟩
    have x0 : w0.cell? ⟨w.heap.size, 0, none⟩ = some (.int .i64 0) := X0.out.cell 0
    have x1 : w0.cell? ⟨w.heap.size, 1, none⟩ = some (.int .i64 0) := X0.out.cell 1
    have x2 : w0.cell? ⟨w.heap.size, 2, none⟩ = some (.int .i64 0) := X0.out.cell 2
    have x3 : w0.cell? ⟨w.heap.size, 3, none⟩ = some (.int .i64 0) := X0.out.cell 3
    have f0 : w0.frozen? ⟨w.heap.size, 0, none⟩ = false := X0.out.free 0
    have f1 : w0.frozen? ⟨w.heap.size, 1, none⟩ = false := X0.out.free 1
    have f2 : w0.frozen? ⟨w.heap.size, 2, none⟩ = false := X0.out.free 2
    have f3 : w0.frozen? ⟨w.heap.size, 3, none⟩ = false := X0.out.free 3
    go_wp2_with fail
    (try simp only [Exit.inBlock, Exit.then])
    refine bodyPost_ret (v := .agg #[.int .i64 0, .int .i64 0, .int .i64 0, .int .i64 0]) ?_ rfl ⟨rfl, ?_⟩
    · rw [results_cell1 rfl]
      go_simp
    · (repeat' (first | exact B0.out | refine Below.setCell ?_ (by simp) _))
theorem eqAp (p q r s : Int) (w : World) :
    Calls Tryd.prog 32 #[.agg #[.int .i64 p, .int .i64 q, .int .i64 r, .int .i64 s], .agg #[.int .i64 p, .int .i64 q, .int .i64 r, .int .i64 s]] w (BPost true w) := by
  go_enter Tryd.func32, Tryd.ntmps32
  go_wp2
  go_ret
  exact ⟨rfl, below_box2 _ _ _⟩
end Go.Proofs.YtkfkfejjhfkobaaDoor.bx
