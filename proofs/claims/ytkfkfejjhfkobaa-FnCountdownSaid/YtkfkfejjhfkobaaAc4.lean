/- The program's table of parameters and ParamsFor, program and specification; comparison of parameters. Condition: the table reads as laid. -/
import Derived.Test.YtkfkfejjhfkobaaAc3
import Derived.Test.YtkfkfejjhfkobaaDraw2
import Derived.Laws.CopyRow
import Derived.Deep.RegionLaw
import Derived.Deep.MidRow
namespace Go.Proofs.Ytkfkfejjhfkobaa.bx
open Go.RowKit sl harn rng acm
set_option linter.unusedVariables false

/-- 'copy' of a whole row onto a whole block of the call's own, whatever the elements' size, as one step of a region that draws. -/
theorem step_copy_all {P : Program} {ops : Array Oper} {o : Oper} {a : Act} {w : World} {K : Act → World → Prop} {Q : Exit → Act → World → Prop} {E : Prop} (hgd : o.guard = none) (d s : Operand) (dT sT : TypeId)
    (ho : o.op = .call { callee := .builtin .copy, args := #[d, s], argTypes := #[dT, sT] }) (elem : TypeId) (hu : P.underlying dT = some (.slice elem)) (m : Nat) (hsz : (P.info? elem).map (·.size) = some m)
    (g n dCap : Nat) (ad : Addr) (sCap : Nat) (hd : a.eval d = .slice (some ⟨g, 0, none⟩) n dCap) (hs : a.eval s = .slice (some ad) n sCap)
    (cur : Array Value) (t : TypeId) (hg : w.heap[g]? = some (.cells cur t (0, 0))) (cs : List Value) (hn : cs.length = n * m)
    (hsrc : ∀ j v, cs[j]? = some v → w.cell? (ad.add j) = some v) (hfit : cur.size = cs.length) (h1 : ∀ v ∈ cs, v.oneCell' = true) (B : Nat) (w0 : World) (hb : Below B w0 w) (hBg : B ≤ g)
    (h : ∀ w', Hid (w'.heap[g]? = some (.cells cs.toArray t (0, 0))) → Below B w0 w' → K (a.put o.dst (goInt n)) w') :
    if Region.wanted o (yielded ops a.tmps) = true then Oper.wp P o a w K Q else E := by
  have hw : Region.wanted o (yielded ops a.tmps) = true := by simp [Region.wanted, hgd]
  rw [if_pos hw]
  have hl := run_loadCells_list (P := P) w ad cs hsrc
  have hst := run_storeCells_at P g 0 t cs 0 cur w hg (by simp; omega) h1
  have hrow : (cur.toList.take (0 + 0) ++ cs ++ cur.toList.drop (0 + 0 + cs.length)).toArray = cs.toArray := by
    rw [Nat.add_zero, Nat.zero_add, List.take_zero, List.drop_eq_nil_of_le (by simp; omega)]
    simp
  rw [hrow] at hst
  rw [hn] at hl
  have hrun : (Builtin.copy_ #[dT, sT] o.type #[.slice (some ⟨g, 0, none⟩) n dCap, .slice (some ad) n sCap]).run P w = .ok (goInt n) (w.setRow g cs.toArray) := by
    cases hq : P.info? elem with
    | none => simp [hq] at hsz
    | some i =>
      have hi : i.size = m := by simpa [hq] using hsz
      simp [Builtin.copy_, run_underlying hu, Builtin.lenOf, Builtin.firstCells, sizeOf, typeInfo, hq, hi, hl, hst]
  unfold Oper.wp
  simp [execOp, ho, resolve, invoke, builtin, hd, hs, hrun, Result.andThen]
  refine h _ (show _ = _ from setRow_heap w g _ _ t _ hg) (hb.trans ⟨rfl, rfl, rfl, by simp [World.setRow], fun k hk => setRow_other w g k _ (by omega)⟩)

/-- The table's sixteen numbers. -/
def tcs : List Int := [7, 15, 1023, 10, 3, 15, 1023, 10, 2, 7, 15, 40, 2, 3, 7, 20]
abbrev tvs : List Value := [.int .i64 7, .int .i64 15, .int .i64 1023, .int .i64 10, .int .i64 3, .int .i64 15, .int .i64 1023, .int .i64 10, .int .i64 2, .int .i64 7, .int .i64 15, .int .i64 40, .int .i64 2, .int .i64 3, .int .i64 7, .int .i64 20]
theorem tvs_map : tcs.map (Value.int .i64) = tvs := rfl
theorem tvs_one : ∀ v ∈ tvs, v.oneCell' = true := by decide
abbrev z16 : Array Value := #[.int .i64 0, .int .i64 0, .int .i64 0, .int .i64 0, .int .i64 0, .int .i64 0, .int .i64 0, .int .i64 0, .int .i64 0, .int .i64 0, .int .i64 0, .int .i64 0, .int .i64 0, .int .i64 0, .int .i64 0, .int .i64 0]
theorem src_at {w : World} {b off : Nat} (h : ∀ i v, tcs[i]? = some v → w.cell? ⟨b, off + i, none⟩ = some (.int .i64 v)) : ∀ j v, tvs[j]? = some v → w.cell? ((⟨b, off, none⟩ : Addr).add j) = some v := by
  intro j v hj
  rw [← tvs_map, List.getElem?_map] at hj
  cases hx : tcs[j]? with
  | none => rw [hx] at hj; cases hj
  | some x =>
    rw [hx] at hj
    obtain rfl : Value.int .i64 x = v := Option.some.inj hj
    have e : (⟨b, off, none⟩ : Addr).add j = ⟨b, off + j, none⟩ := by unfold Addr.add; split <;> simp_all
    rw [e]; exact h j x hx
theorem below_cells {B b : Nat} {w0 : World} : ∀ (vs : List Value) (o : Nat) (w : World), Below B w0 w → B ≤ b → Below B w0 (w.setCells b o vs)
  | [], _, _, h, _ => h
  | v :: r, o, w, h, hB => by rw [World.setCells]; exact below_cells r (o + 1) _ (h.setCell (p := ⟨b, o, none⟩) hB v) hB
theorem back_var {P : Program} {w : World} {b : Nat} {ty : TypeId} {cs : List Value} {d : TypeDesc} (hc : w.rangeAt b 0 cs) (hu : P.underlying ty = some d) (hd : d.isRow = true) (hi : (P.info? ty).map (·.size) = some cs.length) :
    ((asAddr (.pointer (some ⟨b, 0, none⟩))).run P w).andThen (fun a w₁ => (loadVar ty a).run P w₁) = .ok (.agg cs.toArray) w :=
  run_loadVar_mid w b 0 ty cs d hc hu hd hi
theorem cells_run {P : Program} {w : World} {b : Nat} {cs : List Value} (ht : w.there b 0 cs.length) (h1 : ∀ v ∈ cs, v.oneCell' = true) : (storeCells ⟨b, 0, none⟩ cs.toArray.toList).run P w = .ok () (w.setCells b 0 cs) := by
  have := run_storeCells_cells (P := P) b 0 cs 0 w (fun j hj => by simpa using (ht j hj).1) (fun j hj => by simpa using (ht j hj).2) h1
  simpa using this
theorem range_bx {T : TypeId} {w : World} {b : Nat} {cs : List Value} (h : Bx T w b cs.toArray) : w.rangeAt b 0 cs := fun j v hj => by
  rw [Nat.zero_add, h.cell j]; simpa using hj
theorem there_bx {T : TypeId} {w : World} {b n : Nat} {cs : Array Value} (h : Bx T w b cs) (hn : n ≤ cs.size) : w.there b 0 n := fun j hj => by
  rw [Nat.zero_add, h.cell j]
  exact ⟨by simp; omega, h.free j⟩
/-- The parameters of a category. -/
def pvs (x : Int) : Int × Int × Int × Int := if x = 0 then (7, 15, 1023, 10) else if x = 1 then (3, 15, 1023, 10) else if x = 2 then (2, 7, 15, 40) else if x = 3 then (2, 3, 7, 20) else (0, 0, 0, 0)
/-- Parameters that a function hands back. -/
def APost (q : Int × Int × Int × Int) (w : World) (e : Ending) (w' : World) : Prop := e = .returned (.agg #[.int .i64 q.1, .int .i64 q.2.1, .int .i64 q.2.2.1, .int .i64 q.2.2.2]) ∧ Below w.heap.size w w'
theorem pvs_out {x : Int} (h : ¬ (0 ≤ x ∧ x ≤ 3)) : pvs x = (0, 0, 0, 0) := by
  unfold pvs
  rw [if_neg (by omega), if_neg (by omega), if_neg (by omega), if_neg (by omega)]
set_option maxRecDepth 100000 in
set_option maxHeartbeats 4000000 in
theorem specPar (x : Int) (w : World) :
    Calls Try.prog 59 #[.int .i64 x] w (APost (pvs x) w) := by
  by_cases hr : 0 ≤ x ∧ x ≤ 3
  · rcases four hr with rfl | rfl | rfl | rfl
    · clear hr
      go_enter Try.func59, Try.ntmps59
      go_wp2_with fail
      (try simp only [Exit.inBlock, Exit.then])
      refine bodyPost_ret (v := .agg #[.int .i64 7, .int .i64 15, .int .i64 1023, .int .i64 10]) ?_ rfl ⟨rfl, ?_⟩
      · rw [results_cell1 rfl]
        go_simp
      · (repeat' (first | exact Below.refl _ _ | refine Below.setCell ?_ (by simp) _ | refine Below.alloc ?_ (by simp <;> omega) _))
    · clear hr
      go_enter Try.func59, Try.ntmps59
      go_wp2_with fail
      (try simp only [Exit.inBlock, Exit.then])
      refine bodyPost_ret (v := .agg #[.int .i64 3, .int .i64 15, .int .i64 1023, .int .i64 10]) ?_ rfl ⟨rfl, ?_⟩
      · rw [results_cell1 rfl]
        go_simp
      · (repeat' (first | exact Below.refl _ _ | refine Below.setCell ?_ (by simp) _ | refine Below.alloc ?_ (by simp <;> omega) _))
    · clear hr
      go_enter Try.func59, Try.ntmps59
      go_wp2_with fail
      (try simp only [Exit.inBlock, Exit.then])
      refine bodyPost_ret (v := .agg #[.int .i64 2, .int .i64 7, .int .i64 15, .int .i64 40]) ?_ rfl ⟨rfl, ?_⟩
      · rw [results_cell1 rfl]
        go_simp
      · (repeat' (first | exact Below.refl _ _ | refine Below.setCell ?_ (by simp) _ | refine Below.alloc ?_ (by simp <;> omega) _))
    · clear hr
      go_enter Try.func59, Try.ntmps59
      go_wp2_with fail
      (try simp only [Exit.inBlock, Exit.then])
      refine bodyPost_ret (v := .agg #[.int .i64 2, .int .i64 3, .int .i64 7, .int .i64 20]) ?_ rfl ⟨rfl, ?_⟩
      · rw [results_cell1 rfl]
        go_simp
      · (repeat' (first | exact Below.refl _ _ | refine Below.setCell ?_ (by simp) _ | refine Below.alloc ?_ (by simp <;> omega) _))
  · rw [pvs_out hr]
    have e0 : (x == 0) = false := by simp; omega
    have e1 : (x == 1) = false := by simp; omega
    have e2 : (x == 2) = false := by simp; omega
    have e3 : (x == 3) = false := by simp; omega
    clear hr
    go_enter Try.func59, Try.ntmps59
    go_wp2_with fail
    (try simp only [Exit.inBlock, Exit.then])
    refine bodyPost_ret (v := .agg #[.int .i64 0, .int .i64 0, .int .i64 0, .int .i64 0]) ?_ rfl ⟨rfl, ?_⟩
    · rw [results_cell1 rfl]
      go_simp
    · (repeat' (first | exact Below.refl _ _ | refine Below.setCell ?_ (by simp) _ | refine Below.alloc ?_ (by simp <;> omega) _))
theorem eqAp (p q r s : Int) (w : World) :
    Calls Try.prog 40 #[.agg #[.int .i64 p, .int .i64 q, .int .i64 r, .int .i64 s], .agg #[.int .i64 p, .int .i64 q, .int .i64 r, .int .i64 s]] w (BPost true w) := by
  go_enter Try.func40, Try.ntmps40
  go_wp2
  go_ret
  exact ⟨rfl, below_box2 _ _ _⟩
end Go.Proofs.Ytkfkfejjhfkobaa.bx
