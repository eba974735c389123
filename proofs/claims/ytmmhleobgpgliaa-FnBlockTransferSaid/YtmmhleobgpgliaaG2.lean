/- Merged texts of this seat. Stw: A whole variable of many cells stored and handed back in one step, in regions that draw their order and in others; 'clear' of one element of many cells. Condition: none. | Stv: A whole variable loaded, at the operation itself. Condition: none. | Bs1: Sequence numbers, bits, what is valid, new senders, program and specification. Condition: none. | Bs2: The start of the window moved over what is acknowledged, program and specification. Condition: the start is a sequence number, the set below 2^16. | Bs3: The outstanding frames; whether all is done; the next frame; program and specification. Condition: none. | Bitm: Bit strings as lists of numbers: bits of a number, the number of bits, and that each undoes the other. Condition: none (no program). | Bits1: Bit strings, program and specification: IsBitString, Weight, Parity, HammingDistance, BitsToInt. Condition: none. | Plm: Placements as numbers, no program: who exists, distances, who hears whom. Condition: none. | Pl1: Who exists, and distances: program and specification. Condition: none. | Pl2: Who hears whom: program and specification. Condition: none. | Pl3: Hidden stations, neighbours, valid placements: program and specification. Condition: of neighbours, at most 2^26 positions. | Rfm: Reception as numbers, no program: who is sensed, the nearest, who is received. Condition: of the last part, positions within 2^30. | Rc1: The sensed senders, the program's function. Condition: at most 2^26 positions. | Rc2: Comparison, search, the nearest of several, disturbance: the program's and the library's functions at integers. Condition: none. -/
import Derived.Laws.CopyRow
import Derived.Deep.RegionLaw
import Derived.Deep.MidRow
import Derived.Lib.SliceRun
import Derived.Deep.Cut
import Derived.WalkKit
import Derived.BigQuiet
import Derived.Deep.RegionHeld3
import Derived.Deep.RegionWith
import Derived.Test.YtmmhleobgpgliaaG1
section
namespace Go.Proofs.Ytmmhleobgpgliaa.stw
open Go.RowKit sl harn bx
set_option linter.unusedVariables false

theorem cells_row {P : Program} {w : World} {b : Nat} {T : TypeId} {cur cells : Array Value} (hX : Bx T w b cur) (hs : cur.size = cells.size) (h1 : cells.all (·.oneCell') = true) : w.setCells b 0 cells.toList = w.setRow b cells := by
  have h2 := run_storeCells_cells (P := P) b 0 cells.toList 0 w (fun j hj => by rw [show 0 + 0 + j = j by omega, hX.cell j]; simp at hj; simp; omega) (fun j hj => by rw [show 0 + 0 + j = j by omega]; exact hX.free j)
    (fun v hv => (Array.all_eq_true_iff_forall_mem.1 h1) v (by simpa using hv))
  have h3 := run_storeCells_at P b 0 T cells.toList 0 cur w hX (by simp; omega) (fun v hv => (Array.all_eq_true_iff_forall_mem.1 h1) v (by simpa using hv))
  have hrow : (cur.toList.take (0 + 0) ++ cells.toList ++ cur.toList.drop (0 + 0 + cells.toList.length)).toArray = cells := by
    rw [Nat.add_zero, Nat.zero_add, List.take_zero, List.drop_eq_nil_of_le (by simp; omega)]
    simp
  rw [hrow] at h3
  rw [h2] at h3
  simpa using h3
structure Put (T : TypeId) (w : World) (b : Nat) (cells : Array Value) (w' : World) : Prop where
  box : Bx T w' b cells
  below : Below b w w'
  other : ∀ j, j ≠ b → w'.heap[j]? = w.heap[j]?
theorem Put.keep {T U : TypeId} {w w' : World} {b c : Nat} {cells cs : Array Value} (h : Put T w b cells w') (hX : Bx U w c cs) (hc : c ≠ b) : Bx U w' c cs := hX.same (h.other c hc)
theorem Put.on {T : TypeId} {w w' v : World} {b B : Nat} {cells : Array Value} (h : Put T w b cells w') (hb : Below B v w) (hB : B ≤ b) : Below B v w' :=
  hb.trans ⟨h.below.os, h.below.tape, h.below.output, h.below.size, fun j hj => h.other j (by omega)⟩
theorem put_row {T : TypeId} {w : World} {b : Nat} {cur cells : Array Value} (hX : Bx T w b cur) : Put T w b cells (w.setRow b cells) :=
  ⟨show _ = _ from setRow_heap w b _ _ T _ hX, ⟨rfl, rfl, rfl, by simp [World.setRow], fun k hk => setRow_other w b k _ (by omega)⟩, fun k hk => setRow_other w b k _ (by omega)⟩
theorem there_of {T : TypeId} {w : World} {b n : Nat} {cs : Array Value} (h : Bx T w b cs) (hn : n ≤ cs.size) : w.there b 0 n := fun j hj => by
  rw [Nat.zero_add, h.cell j]
  exact ⟨by simp; omega, h.free j⟩
theorem range_of {T : TypeId} {w : World} {b : Nat} {cs : Array Value} (h : Bx T w b cs) : w.rangeAt b 0 cs.toList := fun j v hj => by
  rw [Nat.zero_add, h.cell j]; simpa using hj
/-- A whole variable stored, in a region that draws its order. -/
theorem step_store {P : Program} {ops : Array Oper} {ts : Array Value} {o : Oper} {a : Act} {w : World} {K : Act → World → Prop} {Q : Exit → Act → World → Prop} {E : Prop} (hgd : o.guard = none) (ty : TypeId) (x y : Operand) (ho : o.op = .store ty x y)
    (b : Nat) (cells : Array Value) (hx : a.eval x = .pointer (some ⟨b, 0, none⟩)) (hy : a.eval y = .agg cells) (T : TypeId) (cur : Array Value) (hX : Bx T w b cur) (hs : cur.size = cells.size)
    (hi : (P.info? ty).map (·.size) = some cells.size) (h1 : cells.all (·.oneCell') = true) (h : ∀ w', Put T w b cells w' → K (a.put o.dst undef) w') :
    if Region.wanted o (yielded ops ts) = true then Oper.wp P o a w K Q else E := by
  have hw : Region.wanted o (yielded ops ts) = true := by simp [Region.wanted, hgd]
  rw [if_pos hw]
  refine wp_store_mid ty x y ho b 0 cells hx hy (there_of hX (by omega)) hi h1 ?_
  rw [cells_row (P := P) hX hs h1]
  exact h _ (put_row hX)
/-- The same in a region of one order. -/
theorem list_store {P : Program} {ops : Array Oper} {rest : List Oper} {o : Oper} {a : Act} {w : World} {Q : Exit → Act → World → Prop} (hgd : o.guard = none) (ty : TypeId) (x y : Operand) (ho : o.op = .store ty x y)
    (b : Nat) (cells : Array Value) (hx : a.eval x = .pointer (some ⟨b, 0, none⟩)) (hy : a.eval y = .agg cells) (T : TypeId) (cur : Array Value) (hX : Bx T w b cur) (hs : cur.size = cells.size)
    (hi : (P.info? ty).map (·.size) = some cells.size) (h1 : cells.all (·.oneCell') = true) (h : ∀ w', Put T w b cells w' → wpList P ops Q rest (a.put o.dst undef) w') : wpList P ops Q (o :: rest) a w := by
  refine wpList_store_mid hgd ty x y ho b 0 cells hx hy (there_of hX (by omega)) hi h1 ?_
  rw [cells_row (P := P) hX hs h1]
  exact h _ (put_row hX)
theorem list_load {P : Program} {ops : Array Oper} {rest : List Oper} {o : Oper} {a : Act} {w : World} {Q : Exit → Act → World → Prop} (hgd : o.guard = none) (ty : TypeId) (x : Operand) (ho : o.op = .load ty x)
    (b : Nat) (hx : a.eval x = .pointer (some ⟨b, 0, none⟩)) (T : TypeId) (cur : Array Value) (hX : Bx T w b cur) {d : TypeDesc} (hu : P.underlying ty = some d) (hd : d.isRow = true) (hi : (P.info? ty).map (·.size) = some cur.size)
    (h : wpList P ops Q rest (a.put o.dst (.agg cur)) w) : wpList P ops Q (o :: rest) a w := by
  refine wpList_load_mid hgd ty x ho b 0 hx cur.toList d (range_of hX) hu hd (by simpa using hi) ?_
  simpa using h
/-- A whole variable loaded, in a region that draws its order; a part of it. -/
theorem step_load {P : Program} {ops : Array Oper} {ts : Array Value} {o : Oper} {a : Act} {w : World} {K : Act → World → Prop} {Q : Exit → Act → World → Prop} {E : Prop} (hgd : o.guard = none) (ty : TypeId) (x : Operand) (ho : o.op = .load ty x)
    (b : Nat) (hx : a.eval x = .pointer (some ⟨b, 0, none⟩)) (T : TypeId) (cur : Array Value) (hX : Bx T w b cur) {d : TypeDesc} (hu : P.underlying ty = some d) (hd : d.isRow = true) (hi : (P.info? ty).map (·.size) = some cur.size)
    (h : K (a.put o.dst (.agg cur)) w) : if Region.wanted o (yielded ops ts) = true then Oper.wp P o a w K Q else E := by
  have hw : Region.wanted o (yielded ops ts) = true := by simp [Region.wanted, hgd]
  rw [if_pos hw]
  refine wp_load_mid ty x ho b 0 hx cur.toList d (range_of hX) hu hd (by simpa using hi) ?_
  simpa using h
theorem range_part {T : TypeId} {w : World} {b : Nat} {cur : Array Value} (hX : Bx T w b cur) (off : Nat) (cs : List Value) (he : cs = (cur.toList.drop off).take cs.length) : w.rangeAt b off cs := fun j v hj => by
  rw [hX.cell]
  rw [he] at hj
  rw [List.getElem?_take] at hj
  split at hj
  · rw [List.getElem?_drop] at hj; simpa using hj
  · cases hj
theorem step_part {P : Program} {ops : Array Oper} {ts : Array Value} {o : Oper} {a : Act} {w : World} {K : Act → World → Prop} {Q : Exit → Act → World → Prop} {E : Prop} (hgd : o.guard = none) (ty : TypeId) (x : Operand) (ho : o.op = .load ty x)
    (b off : Nat) (cs : List Value) (hx : a.eval x = .pointer (some ⟨b, off, none⟩)) (T : TypeId) (cur : Array Value) (hX : Bx T w b cur) (he : cs = (cur.toList.drop off).take cs.length) {d : TypeDesc} (hu : P.underlying ty = some d) (hd : d.isRow = true) (hi : (P.info? ty).map (·.size) = some cs.length)
    (h : K (a.put o.dst (.agg cs.toArray)) w) : if Region.wanted o (yielded ops ts) = true then Oper.wp P o a w K Q else E := by
  have hw : Region.wanted o (yielded ops ts) = true := by simp [Region.wanted, hgd]
  rw [if_pos hw]
  exact wp_load_mid ty x ho b off hx cs d (range_part hX off cs he) hu hd hi h
/-- A whole variable handed back. -/
theorem back {P : Program} {w : World} {b : Nat} {ty T : TypeId} {cur : Array Value} {d : TypeDesc} (hX : Bx T w b cur) (hu : P.underlying ty = some d) (hd : d.isRow = true) (hi : (P.info? ty).map (·.size) = some cur.size) :
    ((asAddr (.pointer (some ⟨b, 0, none⟩))).run P w).andThen (fun a w₁ => (loadVar ty a).run P w₁) = .ok (.agg cur) w := by
  have := run_loadVar_mid w b 0 ty cur.toList d (range_of hX) hu hd (by simpa using hi)
  rw [Array.toArray_toList] at this
  exact this
theorem back2 {P : Program} {w : World} {b : Nat} {ty T : TypeId} {cur : Array Value} {d : TypeDesc} (hX : Bx T w b cur) (hu : P.underlying ty = some d) (hd : d.isRow = true) (hi : (P.info? ty).map (·.size) = some cur.size) (x : Value) :
    ((asAddr (.pointer (some ⟨b, 0, none⟩))).run P w).andThen (fun a w₁ => ((loadVar ty a).run P w₁).andThen fun v w₂ => Result.ok (Value.tuple #[v, x]) w₂) = Result.ok (Value.tuple #[.agg cur, x]) w := by
  have h := back hX hu hd hi
  have e : ((asAddr (.pointer (some ⟨b, 0, none⟩))).run P w).andThen (fun a w₁ => ((loadVar ty a).run P w₁).andThen fun v w₂ => Result.ok (Value.tuple #[v, x]) w₂) = (((asAddr (.pointer (some ⟨b, 0, none⟩))).run P w).andThen (fun a w₁ => (loadVar ty a).run P w₁)).andThen fun v w₂ => Result.ok (Value.tuple #[v, x]) w₂ := by
    cases (asAddr (.pointer (some ⟨b, 0, none⟩))).run P w <;> rfl
  rw [e, h]
  rfl
/-- A variable that the region makes: where it lies, and what it holds. -/
def mk (T : TypeId) (B : Nat) (cs : Array Value) : reg.Stay reg.Bel := ⟨fun v w => ∃ p, v = .pointer (some ⟨p, 0, none⟩) ∧ B < p ∧ Bx T w p cs, fun v w w' ⟨p, h1, h2, h3⟩ hb => ⟨p, h1, h2, h3.below hb⟩⟩
/-- 'clear' of a slice of one element of many cells. -/
theorem run_clear_one {P : Program} (w : World) (t e ty : TypeId) (zs : Array Value) (ht : P.underlying t = some (.slice e)) (hv : ∀ w, (zeroValue e).run P w = .ok (.agg zs) w) (h1 : zs.all (·.oneCell') = true) (b c : Nat) (T : TypeId) (cur : Array Value) (hX : Bx T w b cur) (hs : cur.size = zs.size) (hz : 0 < zs.size) :
    (Builtin.clear_ #[t] ty #[.slice (some ⟨b, 0, none⟩) 1 c]).run P w = .ok (.tuple #[]) (w.setRow b zs) := by
  have hzc : (Builtin.zeroCells zs 1).toList = zs.toList := by
    simp [Builtin.zeroCells]
    apply List.ext_getElem
    · simp
    · intro i g1 g2
      simp at g1
      have : i < zs.size := by simpa using g2
      simp [Nat.mod_eq_of_lt this]
      exact getElem!_pos zs i this
  have h2 := run_storeCells_cells (P := P) b 0 zs.toList 0 w (fun j hj => by rw [show 0 + 0 + j = j by omega, hX.cell j]; simp at hj; simp; omega) (fun j hj => by rw [show 0 + 0 + j = j by omega]; exact hX.free j)
    (fun v hv => (Array.all_eq_true_iff_forall_mem.1 h1) v (by simpa using hv))
  simp only [Nat.add_zero] at h2
  rw [cells_row (P := P) hX hs h1] at h2
  simp [Builtin.clear_, run_underlying ht, hv, Value.cells, hzc, h2]
end Go.Proofs.Ytmmhleobgpgliaa.stw
end

section
namespace Go.Proofs.Ytmmhleobgpgliaa.stw
open Go.RowKit sl harn bx
set_option linter.unusedVariables false

theorem wp_load_bx {P : Program} {o : Oper} {a : Act} {w : World} {K : Act → World → Prop} {Q : Exit → Act → World → Prop} (ty : TypeId) (x : Operand) (ho : o.op = .load ty x)
    (b : Nat) (hx : a.eval x = .pointer (some ⟨b, 0, none⟩)) (T : TypeId) (cur : Array Value) (hX : Bx T w b cur) {d : TypeDesc} (hu : P.underlying ty = some d) (hd : d.isRow = true) (hi : (P.info? ty).map (·.size) = some cur.size)
    (h : K (a.put o.dst (.agg cur)) w) : Oper.wp P o a w K Q := by
  refine wp_load_mid ty x ho b 0 hx cur.toList d (range_of hX) hu hd (by simpa using hi) ?_
  simpa using h
end Go.Proofs.Ytmmhleobgpgliaa.stw
end

section
namespace Go.Proofs.Ytmmhleobgpgliaa.bs
open Go.RowKit sl harn rng bx stw
set_option linter.unusedVariables false
set_option linter.unusedSimpArgs false

theorem szS : (Try.prog.info? 27).map (·.size) = some 3 := by kernel_rfl
theorem szA : (Try.prog.info? 42).map (·.size) = some 2 := by kernel_rfl
theorem oneS (a b c : Int) : (#[.int .i64 a, .int .i64 b, .int .i64 c] : Array Value).all (·.oneCell') = true :=
  all_oneCell_toArray (cs := [.int .i64 a, .int .i64 b, .int .i64 c]) (by intro v hv; simp only [List.mem_cons, List.not_mem_nil, or_false] at hv; rcases hv with rfl | rfl | rfl <;> rfl)
theorem oneA (a b : Int) : (#[.int .i64 a, .int .i64 b] : Array Value).all (·.oneCell') = true :=
  all_oneCell_toArray (cs := [.int .i64 a, .int .i64 b]) (by intro v hv; simp only [List.mem_cons, List.not_mem_nil, or_false] at hv; rcases hv with rfl | rfl <;> rfl)
/-- A sender's three numbers. -/
abbrev sv (q : Bs) : Array Value := #[.int .i64 q.st, .int .i64 q.nx, .int .i64 q.ac]
/-- What a function hands back that is a sender. -/
def SPost (q : Bs) (w : World) (e : Ending) (w' : World) : Prop := e = .returned (.agg (sv q)) ∧ Below w.heap.size w w'
theorem s_parts {q : Bs} {s n a : Int} (ht : q = ⟨s, n, a⟩) {w w' : World} {e : Ending} (hp : SPost q w e w') : e = .returned (.agg #[.int .i64 s, .int .i64 n, .int .i64 a]) ∧ Below w.heap.size w w' := by subst ht; exact hp
theorem low1 (n : Int) : bits .and .i64 n 1 = n % 2 := draw.low_bits 1 (by omega) n
theorem div_zero (n : Int) (k : Nat) : (n / 2 ^ k == 0) = decide (0 ≤ n ∧ n ≤ 2 ^ k - 1) := by
  have hp : (0 : Int) < 2 ^ k := Int.pow_pos (by omega)
  generalize (2 : Int) ^ k = p at hp ⊢
  have h1 := Int.emod_nonneg n (show p ≠ 0 by omega)
  have h2 := Int.emod_lt_of_pos n hp
  have h3 := Int.emod_add_mul_ediv n p
  rw [Bool.eq_iff_iff, beq_iff_eq, decide_eq_true_eq]
  constructor
  · intro h
    rw [h] at h3
    simp at h3
    omega
  · intro ⟨h4, h5⟩
    exact Int.ediv_eq_zero_of_lt h4 (by omega)

set_option maxRecDepth 100000 in
set_option maxHeartbeats 4000000 in
theorem isSq (n : Int) (v : Bool) (w : World) (h : decide (0 ≤ n ∧ n ≤ 4095) = v) :
    Calls Try.prog 52 #[.int .i64 n] w fun e w' => e = .returned (.bool v) ∧ w = w' := by
  have H := Lib.hid h
  clear h
  go_enter Try.func52, Try.ntmps52
  go_wp2_with fail
  (with_reducible refine (inR n 0 4095 v _ H.out).mono ?_)
  rintro e w1 ⟨rfl, rfl⟩
  go_wp2_with fail
  go_ret
  exact ⟨rfl, rfl⟩
set_option maxRecDepth 100000 in
set_option maxHeartbeats 4000000 in
theorem implNs (s : Int) (w : World) :
    Calls Try.prog 54 #[.int .i64 s] w (fun e w' => e = .returned (.int .i64 (nsq s)) ∧ w = w') := by
  obtain ⟨v, hv⟩ : ∃ v, nsq s = v := ⟨_, rfl⟩
  have HV := Lib.hid hv
  rw [hv]
  clear hv
  by_cases h : 0 ≤ s ∧ s ≤ 4095
  · have HS := Lib.hid (show decide (0 ≤ s ∧ s ≤ 4095) = true from decide_eq_true h)
    have HE := Lib.hid (show v = (s + 1) % 4096 by rw [← HV.out]; unfold nsq; rw [if_pos h])
    obtain ⟨h1, h2⟩ := h
    have hw : IntKind.i64.wrap (s + 1) = s + 1 := IntWalk.i64_in _ (by omega)
    go_enter Try.func54, Try.ntmps54
    go_wp2_with fail
    (with_reducible refine (isSq s true _ HS.out).mono ?_)
    rintro e w1 ⟨rfl, rfl⟩
    go_wp2_with fail
    (with_reducible refine (hsh.implMod (s + 1) 4096 (by omega) _).mono ?_)
    rintro e w1 ⟨rfl, rfl⟩
    go_wp2_with fail
    go_ret
    exact ⟨by rw [HE.out]; try rfl, rfl⟩
  · have HS := Lib.hid (show decide (0 ≤ s ∧ s ≤ 4095) = false from decide_eq_false h)
    have HE := Lib.hid (show v = 0 by rw [← HV.out]; unfold nsq; rw [if_neg h])
    clear h
    go_enter Try.func54, Try.ntmps54
    go_wp2_with fail
    (with_reducible refine (isSq s false _ HS.out).mono ?_)
    rintro e w1 ⟨rfl, rfl⟩
    go_wp2_with fail
    go_ret
    exact ⟨by rw [HE.out]; try rfl, rfl⟩
set_option maxRecDepth 100000 in
set_option maxHeartbeats 4000000 in
theorem implSd (a b : Int) (w : World) :
    Calls Try.prog 53 #[.int .i64 a, .int .i64 b] w (fun e w' => e = .returned (.int .i64 (sqd a b)) ∧ w = w') := by
  obtain ⟨v, hv⟩ : ∃ v, sqd a b = v := ⟨_, rfl⟩
  have HV := Lib.hid hv
  rw [hv]
  clear hv
  by_cases ha : 0 ≤ a ∧ a ≤ 4095
  · by_cases hb : 0 ≤ b ∧ b ≤ 4095
    · have Ha := Lib.hid (show decide (0 ≤ a ∧ a ≤ 4095) = true from decide_eq_true ha)
      have Hb := Lib.hid (show decide (0 ≤ b ∧ b ≤ 4095) = true from decide_eq_true hb)
      have HE := Lib.hid (show v = (b - a) % 4096 by rw [← HV.out]; unfold sqd; rw [if_pos ⟨ha, hb⟩])
      obtain ⟨a1, a2⟩ := ha
      obtain ⟨b1, b2⟩ := hb
      have hw : IntKind.i64.wrap (b - a) = b - a := IntWalk.i64_in _ (by omega)
      go_enter Try.func53, Try.ntmps53
      go_wp2_with fail
      (with_reducible refine (isSq a true _ Ha.out).mono ?_)
      rintro e w1 ⟨rfl, rfl⟩
      go_wp2_with fail
      (with_reducible refine (isSq b true _ Hb.out).mono ?_)
      rintro e w1 ⟨rfl, rfl⟩
      go_wp2_with fail
      (with_reducible refine (hsh.implMod (b - a) 4096 (by omega) _).mono ?_)
      rintro e w1 ⟨rfl, rfl⟩
      go_wp2_with fail
      go_ret
      exact ⟨by rw [HE.out]; try rfl, rfl⟩
    · have Ha := Lib.hid (show decide (0 ≤ a ∧ a ≤ 4095) = true from decide_eq_true ha)
      have Hb := Lib.hid (show decide (0 ≤ b ∧ b ≤ 4095) = false from decide_eq_false hb)
      have HE := Lib.hid (show v = -1 by rw [← HV.out]; unfold sqd; rw [if_neg (fun h => hb h.2)])
      clear ha hb
      go_enter Try.func53, Try.ntmps53
      go_wp2_with fail
      (with_reducible refine (isSq a true _ Ha.out).mono ?_)
      rintro e w1 ⟨rfl, rfl⟩
      go_wp2_with fail
      (with_reducible refine (isSq b false _ Hb.out).mono ?_)
      rintro e w1 ⟨rfl, rfl⟩
      go_wp2_with fail
      go_ret
      exact ⟨by rw [HE.out]; try rfl, rfl⟩
  · have Ha := Lib.hid (show decide (0 ≤ a ∧ a ≤ 4095) = false from decide_eq_false ha)
    have HE := Lib.hid (show v = -1 by rw [← HV.out]; unfold sqd; rw [if_neg (fun h => ha h.1)])
    clear ha
    go_enter Try.func53, Try.ntmps53
    go_wp2_with fail
    (with_reducible refine (isSq a false _ Ha.out).mono ?_)
    rintro e w1 ⟨rfl, rfl⟩
    go_wp2_with fail
    go_ret
    exact ⟨by rw [HE.out]; try rfl, rfl⟩
set_option maxRecDepth 100000 in
set_option maxHeartbeats 4000000 in
theorem specNs (s : Int) (w : World) :
    Calls Try.prog 86 #[.int .i64 s] w (fun e w' => e = .returned (.int .i64 (nsq s)) ∧ w = w') := by
  obtain ⟨v, hv⟩ : ∃ v, nsq s = v := ⟨_, rfl⟩
  have HV := Lib.hid hv
  rw [hv]
  clear hv
  by_cases h : 0 ≤ s ∧ s ≤ 4095
  · have HS := Lib.hid (show decide (0 ≤ s ∧ s ≤ 4095) = true from decide_eq_true h)
    have HE := Lib.hid (show v = (s + 1) % 4096 by rw [← HV.out]; unfold nsq; rw [if_pos h])
    obtain ⟨h1, h2⟩ := h
    have hw : IntKind.i64.wrap (s + 1) = s + 1 := IntWalk.i64_in _ (by omega)
    go_enter Try.func86, Try.ntmps86
    go_wp2_with fail
    (with_reducible refine (l1R s 0 4095 true _ HS.out).mono ?_)
    rintro e w1 ⟨rfl, rfl⟩
    go_wp2_with fail
    go_ret
    exact ⟨by rw [HE.out]; try rfl, rfl⟩
  · have HS := Lib.hid (show decide (0 ≤ s ∧ s ≤ 4095) = false from decide_eq_false h)
    have HE := Lib.hid (show v = 0 by rw [← HV.out]; unfold nsq; rw [if_neg h])
    clear h
    go_enter Try.func86, Try.ntmps86
    go_wp2_with fail
    (with_reducible refine (l1R s 0 4095 false _ HS.out).mono ?_)
    rintro e w1 ⟨rfl, rfl⟩
    go_wp2_with fail
    go_ret
    exact ⟨by rw [HE.out]; try rfl, rfl⟩
set_option maxRecDepth 100000 in
set_option maxHeartbeats 4000000 in
theorem specSd (a b : Int) (w : World) :
    Calls Try.prog 29 #[.int .i64 a, .int .i64 b] w (fun e w' => e = .returned (.int .i64 (sqd a b)) ∧ w = w') := by
  obtain ⟨v, hv⟩ : ∃ v, sqd a b = v := ⟨_, rfl⟩
  have HV := Lib.hid hv
  rw [hv]
  clear hv
  by_cases ha : 0 ≤ a ∧ a ≤ 4095
  · by_cases hb : 0 ≤ b ∧ b ≤ 4095
    · have Ha := Lib.hid (show decide (0 ≤ a ∧ a ≤ 4095) = true from decide_eq_true ha)
      have Hb := Lib.hid (show decide (0 ≤ b ∧ b ≤ 4095) = true from decide_eq_true hb)
      have HE := Lib.hid (show v = (b - a) % 4096 by rw [← HV.out]; unfold sqd; rw [if_pos ⟨ha, hb⟩])
      obtain ⟨a1, a2⟩ := ha
      obtain ⟨b1, b2⟩ := hb
      have hw : IntKind.i64.wrap (b - a) = b - a := IntWalk.i64_in _ (by omega)
      go_enter Try.func29, Try.ntmps29
      go_wp2_with fail
      (with_reducible refine (l1R a 0 4095 true _ Ha.out).mono ?_)
      rintro e w1 ⟨rfl, rfl⟩
      go_wp2_with fail
      (with_reducible refine (l1R b 0 4095 true _ Hb.out).mono ?_)
      rintro e w1 ⟨rfl, rfl⟩
      go_wp2_with fail
      (with_reducible refine (hsh.specMod (b - a) 4096 (by omega) _).mono ?_)
      rintro e w1 ⟨rfl, rfl⟩
      go_wp2_with fail
      go_ret
      exact ⟨by rw [HE.out]; try rfl, rfl⟩
    · have Ha := Lib.hid (show decide (0 ≤ a ∧ a ≤ 4095) = true from decide_eq_true ha)
      have Hb := Lib.hid (show decide (0 ≤ b ∧ b ≤ 4095) = false from decide_eq_false hb)
      have HE := Lib.hid (show v = -1 by rw [← HV.out]; unfold sqd; rw [if_neg (fun h => hb h.2)])
      clear ha hb
      go_enter Try.func29, Try.ntmps29
      go_wp2_with fail
      (with_reducible refine (l1R a 0 4095 true _ Ha.out).mono ?_)
      rintro e w1 ⟨rfl, rfl⟩
      go_wp2_with fail
      (with_reducible refine (l1R b 0 4095 false _ Hb.out).mono ?_)
      rintro e w1 ⟨rfl, rfl⟩
      go_wp2_with fail
      go_ret
      exact ⟨by rw [HE.out]; try rfl, rfl⟩
  · have Ha := Lib.hid (show decide (0 ≤ a ∧ a ≤ 4095) = false from decide_eq_false ha)
    have HE := Lib.hid (show v = -1 by rw [← HV.out]; unfold sqd; rw [if_neg (fun h => ha h.1)])
    clear ha
    go_enter Try.func29, Try.ntmps29
    go_wp2_with fail
    (with_reducible refine (l1R a 0 4095 false _ Ha.out).mono ?_)
    rintro e w1 ⟨rfl, rfl⟩
    go_wp2_with fail
    go_ret
    exact ⟨by rw [HE.out]; try rfl, rfl⟩
set_option maxRecDepth 100000 in
set_option maxHeartbeats 4000000 in
theorem implNw (a b : Int) (w : World) :
    Calls Try.prog 123 #[.int .i64 a, .int .i64 b] w (fun e w' => e = .returned (.bool (nwr a b)) ∧ w = w') := by
  obtain ⟨v, hv⟩ : ∃ v, nwr a b = v := ⟨_, rfl⟩
  have HV := Lib.hid hv
  rw [hv]
  clear hv
  obtain ⟨d, hd⟩ : ∃ d, sqd b a = d := ⟨_, rfl⟩
  have HD := Lib.hid hd
  have HE := Lib.hid (show decide (1 ≤ d ∧ d ≤ 2047) = v by rw [← HV.out]; unfold nwr; rw [hd])
  clear hd
  go_enter Try.func123, Try.ntmps123
  go_wp2_with fail
  (with_reducible refine (implSd b a _).mono ?_)
  rw [HD.out]
  rintro e w1 ⟨rfl, rfl⟩
  go_wp2_with fail
  (with_reducible refine (inR d 1 2047 v _ HE.out).mono ?_)
  rintro e w2 ⟨rfl, rfl⟩
  go_wp2_with fail
  go_ret
  exact ⟨by (try rw [HV.out]); try rfl, rfl⟩
set_option maxRecDepth 100000 in
set_option maxHeartbeats 4000000 in
theorem hasB (x d : Int) (v : Bool) (w : World) (hd : 0 ≤ d ∧ d ≤ 62) (hv : bit x d = v) :
    Calls Try.prog 55 #[.int .i64 x, .int .i64 d] w (fun e w' => e = .returned (.bool (v)) ∧ w = w') := by
  obtain ⟨k, rfl⟩ : ∃ k : Nat, d = k := ⟨d.toNat, by omega⟩
  have hk : (k : Int) ≤ 64 := by omega
  unfold bit at hv
  rw [Int.toNat_natCast] at hv
  obtain ⟨y, hy⟩ : ∃ y, x / 2 ^ k = y := ⟨_, rfl⟩
  rw [hy] at hv
  have hl := low1 y
  cases v with
  | true =>
    have h1 : y % 2 = 1 := by simpa using hv
    rw [h1] at hl
    clear hv h1 hd
    go_enter Try.func55, Try.ntmps55
    go_wp2
    go_ret
    exact ⟨rfl, rfl⟩
  | false =>
    have h1 : y % 2 = 0 := by have h2 : ¬ y % 2 = 1 := (by simpa using hv); omega
    rw [h1] at hl
    clear hv h1 hd
    go_enter Try.func55, Try.ntmps55
    go_wp2
    go_ret
    exact ⟨rfl, rfl⟩
set_option maxRecDepth 100000 in
set_option maxHeartbeats 4000000 in
theorem hasBB (x d : Int) (v : Bool) (w : World) (hd : 0 ≤ d ∧ d ≤ 62) (hv : decide (0 ≤ x ∧ x ≤ 2 ^ d.toNat - 1) = v) :
    Calls Try.prog 69 #[.int .i64 x, .int .i64 d] w (fun e w' => e = .returned (.bool (v)) ∧ w = w') := by
  obtain ⟨k, rfl⟩ : ∃ k : Nat, d = k := ⟨d.toNat, by omega⟩
  have hk : (k : Int) ≤ 64 := by omega
  rw [Int.toNat_natCast, ← div_zero] at hv
  obtain ⟨y, hy⟩ : ∃ y, x / 2 ^ k = y := ⟨_, rfl⟩
  rw [hy] at hv
  clear hd
  go_enter Try.func69, Try.ntmps69
  go_wp2
  go_ret
  exact ⟨by first | rfl | rw [hv], rfl⟩
set_option maxRecDepth 100000 in
set_option maxHeartbeats 4000000 in
theorem seqA (s d : Int) (w : World) (hs : 0 ≤ s ∧ s ≤ 4095) (hd : 0 ≤ d ∧ d ≤ 4095) :
    Calls Try.prog 56 #[.int .i64 s, .int .i64 d] w (fun e w' => e = .returned (.int .i64 ((s + d) % 4096)) ∧ w = w') := by
  obtain ⟨p, hp⟩ : ∃ p, s + d = p := ⟨_, rfl⟩
  have m1 : IntKind.i64.wrap p = p := IntWalk.i64_in _ (by omega)
  rw [hp]
  clear hs hd
  go_enter Try.func56, Try.ntmps56
  go_wp2_with fail
  (with_reducible refine (hsh.implMod p 4096 (by omega) _).mono ?_)
  rintro e w1 ⟨rfl, rfl⟩
  go_wp2_with fail
  go_ret
  exact ⟨rfl, rfl⟩
set_option maxRecDepth 100000 in
set_option maxHeartbeats 4000000 in
theorem implVs (s n a : Int) (w : World) :
    Calls Try.prog 23 #[.agg #[.int .i64 s, .int .i64 n, .int .i64 a]] w (BPost (vs ⟨s, n, a⟩) w) := by
  obtain ⟨d, hd⟩ : ∃ d, sqd s n = d := ⟨_, rfl⟩
  obtain ⟨t1, h1⟩ : ∃ t, v1 ⟨s, n, a⟩ = t := ⟨_, rfl⟩
  obtain ⟨t2, h2⟩ : ∃ t, v2 ⟨s, n, a⟩ = t := ⟨_, rfl⟩
  obtain ⟨t3, h3⟩ : ∃ t, v3 ⟨s, n, a⟩ = t := ⟨_, rfl⟩
  have HV := Lib.hid (show vs ⟨s, n, a⟩ = (t1 && (t2 && t3)) by unfold vs; rw [h1, h2, h3])
  have HD := Lib.hid hd
  have H1 := Lib.hid (show decide (0 ≤ d ∧ d ≤ 16) = t1 by rw [← h1]; unfold v1; rw [← hd])
  have H2 := Lib.hid (show decide (0 ≤ a ∧ a ≤ 2 ^ d.toNat - 1) = t2 by rw [← h2]; unfold v2 wd; rw [← hd])
  have H3 := Lib.hid (show (a % 2 == 0) = t3 from h3)
  clear hd h1 h2 h3
  go_enter Try.func23, Try.ntmps23
  go_wp2_with fail
  obtain ⟨w0, hW⟩ : ∃ w0, w.alloc (.cells #[.int .i64 s, .int .i64 n, .int .i64 a] 27) = w0 := ⟨_, rfl⟩
  rw [hW]
  have B0 := Lib.hid (show Below w.heap.size w w0 by rw [← hW]; exact (Below.refl _ _).alloc (by simp <;> omega) _)
  have X0 := Lib.hid (show Bx 27 w0 (w.heap.size) #[.int .i64 s, .int .i64 n, .int .i64 a] by
      rw [← hW]
      have hh := Bx.made 27 w #[.int .i64 s, .int .i64 n, .int .i64 a]
      exact hh)
  clear hW
  have LTX := Lib.hid X0.out.lt
  have cX0 : w0.cell? ⟨w.heap.size, 0, none⟩ = some (.int .i64 s) := X0.out.cell 0
  have cX1 : w0.cell? ⟨w.heap.size, 1, none⟩ = some (.int .i64 n) := X0.out.cell 1
  have cX2 : w0.cell? ⟨w.heap.size, 2, none⟩ = some (.int .i64 a) := X0.out.cell 2
  go_wp2_with fail
  clear cX0 cX1 cX2
  (with_reducible refine (implSd s n _).mono ?_)
  rw [HD.out]
  rintro e wq ⟨rfl, rfl⟩
  go_wp2_with fail
  (with_reducible refine (inR d 0 16 t1 _ H1.out).mono ?_)
  rintro e wq ⟨rfl, rfl⟩
  cases t1 with
  | true =>
    have HR := Lib.hid (show 0 ≤ d ∧ d ≤ 16 from of_decide_eq_true H1.out)
    have cX2 : w0.cell? ⟨w.heap.size, 2, none⟩ = some (.int .i64 a) := X0.out.cell 2
    go_wp2_with fail
    clear cX2
    (with_reducible refine (hasBB a d t2 _ (by have := HR.out; omega) H2.out).mono ?_)
    rintro e wq ⟨rfl, rfl⟩
    cases t2 with
    | true =>
      have H4 := Lib.hid (show bit a 0 = !t3 by rw [← H3.out]; unfold bit; simp; rw [Bool.eq_iff_iff]; simp; omega)
      have cX2 : w0.cell? ⟨w.heap.size, 2, none⟩ = some (.int .i64 a) := X0.out.cell 2
      go_wp2_with fail
      clear cX2
      (with_reducible refine (hasB a 0 (!t3) _ (by omega) H4.out).mono ?_)
      rintro e wq ⟨rfl, rfl⟩
      cases t3 with
      | true =>
        go_wp2_with fail
        go_ret
        rw [HV.out]
        exact ⟨by simp, B0.out⟩
      | false =>
        go_wp2_with fail
        go_ret
        rw [HV.out]
        exact ⟨by simp, B0.out⟩
    | false =>
      go_wp2_with fail
      go_ret
      rw [HV.out]
      exact ⟨by simp, B0.out⟩
  | false =>
    go_wp2_with fail
    go_ret
    rw [HV.out]
    exact ⟨by simp, B0.out⟩
theorem pow16 {k : Nat} (h : k ≤ 16) : wrap64 (2 ^ k) = 2 ^ k ∧ (1 : Int) ≤ wrap64 (2 ^ k) ∧ wrap64 (2 ^ k) ≤ 65536 := by
  have h7 : ((2 ^ k : Nat) : Int) = 2 ^ k := by simp
  have h2 : 2 ^ k ≤ 2 ^ 16 := Nat.pow_le_pow_right (by omega) h
  have h3 : 1 ≤ 2 ^ k := Nat.one_le_two_pow
  rw [← h7]
  generalize 2 ^ k = p at h2 h3
  have h4 : wrap64 (p : Int) = (p : Int) := by unfold wrap64; omega
  rw [h4]
  omega
set_option maxRecDepth 100000 in
set_option maxHeartbeats 4000000 in
theorem implVa (c b : Int) (w : World) :
    Calls Try.prog 102 #[.agg #[.int .i64 c, .int .i64 b]] w (BPost (va c b) w) := by
  obtain ⟨t1, h1⟩ : ∃ t, decide (0 ≤ c ∧ c ≤ 4095) = t := ⟨_, rfl⟩
  obtain ⟨t2, h2⟩ : ∃ t, decide (0 ≤ b ∧ b ≤ 65535) = t := ⟨_, rfl⟩
  have HV := Lib.hid (show va c b = (t1 && t2) by unfold va; rw [h1, h2])
  have H1 := Lib.hid h1
  have H2 := Lib.hid h2
  clear h1 h2
  go_enter Try.func102, Try.ntmps102
  go_wp2_with fail
  obtain ⟨w0, hW⟩ : ∃ w0, w.alloc (.cells #[.int .i64 c, .int .i64 b] 42) = w0 := ⟨_, rfl⟩
  rw [hW]
  have B0 := Lib.hid (show Below w.heap.size w w0 by rw [← hW]; exact (Below.refl _ _).alloc (by simp <;> omega) _)
  have X0 := Lib.hid (show Bx 42 w0 (w.heap.size) #[.int .i64 c, .int .i64 b] by
      rw [← hW]
      have hh := Bx.made 42 w #[.int .i64 c, .int .i64 b]
      exact hh)
  clear hW
  have LTX := Lib.hid X0.out.lt
  have cX0 : w0.cell? ⟨w.heap.size, 0, none⟩ = some (.int .i64 c) := X0.out.cell 0
  go_wp2_with fail
  clear cX0
  (with_reducible refine (isSq c t1 _ H1.out).mono ?_)
  rintro e wq ⟨rfl, rfl⟩
  cases t1 with
  | true =>
    have cX1 : w0.cell? ⟨w.heap.size, 1, none⟩ = some (.int .i64 b) := X0.out.cell 1
    go_wp2_with fail
    clear cX1
    (with_reducible refine (hasBB b 16 t2 _ (by omega) (by have h := H2.out; simpa using h)).mono ?_)
    rintro e wq ⟨rfl, rfl⟩
    cases t2 with
    | true =>
      go_wp2_with fail
      go_ret
      rw [HV.out]
      exact ⟨by simp, B0.out⟩
    | false =>
      go_wp2_with fail
      go_ret
      rw [HV.out]
      exact ⟨by simp, B0.out⟩
  | false =>
    go_wp2_with fail
    go_ret
    rw [HV.out]
    exact ⟨by simp, B0.out⟩
set_option maxRecDepth 100000 in
set_option maxHeartbeats 4000000 in
theorem implNew (n : Int) (w : World) :
    Calls Try.prog 14 #[.int .i64 n] w (SPost (new n) w) := by
  by_cases hn : 0 ≤ n ∧ n ≤ 4095
  · have H1 := Lib.hid (show decide (0 ≤ n ∧ n ≤ 4095) = true from decide_eq_true hn)
    have HE := Lib.hid (show new n = ⟨n, n, 0⟩ by unfold new; rw [if_pos hn])
    clear hn
    go_enter Try.func14, Try.ntmps14
    go_wp2_with fail
    obtain ⟨w0, hW⟩ : ∃ w0, w.alloc (.cells #[.int .i64 0, .int .i64 0, .int .i64 0] 27) = w0 := ⟨_, rfl⟩
    rw [hW]
    have B0 := Lib.hid (show Below w.heap.size w w0 by rw [← hW]; exact (Below.refl _ _).alloc (by simp <;> omega) _)
    have Z0 := Lib.hid (show Bx 27 w0 (w.heap.size) #[.int .i64 0, .int .i64 0, .int .i64 0] by
        rw [← hW]
        have hh := Bx.made 27 w #[.int .i64 0, .int .i64 0, .int .i64 0]
        exact hh)
    clear hW
    have LTZ := Lib.hid Z0.out.lt
    (with_reducible refine (isSq n true _ H1.out).mono ?_)
    rintro e wq ⟨rfl, rfl⟩
    go_wp2_with (first | (refine stw.list_store rfl 27 _ _ rfl (w.heap.size) #[.int .i64 n, .int .i64 n, .int .i64 0] rfl rfl 27 _ Z0.out rfl szS (oneS _ _ _) ?_; intro wz1 hz))
    have B1 := Lib.hid (hz.on B0.out (by have hs0 := LTZ.out; first | omega | (simp <;> omega)))
    have Z1 := Lib.hid (hz.box)
    clear hz B0 Z0
    (try simp only [Exit.inBlock, Exit.then])
    refine bodyPost_ret (v := .agg #[.int .i64 n, .int .i64 n, .int .i64 0]) ?_ rfl ?_
    · rw [results_cell1 rfl]
      exact stw.back Z1.out Try.underlying27 rfl szS
    · exact ⟨by rw [HE.out], B1.out⟩
  · have H1 := Lib.hid (show decide (0 ≤ n ∧ n ≤ 4095) = false from decide_eq_false hn)
    have HE := Lib.hid (show new n = ⟨0, 0, 0⟩ by unfold new; rw [if_neg hn])
    clear hn
    go_enter Try.func14, Try.ntmps14
    go_wp2_with fail
    obtain ⟨w0, hW⟩ : ∃ w0, w.alloc (.cells #[.int .i64 0, .int .i64 0, .int .i64 0] 27) = w0 := ⟨_, rfl⟩
    rw [hW]
    have B0 := Lib.hid (show Below w.heap.size w w0 by rw [← hW]; exact (Below.refl _ _).alloc (by simp <;> omega) _)
    have Z0 := Lib.hid (show Bx 27 w0 (w.heap.size) #[.int .i64 0, .int .i64 0, .int .i64 0] by
        rw [← hW]
        have hh := Bx.made 27 w #[.int .i64 0, .int .i64 0, .int .i64 0]
        exact hh)
    clear hW
    have LTZ := Lib.hid Z0.out.lt
    (with_reducible refine (isSq n false _ H1.out).mono ?_)
    rintro e wq ⟨rfl, rfl⟩
    go_wp2_with (first | (refine stw.list_store rfl 27 _ _ rfl (w.heap.size) #[.int .i64 0, .int .i64 0, .int .i64 0] rfl rfl 27 _ Z0.out rfl szS (oneS _ _ _) ?_; intro wz1 hz))
    have B1 := Lib.hid (hz.on B0.out (by have hs0 := LTZ.out; first | omega | (simp <;> omega)))
    have Z1 := Lib.hid (hz.box)
    clear hz B0 Z0
    (try simp only [Exit.inBlock, Exit.then])
    refine bodyPost_ret (v := .agg #[.int .i64 0, .int .i64 0, .int .i64 0]) ?_ rfl ?_
    · rw [results_cell1 rfl]
      exact stw.back Z1.out Try.underlying27 rfl szS
    · exact ⟨by rw [HE.out], B1.out⟩
section
variable {w w' : World} {p : Nat} {s n a : Int}
end
def Box (w : World) (p : Nat) (s n a : Int) : Prop := Bx 27 w p #[.int .i64 s, .int .i64 n, .int .i64 a]
section
variable {w w' : World} {p : Nat} {s n a : Int}
theorem Box.c0 (hx : Box w p s n a) : w.cell? ⟨p, 0, none⟩ = some (.int .i64 s) := Bx.cell hx 0
theorem Box.c1 (hx : Box w p s n a) : w.cell? ⟨p, 1, none⟩ = some (.int .i64 n) := Bx.cell hx 1
theorem Box.c2 (hx : Box w p s n a) : w.cell? ⟨p, 2, none⟩ = some (.int .i64 a) := Bx.cell hx 2
theorem Box.lt (hx : Box w p s n a) : p < w.heap.size := Bx.lt hx
theorem Box.below (hx : Box w p s n a) (hb : Below w.heap.size w w') : Box w' p s n a := Bx.below hx hb
theorem Box.tch {lo hi : Nat} (hx : Box w p s n a) (hb : Tch lo hi w w') (hd : p < lo ∨ hi ≤ p) : Box w' p s n a := Bx.tch hx hb hd
theorem Box.made (w : World) (s n a : Int) : Box (w.alloc (.cells #[.int .i64 s, .int .i64 n, .int .i64 a] 27)) w.heap.size s n a := Bx.made _ w _
end
theorem below_box (w : World) (o : Obj) : Below w.heap.size w (w.alloc o) := bx.below_box w o
theorem below_box2 (w : World) (o o' : Obj) : Below w.heap.size w ((w.alloc o).alloc o') := bx.below_box2 w o o'
end Go.Proofs.Ytmmhleobgpgliaa.bs
end

section
namespace Go.Proofs.Ytmmhleobgpgliaa.bs
open Go.RowKit sl harn rng bx stw
set_option linter.unusedVariables false
set_option linter.unusedSimpArgs false

/-- The third cell of a block, as a number. -/
def numAt (w : World) (b : Nat) : Nat := (intOf ((w.cell? ⟨b, 2, none⟩).getD undef)).toNat
theorem numAt_of {T : TypeId} {w : World} {b : Nat} {x y : Value} {m : Nat} (h : Bx T w b #[x, y, .int .i64 (m : Int)]) : numAt w b = m := by
  unfold numAt
  rw [Bx.cell h 2]
  simp [intOf]
set_option maxRecDepth 100000 in
set_option maxHeartbeats 4000000 in
theorem implAdv (s n : Int) (m : Nat) (hs : 0 ≤ s ∧ s ≤ 4095) (hm : m < 65536) (w : World) :
    Calls Try.prog 93 #[.agg #[.int .i64 s, .int .i64 n, .int .i64 (m : Int)]] w (SPost ⟨(adv s m).1, n, ((adv s m).2 : Int)⟩ w) := by
  have HS := Lib.hid hs
  have HM := Lib.hid hm
  clear hs hm
  have hfit : IntKind.i64.wrap (m : Int) = (m : Int) := IntWalk.i64_in _ (by have := HM.out; omega)
  clear hfit
  go_enter Try.func93, Try.ntmps93
  go_upto_region 1 with fail
  obtain ⟨w0, hW⟩ : ∃ w0, (w.alloc (.cells #[.int .i64 s, .int .i64 n, .int .i64 (m : Int)] 27)).alloc (.cells #[.int .i64 0, .int .i64 0, .int .i64 0] 27) = w0 := ⟨_, rfl⟩
  rw [hW]
  have B0 := Lib.hid (show Below w.heap.size w w0 by rw [← hW]; exact ((Below.refl _ _).alloc (by simp <;> omega) _).alloc (by simp <;> omega) _)
  have X0 := Lib.hid (show Bx 27 w0 (w.heap.size) #[.int .i64 s, .int .i64 n, .int .i64 (m : Int)] by
      rw [← hW]
      have hh := Bx.made 27 w #[.int .i64 s, .int .i64 n, .int .i64 (m : Int)]
      exact (hh.below (below_box _ _)))
  have Z0 := Lib.hid (show Bx 27 w0 (w.heap.size + 1) #[.int .i64 0, .int .i64 0, .int .i64 0] by
      rw [← hW]
      have hh : Bx 27 ((w.alloc (.cells #[.int .i64 s, .int .i64 n, .int .i64 (m : Int)] 27)).alloc (.cells #[.int .i64 0, .int .i64 0, .int .i64 0] 27)) (w.heap.size + 1) #[.int .i64 0, .int .i64 0, .int .i64 0] := by have hh := Bx.made 27 (w.alloc (.cells #[.int .i64 s, .int .i64 n, .int .i64 (m : Int)] 27)) #[.int .i64 0, .int .i64 0, .int .i64 0]; simpa using hh
      exact hh)
  clear hW
  have LTX := Lib.hid X0.out.lt
  have LTZ := Lib.hid Z0.out.lt
  go_loopw [] (fun  wr => ∃ (s1 : Int) (m1 : Nat), (0 ≤ s1 ∧ s1 ≤ 4095) ∧ (m1 < 65536) ∧ (adv s1 m1 = adv s m) ∧ Below w.heap.size w wr ∧ Bx 27 wr w.heap.size #[.int .i64 s1, .int .i64 n, .int .i64 (m1 : Int)] ∧ Bx 27 wr (w.heap.size + 1) #[.int .i64 0, .int .i64 0, .int .i64 0]) ((fun wr => numAt wr (w.heap.size)))
  case atStart => exact ⟨s, m, HS.out, HM.out, rfl, B0.out, X0.out, Z0.out⟩
  case round =>
    obtain ⟨s1, m1, ghs, ghm, ghe, gB1, gX1, gZ1⟩ := hrel
    have B1 := Lib.hid gB1
    have X1 := Lib.hid gX1
    have Z1 := Lib.hid gZ1
    have hs := Lib.hid ghs
    have hm := Lib.hid ghm
    have he := Lib.hid ghe
    clear gB1 gX1 gZ1 ghs ghm ghe
    have LUX1 := Lib.hid X1.out.lt
    have LUZ1 := Lib.hid Z1.out.lt
    have SBR1 := Lib.hid B1.out.size
    have cX0 : wr.cell? ⟨w.heap.size, 0, none⟩ = some (.int .i64 s1) := X1.out.cell 0
    have cX2 : wr.cell? ⟨w.heap.size, 2, none⟩ = some (.int .i64 (m1 : Int)) := X1.out.cell 2
    have fX0 : wr.frozen? ⟨w.heap.size, 0, none⟩ = false := X1.out.free 0
    have fX2 : wr.frozen? ⟨w.heap.size, 2, none⟩ = false := X1.out.free 2
    go_wp2_with fail
    have HX0 := X1
    by_cases ho : m1 % 2 = 1
    · (with_reducible refine (hasB (m1 : Int) 0 true _ (by omega) (by unfold bit; simp; omega)).mono ?_)
      rintro e wq ⟨rfl, rfl⟩
      clear cX0 cX2 fX0 fX2
      have HE := Lib.hid ((adv_odd ho).symm.trans he.out)
      obtain ⟨m2, hm2⟩ : ∃ x, m1 / 2 = x := ⟨_, rfl⟩
      have hdv : (m1 : Int) / 2 = (m2 : Int) := by omega
      have HM2 := Lib.hid (show m2 < m1 ∧ m2 < 65536 by have := hm.out; omega)
      rw [hm2] at HE
      obtain ⟨s2, hs2⟩ : ∃ x, nsq s1 = x := ⟨_, rfl⟩
      have HS2 := Lib.hid hs2
      have HS3 := Lib.hid (show s2 = (s1 + 1) % 4096 by rw [← hs2]; unfold nsq; rw [if_pos hs.out])
      rw [← HS3.out] at HE
      have HS4 := Lib.hid (show 0 ≤ s2 ∧ s2 ≤ 4095 by have := HS3.out; omega)
      clear hs2 hm2 ho
      have cX0 : wr.cell? ⟨w.heap.size, 0, none⟩ = some (.int .i64 s1) := X1.out.cell 0
      have cX2 : wr.cell? ⟨w.heap.size, 2, none⟩ = some (.int .i64 (m1 : Int)) := X1.out.cell 2
      have fX0 : wr.frozen? ⟨w.heap.size, 0, none⟩ = false := X1.out.free 0
      have fX2 : wr.frozen? ⟨w.heap.size, 2, none⟩ = false := X1.out.free 2
      go_wp2_with fail
      (with_reducible refine (implNs s1 _).mono ?_)
      rw [HS2.out]
      rintro e wq ⟨rfl, rfl⟩
      go_wp2_with fail
      clear cX0 cX2 fX0 fX2
      have hWW : ((wr.setCell ⟨w.heap.size, 0, none⟩ (.int .i64 s2)).setCell ⟨w.heap.size, 2, none⟩ (.int .i64 (m2 : Int))) = ((wr.setCell ⟨w.heap.size, 0, none⟩ (.int .i64 s2)).setCell ⟨w.heap.size, 2, none⟩ (.int .i64 (m2 : Int))) := rfl
      obtain ⟨w2, hW⟩ : ∃ wy, ((wr.setCell ⟨w.heap.size, 0, none⟩ (.int .i64 s2)).setCell ⟨w.heap.size, 2, none⟩ (.int .i64 (m2 : Int))) = wy := ⟨_, rfl⟩
      rw [hW]
      clear hWW
      have B2 := Lib.hid (show Below w.heap.size w w2 by rw [← hW]; exact ((B1.out.setCell (p := ⟨w.heap.size, 0, none⟩) (by have hs0 := LTX.out; have hs1 := LTZ.out; have hs2 := LUX1.out; have hs3 := LUZ1.out; have hs4 := SBR1.out; first | omega | (simp <;> omega)) _).setCell (p := ⟨w.heap.size, 2, none⟩) (by have hs0 := LTX.out; have hs1 := LTZ.out; have hs2 := LUX1.out; have hs3 := LUZ1.out; have hs4 := SBR1.out; first | omega | (simp <;> omega)) _))
      have X2 := Lib.hid (show Bx 27 w2 (w.heap.size) #[.int .i64 s2, .int .i64 n, .int .i64 (m2 : Int)] by rw [← hW]; exact ((X1.out.set 0 _).set 2 _))
      have Z2 := Lib.hid (show Bx 27 w2 (w.heap.size + 1) #[.int .i64 0, .int .i64 0, .int .i64 0] by rw [← hW]; exact ((Z1.out.other (by have hs0 := LTX.out; have hs1 := LTZ.out; have hs2 := LUX1.out; have hs3 := LUZ1.out; have hs4 := SBR1.out; first | omega | (simp <;> omega)) _ _).other (by have hs0 := LTX.out; have hs1 := LTZ.out; have hs2 := LUX1.out; have hs3 := LUZ1.out; have hs4 := SBR1.out; first | omega | (simp <;> omega)) _ _))
      clear hW B1 X1 Z1
      go_roundw
      case rel => exact ⟨s2, m2, HS4.out, HM2.out.2, HE.out, B2.out, X2.out, Z2.out⟩
      case measure => show numAt _ (w.heap.size) < numAt _ (w.heap.size); rw [numAt_of X2.out, numAt_of HX0.out]; exact HM2.out.1
    · (with_reducible refine (hasB (m1 : Int) 0 false _ (by omega) (by unfold bit; simp; omega)).mono ?_)
      rintro e wq ⟨rfl, rfl⟩
      clear cX0 cX2 fX0 fX2
      have HE := Lib.hid ((adv_even ho).symm.trans he.out)
      clear ho
      go_wp2_with (first | (refine stw.list_load rfl 27 _ rfl (w.heap.size) rfl 27 _ X1.out Try.underlying27 rfl szS ?_) | (refine stw.list_store rfl 27 _ _ rfl (w.heap.size + 1) #[.int .i64 s1, .int .i64 n, .int .i64 (m1 : Int)] rfl rfl 27 _ Z1.out rfl szS (oneS _ _ _) ?_; intro wz2 hz))
      have B2 := Lib.hid (hz.on B1.out (by have hs0 := LTX.out; have hs1 := LTZ.out; have hs2 := LUX1.out; have hs3 := LUZ1.out; have hs4 := SBR1.out; first | omega | (simp <;> omega)))
      have X2 := Lib.hid (hz.keep X1.out (by have hs0 := LTX.out; have hs1 := LTZ.out; have hs2 := LUX1.out; have hs3 := LUZ1.out; have hs4 := SBR1.out; first | omega | (simp <;> omega)))
      have Z2 := Lib.hid (hz.box)
      clear hz B1 X1 Z1
      (try simp only [Exit.inBlock, Exit.then])
      refine bodyPost_ret (v := .agg #[.int .i64 s1, .int .i64 n, .int .i64 (m1 : Int)]) ?_ rfl ?_
      · rw [results_cell1 rfl]
        exact stw.back Z2.out Try.underlying27 rfl szS
      · exact ⟨by rw [← HE.out], B2.out⟩
end Go.Proofs.Ytmmhleobgpgliaa.bs
end

section
namespace Go.Proofs.Ytmmhleobgpgliaa.bs
open Go.RowKit sl harn rng bx stw
set_option linter.unusedVariables false
set_option linter.unusedSimpArgs false

theorem ow_bx {E : TypeId} {k : IntKind} {w : World} {b : Nat} (h : Bx E w b #[]) : Ow E k w b w.heap.size (some ⟨b, 0, none⟩) 0 0 [] :=
  ⟨⟨rfl, .inr ⟨b, 0, #[], rfl, Nat.le_refl _, h, Nat.le_refl _, by unfold maxLen; omega, rfl, rfl⟩⟩, Wf.nil k, Nat.le_refl _, fun g o e => by injection e with e; injection e with e _; subst e; exact h.lt⟩
set_option maxRecDepth 100000 in
set_option maxHeartbeats 4000000 in
theorem implOs (s n a : Int) (w : World) :
    Calls Try.prog 17 #[.agg #[.int .i64 s, .int .i64 n, .int .i64 a]] w (SlPost 3 .i64 w (outs ⟨s, n, a⟩)) := by
  obtain ⟨i0, hi0, hz0, hz1, hz2⟩ := info_parts intInfo
  have HZ := Lib.hid (And.intro hi0 (And.intro hz0 (And.intro hz1 hz2)))
  clear hi0 hz0 hz1 hz2
  obtain ⟨v, hv⟩ : ∃ v, vs ⟨s, n, a⟩ = v := ⟨_, rfl⟩
  have HV := Lib.hid hv
  go_enter Try.func17, Try.ntmps17
  go_upto_region 1 with fail
  obtain ⟨w0, hW⟩ : ∃ w0, w.alloc (.cells #[.int .i64 s, .int .i64 n, .int .i64 a] 27) = w0 := ⟨_, rfl⟩
  rw [hW]
  have B0 := Lib.hid (show Below w.heap.size w w0 by rw [← hW]; exact (Below.refl _ _).alloc (by simp <;> omega) _)
  have X0 := Lib.hid (show Bx 27 w0 (w.heap.size) #[.int .i64 s, .int .i64 n, .int .i64 a] by
      rw [← hW]
      have hh := Bx.made 27 w #[.int .i64 s, .int .i64 n, .int .i64 a]
      exact hh)
  clear hW
  have LTX := Lib.hid X0.out.lt
  obtain ⟨be, hbb⟩ : ∃ b, w0.heap.size = b := ⟨_, rfl⟩
  go_upto_region 2 with fail
  generalize hW : w0.alloc (.cells #[] 3) = w1
  have LE := Lib.hid (show w.heap.size ≤ be ∧ w.heap.size < be by have h1 := B0.out.size; have h2X := X0.out.lt; have h3 := hbb; omega)
  have E1 := Lib.hid (show Bx 3 w1 be #[] by rw [← hW, ← hbb]; exact Bx.made _ _ _)
  have hb : Below w0.heap.size w0 w1 := by rw [← hW]; exact below_box _ _
  (try rw [hbb])
  clear hW hbb
  have SS1 := Lib.hid hb.size
  have B1 := Lib.hid (B0.out.trans (hb.mono B0.out.size))
  have X1 := Lib.hid (X0.out.below hb)
  clear hb B0 X0
  have LWE := Lib.hid E1.out.lt
  have O1 := Lib.hid (ow_bx (k := .i64) E1.out)
  clear E1
  go_wp2_with (refine stw.list_load rfl 27 _ rfl (w.heap.size) rfl 27 _ X1.out Try.underlying27 rfl szS ?_)
  (with_reducible refine (implVs s n a _).mono ?_)
  rintro e w2 hp
  obtain ⟨rfl, hb⟩ := b_parts HV.out hp
  clear hp
  have SS2 := Lib.hid hb.size
  have B2 := Lib.hid (B1.out.trans (hb.mono B1.out.size))
  have X2 := Lib.hid (X1.out.below hb)
  have O2 := Lib.hid (O1.out.below hb)
  clear hb  B1 X1 O1
  cases v with
  | true =>
    have hv := HV.out
    obtain ⟨W, m, hV⟩ := vs_of hv
    obtain rfl : a = (m : Int) := hV.ha
    have HVV := Lib.hid hV
    have HSQ := Lib.hid (show sqd s n = (W : Int) from hV.sq)
    have HS := Lib.hid (show 0 ≤ s ∧ s ≤ 4095 from hV.hs)
    have HW := Lib.hid (show W ≤ 16 ∧ m < 65536 by have h1 := hV.hw; have h2 := hV.hb; have h3 : 2 ^ W ≤ 2 ^ 16 := Nat.pow_le_pow_right (by omega) h1; omega)
    have HOU := Lib.hid (show outs ⟨s, n, (m : Int)⟩ = (ou m W).map (fr s) from hV.outs)
    clear hV
    have cX0 : w2.cell? ⟨w.heap.size, 0, none⟩ = some (.int .i64 s) := X2.out.cell 0
    have cX1 : w2.cell? ⟨w.heap.size, 1, none⟩ = some (.int .i64 n) := X2.out.cell 1
    go_wp2_with fail
    (with_reducible refine (implSd s n _).mono ?_)
    rw [HSQ.out]
    rintro e wq ⟨rfl, rfl⟩
    have HO9 := Lib.hid O2.out.up
    go_wp2_with fail
    clear cX0 cX1
    go_loopw [3, 15] (fun v0 v1 wr => ∃ (k : Nat) (A1 : Option Addr) (n1 : Nat) (c1 : Nat), v0 = .slice A1 n1 c1 ∧ v1 = .int .i64 (k : Int) ∧ (k ≤ W) ∧ (be < wr.heap.size) ∧ Below w.heap.size w wr ∧ Bx 27 wr w.heap.size #[.int .i64 s, .int .i64 n, .int .i64 (m : Int)] ∧ Ow 3 .i64 wr (be) (wr.heap.size) A1 n1 c1 ((ou m k).map (fr s))) ((fun _ i _ => W - (intOf i).toNat))
    case atStart => exact ⟨0, _, _, _, rfl, rfl, by omega, by have hlE := LE.out; have hs0 := LTX.out; have hs1 := SS1.out; have hs2 := LWE.out; have hs3 := SS2.out; omega, B2.out, X2.out, (by simpa [ou] using HO9.out)⟩
    case round =>
      obtain ⟨k, A1, n1, c1, rfl, rfl, ghk, ghbe, gB3, gX3, gO3⟩ := hrel
      have B3 := Lib.hid gB3
      have X3 := Lib.hid gX3
      have O3 := Lib.hid gO3
      have hk := Lib.hid ghk
      have hbe := Lib.hid ghbe
      clear gB3 gX3 gO3 ghk ghbe
      have LUX3 := Lib.hid X3.out.lt
      have SBR3 := Lib.hid B3.out.size
      have hk := hk.out
      have hk16 : k ≤ 16 := by have := HW.out; omega
      have HN1 := Lib.hid (show n1 ≤ 16 by have h1 := O3.out.len; rw [List.length_map] at h1; have h2 := ou_len m k; have h3 := HW.out; omega)
      by_cases hlt : k < W
      · have hlt2 : (k : Int) < W := by omega
        have HK := Lib.hid (show (k : Int) ≤ 15 ∧ k < 16 by have := HW.out; omega)
        obtain ⟨t, ht⟩ : ∃ t, m.testBit k = t := ⟨_, rfl⟩
        have HT := Lib.hid ht
        clear ht
        have cX2 : wr.cell? ⟨w.heap.size, 2, none⟩ = some (.int .i64 (m : Int)) := X3.out.cell 2
        go_wp2_with fail
        clear cX2
        (with_reducible refine (hasB (m : Int) (k : Int) t _ (by have := HK.out; omega) (by rw [bit_test m k _ rfl]; exact HT.out)).mono ?_)
        rintro e wq ⟨rfl, rfl⟩
        cases t with
        | true =>
          have HL := Lib.hid (ou_no HT.out)
          go_wp2_with fail
          go_roundw
          case rel => exact ⟨k + 1, _, _, _, rfl, by go_num, by omega, by have hlE := LE.out; have hs0 := LTX.out; have hs1 := SS1.out; have hs2 := LWE.out; have hs3 := SS2.out; have hs4 := LUX3.out; have hs5 := SBR3.out; have hs6 := hbe.out; omega, B3.out, X3.out, (by rw [HL.out]; exact O3.out)⟩
          case measure => simp [intOf]; omega
        | false =>
          have HL := Lib.hid (show (ou m (k + 1)).map (fr s) = (ou m k).map (fr s) ++ [fr s k] by rw [ou_yes HT.out, List.map_append]; rfl)
          have HF := Lib.hid (fr_rng s k)
          have cX0 : wr.cell? ⟨w.heap.size, 0, none⟩ = some (.int .i64 s) := X3.out.cell 0
          go_wp2_with fail
          clear cX0
          (with_reducible refine (seqA s (k : Int) _ HS.out (by have := HK.out; omega)).mono ?_)
          rintro e wq ⟨rfl, rfl⟩
          have hfr : (s + (k : Int)) % 4096 = fr s k := rfl
          rw [hfr]
          clear hfr
          go_wp2_with (at_builtin; refine wpList_app _ rfl _ _ 24 rfl 3 i0 _ .i64 Try.underlying24 HZ.out.1 HZ.out.2.1 HZ.out.2.2.1 (by rw [HZ.out.2.2.2]; omega) rfl rfl rfl (O3.out.alloc _) (Rd.one .i64 _ _ _ (WalkArith.wf_i64 (by have := HF.out; omega))) (by have := HN1.out; omega) (by have hlE := LE.out; have hs0 := LTX.out; have hs1 := SS1.out; have hs2 := LWE.out; have hs3 := SS2.out; have hs4 := LUX3.out; have hs5 := SBR3.out; have hs6 := hbe.out; first | omega | (simp <;> omega)) ?_; intro A2 c2 w4 ho hb1; have hb2 : Below be wr w4 := (((Below.refl _ _).alloc (by have hlE := LE.out; have hs0 := LTX.out; have hs1 := SS1.out; have hs2 := LWE.out; have hs3 := SS2.out; have hs4 := LUX3.out; have hs5 := SBR3.out; have hs6 := hbe.out; first | omega | (simp <;> omega)) _).trans hb1); clear hb1; have B4 := Lib.hid (B3.out.trans (hb2.mono (by have hlE := LE.out; have hs0 := LTX.out; have hs1 := SS1.out; have hs2 := LWE.out; have hs3 := SS2.out; have hs4 := LUX3.out; have hs5 := SBR3.out; have hs6 := hbe.out; first | omega | (simp <;> omega)))); have X4 := Lib.hid (X3.out.up hb2 (by have hlE := LE.out; have hs0 := LTX.out; have hs1 := SS1.out; have hs2 := LWE.out; have hs3 := SS2.out; have hs4 := LUX3.out; have hs5 := SBR3.out; have hs6 := hbe.out; first | omega | (simp <;> omega))); have SS4 := Lib.hid hb2.size; have O4 := Lib.hid (show Ow 3 .i64 w4 (be) (w4.heap.size) A2 (n1 + 1) c2 ((ou m k).map (fr s) ++ [fr s k]) from ho); clear ho hb2 B3 X3 O3)
          go_roundw
          case rel => exact ⟨k + 1, A2, n1 + 1, c2, rfl, by go_num, by omega, by have hlE := LE.out; have hs0 := LTX.out; have hs1 := SS1.out; have hs2 := LWE.out; have hs3 := SS2.out; have hs4 := LUX3.out; have hs5 := SBR3.out; have hs6 := hbe.out; have hs7 := SS4.out; omega, B4.out, X4.out, (by rw [HL.out]; exact O4.out.up)⟩
          case measure => simp [intOf]; omega
      · have hlt2 : ¬ (k : Int) < W := by omega
        obtain rfl : k = W := by omega
        go_wp2_with fail
        go_ret
        rw [HOU.out]
        exact ⟨_, _, _, rfl, ((O3.out).up.down (by have hlE := LE.out; have hs0 := LTX.out; have hs1 := SS1.out; have hs2 := LWE.out; have hs3 := SS2.out; have hs4 := LUX3.out; have hs5 := SBR3.out; have hs6 := hbe.out; first | omega | (simp <;> omega))), B3.out⟩
  | false =>
    go_wp2_with fail
    have HE := Lib.hid (outs_no HV.out)
    rw [HE.out]
    go_ret
    exact ⟨_, _, _, rfl, ((O2.out).up.down (by have hlE := LE.out; have hs0 := LTX.out; have hs1 := SS1.out; have hs2 := LWE.out; have hs3 := SS2.out; first | omega | (simp <;> omega))), B2.out⟩
set_option maxRecDepth 100000 in
set_option maxHeartbeats 4000000 in
theorem implDon (s n a : Int) (w : World) :
    Calls Try.prog 24 #[.agg #[.int .i64 s, .int .i64 n, .int .i64 a]] w (BPost (don ⟨s, n, a⟩) w) := by
  obtain ⟨v, hv⟩ : ∃ v, vs ⟨s, n, a⟩ = v := ⟨_, rfl⟩
  have HV := Lib.hid hv
  clear hv
  have HD := Lib.hid (show don ⟨s, n, a⟩ = (v && ((outs ⟨s, n, a⟩).length == 0)) by unfold don; rw [HV.out])
  go_enter Try.func24, Try.ntmps24
  go_wp2_with fail
  obtain ⟨w0, hW⟩ : ∃ w0, w.alloc (.cells #[.int .i64 s, .int .i64 n, .int .i64 a] 27) = w0 := ⟨_, rfl⟩
  rw [hW]
  have B0 := Lib.hid (show Below w.heap.size w w0 by rw [← hW]; exact (Below.refl _ _).alloc (by simp <;> omega) _)
  have X0 := Lib.hid (show Bx 27 w0 (w.heap.size) #[.int .i64 s, .int .i64 n, .int .i64 a] by
      rw [← hW]
      have hh := Bx.made 27 w #[.int .i64 s, .int .i64 n, .int .i64 a]
      exact hh)
  clear hW
  have LTX := Lib.hid X0.out.lt
  go_wp2_with (refine stw.list_load rfl 27 _ rfl (w.heap.size) rfl 27 _ X0.out Try.underlying27 rfl szS ?_)
  (with_reducible refine (implVs s n a _).mono ?_)
  rintro e w1 hp
  obtain ⟨rfl, hb⟩ := b_parts HV.out hp
  clear hp
  have SS1 := Lib.hid hb.size
  have B1 := Lib.hid (B0.out.trans (hb.mono B0.out.size))
  have X1 := Lib.hid (X0.out.below hb)
  clear hb  B0 X0
  cases v with
  | true =>
    have cX0 : w1.cell? ⟨w.heap.size, 0, none⟩ = some (.int .i64 s) := X1.out.cell 0
    have cX1 : w1.cell? ⟨w.heap.size, 1, none⟩ = some (.int .i64 n) := X1.out.cell 1
    have cX2 : w1.cell? ⟨w.heap.size, 2, none⟩ = some (.int .i64 a) := X1.out.cell 2
    go_wp2_with fail
    clear cX0 cX1 cX2
    (with_reducible refine (implOs s n a _).mono ?_)
    rintro e w2 ⟨A, q, c, rfl, ho, hb⟩
    have HL := Lib.hid ho.len
    clear ho
    have SS2 := Lib.hid hb.size
    have B2 := Lib.hid (B1.out.trans (hb.mono B1.out.size))
    have X2 := Lib.hid (X1.out.below hb)
    clear hb B1 X1
    rw [HL.out] at HD
    have HQ := Lib.hid (show q ≤ 16 by rw [← HL.out]; exact outs_len _)
    by_cases hq : q = 0
    · subst hq
      go_wp2_with fail
      go_ret
      rw [HD.out]
      exact ⟨rfl, B2.out⟩
    · have hq2 : ¬ (q : Int) = 0 := by omega
      have hq3 : (q == 0) = false := by simpa using hq
      go_wp2_with fail
      go_ret
      rw [HD.out]
      exact ⟨by simp [hq3, hq], B2.out⟩
  | false =>
    go_wp2_with fail
    go_ret
    rw [HD.out]
    exact ⟨rfl, B1.out⟩
/-- What SendNext hands back. -/
def nxt (q : Bs) : Bs × Int × Bool := if may q = true then (snx q, q.nx, true) else (q, 0, false)
def NxPost (r : Bs × Int × Bool) (w : World) (e : Ending) (w' : World) : Prop := e = .returned (.tuple #[.agg (sv r.1), .int .i64 r.2.1, .bool r.2.2]) ∧ Below w.heap.size w w'
theorem nx_parts {r : Bs × Int × Bool} {s n a x : Int} {v : Bool} (ht : r = (⟨s, n, a⟩, x, v)) {w w' : World} {e : Ending} (hp : NxPost r w e w') : e = .returned (.tuple #[.agg #[.int .i64 s, .int .i64 n, .int .i64 a], .int .i64 x, .bool v]) ∧ Below w.heap.size w w' := by subst ht; exact hp
theorem results_cell2 {fn : Func} {p u t : Tmp} {ty : TypeId} (h : fn.results = #[.cell p ty, .tmp u, .tmp t]) (tmps : Array Value) (P : Program) (w : World) :
    (results fn tmps).run P w = ((asAddr (tmps.getD p undef)).run P w).andThen fun a w₁ => ((loadVar ty a).run P w₁).andThen fun v w₂ => .ok (.tuple #[v, tmps.getD u undef, tmps.getD t undef]) w₂ := by
  simp only [results, h]
  simp [Sem.run_bind, Result.andThen]
theorem back3 {P : Program} {w : World} {b : Nat} {ty T : TypeId} {cur : Array Value} {d : TypeDesc} (hX : Bx T w b cur) (hu : P.underlying ty = some d) (hd : d.isRow = true) (hi : (P.info? ty).map (·.size) = some cur.size) (x y : Value) :
    ((asAddr (.pointer (some ⟨b, 0, none⟩))).run P w).andThen (fun a w₁ => ((loadVar ty a).run P w₁).andThen fun v w₂ => Result.ok (Value.tuple #[v, x, y]) w₂) = Result.ok (Value.tuple #[.agg cur, x, y]) w := by
  have h := back hX hu hd hi
  have e : ((asAddr (.pointer (some ⟨b, 0, none⟩))).run P w).andThen (fun a w₁ => ((loadVar ty a).run P w₁).andThen fun v w₂ => Result.ok (Value.tuple #[v, x, y]) w₂) = (((asAddr (.pointer (some ⟨b, 0, none⟩))).run P w).andThen (fun a w₁ => (loadVar ty a).run P w₁)).andThen fun v w₂ => Result.ok (Value.tuple #[v, x, y]) w₂ := by
    cases (asAddr (.pointer (some ⟨b, 0, none⟩))).run P w <;> rfl
  rw [e, h]
  rfl
set_option maxRecDepth 100000 in
set_option maxHeartbeats 4000000 in
theorem implSn (s n a : Int) (w : World) :
    Calls Try.prog 16 #[.agg #[.int .i64 s, .int .i64 n, .int .i64 a]] w (NxPost (nxt ⟨s, n, a⟩) w) := by
  obtain ⟨v, hv⟩ : ∃ v, vs ⟨s, n, a⟩ = v := ⟨_, rfl⟩
  obtain ⟨f, hf⟩ : ∃ v, ful ⟨s, n, a⟩ = v := ⟨_, rfl⟩
  obtain ⟨d, hd⟩ : ∃ v, sqd s n = v := ⟨_, rfl⟩
  have HV := Lib.hid hv
  have HD := Lib.hid hd
  have HF := Lib.hid (show (d == 16) = f by rw [← hf, ← hd]; rfl)
  have HM := Lib.hid (show may ⟨s, n, a⟩ = (v && !f) by unfold may; rw [hv, hf])
  clear hv hf hd
  go_enter Try.func16, Try.ntmps16
  go_wp2_with fail
  obtain ⟨w0, hW⟩ : ∃ w0, (w.alloc (.cells #[.int .i64 s, .int .i64 n, .int .i64 a] 27)).alloc (.cells #[.int .i64 0, .int .i64 0, .int .i64 0] 27) = w0 := ⟨_, rfl⟩
  rw [hW]
  have B0 := Lib.hid (show Below w.heap.size w w0 by rw [← hW]; exact ((Below.refl _ _).alloc (by simp <;> omega) _).alloc (by simp <;> omega) _)
  have X0 := Lib.hid (show Bx 27 w0 (w.heap.size) #[.int .i64 s, .int .i64 n, .int .i64 a] by
      rw [← hW]
      have hh := Bx.made 27 w #[.int .i64 s, .int .i64 n, .int .i64 a]
      exact (hh.below (below_box _ _)))
  have Z0 := Lib.hid (show Bx 27 w0 (w.heap.size + 1) #[.int .i64 0, .int .i64 0, .int .i64 0] by
      rw [← hW]
      have hh : Bx 27 ((w.alloc (.cells #[.int .i64 s, .int .i64 n, .int .i64 a] 27)).alloc (.cells #[.int .i64 0, .int .i64 0, .int .i64 0] 27)) (w.heap.size + 1) #[.int .i64 0, .int .i64 0, .int .i64 0] := by have hh := Bx.made 27 (w.alloc (.cells #[.int .i64 s, .int .i64 n, .int .i64 a] 27)) #[.int .i64 0, .int .i64 0, .int .i64 0]; simpa using hh
      exact hh)
  clear hW
  have LTX := Lib.hid X0.out.lt
  have LTZ := Lib.hid Z0.out.lt
  go_wp2_with (refine stw.list_load rfl 27 _ rfl (w.heap.size) rfl 27 _ X0.out Try.underlying27 rfl szS ?_)
  (with_reducible refine (implVs s n a _).mono ?_)
  rintro e w1 hp
  obtain ⟨rfl, hb⟩ := b_parts HV.out hp
  clear hp
  have SS1 := Lib.hid hb.size
  have B1 := Lib.hid (B0.out.trans (hb.mono B0.out.size))
  have X1 := Lib.hid (X0.out.below hb)
  have Z1 := Lib.hid (Z0.out.below hb)
  clear hb  B0 X0 Z0
  cases v with
  | true =>
    have cX0 : w1.cell? ⟨w.heap.size, 0, none⟩ = some (.int .i64 s) := X1.out.cell 0
    have cX1 : w1.cell? ⟨w.heap.size, 1, none⟩ = some (.int .i64 n) := X1.out.cell 1
    go_wp2_with fail
    (with_reducible refine (implSd s n _).mono ?_)
    rw [HD.out]
    rintro e wq ⟨rfl, rfl⟩
    clear cX0 cX1
    cases f with
    | true =>
      have hd : (d == 16) = true := HF.out
      have HE := Lib.hid (show nxt ⟨s, n, a⟩ = (⟨s, n, a⟩, 0, false) by unfold nxt; rw [HM.out]; rfl)
      go_wp2_with (first | (refine stw.list_load rfl 27 _ rfl (w.heap.size) rfl 27 _ X1.out Try.underlying27 rfl szS ?_) | (refine stw.list_store rfl 27 _ _ rfl (w.heap.size + 1) #[.int .i64 s, .int .i64 n, .int .i64 a] rfl rfl 27 _ Z1.out rfl szS (oneS _ _ _) ?_; intro wz2 hz))
      have B2 := Lib.hid (hz.on B1.out (by have hs0 := LTX.out; have hs1 := LTZ.out; have hs2 := SS1.out; first | omega | (simp <;> omega)))
      have X2 := Lib.hid (hz.keep X1.out (by have hs0 := LTX.out; have hs1 := LTZ.out; have hs2 := SS1.out; first | omega | (simp <;> omega)))
      have Z2 := Lib.hid (hz.box)
      clear hz B1 X1 Z1
      (try simp only [Exit.inBlock, Exit.then])
      refine bodyPost_ret (v := .tuple #[.agg #[.int .i64 s, .int .i64 n, .int .i64 a], .int .i64 0, .bool false]) ?_ rfl ?_
      · rw [results_cell2 rfl]
        exact back3 Z2.out Try.underlying27 rfl szS _ _
      · exact ⟨by rw [HE.out], B2.out⟩
    | false =>
      have hd : (d == 16) = false := HF.out
      have HE := Lib.hid (show nxt ⟨s, n, a⟩ = (⟨s, nsq n, a⟩, n, true) by unfold nxt; rw [HM.out]; rfl)
      obtain ⟨n2, hn2⟩ : ∃ x, nsq n = x := ⟨_, rfl⟩
      have HN2 := Lib.hid hn2
      rw [hn2] at HE
      clear hn2
      have cX1 : w1.cell? ⟨w.heap.size, 1, none⟩ = some (.int .i64 n) := X1.out.cell 1
      have fX1 : w1.frozen? ⟨w.heap.size, 1, none⟩ = false := X1.out.free 1
      go_wp2_with fail
      (with_reducible refine (implNs n _).mono ?_)
      rw [HN2.out]
      rintro e wq ⟨rfl, rfl⟩
      go_upto_region 5 with fail
      clear cX1 fX1
      have hWW : (w1.setCell ⟨w.heap.size, 1, none⟩ (.int .i64 n2)) = (w1.setCell ⟨w.heap.size, 1, none⟩ (.int .i64 n2)) := rfl
      obtain ⟨w2, hW⟩ : ∃ wy, (w1.setCell ⟨w.heap.size, 1, none⟩ (.int .i64 n2)) = wy := ⟨_, rfl⟩
      rw [hW]
      clear hWW
      have B2 := Lib.hid (show Below w.heap.size w w2 by rw [← hW]; exact (B1.out.setCell (p := ⟨w.heap.size, 1, none⟩) (by have hs0 := LTX.out; have hs1 := LTZ.out; have hs2 := SS1.out; first | omega | (simp <;> omega)) _))
      have X2 := Lib.hid (show Bx 27 w2 (w.heap.size) #[.int .i64 s, .int .i64 n2, .int .i64 a] by rw [← hW]; exact (X1.out.set 1 _))
      have Z2 := Lib.hid (show Bx 27 w2 (w.heap.size + 1) #[.int .i64 0, .int .i64 0, .int .i64 0] by rw [← hW]; exact (Z1.out.other (by have hs0 := LTX.out; have hs1 := LTZ.out; have hs2 := SS1.out; first | omega | (simp <;> omega)) _ _))
      clear hW B1 X1 Z1
      go_wp2_with (first | (refine stw.list_load rfl 27 _ rfl (w.heap.size) rfl 27 _ X2.out Try.underlying27 rfl szS ?_) | (refine stw.list_store rfl 27 _ _ rfl (w.heap.size + 1) #[.int .i64 s, .int .i64 n2, .int .i64 a] rfl rfl 27 _ Z2.out rfl szS (oneS _ _ _) ?_; intro wz3 hz))
      have B3 := Lib.hid (hz.on B2.out (by have hs0 := LTX.out; have hs1 := LTZ.out; have hs2 := SS1.out; first | omega | (simp <;> omega)))
      have X3 := Lib.hid (hz.keep X2.out (by have hs0 := LTX.out; have hs1 := LTZ.out; have hs2 := SS1.out; first | omega | (simp <;> omega)))
      have Z3 := Lib.hid (hz.box)
      clear hz B2 X2 Z2
      (try simp only [Exit.inBlock, Exit.then])
      refine bodyPost_ret (v := .tuple #[.agg #[.int .i64 s, .int .i64 n2, .int .i64 a], .int .i64 n, .bool true]) ?_ rfl ?_
      · rw [results_cell2 rfl]
        exact back3 Z3.out Try.underlying27 rfl szS _ _
      · exact ⟨by rw [HE.out], B3.out⟩
  | false =>
    have HE := Lib.hid (show nxt ⟨s, n, a⟩ = (⟨s, n, a⟩, 0, false) by unfold nxt; rw [HM.out]; rfl)
    go_wp2_with (first | (refine stw.list_load rfl 27 _ rfl (w.heap.size) rfl 27 _ X1.out Try.underlying27 rfl szS ?_) | (refine stw.list_store rfl 27 _ _ rfl (w.heap.size + 1) #[.int .i64 s, .int .i64 n, .int .i64 a] rfl rfl 27 _ Z1.out rfl szS (oneS _ _ _) ?_; intro wz2 hz))
    have B2 := Lib.hid (hz.on B1.out (by have hs0 := LTX.out; have hs1 := LTZ.out; have hs2 := SS1.out; first | omega | (simp <;> omega)))
    have X2 := Lib.hid (hz.keep X1.out (by have hs0 := LTX.out; have hs1 := LTZ.out; have hs2 := SS1.out; first | omega | (simp <;> omega)))
    have Z2 := Lib.hid (hz.box)
    clear hz B1 X1 Z1
    (try simp only [Exit.inBlock, Exit.then])
    refine bodyPost_ret (v := .tuple #[.agg #[.int .i64 s, .int .i64 n, .int .i64 a], .int .i64 0, .bool false]) ?_ rfl ?_
    · rw [results_cell2 rfl]
      exact back3 Z2.out Try.underlying27 rfl szS _ _
    · exact ⟨by rw [HE.out], B2.out⟩
end Go.Proofs.Ytmmhleobgpgliaa.bs
end

section
namespace Go.Proofs.Ytmmhleobgpgliaa.bm
open Go.RowKit sl
set_option linter.unusedVariables false

def Bit (z : Int) : Prop := z = 0 ∨ z = 1
/-- Is every element 0 or 1? -/
def isb (l : List Int) : Bool := l.all fun z => decide (0 ≤ z ∧ z ≤ 1)
theorem isb_iff (l : List Int) : isb l = true ↔ ∀ z ∈ l, 0 ≤ z ∧ z ≤ 1 := by simp [isb]
theorem isb_all {l : List Int} (h : isb l = true) : ∀ z ∈ l, 0 ≤ z ∧ z ≤ 1 := (isb_iff l).1 h
theorem isb_getD {l : List Int} (h : isb l = true) (i : Nat) : 0 ≤ l.getD i 0 ∧ l.getD i 0 ≤ 1 := by
  rw [List.getD_eq_getElem?_getD]
  rcases Nat.lt_or_ge i l.length with hi | hi
  · rw [List.getElem?_eq_getElem hi]; exact isb_all h _ (List.getElem_mem hi)
  · rw [List.getElem?_eq_none hi]; simp
theorem isb_of_at {l : List Int} (h : ∀ i, i < l.length → 0 ≤ l.getD i 0 ∧ l.getD i 0 ≤ 1) : isb l = true := (isb_iff l).2 fun z hz => by
  obtain ⟨i, hi, rfl⟩ := List.getElem_of_mem hz
  have := h i hi
  rwa [List.getD_eq_getElem?_getD, List.getElem?_eq_getElem hi] at this
theorem isb_no {l : List Int} {i : Nat} (hi : i < l.length) (h : ¬ (0 ≤ l.getD i 0 ∧ l.getD i 0 ≤ 1)) : isb l = false := by
  cases e : isb l
  · rfl
  · exact absurd (isb_getD e i) h
theorem isb_sub {l m : List Int} (h : isb l = true) (hs : ∀ z ∈ m, z ∈ l) : isb m = true := (isb_iff m).2 fun z hz => isb_all h z (hs z hz)

/-- Is every element from lo to hi? -/
def inr (l : List Int) (lo hi : Int) : Bool := l.all fun z => decide (lo ≤ z ∧ z ≤ hi)
theorem inr_isb (l : List Int) : inr l 0 1 = isb l := rfl
theorem inr_iff (l : List Int) (lo hi : Int) : inr l lo hi = true ↔ ∀ z ∈ l, lo ≤ z ∧ z ≤ hi := by simp [inr]
theorem inr_of_at {l : List Int} {lo hi : Int} (h : ∀ i, i < l.length → lo ≤ l.getD i 0 ∧ l.getD i 0 ≤ hi) : inr l lo hi = true := (inr_iff _ _ _).2 fun z hz => by
  obtain ⟨i, hi, rfl⟩ := List.getElem_of_mem hz
  have := h i hi
  rwa [List.getD_eq_getElem?_getD, List.getElem?_eq_getElem hi] at this
theorem inr_no {l : List Int} {lo hi : Int} {i : Nat} (hi' : i < l.length) (h : ¬ (lo ≤ l.getD i 0 ∧ l.getD i 0 ≤ hi)) : inr l lo hi = false := by
  cases e : inr l lo hi
  · rfl
  · have := (inr_iff _ _ _).1 e (l[i]) (List.getElem_mem hi')
    rw [List.getD_eq_getElem?_getD, List.getElem?_eq_getElem hi'] at h
    exact absurd this h
theorem next_in {zs : List Int} {lo hi : Int} {k : Nat} {x : Int} (h : ∀ j, j < k → lo ≤ zs.getD j 0 ∧ zs.getD j 0 ≤ hi) (hx : zs.getD k 0 = x) (h1 : lo ≤ x) (h2 : x ≤ hi) : ∀ j, j < k + 1 → lo ≤ zs.getD j 0 ∧ zs.getD j 0 ≤ hi := fun j hj => by
  rcases Nat.lt_or_ge j k with hjk | hjk
  · exact h j hjk
  · obtain rfl : j = k := by omega
    rw [hx]; exact ⟨h1, h2⟩

/-- The number of a bit string, bit 0 first. -/
def num : List Int → Int
  | [] => 0
  | x :: l => x + 2 * num l
theorem num_append : ∀ (a b : List Int), num (a ++ b) = num a + num b * 2 ^ a.length
  | [], b => by simp [num]
  | x :: a, b => by
    rw [List.cons_append, num, num, num_append a b, List.length_cons, Int.pow_succ, Int.mul_add, Int.mul_comm 2 (num b * 2 ^ a.length), Int.mul_assoc]; omega
theorem num_in : ∀ {l : List Int}, (∀ z ∈ l, 0 ≤ z ∧ z ≤ 1) → 0 ≤ num l ∧ num l < 2 ^ l.length
  | [], _ => by simp [num]
  | x :: l, h => by
    have h1 := h x (List.mem_cons_self ..)
    have h2 := num_in (l := l) fun z hz => h z (List.mem_cons_of_mem _ hz)
    rw [num, List.length_cons, Int.pow_succ]
    omega
theorem num_take (l : List Int) {k : Nat} (h : k < l.length) : num (l.take (k + 1)) = num (l.take k) + l.getD k 0 * 2 ^ k := by
  rw [List.take_add_one, num_append, List.getElem?_eq_getElem h, List.getD_eq_getElem?_getD, List.getElem?_eq_getElem h]
  simp [num, List.length_take, Nat.min_eq_left (Nat.le_of_lt h)]
theorem pow_le {k m : Nat} (h : k ≤ m) : (2 : Int) ^ k ≤ 2 ^ m := by
  have := Nat.pow_le_pow_right (show 0 < 2 by omega) h
  exact_mod_cast this
theorem pow_pos (k : Nat) : (0 : Int) < 2 ^ k := Int.pow_pos (by omega)

/-- The first c bits of a number. -/
def dig (n : Int) (c : Nat) : List Int := (List.range c).map fun (k : Nat) => n / 2 ^ k % 2
theorem dig_len (n : Int) (c : Nat) : (dig n c).length = c := by simp [dig]
theorem dig_at (n : Int) {c k : Nat} (h : k < c) : (dig n c).getD k 0 = n / 2 ^ k % 2 := by simp [dig, List.getD_eq_getElem?_getD, h]
theorem dig_bit (n : Int) (c : Nat) : ∀ z ∈ dig n c, 0 ≤ z ∧ z ≤ 1 := fun z hz => by
  obtain ⟨k, _, rfl⟩ := List.mem_map.1 hz
  omega
theorem dig_succ (n : Int) (c : Nat) : dig n (c + 1) = dig n c ++ [n / 2 ^ c % 2] := by simp [dig, List.range_succ]
theorem num_dig (n : Int) : ∀ c : Nat, num (dig n c) = n % 2 ^ c
  | 0 => by simp [dig, num]
  | c + 1 => by
    rw [dig_succ, num_append, num_dig n c, dig_len]
    simp only [num]
    have hp := pow_pos c
    have e1 : n % 2 ^ (c + 1) = n % 2 ^ c + n / 2 ^ c % 2 * 2 ^ c := by
      rw [Int.pow_succ]
      have h1 := Int.emod_add_mul_ediv n (2 ^ c)
      have h2 := Int.emod_add_mul_ediv (n / 2 ^ c) 2
      have h3 := Int.emod_lt_of_pos n hp
      have h4 := Int.emod_nonneg n (show (2 : Int) ^ c ≠ 0 by omega)
      generalize n % 2 ^ c = r at *
      generalize n / 2 ^ c = q at *
      have h5 : q % 2 = 0 ∨ q % 2 = 1 := by omega
      generalize q / 2 = s at *
      have e : n = (r + q % 2 * 2 ^ c) + 2 ^ c * 2 * s := by
        rw [← h1]
        conv => lhs; rw [← h2]
        rw [Int.mul_add, Int.mul_comm (2 ^ c) (q % 2), Int.mul_assoc, Int.add_assoc]
      rw [e, Int.add_mul_emod_self_left]
      apply Int.emod_eq_of_lt
      · rcases h5 with h5 | h5 <;> rw [h5] <;> omega
      · rcases h5 with h5 | h5 <;> rw [h5] <;> omega
    rw [e1, Int.mul_zero, Int.add_zero]
theorem ediv2 (n m : Int) (h : 0 ≤ m) : n / 2 / m = n / (2 * m) := by
  rw [Int.ediv_ediv, if_neg (by omega), Int.sub_zero]
theorem num_div : ∀ (l : List Int), (∀ z ∈ l, 0 ≤ z ∧ z ≤ 1) → ∀ k : Nat, num l / 2 ^ k % 2 = l.getD k 0
  | [], _, k => by simp [num]
  | x :: l, h, 0 => by
    have h1 := h x (List.mem_cons_self ..)
    simp [num]; omega
  | x :: l, h, k + 1 => by
    have h1 := h x (List.mem_cons_self ..)
    have ih := num_div l (fun z hz => h z (List.mem_cons_of_mem _ hz)) k
    have e : num (x :: l) / 2 ^ (k + 1) = num l / 2 ^ k := by
      rw [Int.pow_succ, Int.mul_comm (2 ^ k) 2, ← ediv2 _ _ (Int.le_of_lt (pow_pos k))]
      congr 1
      simp only [num]; omega
    rw [e, ih]; simp
theorem dig_num {l : List Int} (h : ∀ z ∈ l, 0 ≤ z ∧ z ≤ 1) : dig (num l) l.length = l := by
  apply List.ext_getElem (dig_len _ _)
  intro i h1 h2
  have := num_div l h i
  rw [List.getD_eq_getElem?_getD, List.getElem?_eq_getElem h2] at this
  simpa [dig] using this

/-- The bits of bytes. -/
def btb (l : List Int) : List Int := l.flatMap fun x => dig x 8
theorem btb_nil : btb [] = [] := rfl
theorem btb_append (a b : List Int) : btb (a ++ b) = btb a ++ btb b := by simp [btb]
theorem btb_one (x : Int) : btb [x] = dig x 8 := by simp [btb]
theorem btb_len (l : List Int) : (btb l).length = 8 * l.length := by
  induction l with
  | nil => rfl
  | cons x l ih => rw [show x :: l = [x] ++ l from rfl, btb_append, List.length_append, ih, btb_one, dig_len, List.length_append]; simp; omega
theorem btb_bit (l : List Int) : ∀ z ∈ btb l, 0 ≤ z ∧ z ≤ 1 := fun z hz => by
  obtain ⟨x, _, h⟩ := List.mem_flatMap.1 hz
  exact dig_bit x 8 z h
theorem btb_isb (l : List Int) : isb (btb l) = true := (isb_iff _).2 (btb_bit l)
theorem btb_wf (l : List Int) : Wf .i64 (btb l) := Wf.of_i64 fun z hz => by have := btb_bit l z hz; omega
theorem btb_take (l : List Int) {k : Nat} (h : k < l.length) : btb (l.take (k + 1)) = btb (l.take k) ++ dig (l.getD k 0) 8 := by
  rw [List.take_add_one, btb_append, List.getElem?_eq_getElem h, List.getD_eq_getElem?_getD, List.getElem?_eq_getElem h]
  simp [btb]

/-- The bytes of bits, eight each. -/
def bytesOf : Nat → List Int → List Int
  | 0, _ => []
  | n + 1, l => num (l.take 8) :: bytesOf n (l.drop 8)
theorem bytesOf_len : ∀ (n : Nat) (l : List Int), (bytesOf n l).length = n
  | 0, _ => rfl
  | n + 1, l => by rw [bytesOf, List.length_cons, bytesOf_len n]
theorem bytesOf_at : ∀ (n : Nat) (l : List Int) (i : Nat), i < n → (bytesOf n l).getD i 0 = num ((l.drop (8 * i)).take 8)
  | 0, _, _, h => absurd h (by omega)
  | n + 1, l, 0, _ => by simp [bytesOf]
  | n + 1, l, i + 1, h => by
    rw [bytesOf, List.getD_cons_succ, bytesOf_at n _ i (by omega), List.drop_drop]
    congr 3; omega
theorem bytesOf_in : ∀ (n : Nat) {l : List Int}, isb l = true → ∀ z ∈ bytesOf n l, 0 ≤ z ∧ z ≤ 255
  | 0, _, _, z, hz => by cases hz
  | n + 1, l, h, z, hz => by
    rcases List.mem_cons.1 hz with hz | hz
    · have h1 := num_in (isb_all (isb_sub h (m := l.take 8) fun z hz => List.mem_of_mem_take hz))
      have h2 := pow_le (k := (l.take 8).length) (m := 8) (by simp; omega)
      subst hz; omega
    · exact bytesOf_in n (isb_sub h (m := l.drop 8) fun z hz => List.mem_of_mem_drop hz) z hz
theorem bytesOf_succ : ∀ (n : Nat) (l : List Int), bytesOf (n + 1) l = bytesOf n l ++ [num ((l.drop (8 * n)).take 8)]
  | 0, l => by simp [bytesOf]
  | n + 1, l => by
    rw [bytesOf, bytesOf_succ n (l.drop 8), bytesOf, List.cons_append, List.drop_drop, show 8 + 8 * n = 8 * (n + 1) by omega]
/-- BitsToBytes: the bytes and whether there are any. -/
def bb (l : List Int) : List Int × Bool := if isb l = true ∧ l.length % 8 = 0 then (bytesOf (l.length / 8) l, true) else ([], false)
theorem bb_yes {l : List Int} (h : isb l = true) (h8 : l.length % 8 = 0) : bb l = (bytesOf (l.length / 8) l, true) := if_pos ⟨h, h8⟩
theorem bb_no {l : List Int} (h : ¬ (isb l = true ∧ l.length % 8 = 0)) : bb l = ([], false) := if_neg h
theorem bytesOf_btb : ∀ (l : List Int), (∀ z ∈ l, 0 ≤ z ∧ z ≤ 255) → bytesOf l.length (btb l) = l
  | [], _ => rfl
  | x :: l, h => by
    have h1 := h x (List.mem_cons_self ..)
    have e : btb (x :: l) = dig x 8 ++ btb l := rfl
    rw [List.length_cons, bytesOf, e, List.take_append_of_le_length (by rw [dig_len]; omega), List.take_of_length_le (by rw [dig_len]; omega), List.drop_append_of_le_length (by rw [dig_len]; omega),
      List.drop_of_length_le (by rw [dig_len]; omega), List.nil_append, bytesOf_btb l (fun z hz => h z (List.mem_cons_of_mem _ hz)), num_dig]
    congr 1; omega
theorem btb_bytesOf : ∀ (n : Nat) (l : List Int), isb l = true → l.length = 8 * n → btb (bytesOf n l) = l
  | 0, l, _, h => by
    have : l = [] := List.length_eq_zero_iff.1 (by omega)
    subst this; rfl
  | n + 1, l, hb, h => by
    have ih := btb_bytesOf n (l.drop 8) (isb_sub hb fun z hz => List.mem_of_mem_drop hz) (by simp; omega)
    have e : btb (bytesOf (n + 1) l) = dig (num (l.take 8)) 8 ++ btb (bytesOf n (l.drop 8)) := rfl
    have hl : (l.take 8).length = 8 := by simp; omega
    have e2 := dig_num (isb_all (isb_sub hb (m := l.take 8) fun z hz => List.mem_of_mem_take hz))
    rw [hl] at e2
    rw [e, ih, e2, List.take_append_drop]
theorem bb_btb {l : List Int} (h : ∀ z ∈ l, 0 ≤ z ∧ z ≤ 255) : bb (btb l) = (l, true) := by
  rw [bb_yes (btb_isb l) (by rw [btb_len]; omega), btb_len, show 8 * l.length / 8 = l.length by omega, bytesOf_btb l h]
theorem bb_len (l : List Int) : (bb l).1.length ≤ l.length := by
  unfold bb; split
  · rw [bytesOf_len]; omega
  · simp
theorem bb_in (l : List Int) : ∀ z ∈ (bb l).1, 0 ≤ z ∧ z ≤ 255 := by
  unfold bb; split
  · rename_i h; exact bytesOf_in _ h.1
  · intro z hz; cases hz

/-- BitsToInt. -/
def bti (l : List Int) : Int := if isb l = true ∧ l.length ≤ 40 then num l else 0
theorem bti_yes {l : List Int} (h : isb l = true) (h8 : l.length ≤ 40) : bti l = num l := if_pos ⟨h, h8⟩
theorem bti_no {l : List Int} (h : ¬ (isb l = true ∧ l.length ≤ 40)) : bti l = 0 := if_neg h
theorem bti_in (l : List Int) : 0 ≤ bti l ∧ bti l < 1099511627776 := by
  unfold bti; split
  · rename_i h
    have h1 := num_in (isb_all h.1)
    have h2 := pow_le h.2
    omega
  · omega
/-- IntToBits. -/
def itb (n c : Int) : List Int := if 0 ≤ n ∧ (0 ≤ c ∧ c ≤ 40) then dig n c.toNat else []
theorem itb_yes {n c : Int} (h : 0 ≤ n) (h2 : 0 ≤ c ∧ c ≤ 40) : itb n c = dig n c.toNat := if_pos ⟨h, h2⟩
theorem itb_no {n c : Int} (h : ¬ (0 ≤ n ∧ (0 ≤ c ∧ c ≤ 40))) : itb n c = [] := if_neg h
theorem itb_len (n c : Int) : (itb n c).length ≤ 40 := by
  unfold itb; split
  · rw [dig_len]; omega
  · simp
theorem itb_wf (n c : Int) : Wf .i64 (itb n c) := Wf.of_i64 fun z hz => by
  unfold itb at hz; split at hz
  · have := dig_bit _ _ z hz; omega
  · cases hz
theorem bti_itb {n : Int} (h0 : 0 ≤ n) (h : n < 65536) : bti (itb n 16) = n := by
  rw [itb_yes h0 (by omega), bti_yes ((isb_iff _).2 (dig_bit n _)) (by rw [dig_len]; omega), num_dig, show Int.toNat 16 = 16 from rfl]
  omega

/-- Weight. -/
def wt (l : List Int) : Int := (l.countP fun z => z == 1 : Nat)
theorem wt_take (l : List Int) {k : Nat} (h : k < l.length) : wt (l.take (k + 1)) = wt (l.take k) + (if l.getD k 0 = 1 then 1 else 0) := by
  rw [List.take_add_one, List.getElem?_eq_getElem h, List.getD_eq_getElem?_getD, List.getElem?_eq_getElem h]
  simp only [wt, Option.toList, List.countP_append, List.countP_singleton, Option.getD_some, beq_iff_eq]
  split <;> simp
theorem wt_in (l : List Int) : 0 ≤ wt l ∧ wt l ≤ l.length := by
  have := List.countP_le_length (p := fun z => z == (1 : Int)) (l := l)
  unfold wt; omega
/-- The elementwise sum modulo 2. -/
def xorB (a b : List Int) : List Int := List.zipWith (fun x y => bits .and .i64 (bits .xor .i64 x y) 1) a b
theorem xorB_len (a b : List Int) : (xorB a b).length = min a.length b.length := by simp [xorB]
theorem xorB_at (a b : List Int) {k : Nat} (h1 : k < a.length) (h2 : k < b.length) : (xorB a b).getD k 0 = bits .and .i64 (bits .xor .i64 (a.getD k 0) (b.getD k 0)) 1 := by
  simp [xorB, List.getD_eq_getElem?_getD, List.getElem?_zipWith, h1, h2]
/-- At how many indices do two lists differ, as far as both go? -/
def diff : List Int → List Int → Int
  | x :: a, y :: b => (if x = y then 0 else 1) + diff a b
  | _, _ => 0
theorem diff_in : ∀ (a b : List Int), 0 ≤ diff a b ∧ diff a b ≤ a.length
  | [], b => by cases b <;> simp [diff]
  | x :: a, [] => by simp [diff]; omega
  | x :: a, y :: b => by
    have := diff_in a b
    simp only [diff, List.length_cons]; split <;> omega
theorem diff_min : ∀ (a b : List Int), diff a b ≤ (min a.length b.length : Nat)
  | [], b => by simp [diff]
  | x :: a, [] => by simp [diff]
  | x :: a, y :: b => by
    have := diff_min a b
    have e : min (x :: a).length (y :: b).length = min a.length b.length + 1 := by simp only [List.length_cons]; omega
    rw [e, diff]; split <;> omega
theorem diff_take : ∀ (a b : List Int) (k : Nat), k < a.length → k < b.length → diff (a.take (k + 1)) (b.take (k + 1)) = diff (a.take k) (b.take k) + (if a.getD k 0 = b.getD k 0 then 0 else 1)
  | x :: a, y :: b, 0, _, _ => by simp [diff]
  | x :: a, y :: b, k + 1, h1, h2 => by
    have := diff_take a b k (by simpa using h1) (by simpa using h2)
    rw [List.take_succ_cons, List.take_succ_cons, List.take_succ_cons, List.take_succ_cons, diff, diff, List.getD_cons_succ, List.getD_cons_succ]
    omega
  | [], _, _, h, _ => absurd h (by simp)
  | _ :: _, [], _, _, h => absurd h (by simp)
theorem diff_all : ∀ (a b : List Int) (k : Nat), min a.length b.length ≤ k → diff (a.take k) (b.take k) = diff a b
  | [], b, k, _ => by simp [diff]
  | x :: a, [], k, _ => by cases k <;> simp [diff]
  | x :: a, y :: b, 0, h => absurd h (by simp)
  | x :: a, y :: b, k + 1, h => by
    simp only [List.take_succ_cons, diff]
    rw [diff_all a b k (by simp only [List.length_cons] at h; omega)]
/-- HammingDistance. -/
def ham (a b : List Int) : Int := (max a.length b.length : Nat) - (min a.length b.length : Nat) + diff a b
theorem ham_in (a b : List Int) : 0 ≤ ham a b ∧ ham a b ≤ a.length + b.length := by
  have h1 := diff_in a b
  have h2 : max a.length b.length + min a.length b.length = a.length + b.length := by omega
  have h4 : min a.length b.length ≤ max a.length b.length := by omega
  have h3 : diff a b ≤ (min a.length b.length : Nat) := diff_min a b
  unfold ham
  generalize max a.length b.length = p at *
  generalize min a.length b.length = q at *
  omega
theorem bit_xor {x y : Int} (hx : 0 ≤ x ∧ x ≤ 1) (hy : 0 ≤ y ∧ y ≤ 1) : bits .and .i64 (bits .xor .i64 x y) 1 = if x = y then 0 else 1 := by
  have h1 : x = 0 ∨ x = 1 := by omega
  have h2 : y = 0 ∨ y = 1 := by omega
  rcases h1 with rfl | rfl <;> rcases h2 with rfl | rfl <;> decide
theorem wt_xor : ∀ (a b : List Int), (∀ z ∈ a, 0 ≤ z ∧ z ≤ 1) → (∀ z ∈ b, 0 ≤ z ∧ z ≤ 1) → wt (xorB a b) = diff a b
  | [], b, _, _ => by cases b <;> rfl
  | x :: a, [], _, _ => rfl
  | x :: a, y :: b, ha, hb => by
    have ih := wt_xor a b (fun z hz => ha z (List.mem_cons_of_mem _ hz)) (fun z hz => hb z (List.mem_cons_of_mem _ hz))
    have e : wt (xorB (x :: a) (y :: b)) = wt (xorB a b) + (if bits .and .i64 (bits .xor .i64 x y) 1 = 1 then 1 else 0) := by
      simp only [wt, xorB, List.zipWith_cons_cons, List.countP_cons, beq_iff_eq]
      split <;> simp
    rw [e, ih, bit_xor (ha x (List.mem_cons_self ..)) (hb y (List.mem_cons_self ..)), diff]
    split <;> simp <;> omega
theorem xor_xor : ∀ (a b : List Int), (∀ z ∈ a, 0 ≤ z ∧ z ≤ 1) → (∀ z ∈ b, 0 ≤ z ∧ z ≤ 1) → a.length = b.length → xorB (xorB a b) b = a
  | [], b, _, _, _ => by cases b <;> rfl
  | x :: a, [], _, _, h => absurd h (by simp)
  | x :: a, y :: b, ha, hb, h => by
    have ih := xor_xor a b (fun z hz => ha z (List.mem_cons_of_mem _ hz)) (fun z hz => hb z (List.mem_cons_of_mem _ hz)) (by simpa using h)
    have h1 := ha x (List.mem_cons_self ..)
    have h2 := hb y (List.mem_cons_self ..)
    have e : xorB (xorB (x :: a) (y :: b)) (y :: b) = bits .and .i64 (bits .xor .i64 (bits .and .i64 (bits .xor .i64 x y) 1) y) 1 :: xorB (xorB a b) b := rfl
    rw [e, ih, bit_xor h1 h2]
    have h3 : x = 0 ∨ x = 1 := by omega
    have h4 : y = 0 ∨ y = 1 := by omega
    rcases h3 with rfl | rfl <;> rcases h4 with rfl | rfl <;> rfl
end Go.Proofs.Ytmmhleobgpgliaa.bm
end

section
namespace Go.Proofs.Ytmmhleobgpgliaa.bits
open Go.RowKit sl harn bm rng

theorem next_bit {zs : List Int} {k : Nat} {x : Int} (h : ∀ j, j < k → 0 ≤ zs.getD j 0 ∧ zs.getD j 0 ≤ 1) (hx : zs.getD k 0 = x) (h1 : 0 ≤ x) (h2 : x ≤ 1) : ∀ j, j < k + 1 → 0 ≤ zs.getD j 0 ∧ zs.getD j 0 ≤ 1 := fun j hj => by
  rcases Nat.lt_or_ge j k with hjk | hjk
  · exact h j hjk
  · obtain rfl : j = k := by omega
    rw [hx]; exact ⟨h1, h2⟩
theorem ret_bool {a b : Bool} (h : a = b) : Ending.returned (.bool a) = .returned (.bool b) := by rw [h]
theorem take_all {zs : List Int} {n : Nat} (h : zs.length = n) : zs.take n = zs := List.take_of_length_le (by omega)
theorem wt_next {zs : List Int} {k : Nat} {a x : Int} (h : a = wt (zs.take k)) (hk : k < zs.length) (hx : zs.getD k 0 = x) : wt (zs.take (k + 1)) = a + (if x = 1 then 1 else 0) := by
  rw [wt_take zs hk, h, hx]
theorem wt_bd {zs : List Int} {k : Nat} {a : Int} (h : a = wt (zs.take k)) : 0 ≤ a ∧ a ≤ k := by
  have := wt_in (zs.take k)
  rw [h]; simp at this ⊢; omega
/-- Parity. -/
def par (l : List Int) : Int := wt l % 2
end Go.Proofs.Ytmmhleobgpgliaa.bits
end

section
namespace Go.Proofs.Ytmmhleobgpgliaa.plm
open Go.RowKit
set_option linter.unusedVariables false

/-- The station exists. -/
def plc (z : List Int) (a : Int) : Bool := decide (0 ≤ a ∧ a ≤ (z.length : Int) - 1)
def at_ (z : List Int) (a : Int) : Int := z.getD a.toNat 0
def mx (x y : Int) : Int := if x < y then y else x
def mn (x y : Int) : Int := if y < x then y else x
def dst (z : List Int) (a b : Int) : Int := if plc z a = true ∧ plc z b = true then wrap64 (mx (at_ z a) (at_ z b) - mn (at_ z a) (at_ z b)) else -1
/-- Different stations at most so far apart. -/
def win (z : List Int) (lim a b : Int) : Bool := decide (a ≠ b ∧ plc z a = true ∧ plc z b = true ∧ dst z a b ≤ lim)
/-- The stations within this distance of a, in ascending order. -/
def nbs (z : List Int) (lim a : Int) (k : Nat) : List Int := (List.range k).flatMap fun (b : Nat) => if win z lim a b = true then [(b : Int)] else []
def hdn (z : List Int) (r s a b q : Int) : Bool := decide (a ≠ b ∧ win z r a q = true ∧ win z r b q = true ∧ win z s a b = false)
theorem mx_comm (x y : Int) : mx x y = mx y x := by unfold mx; split <;> split <;> omega
theorem mn_comm (x y : Int) : mn x y = mn y x := by unfold mn; split <;> split <;> omega
theorem dst_comm (z : List Int) (a b : Int) : dst z a b = dst z b a := by
  unfold dst
  rw [mx_comm, mn_comm]
  by_cases h1 : plc z a = true <;> by_cases h2 : plc z b = true <;> simp [h1, h2]
theorem win_comm (z : List Int) (l a b : Int) : win z l a b = win z l b a := by
  unfold win
  rw [dst_comm]
  apply decide_eq_decide.2
  constructor
  · rintro ⟨h1, h2, h3, h4⟩; exact ⟨fun e => h1 e.symm, h3, h2, h4⟩
  · rintro ⟨h1, h2, h3, h4⟩; exact ⟨fun e => h1 e.symm, h3, h2, h4⟩
theorem plc_iff {z : List Int} {a : Int} : plc z a = true ↔ 0 ≤ a ∧ a ≤ (z.length : Int) - 1 := by unfold plc; exact decide_eq_true_iff
theorem plc_nat {z : List Int} {a : Int} (h : plc z a = true) {n : Nat} (hn : z.length = n) : ∃ i : Nat, a = (i : Int) ∧ i < n := by
  have := plc_iff.1 h
  exact ⟨a.toNat, by omega, by omega⟩
theorem at_nat (z : List Int) (i : Nat) : at_ z (i : Int) = z.getD i 0 := by unfold at_; simp
theorem dst_in {z : List Int} {a b : Int} (ha : plc z a = true) (hb : plc z b = true) {x y m g : Int} (hx : at_ z a = x) (hy : at_ z b = y) (hm : m = mx x y) (hg : g = mn x y) : dst z a b = wrap64 (m - g) := by
  subst hx hy hm hg
  unfold dst
  rw [if_pos ⟨ha, hb⟩]
theorem dst_no1 {z : List Int} {a b : Int} (ha : plc z a = false) : dst z a b = -1 := by unfold dst; rw [if_neg]; simp [ha]
theorem dst_no2 {z : List Int} {a b : Int} (hb : plc z b = false) : dst z a b = -1 := by unfold dst; rw [if_neg]; simp [hb]
theorem win_no0 {z : List Int} {l a b : Int} (h : a = b) : win z l a b = false := decide_eq_false fun hh => hh.1 h
theorem win_no1 {z : List Int} {l a b : Int} (h : plc z a = false) : win z l a b = false := decide_eq_false fun hh => by have := hh.2.1; rw [h] at this; cases this
theorem win_no2 {z : List Int} {l a b : Int} (h : plc z b = false) : win z l a b = false := decide_eq_false fun hh => by have := hh.2.2.1; rw [h] at this; cases this
theorem win_at {z : List Int} {l a b d : Int} {v : Bool} (h0 : ¬ a = b) (h1 : plc z a = true) (h2 : plc z b = true) (hd : dst z a b = d) (hv : decide (d ≤ l) = v) : win z l a b = v := by
  subst hd hv
  unfold win
  exact decide_eq_decide.2 ⟨fun h => h.2.2.2, fun h => ⟨h0, h1, h2, h⟩⟩
theorem win_iff {z : List Int} {l a b : Int} : win z l a b = true ↔ a ≠ b ∧ plc z a = true ∧ plc z b = true ∧ dst z a b ≤ l := by unfold win; exact decide_eq_true_iff
theorem nbs_zero (z : List Int) (l a : Int) : nbs z l a 0 = [] := rfl
theorem nbs_yes {z : List Int} {l a : Int} {k : Nat} (h : win z l a k = true) : nbs z l a (k + 1) = nbs z l a k ++ [(k : Int)] := by
  unfold nbs; rw [List.range_succ, List.flatMap_append]; simp [h]
theorem nbs_no {z : List Int} {l a : Int} {k : Nat} (h : win z l a k = false) : nbs z l a (k + 1) = nbs z l a k := by
  unfold nbs; rw [List.range_succ, List.flatMap_append]; simp [h]
theorem nbs_len (z : List Int) (l a : Int) (k : Nat) : (nbs z l a k).length ≤ k := by
  induction k with
  | zero => simp [nbs]
  | succ k ih =>
    by_cases h : win z l a k = true
    · rw [nbs_yes h]; simp; omega
    · rw [nbs_no (by simpa using h)]; omega
theorem nbs_mem (z : List Int) (l a : Int) (k : Nat) (x : Int) : x ∈ nbs z l a k ↔ ∃ i : Nat, i < k ∧ x = (i : Int) ∧ win z l a i = true := by
  unfold nbs
  simp only [List.mem_flatMap, List.mem_range]
  constructor
  · rintro ⟨i, h1, h2⟩
    by_cases h : win z l a i = true
    · rw [if_pos h] at h2; simp at h2; exact ⟨i, h1, h2, h⟩
    · rw [if_neg h] at h2; simp at h2
  · rintro ⟨i, h1, rfl, h⟩
    exact ⟨i, h1, by rw [if_pos h]; simp⟩
theorem hdn_no0 {z : List Int} {r s a b q : Int} (h : a = b) : hdn z r s a b q = false := decide_eq_false fun hh => hh.1 h
theorem hdn_no1 {z : List Int} {r s a b q : Int} (h : win z r a q = false) : hdn z r s a b q = false := decide_eq_false fun hh => by have := hh.2.1; rw [h] at this; cases this
theorem hdn_no2 {z : List Int} {r s a b q : Int} (h : win z r b q = false) : hdn z r s a b q = false := decide_eq_false fun hh => by have := hh.2.2.1; rw [h] at this; cases this
theorem hdn_at {z : List Int} {r s a b q : Int} {v : Bool} (h0 : ¬ a = b) (h1 : win z r a q = true) (h2 : win z r b q = true) (hv : win z s a b = v) : hdn z r s a b q = !v := by
  subst hv
  unfold hdn
  cases h : win z s a b with
  | true => exact decide_eq_false fun hh => by have := hh.2.2.2; cases this
  | false => exact decide_eq_true ⟨h0, h1, h2, rfl⟩
end Go.Proofs.Ytmmhleobgpgliaa.plm
end

section
namespace Go.Proofs.Ytmmhleobgpgliaa.bx
open Go.RowKit sl harn rng plm
set_option linter.unusedVariables false

end Go.Proofs.Ytmmhleobgpgliaa.bx
end

section
namespace Go.Proofs.Ytmmhleobgpgliaa.bx
open Go.RowKit sl harn rng plm
set_option linter.unusedVariables false

end Go.Proofs.Ytmmhleobgpgliaa.bx
end

section
namespace Go.Proofs.Ytmmhleobgpgliaa.bx
open Go.RowKit sl harn rng plm bm
set_option linter.unusedVariables false

/-- Neighbours being gathered. -/
def Nb (z : List Int) (l a : Int) (w wr : World) (k : Nat) (v : Value) : Prop :=
  ∃ A q cp, v = .slice A q cp ∧ Ow 3 .i64 wr w.heap.size wr.heap.size A q cp (nbs z l a k) ∧ Below w.heap.size w wr
/-- A valid placement. -/
def vpl (z : List Int) (r s : Int) : Bool := decide (1 ≤ (z.length : Int) ∧ (z.length : Int) ≤ 16) && (inr z 0 1000 && (decide (1 ≤ r ∧ r ≤ s) && decide (s ≤ 1000)))
end Go.Proofs.Ytmmhleobgpgliaa.bx
end

section
namespace Go.Proofs.Ytmmhleobgpgliaa.rfm
open Go.RowKit plm
set_option linter.unusedVariables false

/-- The senders below k that the receiver senses, each once, in ascending order. -/
def sen (z : List Int) (s : Int) (l : List Int) (q : Int) (k : Nat) : List Int := (List.range k).flatMap fun (i : Nat) => if (i : Int) ∈ l ∧ win z s i q = true then [(i : Int)] else []
theorem sen_yes {z : List Int} {s : Int} {l : List Int} {q : Int} {k : Nat} (h1 : (k : Int) ∈ l) (h2 : win z s k q = true) : sen z s l q (k + 1) = sen z s l q k ++ [(k : Int)] := by
  unfold sen; rw [List.range_succ, List.flatMap_append]; simp [h1, h2]
theorem sen_no {z : List Int} {s : Int} {l : List Int} {q : Int} {k : Nat} (h : ¬ ((k : Int) ∈ l ∧ win z s k q = true)) : sen z s l q (k + 1) = sen z s l q k := by
  unfold sen; rw [List.range_succ, List.flatMap_append]; simp only [List.flatMap_cons, List.flatMap_nil, if_neg h, List.append_nil]
theorem sen_mem (z : List Int) (s : Int) (l : List Int) (q : Int) (k : Nat) (x : Int) : x ∈ sen z s l q k ↔ ∃ i : Nat, i < k ∧ x = (i : Int) ∧ x ∈ l ∧ win z s x q = true := by
  unfold sen
  simp only [List.mem_flatMap, List.mem_range]
  constructor
  · rintro ⟨i, h1, h2⟩
    by_cases h : (i : Int) ∈ l ∧ win z s i q = true
    · rw [if_pos h] at h2; simp at h2; subst h2; exact ⟨i, h1, rfl, h.1, h.2⟩
    · rw [if_neg h] at h2; simp at h2
  · rintro ⟨i, h1, rfl, h⟩
    exact ⟨i, h1, by rw [if_pos h]; simp⟩
theorem sen_len (z : List Int) (s : Int) (l : List Int) (q : Int) (k : Nat) : (sen z s l q k).length ≤ k := by
  induction k with
  | zero => simp [sen]
  | succ k ih =>
    by_cases h : (k : Int) ∈ l ∧ win z s k q = true
    · rw [sen_yes h.1 h.2]; simp; omega
    · rw [sen_no h]; omega
theorem sen_asc (z : List Int) (s : Int) (l : List Int) (q : Int) (k : Nat) : (sen z s l q k).Pairwise (· < ·) := by
  induction k with
  | zero => simp [sen]
  | succ k ih =>
    by_cases h : (k : Int) ∈ l ∧ win z s k q = true
    · rw [sen_yes h.1 h.2, List.pairwise_append]
      refine ⟨ih, by simp, fun a ha b hb => ?_⟩
      obtain ⟨i, h1, rfl, _⟩ := (sen_mem _ _ _ _ _ _).1 ha
      simp at hb; omega
    · rw [sen_no h]; exact ih
theorem sen_all (z : List Int) (s : Int) (l : List Int) (q x : Int) : x ∈ sen z s l q z.length ↔ x ∈ l ∧ win z s x q = true := by
  rw [sen_mem]
  constructor
  · rintro ⟨i, _, _, h1, h2⟩; exact ⟨h1, h2⟩
  · rintro ⟨h1, h2⟩
    obtain ⟨i, rfl, hi⟩ := plc_nat (win_iff.1 h2).2.1 rfl
    exact ⟨i, hi, rfl, h1, h2⟩
/-- Which stations are sensed senders among the first k senders. -/
def mrk (z : List Int) (s : Int) (l : List Int) (q : Int) (k : Nat) (j : Nat) : Bool := decide ((j : Int) ∈ l.take k ∧ win z s j q = true)
theorem mem_take_succ {l : List Int} {k : Nat} (hk : k < l.length) {x : Int} (hx : l.getD k 0 = x) (y : Int) : y ∈ l.take (k + 1) ↔ y ∈ l.take k ∨ y = x := by
  have e : l.take (k + 1) = l.take k ++ [x] := by
    rw [List.take_add_one, List.getElem?_eq_getElem hk]
    have : l[k] = x := by rw [← hx, List.getD_eq_getElem?_getD, List.getElem?_eq_getElem hk]; rfl
    simp [this]
  rw [e, List.mem_append, List.mem_singleton]
theorem mrk_yes {z : List Int} {s : Int} {l : List Int} {q : Int} {k : Nat} (hk : k < l.length) {i : Nat} (hx : l.getD k 0 = (i : Int)) (h : win z s i q = true) (j : Nat) : mrk z s l q (k + 1) j = (decide (j = i) || mrk z s l q k j) := by
  unfold mrk
  rw [Bool.eq_iff_iff, decide_eq_true_iff, Bool.or_eq_true, decide_eq_true_iff, decide_eq_true_iff, mem_take_succ hk hx]
  constructor
  · rintro ⟨h1 | h1, h2⟩
    · exact .inr ⟨h1, h2⟩
    · exact .inl (by omega)
  · rintro (rfl | ⟨h1, h2⟩)
    · exact ⟨.inr rfl, h⟩
    · exact ⟨.inl h1, h2⟩
theorem mrk_no {z : List Int} {s : Int} {l : List Int} {q : Int} {k : Nat} (hk : k < l.length) {x : Int} (hx : l.getD k 0 = x) (h : win z s x q = false) (j : Nat) : mrk z s l q (k + 1) j = mrk z s l q k j := by
  unfold mrk
  apply decide_eq_decide.2
  rw [mem_take_succ hk hx]
  constructor
  · rintro ⟨h1 | h1, h2⟩
    · exact ⟨h1, h2⟩
    · rw [h1, h] at h2; cases h2
  · rintro ⟨h1, h2⟩; exact ⟨.inl h1, h2⟩
/-- The first of the least among the first k. -/
def Fst (d : Int → Int) (m : List Int) (k : Nat) (x : Int) : Prop := ∃ j0, j0 < k ∧ m.getD j0 0 = x ∧ (∀ j, j < k → d x ≤ d (m.getD j 0)) ∧ ∀ j, j < j0 → d x < d (m.getD j 0)
theorem Fst.start (d : Int → Int) (m : List Int) : Fst d m 1 (m.getD 0 0) := by
  refine ⟨0, by omega, rfl, fun j hj => ?_, fun j hj => by omega⟩
  obtain rfl : j = 0 := by omega
  exact Int.le_refl _
theorem Fst.take {d : Int → Int} {m : List Int} {k : Nat} {x y : Int} (h : Fst d m k x) (hy : m.getD k 0 = y) (hl : d y < d x) : Fst d m (k + 1) y := by
  obtain ⟨j0, h1, h2, h3, h4⟩ := h
  refine ⟨k, by omega, hy, fun j hj => ?_, fun j hj => ?_⟩
  · rcases Nat.lt_or_ge j k with h | h
    · have := h3 j h; omega
    · obtain rfl : j = k := by omega
      rw [hy]; exact Int.le_refl _
  · have := h3 j hj; omega
theorem Fst.keep {d : Int → Int} {m : List Int} {k : Nat} {x y : Int} (h : Fst d m k x) (hy : m.getD k 0 = y) (hl : ¬ d y < d x) : Fst d m (k + 1) x := by
  obtain ⟨j0, h1, h2, h3, h4⟩ := h
  refine ⟨j0, by omega, h2, fun j hj => ?_, h4⟩
  rcases Nat.lt_or_ge j k with h | h
  · exact h3 j h
  · obtain rfl : j = k := by omega
    rw [hy]; omega
/-- The nearest sensed sender, the lowest one of several. -/
def Best (z : List Int) (s : Int) (l : List Int) (q b : Int) : Prop := b ∈ l ∧ win z s b q = true ∧ ∀ y ∈ l, win z s y q = true → dst z b q < dst z y q ∨ (dst z b q = dst z y q ∧ b ≤ y)
theorem Best.eq {z : List Int} {s : Int} {l : List Int} {q b c : Int} (h : Best z s l q b) (g : Best z s l q c) : b = c := by
  have h1 := h.2.2 c g.1 g.2.1
  have h2 := g.2.2 b h.1 h.2.1
  omega
theorem mem_getD {l : List Int} {j : Nat} (hj : j < l.length) : l.getD j 0 ∈ l := by
  rw [List.getD_eq_getElem?_getD, List.getElem?_eq_getElem hj]; exact List.getElem_mem hj
theorem ex_getD {l : List Int} {x : Int} (h : x ∈ l) : ∃ j, j < l.length ∧ l.getD j 0 = x := by
  obtain ⟨j, hj, e⟩ := List.getElem_of_mem h
  exact ⟨j, hj, by rw [List.getD_eq_getElem?_getD, List.getElem?_eq_getElem hj]; exact e⟩
theorem best_of_first {z : List Int} {s : Int} {l : List Int} {q x : Int} {k : Nat} (hk : (sen z s l q z.length).length = k) (h : Fst (fun y => dst z y q) (sen z s l q z.length) k x) : Best z s l q x := by
  obtain ⟨j0, h1, h2, h3, h4⟩ := h
  subst hk
  have hm : x ∈ sen z s l q z.length := by rw [← h2]; exact mem_getD h1
  obtain ⟨g1, g2⟩ := (sen_all _ _ _ _ _).1 hm
  refine ⟨g1, g2, fun y hy hw => ?_⟩
  obtain ⟨j, hj, rfl⟩ := ex_getD ((sen_all z s l q y).2 ⟨hy, hw⟩)
  have h5 := h3 j hj
  dsimp only at h5 h4
  rcases Nat.lt_or_ge j j0 with hlt | hge
  · exact .inl (h4 j hlt)
  · rcases Int.lt_or_le (dst z x q) (dst z ((sen z s l q z.length).getD j 0) q) with h6 | h6
    · exact .inl h6
    · refine .inr ⟨by omega, ?_⟩
      rcases Nat.eq_or_lt_of_le hge with e | e
      · rw [← e, h2]; exact Int.le_refl _
      · have hp := List.pairwise_iff_getElem.1 (sen_asc z s l q z.length) j0 j h1 hj e
        rw [← h2, List.getD_eq_getElem?_getD, List.getD_eq_getElem?_getD, List.getElem?_eq_getElem h1, List.getElem?_eq_getElem hj]
        exact Int.le_of_lt hp
/-- Which station is received. -/
def Rf (z : List Int) (r s : Int) (l : List Int) (q v : Int) : Prop :=
  (v = -1 ∧ (q ∈ l ∨ (∀ y ∈ l, win z s y q = false) ∨ ∃ b, Best z s l q b ∧ (win z r b q = false ∨ ∃ y ∈ l, win z s y q = true ∧ y ≠ b ∧ dst z y q < 2 * dst z b q))) ∨
  (q ∉ l ∧ Best z s l q v ∧ win z r v q = true ∧ ∀ y ∈ l, win z s y q = true → y ≠ v → 2 * dst z v q ≤ dst z y q)
theorem Best.pos {z : List Int} {s : Int} {l : List Int} {q b : Int} (h : Best z s l q b) : 0 ≤ b := (plc_iff.1 (win_iff.1 h.2.1).2.1).1
theorem Rf.eq {z : List Int} {r s : Int} {l : List Int} {q v u : Int} (h : Rf z r s l q v) (g : Rf z r s l q u) : v = u := by
  have key : ∀ {v u : Int}, (q ∉ l ∧ Best z s l q v ∧ win z r v q = true ∧ ∀ y ∈ l, win z s y q = true → y ≠ v → 2 * dst z v q ≤ dst z y q) → ¬ (q ∈ l ∨ (∀ y ∈ l, win z s y q = false) ∨ ∃ b, Best z s l q b ∧ (win z r b q = false ∨ ∃ y ∈ l, win z s y q = true ∧ y ≠ b ∧ dst z y q < 2 * dst z b q)) := by
    rintro v u ⟨h1, h2, h3, h4⟩ (g1 | g1 | ⟨b, g1, g2⟩)
    · exact h1 g1
    · have := g1 v h2.1; rw [h2.2.1] at this; cases this
    · obtain rfl := h2.eq g1
      rcases g2 with g2 | ⟨y, y1, y2, y3, y4⟩
      · rw [h3] at g2; cases g2
      · have := h4 y y1 y2 y3; omega
  rcases h with ⟨rfl, h⟩ | h <;> rcases g with ⟨rfl, g⟩ | g
  · rfl
  · exact absurd h (key (u := 0) g)
  · exact absurd g (key (u := 0) h)
  · exact h.2.1.eq g.2.1
/-- Positions far from the machine's limits. -/
def Sm (z : List Int) : Prop := ∀ x ∈ z, -1073741824 ≤ x ∧ x ≤ 1073741824
theorem at_sm {z : List Int} (h : Sm z) {a : Int} (ha : plc z a = true) : -1073741824 ≤ at_ z a ∧ at_ z a ≤ 1073741824 := by
  obtain ⟨i, rfl, hi⟩ := plc_nat ha rfl
  rw [at_nat]; exact h _ (mem_getD hi)
theorem dst_sm {z : List Int} (h : Sm z) {a b : Int} (ha : plc z a = true) (hb : plc z b = true) : dst z a b = mx (at_ z a) (at_ z b) - mn (at_ z a) (at_ z b) ∧ 0 ≤ dst z a b ∧ dst z a b ≤ 2147483648 := by
  have h1 := at_sm h ha
  have h2 := at_sm h hb
  have e : dst z a b = mx (at_ z a) (at_ z b) - mn (at_ z a) (at_ z b) := by
    rw [dst_in ha hb rfl rfl rfl rfl]
    unfold mx mn wrap64
    split <;> split <;> omega
  refine ⟨e, ?_⟩
  rw [e]
  unfold mx mn
  split <;> split <;> omega
theorem win_sm {z : List Int} (h : Sm z) {l a b : Int} (hw : win z l a b = true) : 0 ≤ dst z a b ∧ dst z a b ≤ 2147483648 := (dst_sm h (win_iff.1 hw).2.1 (win_iff.1 hw).2.2.1).2
/-- The program's test of disturbance. -/
def dis (d e : Int) : Bool := if d = e then decide (d ≠ 0) else decide (d < wrap64 (2 * e))
theorem dis_sm {d e : Int} (hd : 0 ≤ d ∧ d ≤ 2147483648) (he : 0 ≤ e ∧ e ≤ 2147483648) : dis d e = decide (d < 2 * e) := by
  unfold dis
  by_cases h : d = e
  · rw [if_pos h]; exact decide_eq_decide.2 (by omega)
  · rw [if_neg h]
    have : wrap64 (2 * e) = 2 * e := by unfold wrap64; omega
    rw [this]
end Go.Proofs.Ytmmhleobgpgliaa.rfm
end

section
namespace Go.Proofs.Ytmmhleobgpgliaa.bx
open Go.RowKit sl harn rng plm rfm
set_option linter.unusedVariables false

theorem boolInfo : (Try.prog.info? 4).map (fun i => (i.zero, i.size, i.bytes)) = some (some (.bool false), 1, 1) := by kernel_rfl
/-- A row of bools in a block of its own. -/
def Bw (w : World) (b n : Nat) (p : Nat → Bool) : Prop := ∃ cs, w.heap[b]? = some (.cells cs 4 (0, 0)) ∧ cs.size = n ∧ ∀ j, j < n → cs[j]? = some (.bool (p j))
theorem made_at (z : Value) (n j : Nat) (h : j < n) : (madeCells #[z] n)[j]? = some z := by
  rw [Array.getElem?_eq_getElem (by rw [size_madeCells]; exact h)]
  simp [madeCells, Nat.mod_one]
theorem Bw.start (w : World) (b n : Nat) (z : Array Value) (hz : z = #[.bool false]) (hb : b = w.heap.size) (p : Nat → Bool) (hp : ∀ j, j < n → p j = false) : Bw (w.alloc (.cells (madeCells z n) 4)) b n p := by
  subst hz hb
  exact ⟨_, heap_alloc_new w _, size_madeCells _ n, fun j h => by rw [made_at _ _ _ h, hp j h]⟩
section
variable {w w' : World} {b n : Nat} {p : Nat → Bool}
theorem Bw.lt (h : Bw w b n p) : b < w.heap.size := by obtain ⟨cs, h1, _⟩ := h; exact lt_of_block h1
theorem Bw.same (h : Bw w b n p) (hb : w'.heap[b]? = w.heap[b]?) : Bw w' b n p := by obtain ⟨cs, h1, h2⟩ := h; exact ⟨cs, by rw [hb]; exact h1, h2⟩
theorem Bw.below (h : Bw w b n p) (hb : Below w.heap.size w w') : Bw w' b n p := h.same (hb.block b h.lt)
theorem Bw.cell (h : Bw w b n p) {j : Nat} (hj : j < n) : w.cell? ⟨b, j, none⟩ = some (.bool (p j)) := by
  obtain ⟨cs, h1, h2, h3⟩ := h
  simp only [World.cell?, h1]
  exact h3 j hj
theorem Bw.free (h : Bw w b n p) (i : Nat) : w.frozen? ⟨b, i, none⟩ = false := by
  obtain ⟨cs, h1, _⟩ := h
  simp [World.frozen?, h1]
theorem Bw.put (h : Bw w b n p) {x : Nat} (hx : x < n) (p' : Nat → Bool) (hp : ∀ j, p' j = (decide (j = x) || p j)) : Bw (w.setCell ⟨b, x, none⟩ (.bool true)) b n p' := by
  obtain ⟨cs, h1, h2, h3⟩ := h
  refine ⟨cs.setIfInBounds x (.bool true), heap_setCell_same w b x cs _ _ h1, by simpa using h2, fun j hj => ?_⟩
  by_cases e : j = x
  · subst e
    rw [Array.getElem?_setIfInBounds_self_of_lt (by omega), hp]; simp
  · rw [Array.getElem?_setIfInBounds_ne (by omega), h3 j hj, hp, decide_eq_false e, Bool.false_or]
theorem Bw.congr (h : Bw w b n p) (p' : Nat → Bool) (hp : ∀ j, p' j = p j) : Bw w b n p' := by
  obtain ⟨cs, h1, h2, h3⟩ := h
  exact ⟨cs, h1, h2, fun j hj => by rw [hp]; exact h3 j hj⟩
end
theorem mrk_zero (z : List Int) (s : Int) (l : List Int) (q : Int) (j : Nat) : mrk z s l q 0 j = false := by unfold mrk; exact decide_eq_false fun h => by simpa using h.1
theorem mrk_end {z : List Int} {s : Int} {l : List Int} {q : Int} {n : Nat} (h : l.length = n) (j : Nat) : mrk z s l q n j = decide ((j : Int) ∈ l ∧ win z s j q = true) := by unfold mrk; rw [List.take_of_length_le (by omega)]
end Go.Proofs.Ytmmhleobgpgliaa.bx
end

section
namespace Go.Proofs.Ytmmhleobgpgliaa.bx
open Go.RowKit sl harn rng plm rfm
set_option linter.unusedVariables false

/-- Less, equal or greater. -/
def cmp3 (x y : Int) : Int := if x < y then -1 else if x = y then 0 else 1
theorem cmp3_neg {x y : Int} : decide (cmp3 x y < 0) = decide (x < y) := by
  unfold cmp3
  split
  · rename_i h; exact decide_eq_decide.2 ⟨fun _ => h, fun _ => by omega⟩
  · rename_i h; split <;> exact decide_eq_decide.2 ⟨fun h2 => by omega, fun h2 => absurd h2 h⟩
theorem none_yet {l : List Int} {k : Nat} {x y : Int} (h : ∀ j, j < k → l.getD j 0 ≠ x) (hy : l.getD k 0 = y) (hn : ¬ y = x) : ∀ j, j < k + 1 → l.getD j 0 ≠ x := fun j hj => by
  rcases Nat.lt_or_ge j k with h1 | h1
  · exact h j h1
  · obtain rfl : j = k := by omega
    rw [hy]; exact hn
def IdxPost (l : List Int) (x : Int) (w : World) (e : Ending) (w' : World) : Prop := ∃ v : Int, e = .returned (.int .i64 v) ∧ (0 ≤ v ↔ x ∈ l) ∧ w = w'
theorem idxI (l : List Int) (x : Int) (lo hi : Nat) (A : Option Addr) (n cap : Nat) (w : World) (h : Rd .i64 w lo hi A n cap l) :
    Calls Try.prog 106 #[.slice A n cap, .int .i64 x] w (IdxPost l x w) := by
  have hc := h.cap_
  have HR := Lib.hid h
  have HL := Lib.hid h.len
  clear h
  go_enter Try.func106, Try.ntmps106
  go_wp2
  go_loop [8] (fun i => ∃ k : Nat, i = .int .i64 k ∧ k ≤ n ∧ ∀ j, j < k → l.getD j 0 ≠ x) (fun i => n - (intOf i).toNat)
  case atStart => exact ⟨0, rfl, by omega, fun j h => absurd h (by omega)⟩
  case round =>
    obtain ⟨k, rfl, hk, hall⟩ := hrel
    have HA := Lib.hid hall
    clear hall
    by_cases hlt : k < n
    · obtain ⟨b, off, rfl, _, _, hcl⟩ := HR.out.at_ hlt
      obtain ⟨y, hy⟩ : ∃ y, l.getD k 0 = y := ⟨_, rfl⟩
      rw [hy] at hcl
      have HY := Lib.hid hy
      clear hy
      have hlt2 : (k : Int) < n := by omega
      by_cases he : y = x
      · subst he
        go_wp2_with fail
        go_ret
        exact ⟨_, rfl, ⟨fun _ => by rw [← HY.out]; exact mem_getD (by rw [HL.out]; exact hlt), fun _ => by omega⟩, rfl⟩
      · have HE := Lib.hid he
        have he1 : (x == y) = false := by simpa using fun e : x = y => he e.symm
        clear he
        go_wp2_with fail
        go_round
        case rel => exact ⟨k + 1, by go_num, by omega, none_yet HA.out HY.out HE.out⟩
        case measure => simp [intOf]; omega
    · have hlt2 : ¬ (k : Int) < n := by omega
      obtain rfl : k = n := by omega
      go_wp2
      go_ret
      refine ⟨_, rfl, ⟨fun h => by omega, fun h => ?_⟩, rfl⟩
      obtain ⟨j, hj, e⟩ := ex_getD h
      exact absurd e (HA.out j (by rw [← HL.out]; exact hj))
theorem containsI (l : List Int) (x : Int) (lo hi : Nat) (A : Option Addr) (n cap : Nat) (w : World) (h : Rd .i64 w lo hi A n cap l) :
    Calls Try.prog 103 #[.slice A n cap, .int .i64 x] w fun e w' => e = .returned (.bool (decide (x ∈ l))) ∧ w = w' := by
  have HR := Lib.hid h
  clear h
  go_enter Try.func103, Try.ntmps103
  go_wp2_with fail
  (with_reducible refine (idxI l x _ _ A n cap _ HR.out).mono ?_)
  rintro e w1 ⟨v, rfl, hv, rfl⟩
  have HV := Lib.hid hv
  clear hv
  go_wp2_with fail
  go_ret
  exact ⟨congrArg (fun b => Ending.returned (.bool b)) (decide_eq_decide.2 HV.out), rfl⟩
end Go.Proofs.Ytmmhleobgpgliaa.bx
end
