/- The harness functions of the exact laws over slices of numbers: the copy, the comparison, the marks. Condition: lengths up to 2^26. -/
import Derived.Test.YtalfihfielgmpaaSl
import Derived.WalkKit
import Derived.ProofKit
import Derived.LoopTactic
import Derived.Deep.QuietTactic
import Derived.BigQuiet
import Derived.Outline
import Derived.Lib.Hide
namespace Go.Proofs.Ytalfihfielgmpaa.harn
open Go.RowKit sl

theorem run_make1 {P : Program} (t e : TypeId) (i : TypeInfo) (z : Value) (ht : P.underlying t = some (.slice e)) (hi : P.info? e = some i) (hz : i.zero = some z) (hs : i.size = 1)
    (n : Nat) (hb8 : i.bytes ≤ 8) (hn : n ≤ 67108864) (w : World) :
    (Instr.makeSlice t (.int .i64 (n : Int)) (.int .i64 (n : Int))).run P w = .ok (.slice (some ⟨w.heap.size, 0, none⟩) n n) (w.alloc (.cells (madeCells z.cells n) e)) := by
  have hb : (i.bytes : Int) * (n : Int) ≤ 281474976710656 := by
    have h : ((i.bytes * n : Nat) : Int) ≤ 281474976710656 := by
      have h1 := Nat.mul_le_mul hb8 hn
      omega
    rwa [Int.natCast_mul] at h
  have hr := run_make (P := P) w t e i z ht hi hz .i64 .i64 n n (by omega) (by omega) hb (by omega)
  simp only [Int.toNat_natCast] at hr
  rw [hs, Nat.mul_one] at hr
  exact hr

theorem u8Info : (Try.prog.info? 5).map (fun i => (i.zero, i.size, i.bytes)) = some (some (.int .u8 0), 1, 1) := by kernel_rfl
theorem intInfo : (Try.prog.info? 3).map (fun i => (i.zero, i.size, i.bytes)) = some (some (.int .i64 0), 1, 8) := by kernel_rfl

theorem madeLt (z : Array Value) (n k : Nat) (h : k < n) : ∃ v, (madeCells z n)[k]? = some v := ⟨_, Array.getElem?_eq_getElem (by rw [size_madeCells]; exact h)⟩
/-- A copy that has come to k. -/
def Part (kd : IntKind) (E : TypeId) (w wr : World) (n k : Nat) (zs : List Int) : Prop :=
  ∃ cs, wr.heap[w.heap.size]? = some (.cells cs E (0, 0)) ∧ cs.size = n ∧ (∀ j, j < k → cs[j]? = some (.int kd (zs.getD j 0))) ∧ Below w.heap.size w wr
theorem Part.start (kd : IntKind) (E : TypeId) (w : World) (n : Nat) (zs : List Int) (z : Array Value) : Part kd E w (w.alloc (.cells (madeCells z n) E)) n 0 zs :=
  ⟨_, heap_alloc_new w _, size_madeCells z n, fun j h => absurd h (by omega), (Below.refl _ _).alloc (Nat.le_refl _) _⟩
theorem Part.cell {kd : IntKind} {E : TypeId} {w wr : World} {n k : Nat} {zs : List Int} (h : Part kd E w wr n k zs) (hk : k < n) : ∃ v, wr.cell? ⟨w.heap.size, k, none⟩ = some v := by
  obtain ⟨cs, h1, h2, _⟩ := h
  exact ⟨cs[k]'(by omega), by simp [World.cell?, h1]⟩
theorem Part.free {kd : IntKind} {E : TypeId} {w wr : World} {n k : Nat} {zs : List Int} (h : Part kd E w wr n k zs) (i : Nat) : wr.frozen? ⟨w.heap.size, i, none⟩ = false := by
  obtain ⟨cs, h1, _⟩ := h
  simp [World.frozen?, h1]
theorem Part.step {kd : IntKind} {E : TypeId} {w wr : World} {n k : Nat} {zs : List Int} (h : Part kd E w wr n k zs) (hk : k < n) : Part kd E w (wr.setCell ⟨w.heap.size, k, none⟩ (.int kd (zs.getD k 0))) n (k + 1) zs := by
  obtain ⟨cs, h1, h2, h3, h4⟩ := h
  refine ⟨cs.setIfInBounds k (.int kd (zs.getD k 0)), ?_, by simpa using h2, fun j hj => ?_, h4.setCell (Nat.le_refl _) _⟩
  · exact heap_setCell_same wr w.heap.size k cs E _ h1
  · rcases Nat.lt_or_ge j k with hlt | hge
    · rw [Array.getElem?_setIfInBounds_ne (by omega)]; exact h3 j hlt
    · have : j = k := by omega
      subst this
      rw [Array.getElem?_setIfInBounds_self_of_lt (by omega)]
theorem Part.done {kd : IntKind} {E : TypeId} {w wr : World} {n : Nat} {zs : List Int} (h : Part kd E w wr n n zs) (hl : zs.length = n) (hw : Wf kd zs) (hm : n ≤ maxLen) :
    SlPost E kd w zs (.returned (.slice (some ⟨w.heap.size, 0, none⟩) n n)) wr := by
  obtain ⟨cs, h1, h2, h3, h4⟩ := h
  have e : cs.toList = zs.map (Value.int kd) := by
    apply List.ext_getElem?
    intro i
    rw [Array.getElem?_toList, List.getElem?_map]
    rcases Nat.lt_or_ge i n with hi | hi
    · rw [h3 i hi, List.getElem?_eq_getElem (show i < zs.length by omega), List.getD_eq_getElem?_getD, List.getElem?_eq_getElem (show i < zs.length by omega)]
      rfl
    · rw [Array.getElem?_eq_none (by omega), List.getElem?_eq_none (by omega)]; rfl
  refine ⟨_, _, _, rfl, ⟨⟨by simpa using hl, Or.inr ⟨_, n, cs, rfl, Nat.le_refl _, h1, Nat.le_refl _, hm, by simpa using h2, ?_⟩⟩, hw, Nat.le_refl _, ?_⟩, h4⟩
  · rw [Nat.mul_one, ← e, List.take_of_length_le (by simp; omega)]
  · intro g o e; injection e with e; injection e with e _; subst e; exact lt_of_block h1
theorem rd_part {kd : IntKind} {E : TypeId} {w wr : World} {n k : Nat} {zs : List Int} {lo hi cap : Nat} {A : Option Addr} (r : Rd kd w lo hi A n cap zs) (h : Part kd E w wr n k zs) : Rd kd wr lo hi A n cap zs := by
  obtain ⟨cs, _, _, _, h4⟩ := h
  exact r.below h4

theorem toByteS (zs : List Int) (lo hi : Nat) (A : Option Addr) (n cap : Nat) (w : World) (h : Rd .u8 w lo hi A n cap zs) (hn : n ≤ 67108864) :
    Calls Try.prog 30 #[.slice A n cap] w (SlPost 5 .u8 w zs) := by
  obtain ⟨i0, hi0, hz0, hz1, hz2⟩ := info_parts u8Info
  have hmk := fun W => run_make1 (P := Try.prog) 22 5 i0 _ Try.underlying22 hi0 hz0 hz1 n (by omega) hn W
  have HR := Lib.hid h
  clear h hz2 hz1 hz0 hi0
  go_enter Try.func30, Try.ntmps30
  go_wp2
  go_loopw [4] (fun i wr => ∃ k : Nat, i = .int .i64 k ∧ k ≤ n ∧ Part .u8 5 w wr n k zs) (fun i _ => n - (intOf i).toNat)
  case atStart => exact ⟨0, rfl, by omega, Part.start _ _ _ _ _ _⟩
  case round =>
    obtain ⟨k, rfl, hk, hp⟩ := hrel
    have HP := Lib.hid hp
    clear hp
    by_cases hlt : k < n
    · obtain ⟨b, off, rfl, h1, h2, hc⟩ := (rd_part HR.out HP.out).at_ hlt
      obtain ⟨v, hv⟩ := HP.out.cell hlt
      have hf := HP.out.free k
      have hlt2 : (k : Int) < n := by omega
      go_wp2
      go_roundw
      case rel => exact ⟨k + 1, by go_num, by omega, HP.out.step hlt⟩
      case measure => simp [intOf]; omega
    · have hlt2 : ¬ (k : Int) < n := by omega
      go_wp2
      go_ret
      obtain rfl : k = n := by omega
      exact HP.out.done HR.out.len HR.out.wf (by unfold maxLen; omega)

/-- The comparison says whether the two read alike. -/
def EqPost (zs ys : List Int) (w : World) (e : Ending) (w' : World) : Prop := e = .returned (.bool (decide (zs = ys))) ∧ Below w.heap.size w w'
theorem below_drews (w : World) (m : Nat) : Below w.heap.size w (w.drewN m) := ⟨rfl, rfl, rfl, Nat.le_refl _, fun _ _ => rfl⟩

theorem ne_at {zs ys : List Int} {k : Nat} (h : ¬ zs.getD k 0 = ys.getD k 0) : ¬ zs = ys := fun e => h (by rw [e])
theorem eq_all {zs ys : List Int} {n : Nat} (h1 : zs.length = n) (h2 : ys.length = n) (h : ∀ j, j < n → zs.getD j 0 = ys.getD j 0) : zs = ys := by
  apply List.ext_getElem (by omega)
  intro i hi hi2
  have := h i (by omega)
  simpa [List.getD_eq_getElem?_getD, hi, hi2] using this
theorem eq_true {zs ys : List Int} (h : zs = ys) : decide (zs = ys) = true := decide_eq_true h
theorem eq_false {zs ys : List Int} (h : ¬ zs = ys) : decide (zs = ys) = false := decide_eq_false h

theorem eqByteS (zs ys : List Int) (lo hi lo2 hi2 : Nat) (A A2 : Option Addr) (n cap n2 cap2 : Nat) (w : World) (h : Rd .u8 w lo hi A n cap zs) (h2 : Rd .u8 w lo2 hi2 A2 n2 cap2 ys) :
    Calls Try.prog 27 #[.slice A n cap, .slice A2 n2 cap2] w (EqPost zs ys w) := by
  have hb := h.cap_
  have hb2 := h2.cap_
  have HR := Lib.hid h
  have HS := Lib.hid h2
  clear h h2
  by_cases hnn : n = n2
  · subst hnn
    go_enter Try.func27, Try.ntmps27
    go_wp2
    go_loopw [5] (fun i wr => ∃ k m : Nat, i = .int .i64 k ∧ k ≤ n ∧ wr = w.drewN m ∧ ∀ j, j < k → zs.getD j 0 = ys.getD j 0) (fun i _ => n - (intOf i).toNat)
    case atStart => exact ⟨0, 0, rfl, by omega, rfl, fun j h => absurd h (by omega)⟩
    case round =>
      obtain ⟨k, m, rfl, hk, rfl, hall⟩ := hrel
      have HA := Lib.hid hall
      clear hall
      by_cases hlt : k < n
      · obtain ⟨b, off, rfl, h1, h2, hc⟩ := HR.out.at_ hlt
        obtain ⟨b2, off2, rfl, h3, h4, hc2⟩ := HS.out.at_ hlt
        obtain ⟨x, hx⟩ : ∃ x, zs.getD k 0 = x := ⟨_, rfl⟩
        obtain ⟨y, hy⟩ : ∃ y, ys.getD k 0 = y := ⟨_, rfl⟩
        rw [hx] at hc
        rw [hy] at hc2
        have HX := Lib.hid (And.intro hx hy)
        clear hx hy
        have hlt2 : (k : Int) < n := by omega
        by_cases hxy : x = y
        · subst hxy
          go_wp2
          go_quiet (fail)
          go_wp2
          go_roundw
          case rel =>
            refine ⟨k + 1, _, by go_num, by omega, rfl, fun j hj => ?_⟩
            rcases Nat.lt_or_ge j k with hjk | hjk
            · exact HA.out j hjk
            · obtain rfl : j = k := by omega
              rw [HX.out.1, HX.out.2]
          case measure => simp [intOf]; omega
        · have hne : (x == y) = false := by simpa using hxy
          go_wp2
          go_quiet (fail)
          go_wp2
          go_ret
          refine ⟨?_, ⟨rfl, rfl, rfl, Nat.le_refl _, fun _ _ => rfl⟩⟩
          rw [eq_false (ne_at (k := k) (by rw [HX.out.1, HX.out.2]; exact hxy))]; rfl
      · have hlt2 : ¬ (k : Int) < n := by omega
        obtain rfl : k = n := by omega
        go_wp2
        go_ret
        refine ⟨?_, ⟨rfl, rfl, rfl, Nat.le_refl _, fun _ _ => rfl⟩⟩
        rw [eq_true (eq_all HR.out.len HS.out.len HA.out)]; rfl
  · have hne : ¬ (n : Int) = n2 := by omega
    have HN : Hid (¬ zs = ys) := by
      intro e
      have h1 := HR.out.len
      have h2 := HS.out.len
      rw [e] at h1
      omega
    go_enter Try.func27, Try.ntmps27
    go_wp2
    go_ret
    exact ⟨by rw [eq_false HN.out]; rfl, Below.refl _ _⟩

theorem eqByteS_yes (zs : List Int) (lo hi lo2 hi2 : Nat) (A A2 : Option Addr) (n cap n2 cap2 : Nat) (w : World) (h : Rd .u8 w lo hi A n cap zs) (h2 : Rd .u8 w lo2 hi2 A2 n2 cap2 zs) :
    Calls Try.prog 27 #[.slice A n cap, .slice A2 n2 cap2] w fun e w' => e = .returned (.bool true) ∧ Below w.heap.size w w' :=
  (eqByteS zs zs lo hi lo2 hi2 A A2 n cap n2 cap2 w h h2).mono fun e w' ⟨he, hb⟩ => ⟨by rw [he, eq_true rfl], hb⟩

/-- The marks: k, k + 1, .. as numbers of the kind. -/
def marks (kd : IntKind) (k : Int) (n : Nat) : List Int := (List.range n).map fun (j : Nat) => kd.wrap (k + j)
theorem marks_len (kd : IntKind) (k : Int) (n : Nat) : (marks kd k n).length = n := by simp [marks]
theorem marks_at (kd : IntKind) (k : Int) {n j : Nat} (h : j < n) : (marks kd k n).getD j 0 = kd.wrap (k + j) := by
  simp [marks, List.getD_eq_getElem?_getD, h]
/-- A marking that has come to i. -/
def Marked (kd : IntKind) (E : TypeId) (w wr : World) (lo hi : Nat) (A : Option Addr) (n cap : Nat) (k : Int) (i : Nat) : Prop :=
  ∃ ys, Ow E kd wr lo hi A n cap ys ∧ (∀ j, j < i → ys.getD j 0 = kd.wrap (k + j)) ∧ Tch lo hi w wr
theorem Marked.step {kd : IntKind} {E : TypeId} {w wr : World} {lo hi n cap : Nat} {k : Int} {i b : Nat} (h : Marked kd E w wr lo hi (some ⟨b, 0, none⟩) n cap k i) (hi' : i < n)
    (hw : (Lit.int kd (kd.wrap (k + i))).wf = true) : Marked kd E w (wr.setCell ⟨b, i, none⟩ (.int kd (kd.wrap (k + i)))) lo hi (some ⟨b, 0, none⟩) n cap k (i + 1) := by
  obtain ⟨ys, h1, h2, h3⟩ := h
  have hl := h1.len
  have hs := h1.1.stored i (.int kd (kd.wrap (k + i)))
  have e : (ys.map (Value.int kd)).set i (.int kd (kd.wrap (k + i))) = (ys.set i (kd.wrap (k + i))).map (Value.int kd) := by rw [List.map_set]
  have hb : lo ≤ b ∧ b < hi := by
    rcases h1.form with ⟨h, _⟩ | ⟨g, cur, h, g1, g2, _⟩
    · cases h
    · injection h with h; injection h with h _; omega
  refine ⟨ys.set i (kd.wrap (k + i)), ⟨?_, ?_, ?_, h1.2.2.2⟩, fun j hj => ?_, ?_⟩
  · rw [← e]; exact hs.1
  · intro z hz
    rcases List.mem_or_eq_of_mem_set hz with hz | hz
    · exact h1.wf z hz
    · rw [hz]; exact hw
  · have := h1.hi_; simpa [World.setCell] using this
  · rw [List.getD_eq_getElem?_getD]
    by_cases hij : j = i
    · subst hij
      rw [List.getElem?_set_self (by omega)]; rfl
    · rw [List.getElem?_set_ne (by omega), ← List.getD_eq_getElem?_getD]
      exact h2 j (by omega)
  · refine ⟨h3.os, h3.tape, h3.output, by simpa [World.setCell] using h3.size, fun q hq hd => ?_⟩
    rw [Below.heap_setCell _ _ _ _ (by show q ≠ b; omega)]
    exact h3.block q hq hd
theorem Marked.start {kd : IntKind} {E : TypeId} {w : World} {lo hi n cap : Nat} {A : Option Addr} {zs : List Int} (h : Ow E kd w lo hi A n cap zs) (k : Int) : Marked kd E w w lo hi A n cap k 0 :=
  ⟨zs, h, fun j hj => absurd hj (by omega), Tch.refl _ _ _⟩
theorem Marked.done {kd : IntKind} {E : TypeId} {w wr : World} {lo hi n cap : Nat} {A : Option Addr} {k : Int} (h : Marked kd E w wr lo hi A n cap k n) : Ow E kd wr lo hi A n cap (marks kd k n) ∧ Tch lo hi w wr := by
  obtain ⟨ys, h1, h2, h3⟩ := h
  have : ys = marks kd k n := eq_all h1.len (marks_len kd k n) fun j hj => by rw [h2 j hj, marks_at kd k hj]
  rw [← this]
  exact ⟨h1, h3⟩
def MarkPost (E : TypeId) (kd : IntKind) (w : World) (lo hi : Nat) (A : Option Addr) (n cap : Nat) (k : Int) (e : Ending) (w' : World) : Prop :=
  e = .returned (.int .i64 (k + n)) ∧ Ow E kd w' lo hi A n cap (marks kd k n) ∧ Tch lo hi w w'
theorem wf_u8_wrap (x : Int) : (Lit.int .u8 (IntKind.u8.wrap x)).wf = true := wf_wrap .u8 x
theorem ret_num {a b : Int} (h : a = b) : Ending.returned (.int .i64 a) = .returned (.int .i64 b) := by rw [h]

theorem markByteS (zs : List Int) (lo hi : Nat) (A : Option Addr) (n cap : Nat) (k : Int) (w : World) (h : Ow 5 .u8 w lo hi A n cap zs) (hk0 : 0 ≤ k) (hk : k ≤ 1099511627776) (hn : n ≤ 67108864) :
    Calls Try.prog 28 #[.slice A n cap, .int .i64 k] w (MarkPost 5 .u8 w lo hi A n cap k) := by
  have HR := Lib.hid h
  clear h
  go_enter Try.func28, Try.ntmps28
  go_wp2
  go_loopw [1, 5] (fun q i wr => ∃ j : Nat, i = .int .i64 j ∧ q = .int .i64 (k + j) ∧ j ≤ n ∧ Marked .u8 5 w wr lo hi A n cap k j) (fun _ i _ => n - (intOf i).toNat)
  case atStart => exact ⟨0, rfl, by simp, by omega, Marked.start HR.out k⟩
  case round =>
    obtain ⟨j, rfl, rfl, hj, hp⟩ := hrel
    have HP := Lib.hid hp
    clear hp
    by_cases hlt : j < n
    · obtain ⟨b, rfl⟩ : ∃ b, A = some ⟨b, 0, none⟩ := by
        obtain ⟨ys, h1, _⟩ := HP.out
        rcases h1.form with ⟨_, h0, _⟩ | ⟨g, cur, h, _⟩
        · omega
        · exact ⟨g, h⟩
      obtain ⟨v, hv⟩ : ∃ v, wr.cell? ⟨b, j, none⟩ = some v := by
        obtain ⟨ys, h1, _⟩ := HP.out
        obtain ⟨b', off, e, _, _, hc⟩ := h1.rd.at_ hlt
        injection e with e; injection e with e1 e2 e3
        subst e1 e2
        rw [Nat.zero_add] at hc
        exact ⟨_, hc⟩
      have hf : wr.frozen? ⟨b, j, none⟩ = false := by
        obtain ⟨ys, h1, _⟩ := HP.out
        exact h1.free rfl j
      have hlt2 : (j : Int) < n := by omega
      go_wp2
      go_roundw
      case rel => exact ⟨j + 1, by go_num, by go_num, by omega, HP.out.step hlt (wf_u8_wrap _)⟩
      case measure => simp [intOf]; omega
    · have hlt2 : ¬ (j : Int) < n := by omega
      obtain rfl : j = n := by omega
      go_wp2
      go_ret
      exact ⟨rfl, HP.out.done⟩

theorem heldByteS (lo hi : Nat) (A : Option Addr) (n cap : Nat) (k : Int) (w : World) (h : Rd .u8 w lo hi A n cap (marks .u8 k n)) (hk0 : 0 ≤ k) (hk : k ≤ 1099511627776) (hn : n ≤ 67108864) :
    Calls Try.prog 29 #[.slice A n cap, .int .i64 k] w fun e w' => e = .returned (.int .i64 (k + n)) ∧ w = w' := by
  have HR := Lib.hid h
  clear h
  go_enter Try.func29, Try.ntmps29
  go_wp2
  go_loop [1, 5] (fun q i => ∃ j : Nat, i = .int .i64 j ∧ q = .int .i64 (k + j) ∧ j ≤ n) (fun _ i => n - (intOf i).toNat)
  case atStart => exact ⟨0, rfl, by simp, by omega⟩
  case round =>
    obtain ⟨j, rfl, rfl, hj⟩ := hrel
    by_cases hlt : j < n
    · obtain ⟨b, off, rfl, h1, h2, hc⟩ := HR.out.at_ hlt
      rw [marks_at .u8 k hlt] at hc
      have hlt2 : (j : Int) < n := by omega
      go_wp2
      go_round
      case rel => exact ⟨j + 1, by go_num, by go_num, by omega⟩
      case measure => simp [intOf]; omega
    · have hlt2 : ¬ (j : Int) < n := by omega
      obtain rfl : j = n := by omega
      go_wp2
      go_ret
      exact ⟨rfl, rfl⟩

theorem wf_i64_wrap (x : Int) : (Lit.int .i64 (IntKind.i64.wrap x)).wf = true := wf_wrap .i64 x

end Go.Proofs.Ytalfihfielgmpaa.harn
