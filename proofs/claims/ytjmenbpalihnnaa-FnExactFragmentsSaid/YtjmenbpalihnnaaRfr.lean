/- Fragments of both sides. Condition: a body of up to 2^26 bytes. -/
import Derived.Test.YtjmenbpalihnnaaRa3
import Derived.Test.YtjmenbpalihnnaaFcn
namespace Go.Proofs.Ytjmenbpalihnnaa.fr
open Go.RowKit sl harn bx mrw drk stw rng
set_option linter.unusedVariables false
set_option linter.unusedSimpArgs false
open ux (Rea Fra rea fra)

/-- What hands back a slice of frames. -/
def FsPost (l : List Fra) (w : World) (e : Ending) (w' : World) : Prop := ∃ A n cap es, e = .returned (.slice A n cap) ∧ es.map (fun e : El Fra => e.x) = l ∧ Oe fraS w' w.heap.size w'.heap.size A n cap es ∧ Below w.heap.size w w'
theorem fs_parts {l : List Fra} {w w' : World} {e : Ending} (h : FsPost l w e w') : ∃ A n cap es, e = .returned (.slice A n cap) ∧ es.map (fun e : El Fra => e.x) = l ∧ Oe fraS w' w.heap.size w'.heap.size A n cap es ∧ Below w.heap.size w w' := h
theorem fcnt_pos {b t : Int} (h : 0 < fcnt b t) : (1 ≤ t ∧ t ≤ 100) ∧ (0 ≤ b ∧ b ≤ t * 16) := by
  by_cases hh : (1 ≤ t ∧ t ≤ 100) ∧ (0 ≤ b ∧ b ≤ t * 16)
  · exact hh
  · rw [fcnt_no hh] at h; omega
theorem nat_mul (k t : Nat) : ((k * t : Nat) : Int) = (k : Int) * (t : Int) := by simp
theorem frag_le {n tn k : Nat} {cc : Int} (h : fcnt (n : Int) (tn : Int) = cc) (hk : (k : Int) < cc) : k * tn ≤ n ∧ k * tn ≤ 1500 := by
  have hp := fcnt_pos (b := n) (t := tn) (by rw [h]; omega)
  have hr := fcnt_rng n tn
  rw [h] at hr
  have hb : k * tn ≤ 15 * 100 := Nat.mul_le_mul (by omega) (by omega)
  refine ⟨?_, by omega⟩
  rw [fcnt_yes hp rfl] at h
  split at h
  · have h1 : ((n : Int) + tn - 1) / tn * tn ≤ (n : Int) + tn - 1 := Int.ediv_mul_le _ (by omega)
    have h2 : ((k : Int) + 1) * tn ≤ ((n : Int) + tn - 1) / tn * tn := Int.mul_le_mul_of_nonneg_right (by omega) (by omega)
    rw [Int.add_mul, Int.one_mul] at h2
    have h3 := nat_mul k tn
    omega
  · have : k = 0 := by omega
    subst this; omega
theorem range_snoc {α : Type} (g : Nat → α) (k : Nat) : (List.range (k + 1)).map g = (List.range k).map g ++ [g k] := by rw [List.range_succ, List.map_append]; rfl
theorem frag_body {f : Fra} {tn k s m n : Nat} {cc : Int} (hs : k * tn = s) (hn : f.Body.length = n) (hm : min (s + tn) n = m) : (frag f (tn : Int) cc k).Body = (f.Body.drop s).take (m - s) := by
  unfold frag
  simp only [Int.toNat_natCast]
  rw [hs, hn, hm]
theorem wp_slice_lh {P : Program} {o : Oper} {a : Act} {w : World} {K : Act → World → Prop} {Q : Exit → Act → World → Prop} (t : TypeId) (x y z : Operand) (ho : o.op = .slice t x (some y) (some z) none) (v yv zv r : Value) (hx : a.eval x = v) (hy : a.eval y = yv) (hz : a.eval z = zv)
    (hr : ∀ W, (Instr.sliceAt t v (some yv) (some zv) none).run P W = .ok r W) (hK : K (a.put o.dst r) w) : Oper.wp P o a w K Q := by
  unfold Oper.wp execOp
  simp only [ho, Option.map_some, Option.map_none, hx, hy, hz, Sem.run_bind, hr, Result.andThen_ok, Sem.run_pure]
  exact hK
theorem slice_mid {P : Program} (t E : TypeId) (i0 : TypeInfo) (hu : P.underlying t = some (.slice E)) (hi : P.info? E = some i0) (hs : i0.size = 1) (A : Option Addr) (n cap i j : Nat) (hij : i ≤ j) (hj : j ≤ cap) :
    ∃ A', (i < j → A' = A.map (·.add i)) ∧ ∀ W, (Instr.slice t (.slice A n cap) (some (.int .i64 i)) (some (.int .i64 j)) none).run P W = .ok (.slice A' (j - i) (cap - i)) W := by
  refine ⟨if cap = i then A else A.map (·.add (i * 1)), fun h => ?_, fun W => ?_⟩
  · rw [if_neg (by omega), Nat.mul_one]
  · have hj2 : (i : Int) ≤ j := by omega
    have hj3 : (j : Int) ≤ cap := by omega
    simp [Instr.slice, run_underlying hu, Instr.sliceBounds, Instr.sliceBound, sizeOf, typeInfo, hi, hs, go_sem]
    split <;> (try split) <;> (try rfl) <;> (try omega) <;> simp_all <;> omega
theorem sumT_lec {α : Type} (g : α → Nat) (B : Nat) : ∀ l : List α, (∀ x ∈ l, g x ≤ B) → ux.sumT g l ≤ l.length * B
  | [], _ => by simp [ux.sumT]
  | x :: r, h => by
    have h1 := h x List.mem_cons_self
    have h2 := sumT_lec g B r fun y hy => h y (List.mem_cons_of_mem _ hy)
    rw [ux.sumT_cons, List.length_cons, Nat.add_mul, Nat.one_mul]; omega
theorem frs_sz {f : Fra} {t : Int} (h : ux.fra.sz f ≤ 1048576) : ux.rowFra.sz (frs f t) ≤ 67108864 := by
  have h0 : ux.fra.sz f = f.Body.length := rfl
  have hr := fcnt_rng f.Body.length t
  have hl : (frs f t).length ≤ 16 := by unfold frs; rw [List.length_map, List.length_range]; omega
  have hs := sumT_lec ux.fra.sz 1048576 (frs f t) fun x hx => by
    unfold frs at hx
    obtain ⟨i, _, rfl⟩ := List.mem_map.1 hx
    show ((f.Body.drop _).take _).length ≤ 1048576
    rw [List.length_take, List.length_drop]; omega
  have hm : (frs f t).length * 1048576 ≤ 16 * 1048576 := Nat.mul_le_mul_right _ hl
  show (frs f t).length + ux.sumT ux.fra.sz (frs f t) ≤ 67108864
  omega
set_option maxRecDepth 100000 in
set_option maxHeartbeats 4000000 in
theorem implFs (f : Fra) (t : Int) (A : Option Addr) (n c lo hi : Nat) (w : World) (h : Rd .u8 w lo hi A n c f.Body) (hn : n ≤ 67108864) :
    Calls Try.prog 28 #[fV f A n c, .int .i64 t] w (FsPost (frs f t) w) := by
  obtain ⟨i0, hi0, hz0, hz1, hz2⟩ := info_parts infoF
  have HZ := Lib.hid (And.intro hi0 (And.intro hz0 (And.intro hz1 hz2)))
  clear hi0 hz0 hz1 hz2
  obtain ⟨j0, hj0, hy0, hy1, hy2⟩ := info_parts u8Info
  have HY8 := Lib.hid (And.intro hj0 (And.intro hy0 (And.intro hy1 hy2)))
  clear hj0 hy0 hy1 hy2
  have RW := Lib.hid h
  have hrh := h.hi_
  have LHR := Lib.hid hrh
  have HLF := Lib.hid (show f.Body.length = n from h.len)
  have HCA := Lib.hid h.cap_
  have HN := Lib.hid hn
  clear h
  obtain ⟨cc, hcc⟩ : ∃ cc, fcnt (n : Int) t = cc := ⟨_, rfl⟩
  have HCC := Lib.hid hcc
  have hcr : 0 ≤ cc ∧ cc ≤ 16 := by rw [← hcc]; exact fcnt_rng _ _
  obtain ⟨hc0, hc9⟩ := hcr
  clear hcc
  have HFS := Lib.hid (show frs f t = (List.range cc.toNat).map (frag f t cc) by unfold frs; rw [HLF.out, HCC.out])
  rw [HFS.out]
  clear HFS
  obtain ⟨m, hm⟩ : ∃ m : Nat, cc = m := ⟨cc.toNat, by omega⟩
  have HM := Lib.hid (show cc.toNat = m by omega)
  rw [HM.out]
  have HMC := Lib.hid hm
  clear hm
  go_enter Try.func28, Try.ntmps28
  go_upto_region 1 with fail
  obtain ⟨w0, hW⟩ : ∃ w0, w.alloc (.cells #[.int .i64 f.Kind, .int .i64 f.From, .int .i64 f.To, .int .i64 f.Seq, .int .i64 f.Fragment, .bool f.More, .bool f.Retry, .int .i64 f.Duration, .slice A n c] 45) = w0 := ⟨_, rfl⟩
  rw [hW]
  have B0 := Lib.hid (show Below w.heap.size w w0 by rw [← hW]; exact (Below.refl _ _).alloc (by simp <;> omega) _)
  have X0 := Lib.hid (show Bx 45 w0 (w.heap.size) #[.int .i64 f.Kind, .int .i64 f.From, .int .i64 f.To, .int .i64 f.Seq, .int .i64 f.Fragment, .bool f.More, .bool f.Retry, .int .i64 f.Duration, .slice A n c] by
      rw [← hW]
      have hh := Bx.made 45 w #[.int .i64 f.Kind, .int .i64 f.From, .int .i64 f.To, .int .i64 f.Seq, .int .i64 f.Fragment, .bool f.More, .bool f.Retry, .int .i64 f.Duration, .slice A n c]
      exact hh)
  have R0 := Lib.hid (show Rd .u8 w0 (lo) (hi) A n c f.Body by rw [← hW]; exact (RW.out.below (below_box _ _)))
  clear hW
  have LTX := Lib.hid X0.out.lt
  have cX8 : w0.cell? ⟨w.heap.size, 8, none⟩ = some (.slice A n c) := X0.out.cell 8
  go_upto_region 2 with fail
  clear cX8
  obtain ⟨be, hbb⟩ : ∃ b, w0.heap.size = b := ⟨_, rfl⟩
  generalize hW : w0.alloc (.cells #[] 45) = w1
  have LE := Lib.hid (show w.heap.size ≤ be ∧ w.heap.size < be ∧ hi ≤ be by have h1 := B0.out.size; have h2X := X0.out.lt; have h2R := R0.out.hi_; have h3 := hbb; omega)
  have E1 := Lib.hid (show Bx 45 w1 be #[] by rw [← hW, ← hbb]; exact Bx.made _ _ _)
  have hb : Below w0.heap.size w0 w1 := by rw [← hW]; exact below_box _ _
  (try rw [hbb])
  clear hW hbb
  have SS1 := Lib.hid hb.size
  have B1 := Lib.hid (B0.out.trans (hb.mono B0.out.size))
  have X1 := Lib.hid (X0.out.below hb)
  have R1 := Lib.hid (R0.out.below hb)
  clear hb B0 X0 R0
  have LWE := Lib.hid E1.out.lt
  have cX8 : w1.cell? ⟨w.heap.size, 8, none⟩ = some (.slice A n c) := X1.out.cell 8
  go_wp2_with fail
  clear cX8
  (with_reducible refine (implFc (n : Int) t _).mono ?_)
  rintro e w2 hp
  obtain ⟨rfl, hb⟩ := n_parts HCC.out hp
  clear hp
  have SS2 := Lib.hid hb.size
  have B2 := Lib.hid (B1.out.trans (hb.mono B1.out.size))
  have X2 := Lib.hid (X1.out.below hb)
  have E2 := Lib.hid (E1.out.below hb)
  have R2 := Lib.hid (R1.out.below hb)
  clear hb B1 X1 E1 R1
  go_wp2_with fail
  have O2 := Lib.hid (show Oe fraS w2 be w2.heap.size (some ⟨be, 0, none⟩) 0 0 [] from oe_box (S := fraS) E2.out)
  have HBE := Lib.hid E2.out.lt
  clear E2
  go_loopw [5, 17] (fun v0 v1 wr => ∃ (k : Nat) (A1 : Option Addr) (c1 : Nat) (es : List (El Fra)), v0 = .slice A1 k c1 ∧ v1 = .int .i64 ((k : Int)) ∧ (k ≤ m) ∧ (es.map (fun e : El Fra => e.x) = (List.range k).map (frag f t cc)) ∧ (be < wr.heap.size) ∧ Below w.heap.size w wr ∧ Bx 45 wr w.heap.size #[.int .i64 f.Kind, .int .i64 f.From, .int .i64 f.To, .int .i64 f.Seq, .int .i64 f.Fragment, .bool f.More, .bool f.Retry, .int .i64 f.Duration, .slice A n c] ∧ Rd .u8 wr (lo) (hi) A n c f.Body ∧ Oe fraS wr be wr.heap.size A1 k c1 es) (fun _ i _ => m - (intOf i).toNat)
  case atStart => exact ⟨0, (some ⟨be, 0, none⟩), 0, [], rfl, rfl, by omega, by simp, HBE.out, B2.out, X2.out, R2.out, O2.out⟩
  case round =>
    obtain ⟨k, A1, c1, es, rfl, rfl, ghk, ghe, ghbe, gB3, gX3, gR3, gO3⟩ := hrel
    have B3 := Lib.hid gB3
    have X3 := Lib.hid gX3
    have R3 := Lib.hid gR3
    have O3 := Lib.hid gO3
    have hk := Lib.hid ghk
    have he := Lib.hid ghe
    have hbe := Lib.hid ghbe
    clear gB3 gX3 gR3 gO3 ghk ghe ghbe
    have LUX3 := Lib.hid X3.out.lt
    have SBR3 := Lib.hid B3.out.size
    have hk := hk.out
    by_cases hlt : k < m
    · have hlt2 : (k : Int) < cc := by have := HMC.out; omega
      have HP := Lib.hid (fcnt_pos (b := (n : Int)) (t := t) (by rw [HCC.out]; omega))
      obtain ⟨tn, htn⟩ : ∃ tn : Nat, t = tn := ⟨t.toNat, by have := HP.out; omega⟩
      subst htn
      have htl : (1 : Int) ≤ tn ∧ (tn : Int) ≤ 100 := HP.out.1
      obtain ⟨ht1, ht2⟩ := htl
      have HLE := Lib.hid (frag_le HCC.out hlt2)
      obtain ⟨s, hs⟩ : ∃ s, k * tn = s := ⟨_, rfl⟩
      have HS := Lib.hid hs
      have hsn : s ≤ n ∧ s ≤ 1500 := by rw [← hs]; exact HLE.out
      obtain ⟨hsn, hs15⟩ := hsn
      obtain ⟨e, he9⟩ : ∃ e, s + tn = e := ⟨_, rfl⟩
      have HE9 := Lib.hid he9
      obtain ⟨m2, hm2⟩ : ∃ m2, min e n = m2 := ⟨_, rfl⟩
      have HM2 := Lib.hid hm2
      have hmm : s ≤ m2 ∧ m2 ≤ n ∧ (m2 : Int) = (if (n : Int) < (e : Int) then (n : Int) else (e : Int)) ∧ (m2 : Int) = (if (e : Int) < (n : Int) then (e : Int) else (n : Int)) := by
        refine ⟨by omega, by omega, ?_, ?_⟩
        · split <;> omega
        · split <;> omega
      have HMM := Lib.hid hmm
      have hkI : (k : Int) * (tn : Int) = (s : Int) := by rw [← hs]; exact (nat_mul k tn).symm
      have hw1 : IntKind.i64.wrap ((k : Int) * (tn : Int)) = (s : Int) := by rw [hkI]; exact IntWalk.i64_in _ (by omega)
      have hw2 : IntKind.i64.wrap ((s : Int) + (tn : Int)) = (e : Int) := by rw [show (s : Int) + (tn : Int) = (e : Int) by omega]; exact IntWalk.i64_in _ (by omega)
      have hw4 : IntKind.i64.wrap (((k : Int) + 1) * (tn : Int)) = (e : Int) := by rw [Int.add_mul, Int.one_mul, hkI, show (s : Int) + (tn : Int) = (e : Int) by omega]; exact IntWalk.i64_in _ (by omega)
      have hw5 : IntKind.i64.wrap ((k : Int) + 1) = (k : Int) + 1 := IntWalk.i64_in _ (by omega)
      have HFB := Lib.hid (frag_body (f := f) (cc := cc) (m := m2) HS.out HLF.out (by rw [HE9.out]; exact HM2.out))
      clear hkI hs he9 hm2 hmm
      have cX0 : wr.cell? ⟨w.heap.size, 0, none⟩ = some (.int .i64 f.Kind) := X3.out.cell 0
      have cX1 : wr.cell? ⟨w.heap.size, 1, none⟩ = some (.int .i64 f.From) := X3.out.cell 1
      have cX2 : wr.cell? ⟨w.heap.size, 2, none⟩ = some (.int .i64 f.To) := X3.out.cell 2
      have cX3 : wr.cell? ⟨w.heap.size, 3, none⟩ = some (.int .i64 f.Seq) := X3.out.cell 3
      have cX4 : wr.cell? ⟨w.heap.size, 4, none⟩ = some (.int .i64 f.Fragment) := X3.out.cell 4
      have cX5 : wr.cell? ⟨w.heap.size, 5, none⟩ = some (.bool f.More) := X3.out.cell 5
      have cX6 : wr.cell? ⟨w.heap.size, 6, none⟩ = some (.bool f.Retry) := X3.out.cell 6
      have cX7 : wr.cell? ⟨w.heap.size, 7, none⟩ = some (.int .i64 f.Duration) := X3.out.cell 7
      have cX8 : wr.cell? ⟨w.heap.size, 8, none⟩ = some (.slice A n c) := X3.out.cell 8
      go_upto_region 8 with fail
      clear cX0 cX1 cX2 cX3 cX4 cX5 cX6 cX7 cX8
      obtain ⟨bv, hbb⟩ : ∃ b, wr.heap.size = b := ⟨_, rfl⟩
      generalize hW : wr.alloc (.cells #[.int .i64 f.Kind, .int .i64 f.From, .int .i64 f.To, .int .i64 f.Seq, .int .i64 f.Fragment, .bool f.More, .bool f.Retry, .int .i64 f.Duration, .slice A n c] 45) = w4
      have LV := Lib.hid (show w.heap.size ≤ bv ∧ w.heap.size < bv ∧ hi ≤ bv ∧ wr.heap.size ≤ bv by have h1 := B3.out.size; have h2X := X3.out.lt; have h2R := R3.out.hi_; have h2O := O3.out.hi_; have h3 := hbb; omega)
      have V4 := Lib.hid (show Bx 45 w4 bv #[.int .i64 f.Kind, .int .i64 f.From, .int .i64 f.To, .int .i64 f.Seq, .int .i64 f.Fragment, .bool f.More, .bool f.Retry, .int .i64 f.Duration, .slice A n c] by rw [← hW, ← hbb]; exact Bx.made _ _ _)
      have hb : Below wr.heap.size wr w4 := by rw [← hW]; exact below_box _ _
      (try rw [hbb])
      clear hW hbb
      have SS4 := Lib.hid hb.size
      have B4 := Lib.hid (B3.out.trans (hb.mono B3.out.size))
      have X4 := Lib.hid (X3.out.below hb)
      have R4 := Lib.hid (R3.out.below hb)
      have O4 := Lib.hid (O3.out.below hb)
      clear hb B3 X3 R3 O3
      have LWV := Lib.hid V4.out.lt
      have cV0 : w4.cell? ⟨bv, 0, none⟩ = some (.int .i64 f.Kind) := V4.out.cell 0
      have cV1 : w4.cell? ⟨bv, 1, none⟩ = some (.int .i64 f.From) := V4.out.cell 1
      have cV2 : w4.cell? ⟨bv, 2, none⟩ = some (.int .i64 f.To) := V4.out.cell 2
      have cV3 : w4.cell? ⟨bv, 3, none⟩ = some (.int .i64 f.Seq) := V4.out.cell 3
      have cV4 : w4.cell? ⟨bv, 4, none⟩ = some (.int .i64 f.Fragment) := V4.out.cell 4
      have cV5 : w4.cell? ⟨bv, 5, none⟩ = some (.bool f.More) := V4.out.cell 5
      have cV6 : w4.cell? ⟨bv, 6, none⟩ = some (.bool f.Retry) := V4.out.cell 6
      have cV7 : w4.cell? ⟨bv, 7, none⟩ = some (.int .i64 f.Duration) := V4.out.cell 7
      have cV8 : w4.cell? ⟨bv, 8, none⟩ = some (.slice A n c) := V4.out.cell 8
      have fV4 : w4.frozen? ⟨bv, 4, none⟩ = false := V4.out.free 4
      go_upto_region 9 with fail
      clear cV0 cV1 cV2 cV3 cV4 cV5 cV6 cV7 cV8 fV4
      have hWW : (w4.setCell ⟨bv, 4, none⟩ (.int .i64 ((k : Int)))) = (w4.setCell ⟨bv, 4, none⟩ (.int .i64 ((k : Int)))) := rfl
      obtain ⟨w5, hW⟩ : ∃ wy, (w4.setCell ⟨bv, 4, none⟩ (.int .i64 ((k : Int)))) = wy := ⟨_, rfl⟩
      rw [hW]
      clear hWW
      have B5 := Lib.hid (show Below w.heap.size w w5 by rw [← hW]; exact (B4.out.setCell (p := ⟨bv, 4, none⟩) (by have hlE := LE.out; have hlV := LV.out; have hs0 := LTX.out; have hs1 := LHR.out; have hs2 := SS1.out; have hs3 := LWE.out; have hs4 := SS2.out; have hs5 := HBE.out; have hs6 := LUX3.out; have hs7 := SBR3.out; have hs8 := hbe.out; have hs9 := SS4.out; have hs10 := LWV.out; first | omega | (simp <;> omega)) _))
      have X5 := Lib.hid (show Bx 45 w5 (w.heap.size) #[.int .i64 f.Kind, .int .i64 f.From, .int .i64 f.To, .int .i64 f.Seq, .int .i64 f.Fragment, .bool f.More, .bool f.Retry, .int .i64 f.Duration, .slice A n c] by rw [← hW]; exact (X4.out.other (by have hlE := LE.out; have hlV := LV.out; have hs0 := LTX.out; have hs1 := LHR.out; have hs2 := SS1.out; have hs3 := LWE.out; have hs4 := SS2.out; have hs5 := HBE.out; have hs6 := LUX3.out; have hs7 := SBR3.out; have hs8 := hbe.out; have hs9 := SS4.out; have hs10 := LWV.out; first | omega | (simp <;> omega)) _ _))
      have V5 := Lib.hid (show Bx 45 w5 (bv) #[.int .i64 f.Kind, .int .i64 f.From, .int .i64 f.To, .int .i64 f.Seq, .int .i64 ((k : Int)), .bool f.More, .bool f.Retry, .int .i64 f.Duration, .slice A n c] by rw [← hW]; exact (V4.out.set 4 _))
      have R5 := Lib.hid (show Rd .u8 w5 (lo) (hi) A n c f.Body by rw [← hW]; exact (R4.out.same (by simp [World.setCell]) fun b h1 h2 => by rw [Below.heap_setCell _ _ _ _ (by have hlE := LE.out; have hlV := LV.out; have hs0 := LTX.out; have hs1 := LHR.out; have hs2 := SS1.out; have hs3 := LWE.out; have hs4 := SS2.out; have hs5 := HBE.out; have hs6 := LUX3.out; have hs7 := SBR3.out; have hs8 := hbe.out; have hs9 := SS4.out; have hs10 := LWV.out; first | omega | (simp <;> omega))]))
      have O5 := Lib.hid (show Oe fraS w5 be wr.heap.size A1 k c1 es by rw [← hW]; exact (O4.out.same (by simp [World.setCell]) fun b h1 h2 => by rw [Below.heap_setCell _ _ _ _ (by have hlE := LE.out; have hlV := LV.out; have hs0 := LTX.out; have hs1 := LHR.out; have hs2 := SS1.out; have hs3 := LWE.out; have hs4 := SS2.out; have hs5 := HBE.out; have hs6 := LUX3.out; have hs7 := SBR3.out; have hs8 := hbe.out; have hs9 := SS4.out; have hs10 := LWV.out; first | omega | (simp <;> omega))]))
      clear hW B4 X4 V4 R4 O4
      have SQ5 := Lib.hid V5.out.lt
      have cV0 : w5.cell? ⟨bv, 0, none⟩ = some (.int .i64 f.Kind) := V5.out.cell 0
      have cV1 : w5.cell? ⟨bv, 1, none⟩ = some (.int .i64 f.From) := V5.out.cell 1
      have cV2 : w5.cell? ⟨bv, 2, none⟩ = some (.int .i64 f.To) := V5.out.cell 2
      have cV3 : w5.cell? ⟨bv, 3, none⟩ = some (.int .i64 f.Seq) := V5.out.cell 3
      have cV4 : w5.cell? ⟨bv, 4, none⟩ = some (.int .i64 ((k : Int))) := V5.out.cell 4
      have cV5 : w5.cell? ⟨bv, 5, none⟩ = some (.bool f.More) := V5.out.cell 5
      have cV6 : w5.cell? ⟨bv, 6, none⟩ = some (.bool f.Retry) := V5.out.cell 6
      have cV7 : w5.cell? ⟨bv, 7, none⟩ = some (.int .i64 f.Duration) := V5.out.cell 7
      have cV8 : w5.cell? ⟨bv, 8, none⟩ = some (.slice A n c) := V5.out.cell 8
      have fV5 : w5.frozen? ⟨bv, 5, none⟩ = false := V5.out.free 5
      go_upto_region 10 with fail
      clear cV0 cV1 cV2 cV3 cV4 cV5 cV6 cV7 cV8 fV5
      have hWW : (w5.setCell ⟨bv, 5, none⟩ (.bool (decide ((k : Int) < cc - 1)))) = (w5.setCell ⟨bv, 5, none⟩ (.bool (decide ((k : Int) < cc - 1)))) := rfl
      obtain ⟨w6, hW⟩ : ∃ wy, (w5.setCell ⟨bv, 5, none⟩ (.bool (decide ((k : Int) < cc - 1)))) = wy := ⟨_, rfl⟩
      rw [hW]
      clear hWW
      have B6 := Lib.hid (show Below w.heap.size w w6 by rw [← hW]; exact (B5.out.setCell (p := ⟨bv, 5, none⟩) (by have hlE := LE.out; have hlV := LV.out; have hs0 := LTX.out; have hs1 := LHR.out; have hs2 := SS1.out; have hs3 := LWE.out; have hs4 := SS2.out; have hs5 := HBE.out; have hs6 := LUX3.out; have hs7 := SBR3.out; have hs8 := hbe.out; have hs9 := SS4.out; have hs10 := LWV.out; have hs11 := SQ5.out; first | omega | (simp <;> omega)) _))
      have X6 := Lib.hid (show Bx 45 w6 (w.heap.size) #[.int .i64 f.Kind, .int .i64 f.From, .int .i64 f.To, .int .i64 f.Seq, .int .i64 f.Fragment, .bool f.More, .bool f.Retry, .int .i64 f.Duration, .slice A n c] by rw [← hW]; exact (X5.out.other (by have hlE := LE.out; have hlV := LV.out; have hs0 := LTX.out; have hs1 := LHR.out; have hs2 := SS1.out; have hs3 := LWE.out; have hs4 := SS2.out; have hs5 := HBE.out; have hs6 := LUX3.out; have hs7 := SBR3.out; have hs8 := hbe.out; have hs9 := SS4.out; have hs10 := LWV.out; have hs11 := SQ5.out; first | omega | (simp <;> omega)) _ _))
      have V6 := Lib.hid (show Bx 45 w6 (bv) #[.int .i64 f.Kind, .int .i64 f.From, .int .i64 f.To, .int .i64 f.Seq, .int .i64 ((k : Int)), .bool (decide ((k : Int) < cc - 1)), .bool f.Retry, .int .i64 f.Duration, .slice A n c] by rw [← hW]; exact (V5.out.set 5 _))
      have R6 := Lib.hid (show Rd .u8 w6 (lo) (hi) A n c f.Body by rw [← hW]; exact (R5.out.same (by simp [World.setCell]) fun b h1 h2 => by rw [Below.heap_setCell _ _ _ _ (by have hlE := LE.out; have hlV := LV.out; have hs0 := LTX.out; have hs1 := LHR.out; have hs2 := SS1.out; have hs3 := LWE.out; have hs4 := SS2.out; have hs5 := HBE.out; have hs6 := LUX3.out; have hs7 := SBR3.out; have hs8 := hbe.out; have hs9 := SS4.out; have hs10 := LWV.out; have hs11 := SQ5.out; first | omega | (simp <;> omega))]))
      have O6 := Lib.hid (show Oe fraS w6 be wr.heap.size A1 k c1 es by rw [← hW]; exact (O5.out.same (by simp [World.setCell]) fun b h1 h2 => by rw [Below.heap_setCell _ _ _ _ (by have hlE := LE.out; have hlV := LV.out; have hs0 := LTX.out; have hs1 := LHR.out; have hs2 := SS1.out; have hs3 := LWE.out; have hs4 := SS2.out; have hs5 := HBE.out; have hs6 := LUX3.out; have hs7 := SBR3.out; have hs8 := hbe.out; have hs9 := SS4.out; have hs10 := LWV.out; have hs11 := SQ5.out; first | omega | (simp <;> omega))]))
      clear hW B5 X5 V5 R5 O5
      have SQ6 := Lib.hid V6.out.lt
      refine reg.region_tail reg.Bel 12 49 [some [], some [(0, 31)], some [], some [], some [], some [(3, 34), (4, 35)], some [], some [(6, 37)], some [(7, 38)], some [(5, 36), (8, 39)], some [(1, 32), (2, 33), (9, 40)], some [], none] [(0, 31), (1, 32), (2, 33), (3, 34), (4, 35), (5, 36), (6, 37), (7, 38), (8, 39), (9, 40), (10, 41), (11, 42)]
        (fun w' => Below w.heap.size w w' ∧ Bx 45 w' (w.heap.size) #[.int .i64 f.Kind, .int .i64 f.From, .int .i64 f.To, .int .i64 f.Seq, .int .i64 f.Fragment, .bool f.More, .bool f.Retry, .int .i64 f.Duration, .slice A n c] ∧ Bx 45 w' (bv) #[.int .i64 f.Kind, .int .i64 f.From, .int .i64 f.To, .int .i64 f.Seq, .int .i64 ((k : Int)), .bool (decide ((k : Int) < cc - 1)), .bool f.Retry, .int .i64 f.Duration, .slice A n c] ∧ Rd .u8 w' (lo) (hi) A n c f.Body ∧ Oe fraS w' be wr.heap.size A1 k c1 es ∧ True)
        (reg.rl [reg.is (.pointer (some ⟨w.heap.size, 8, none⟩)), reg.is (.slice A n c), reg.is (.int .i64 ((s : Int))), reg.is (.int .i64 ((s : Int))), reg.is (.int .i64 ((tn : Int))), reg.is (.int .i64 ((e : Int))), reg.is (.pointer (some ⟨w.heap.size, 8, none⟩)), reg.is (.slice A n c), reg.is (.int .i64 ((n : Int))), reg.is (.int .i64 ((m2 : Int))), stw.ownf 5 .u8 (bv + 1) ((f.Body.drop s).take (m2 - s)) (fun A n c => .slice A n c), reg.is (.pointer (some ⟨bv, 8, none⟩)), reg.free])
        (by kernel_rfl) rfl (by kernel_rfl) (by kernel_rfl) rfl
        (fun w1 w2 hc hb => ⟨hc.1.trans (hb.mono hc.1.size), hc.2.1.below hb, hc.2.2.1.below hb, hc.2.2.2.1.below hb, hc.2.2.2.2.1.below hb, trivial⟩) (reg.rl_keep _) (⟨own.below_drew B6.out, X6.out.same rfl, V6.out.same rfl, own.rd_drew R6.out, O6.out.same (Nat.le_refl _) (fun _ _ _ => rfl), trivial⟩) (by kernel_rfl) ⟨?_, ?_, ?_, ?_, ?_, ?_, ?_, ?_, ?_, ?_, ?_, ?_, trivial⟩ ?_
      · refine fun w8 hc  K hK => ?_
        (try simp only [Act.put, List.setIfInBounds_toArray, List.set_cons_zero, List.set_cons_succ])
        go_simp
        exact hK (.pointer (some ⟨w.heap.size, 8, none⟩)) _ rfl (Below.refl _ _)
      · refine fun w8 hc v0 h0 K hK => ?_
        obtain rfl : v0 = .pointer (some ⟨w.heap.size, 8, none⟩) := h0
        (try simp only [Act.put, List.setIfInBounds_toArray, List.set_cons_zero, List.set_cons_succ])
        have c0 : w8.cell? ⟨w.heap.size, 8, none⟩ = some (.slice A n c) := hc.2.1.cell 8
        go_simp
        exact hK (.slice A n c) _ rfl (Below.refl _ _)
      · refine fun w8 hc  K hK => ?_
        (try simp only [Act.put, List.setIfInBounds_toArray, List.set_cons_zero, List.set_cons_succ])
        go_simp
        exact hK (.int .i64 ((s : Int))) _ rfl (Below.refl _ _)
      · refine fun w8 hc  K hK => ?_
        (try simp only [Act.put, List.setIfInBounds_toArray, List.set_cons_zero, List.set_cons_succ])
        go_simp
        exact hK (.int .i64 ((s : Int))) _ rfl (Below.refl _ _)
      · refine fun w8 hc  K hK => ?_
        (try simp only [Act.put, List.setIfInBounds_toArray, List.set_cons_zero, List.set_cons_succ])
        go_simp
        exact hK (.int .i64 ((tn : Int))) _ rfl (Below.refl _ _)
      · refine fun w8 hc v3 h3 v4 h4 K hK => ?_
        obtain rfl : v3 = .int .i64 ((s : Int)) := h3
        obtain rfl : v4 = .int .i64 ((tn : Int)) := h4
        (try simp only [Act.put, List.setIfInBounds_toArray, List.set_cons_zero, List.set_cons_succ])
        go_simp
        exact hK (.int .i64 ((e : Int))) _ rfl (Below.refl _ _)
      · refine fun w8 hc  K hK => ?_
        (try simp only [Act.put, List.setIfInBounds_toArray, List.set_cons_zero, List.set_cons_succ])
        go_simp
        exact hK (.pointer (some ⟨w.heap.size, 8, none⟩)) _ rfl (Below.refl _ _)
      · refine fun w8 hc v6 h6 K hK => ?_
        obtain rfl : v6 = .pointer (some ⟨w.heap.size, 8, none⟩) := h6
        (try simp only [Act.put, List.setIfInBounds_toArray, List.set_cons_zero, List.set_cons_succ])
        have c0 : w8.cell? ⟨w.heap.size, 8, none⟩ = some (.slice A n c) := hc.2.1.cell 8
        go_simp
        exact hK (.slice A n c) _ rfl (Below.refl _ _)
      · refine fun w8 hc v7 h7 K hK => ?_
        obtain rfl : v7 = .slice A n c := h7
        (try simp only [Act.put, List.setIfInBounds_toArray, List.set_cons_zero, List.set_cons_succ])
        go_simp
        exact hK (.int .i64 ((n : Int))) _ rfl (Below.refl _ _)
      · refine fun w8 hc v5 h5 v8 h8 K hK => ?_
        obtain rfl : v5 = .int .i64 ((e : Int)) := h5
        obtain rfl : v8 = .int .i64 ((n : Int)) := h8
        (try simp only [Act.put, List.setIfInBounds_toArray, List.set_cons_zero, List.set_cons_succ])
        go_simp
        (with_reducible refine (implMin (e : Int) (n : Int) (m2 : Int) HMM.out.2.2.1 _).mono ?_)
        rintro e w3 ⟨rfl, hb⟩
        exact hK _ _ rfl hb
      · refine fun w8 hc v1 h1 v2 h2 v9 h9 K hK => ?_
        obtain rfl : v1 = .slice A n c := h1
        obtain rfl : v2 = .int .i64 ((s : Int)) := h2
        obtain rfl : v9 = .int .i64 ((m2 : Int)) := h9
        (try simp only [Act.put, List.setIfInBounds_toArray, List.set_cons_zero, List.set_cons_succ])
        go_simp
        have hql := hc.2.2.1.lt
        (with_reducible refine (uvs.copyPart _ _ A n c f.Body s m2 _ hc.2.2.2.1 HMM.out.1 HMM.out.2.1 (by have := HN.out; omega)).mono ?_)
        rintro e w3 ⟨A1, n1, c1, rfl, ho, hb⟩
        exact hK _ _ ⟨A1, n1, c1, _, _, rfl, (by omega), ho⟩ hb
      · refine fun w8 hc  K hK => ?_
        (try simp only [Act.put, List.setIfInBounds_toArray, List.set_cons_zero, List.set_cons_succ])
        go_simp
        exact hK (.pointer (some ⟨bv, 8, none⟩)) _ rfl (Below.refl _ _)
      refine fun wg7 hc v0 h0 v1 h1 v2 h2 v3 h3 v4 h4 v5 h5 v6 h6 v7 h7 v8 h8 v9 h9 v10 h10 v11 h11 => ?_
      obtain rfl : v0 = .pointer (some ⟨w.heap.size, 8, none⟩) := h0
      obtain rfl : v1 = .slice A n c := h1
      obtain rfl : v2 = .int .i64 ((s : Int)) := h2
      obtain rfl : v3 = .int .i64 ((s : Int)) := h3
      obtain rfl : v4 = .int .i64 ((tn : Int)) := h4
      obtain rfl : v5 = .int .i64 ((e : Int)) := h5
      obtain rfl : v6 = .pointer (some ⟨w.heap.size, 8, none⟩) := h6
      obtain rfl : v7 = .slice A n c := h7
      obtain rfl : v8 = .int .i64 ((n : Int)) := h8
      obtain rfl : v9 = .int .i64 ((m2 : Int)) := h9
      obtain ⟨A1_, n1_, c1_, lo1, hi1, rfl, hB1, hO1⟩ := h10
      obtain rfl : v11 = .pointer (some ⟨bv, 8, none⟩) := h11
      (try simp only [reg.Obs])
      (try simp only [Act.put, List.setIfInBounds_toArray, List.set_cons_zero, List.set_cons_succ])
      simp only [List.drop_succ_cons, List.drop_zero]
      have B7 := Lib.hid hc.1
      have X7 := Lib.hid hc.2.1
      have V7 := Lib.hid hc.2.2.1
      have R7 := Lib.hid hc.2.2.2.1
      have O7 := Lib.hid hc.2.2.2.2.1
      clear hc B6 X6 V6 R6 O6
      have P7 := Lib.hid hO1
      have HB1 := Lib.hid hB1
      have HH1 := Lib.hid hO1.hi_
      clear hO1 hB1
      have cV0 : wg7.cell? ⟨bv, 0, none⟩ = some (.int .i64 f.Kind) := V7.out.cell 0
      have cV1 : wg7.cell? ⟨bv, 1, none⟩ = some (.int .i64 f.From) := V7.out.cell 1
      have cV2 : wg7.cell? ⟨bv, 2, none⟩ = some (.int .i64 f.To) := V7.out.cell 2
      have cV3 : wg7.cell? ⟨bv, 3, none⟩ = some (.int .i64 f.Seq) := V7.out.cell 3
      have cV4 : wg7.cell? ⟨bv, 4, none⟩ = some (.int .i64 ((k : Int))) := V7.out.cell 4
      have cV5 : wg7.cell? ⟨bv, 5, none⟩ = some (.bool (decide ((k : Int) < cc - 1))) := V7.out.cell 5
      have cV6 : wg7.cell? ⟨bv, 6, none⟩ = some (.bool f.Retry) := V7.out.cell 6
      have cV7 : wg7.cell? ⟨bv, 7, none⟩ = some (.int .i64 f.Duration) := V7.out.cell 7
      have cV8 : wg7.cell? ⟨bv, 8, none⟩ = some (.slice A n c) := V7.out.cell 8
      have fV8 : wg7.frozen? ⟨bv, 8, none⟩ = false := V7.out.free 8
      go_upto_region 11 with fail
      clear cV0 cV1 cV2 cV3 cV4 cV5 cV6 cV7 cV8 fV8
      have hWW : (wg7.setCell ⟨bv, 8, none⟩ (.slice A1_ n1_ c1_)) = (wg7.setCell ⟨bv, 8, none⟩ (.slice A1_ n1_ c1_)) := rfl
      obtain ⟨w8, hW⟩ : ∃ wy, (wg7.setCell ⟨bv, 8, none⟩ (.slice A1_ n1_ c1_)) = wy := ⟨_, rfl⟩
      rw [hW]
      clear hWW
      have B8 := Lib.hid (show Below w.heap.size w w8 by rw [← hW]; exact (B7.out.setCell (p := ⟨bv, 8, none⟩) (by have hlE := LE.out; have hlV := LV.out; have hs0 := LTX.out; have hs1 := LHR.out; have hs2 := SS1.out; have hs3 := LWE.out; have hs4 := SS2.out; have hs5 := HBE.out; have hs6 := LUX3.out; have hs7 := SBR3.out; have hs8 := hbe.out; have hs9 := SS4.out; have hs10 := LWV.out; have hs11 := SQ5.out; have hs12 := SQ6.out; have hs13 := HB1.out; have hs14 := HH1.out; first | omega | (simp <;> omega)) _))
      have X8 := Lib.hid (show Bx 45 w8 (w.heap.size) #[.int .i64 f.Kind, .int .i64 f.From, .int .i64 f.To, .int .i64 f.Seq, .int .i64 f.Fragment, .bool f.More, .bool f.Retry, .int .i64 f.Duration, .slice A n c] by rw [← hW]; exact (X7.out.other (by have hlE := LE.out; have hlV := LV.out; have hs0 := LTX.out; have hs1 := LHR.out; have hs2 := SS1.out; have hs3 := LWE.out; have hs4 := SS2.out; have hs5 := HBE.out; have hs6 := LUX3.out; have hs7 := SBR3.out; have hs8 := hbe.out; have hs9 := SS4.out; have hs10 := LWV.out; have hs11 := SQ5.out; have hs12 := SQ6.out; have hs13 := HB1.out; have hs14 := HH1.out; first | omega | (simp <;> omega)) _ _))
      have V8 := Lib.hid (show Bx 45 w8 (bv) #[.int .i64 f.Kind, .int .i64 f.From, .int .i64 f.To, .int .i64 f.Seq, .int .i64 ((k : Int)), .bool (decide ((k : Int) < cc - 1)), .bool f.Retry, .int .i64 f.Duration, .slice A1_ n1_ c1_] by rw [← hW]; exact (V7.out.set 8 _))
      have R8 := Lib.hid (show Rd .u8 w8 (lo) (hi) A n c f.Body by rw [← hW]; exact (R7.out.same (by simp [World.setCell]) fun b h1 h2 => by rw [Below.heap_setCell _ _ _ _ (by have hlE := LE.out; have hlV := LV.out; have hs0 := LTX.out; have hs1 := LHR.out; have hs2 := SS1.out; have hs3 := LWE.out; have hs4 := SS2.out; have hs5 := HBE.out; have hs6 := LUX3.out; have hs7 := SBR3.out; have hs8 := hbe.out; have hs9 := SS4.out; have hs10 := LWV.out; have hs11 := SQ5.out; have hs12 := SQ6.out; have hs13 := HB1.out; have hs14 := HH1.out; first | omega | (simp <;> omega))]))
      have O8 := Lib.hid (show Oe fraS w8 be wr.heap.size A1 k c1 es by rw [← hW]; exact (O7.out.same (by simp [World.setCell]) fun b h1 h2 => by rw [Below.heap_setCell _ _ _ _ (by have hlE := LE.out; have hlV := LV.out; have hs0 := LTX.out; have hs1 := LHR.out; have hs2 := SS1.out; have hs3 := LWE.out; have hs4 := SS2.out; have hs5 := HBE.out; have hs6 := LUX3.out; have hs7 := SBR3.out; have hs8 := hbe.out; have hs9 := SS4.out; have hs10 := LWV.out; have hs11 := SQ5.out; have hs12 := SQ6.out; have hs13 := HB1.out; have hs14 := HH1.out; first | omega | (simp <;> omega))]))
      have P8 := Lib.hid (show Ow 5 .u8 w8 (lo1) (hi1) A1_ n1_ c1_ ((f.Body.drop s).take (m2 - s)) by rw [← hW]; exact (P7.out.same (by simp [World.setCell]) fun b h1 h2 => by rw [Below.heap_setCell _ _ _ _ (by have hlE := LE.out; have hlV := LV.out; have hs0 := LTX.out; have hs1 := LHR.out; have hs2 := SS1.out; have hs3 := LWE.out; have hs4 := SS2.out; have hs5 := HBE.out; have hs6 := LUX3.out; have hs7 := SBR3.out; have hs8 := hbe.out; have hs9 := SS4.out; have hs10 := LWV.out; have hs11 := SQ5.out; have hs12 := SQ6.out; have hs13 := HB1.out; have hs14 := HH1.out; first | omega | (simp <;> omega))]))
      clear hW B7 X7 V7 R7 O7 P7
      have SQ8 := Lib.hid V8.out.lt
      have cV0 : w8.cell? ⟨bv, 0, none⟩ = some (.int .i64 f.Kind) := V8.out.cell 0
      have cV1 : w8.cell? ⟨bv, 1, none⟩ = some (.int .i64 f.From) := V8.out.cell 1
      have cV2 : w8.cell? ⟨bv, 2, none⟩ = some (.int .i64 f.To) := V8.out.cell 2
      have cV3 : w8.cell? ⟨bv, 3, none⟩ = some (.int .i64 f.Seq) := V8.out.cell 3
      have cV4 : w8.cell? ⟨bv, 4, none⟩ = some (.int .i64 ((k : Int))) := V8.out.cell 4
      have cV5 : w8.cell? ⟨bv, 5, none⟩ = some (.bool (decide ((k : Int) < cc - 1))) := V8.out.cell 5
      have cV6 : w8.cell? ⟨bv, 6, none⟩ = some (.bool f.Retry) := V8.out.cell 6
      have cV7 : w8.cell? ⟨bv, 7, none⟩ = some (.int .i64 f.Duration) := V8.out.cell 7
      have cV8 : w8.cell? ⟨bv, 8, none⟩ = some (.slice A1_ n1_ c1_) := V8.out.cell 8
      go_wp2_with (at_builtin; refine list_push w8 rfl _ _ 48 rfl Try.underlying48 HZ.out.1 HZ.out.2.1 HZ.out.2.2.1 (by rw [HZ.out.2.2.2]; omega) rfl rfl rfl O8.out ⟨frag f (tn : Int) cc k, A1_, n1_, c1_⟩ (show Ow 5 .u8 w8 lo1 hi1 A1_ n1_ c1_ (frag f (tn : Int) cc k).Body by rw [HFB.out]; exact P8.out) (by have hlE := LE.out; have hlV := LV.out; have hs0 := LTX.out; have hs1 := LHR.out; have hs2 := SS1.out; have hs3 := LWE.out; have hs4 := SS2.out; have hs5 := HBE.out; have hs6 := LUX3.out; have hs7 := SBR3.out; have hs8 := hbe.out; have hs9 := SS4.out; have hs10 := LWV.out; have hs11 := SQ5.out; have hs12 := SQ6.out; have hs13 := HB1.out; have hs14 := HH1.out; have hs15 := SQ8.out; first | omega | (simp <;> omega)) (by have hlE := LE.out; have hlV := LV.out; have hs0 := LTX.out; have hs1 := LHR.out; have hs2 := SS1.out; have hs3 := LWE.out; have hs4 := SS2.out; have hs5 := HBE.out; have hs6 := LUX3.out; have hs7 := SBR3.out; have hs8 := hbe.out; have hs9 := SS4.out; have hs10 := LWV.out; have hs11 := SQ5.out; have hs12 := SQ6.out; have hs13 := HB1.out; have hs14 := HH1.out; have hs15 := SQ8.out; first | omega | (simp <;> omega)) (by omega) (by have hlE := LE.out; have hlV := LV.out; have hs0 := LTX.out; have hs1 := LHR.out; have hs2 := SS1.out; have hs3 := LWE.out; have hs4 := SS2.out; have hs5 := HBE.out; have hs6 := LUX3.out; have hs7 := SBR3.out; have hs8 := hbe.out; have hs9 := SS4.out; have hs10 := LWV.out; have hs11 := SQ5.out; have hs12 := SQ6.out; have hs13 := HB1.out; have hs14 := HH1.out; have hs15 := SQ8.out; first | omega | (simp <;> omega)) ?_; intro A3 c3 w9 ho hg; have B9 := Lib.hid (below_grown B8.out hg (fun q hq => by have hlE := LE.out; have hlV := LV.out; have hs0 := LTX.out; have hs1 := LHR.out; have hs2 := SS1.out; have hs3 := LWE.out; have hs4 := SS2.out; have hs5 := HBE.out; have hs6 := LUX3.out; have hs7 := SBR3.out; have hs8 := hbe.out; have hs9 := SS4.out; have hs10 := LWV.out; have hs11 := SQ5.out; have hs12 := SQ6.out; have hs13 := HB1.out; have hs14 := HH1.out; have hs15 := SQ8.out; have := (O8.out.lo_ hq).1; omega) B8.out.size); have X9 := Lib.hid (grown_bx X8.out hg (fun e => by have hlE := LE.out; have hlV := LV.out; have hs0 := LTX.out; have hs1 := LHR.out; have hs2 := SS1.out; have hs3 := LWE.out; have hs4 := SS2.out; have hs5 := HBE.out; have hs6 := LUX3.out; have hs7 := SBR3.out; have hs8 := hbe.out; have hs9 := SS4.out; have hs10 := LWV.out; have hs11 := SQ5.out; have hs12 := SQ6.out; have hs13 := HB1.out; have hs14 := HH1.out; have hs15 := SQ8.out; have := O8.out.lo_ e.symm; omega)); have V9 := Lib.hid (grown_bx V8.out hg (fun e => by have hlE := LE.out; have hlV := LV.out; have hs0 := LTX.out; have hs1 := LHR.out; have hs2 := SS1.out; have hs3 := LWE.out; have hs4 := SS2.out; have hs5 := HBE.out; have hs6 := LUX3.out; have hs7 := SBR3.out; have hs8 := hbe.out; have hs9 := SS4.out; have hs10 := LWV.out; have hs11 := SQ5.out; have hs12 := SQ6.out; have hs13 := HB1.out; have hs14 := HH1.out; have hs15 := SQ8.out; have := O8.out.lo_ e.symm; omega)); have R9 := Lib.hid (rd_grown O8.out hg R8.out (by have hlE := LE.out; have hlV := LV.out; have hs0 := LTX.out; have hs1 := LHR.out; have hs2 := SS1.out; have hs3 := LWE.out; have hs4 := SS2.out; have hs5 := HBE.out; have hs6 := LUX3.out; have hs7 := SBR3.out; have hs8 := hbe.out; have hs9 := SS4.out; have hs10 := LWV.out; have hs11 := SQ5.out; have hs12 := SQ6.out; have hs13 := HB1.out; have hs14 := HH1.out; have hs15 := SQ8.out; first | omega | (simp <;> omega))); have P9 := Lib.hid (ow_grown O8.out hg P8.out); have SS9 := Lib.hid hg.size; clear B8 X8 V8 R8 O8 P8; have O9 := Lib.hid ho; clear ho hg)
      clear cV0 cV1 cV2 cV3 cV4 cV5 cV6 cV7 cV8
      go_roundw
      case rel => exact ⟨k + 1, A3, c3, _, rfl, by go_num, by omega, by rw [List.map_append, he.out, range_snoc]; rfl, by have hlE := LE.out; have hlV := LV.out; have hs0 := LTX.out; have hs1 := LHR.out; have hs2 := SS1.out; have hs3 := LWE.out; have hs4 := SS2.out; have hs5 := HBE.out; have hs6 := LUX3.out; have hs7 := SBR3.out; have hs8 := hbe.out; have hs9 := SS4.out; have hs10 := LWV.out; have hs11 := SQ5.out; have hs12 := SQ6.out; have hs13 := HB1.out; have hs14 := HH1.out; have hs15 := SQ8.out; have hs16 := SS9.out; first | omega | (simp <;> omega), B9.out, X9.out, R9.out, O9.out.up⟩
      case measure => simp [intOf]; omega
    · have hlt2 : ¬ (k : Int) < cc := by have := HMC.out; omega
      obtain rfl : m = k := by omega
      go_wp2_with fail
      go_ret
      exact ⟨_, _, _, es, rfl, he.out, (O3.out.up).down (by have hlE := LE.out; have hs0 := LTX.out; have hs1 := LHR.out; have hs2 := SS1.out; have hs3 := LWE.out; have hs4 := SS2.out; have hs5 := HBE.out; have hs6 := LUX3.out; have hs7 := SBR3.out; have hs8 := hbe.out; first | omega | (simp <;> omega)), B3.out⟩
set_option maxRecDepth 100000 in
set_option maxHeartbeats 4000000 in
theorem specFs (f : Fra) (t : Int) (A : Option Addr) (n c lo hi : Nat) (w : World) (h : Rd .u8 w lo hi A n c f.Body) (hn : n ≤ 67108864) :
    Calls Try.prog 37 #[fV f A n c, .int .i64 t] w (FsPost (frs f t) w) := by
  obtain ⟨i0, hi0, hz0, hz1, hz2⟩ := info_parts infoF
  have HZ := Lib.hid (And.intro hi0 (And.intro hz0 (And.intro hz1 hz2)))
  clear hi0 hz0 hz1 hz2
  obtain ⟨j0, hj0, hy0, hy1, hy2⟩ := info_parts u8Info
  have HY8 := Lib.hid (And.intro hj0 (And.intro hy0 (And.intro hy1 hy2)))
  clear hj0 hy0 hy1 hy2
  have RW := Lib.hid h
  have hrh := h.hi_
  have LHR := Lib.hid hrh
  have HLF := Lib.hid (show f.Body.length = n from h.len)
  have HCA := Lib.hid h.cap_
  have HN := Lib.hid hn
  clear h
  obtain ⟨cc, hcc⟩ : ∃ cc, fcnt (n : Int) t = cc := ⟨_, rfl⟩
  have HCC := Lib.hid hcc
  have hcr : 0 ≤ cc ∧ cc ≤ 16 := by rw [← hcc]; exact fcnt_rng _ _
  obtain ⟨hc0, hc9⟩ := hcr
  clear hcc
  have HFS := Lib.hid (show frs f t = (List.range cc.toNat).map (frag f t cc) by unfold frs; rw [HLF.out, HCC.out])
  rw [HFS.out]
  clear HFS
  obtain ⟨m, hm⟩ : ∃ m : Nat, cc = m := ⟨cc.toNat, by omega⟩
  have HM := Lib.hid (show cc.toNat = m by omega)
  rw [HM.out]
  have HMC := Lib.hid hm
  clear hm
  go_enter Try.func37, Try.ntmps37
  go_upto_region 1 with fail
  obtain ⟨w0, hW⟩ : ∃ w0, w.alloc (.cells #[.int .i64 f.Kind, .int .i64 f.From, .int .i64 f.To, .int .i64 f.Seq, .int .i64 f.Fragment, .bool f.More, .bool f.Retry, .int .i64 f.Duration, .slice A n c] 45) = w0 := ⟨_, rfl⟩
  rw [hW]
  have B0 := Lib.hid (show Below w.heap.size w w0 by rw [← hW]; exact (Below.refl _ _).alloc (by simp <;> omega) _)
  have X0 := Lib.hid (show Bx 45 w0 (w.heap.size) #[.int .i64 f.Kind, .int .i64 f.From, .int .i64 f.To, .int .i64 f.Seq, .int .i64 f.Fragment, .bool f.More, .bool f.Retry, .int .i64 f.Duration, .slice A n c] by
      rw [← hW]
      have hh := Bx.made 45 w #[.int .i64 f.Kind, .int .i64 f.From, .int .i64 f.To, .int .i64 f.Seq, .int .i64 f.Fragment, .bool f.More, .bool f.Retry, .int .i64 f.Duration, .slice A n c]
      exact hh)
  have R0 := Lib.hid (show Rd .u8 w0 (lo) (hi) A n c f.Body by rw [← hW]; exact (RW.out.below (below_box _ _)))
  clear hW
  have LTX := Lib.hid X0.out.lt
  have cX8 : w0.cell? ⟨w.heap.size, 8, none⟩ = some (.slice A n c) := X0.out.cell 8
  go_upto_region 2 with fail
  clear cX8
  obtain ⟨be, hbb⟩ : ∃ b, w0.heap.size = b := ⟨_, rfl⟩
  generalize hW : w0.alloc (.cells #[] 45) = w1
  have LE := Lib.hid (show w.heap.size ≤ be ∧ w.heap.size < be ∧ hi ≤ be by have h1 := B0.out.size; have h2X := X0.out.lt; have h2R := R0.out.hi_; have h3 := hbb; omega)
  have E1 := Lib.hid (show Bx 45 w1 be #[] by rw [← hW, ← hbb]; exact Bx.made _ _ _)
  have hb : Below w0.heap.size w0 w1 := by rw [← hW]; exact below_box _ _
  (try rw [hbb])
  clear hW hbb
  have SS1 := Lib.hid hb.size
  have B1 := Lib.hid (B0.out.trans (hb.mono B0.out.size))
  have X1 := Lib.hid (X0.out.below hb)
  have R1 := Lib.hid (R0.out.below hb)
  clear hb B0 X0 R0
  have LWE := Lib.hid E1.out.lt
  have cX8 : w1.cell? ⟨w.heap.size, 8, none⟩ = some (.slice A n c) := X1.out.cell 8
  go_wp2_with fail
  clear cX8
  (with_reducible refine (specFc (n : Int) t _).mono ?_)
  rintro e w2 hp
  obtain ⟨rfl, hb⟩ := n_parts HCC.out hp
  clear hp
  have SS2 := Lib.hid hb.size
  have B2 := Lib.hid (B1.out.trans (hb.mono B1.out.size))
  have X2 := Lib.hid (X1.out.below hb)
  have E2 := Lib.hid (E1.out.below hb)
  have R2 := Lib.hid (R1.out.below hb)
  clear hb B1 X1 E1 R1
  go_wp2_with fail
  have O2 := Lib.hid (show Oe fraS w2 be w2.heap.size (some ⟨be, 0, none⟩) 0 0 [] from oe_box (S := fraS) E2.out)
  have HBE := Lib.hid E2.out.lt
  clear E2
  go_loopw [5, 7] (fun v0 v1 wr => ∃ (k : Nat) (A1 : Option Addr) (c1 : Nat) (es : List (El Fra)), v0 = .slice A1 k c1 ∧ v1 = .int .i64 ((k : Int)) ∧ (k ≤ m) ∧ (es.map (fun e : El Fra => e.x) = (List.range k).map (frag f t cc)) ∧ (be < wr.heap.size) ∧ Below w.heap.size w wr ∧ Bx 45 wr w.heap.size #[.int .i64 f.Kind, .int .i64 f.From, .int .i64 f.To, .int .i64 f.Seq, .int .i64 f.Fragment, .bool f.More, .bool f.Retry, .int .i64 f.Duration, .slice A n c] ∧ Rd .u8 wr (lo) (hi) A n c f.Body ∧ Oe fraS wr be wr.heap.size A1 k c1 es) (fun _ i _ => m - (intOf i).toNat)
  case atStart => exact ⟨0, (some ⟨be, 0, none⟩), 0, [], rfl, rfl, by omega, by simp, HBE.out, B2.out, X2.out, R2.out, O2.out⟩
  case round =>
    obtain ⟨k, A1, c1, es, rfl, rfl, ghk, ghe, ghbe, gB3, gX3, gR3, gO3⟩ := hrel
    have B3 := Lib.hid gB3
    have X3 := Lib.hid gX3
    have R3 := Lib.hid gR3
    have O3 := Lib.hid gO3
    have hk := Lib.hid ghk
    have he := Lib.hid ghe
    have hbe := Lib.hid ghbe
    clear gB3 gX3 gR3 gO3 ghk ghe ghbe
    have LUX3 := Lib.hid X3.out.lt
    have SBR3 := Lib.hid B3.out.size
    have hk := hk.out
    by_cases hlt : k < m
    · have hlt2 : (k : Int) < cc := by have := HMC.out; omega
      have HP := Lib.hid (fcnt_pos (b := (n : Int)) (t := t) (by rw [HCC.out]; omega))
      obtain ⟨tn, htn⟩ : ∃ tn : Nat, t = tn := ⟨t.toNat, by have := HP.out; omega⟩
      subst htn
      have htl : (1 : Int) ≤ tn ∧ (tn : Int) ≤ 100 := HP.out.1
      obtain ⟨ht1, ht2⟩ := htl
      have HLE := Lib.hid (frag_le HCC.out hlt2)
      obtain ⟨s, hs⟩ : ∃ s, k * tn = s := ⟨_, rfl⟩
      have HS := Lib.hid hs
      have hsn : s ≤ n ∧ s ≤ 1500 := by rw [← hs]; exact HLE.out
      obtain ⟨hsn, hs15⟩ := hsn
      obtain ⟨e, he9⟩ : ∃ e, s + tn = e := ⟨_, rfl⟩
      have HE9 := Lib.hid he9
      obtain ⟨m2, hm2⟩ : ∃ m2, min e n = m2 := ⟨_, rfl⟩
      have HM2 := Lib.hid hm2
      have hmm : s ≤ m2 ∧ m2 ≤ n ∧ (m2 : Int) = (if (n : Int) < (e : Int) then (n : Int) else (e : Int)) ∧ (m2 : Int) = (if (e : Int) < (n : Int) then (e : Int) else (n : Int)) := by
        refine ⟨by omega, by omega, ?_, ?_⟩
        · split <;> omega
        · split <;> omega
      have HMM := Lib.hid hmm
      have hkI : (k : Int) * (tn : Int) = (s : Int) := by rw [← hs]; exact (nat_mul k tn).symm
      have hw1 : IntKind.i64.wrap ((k : Int) * (tn : Int)) = (s : Int) := by rw [hkI]; exact IntWalk.i64_in _ (by omega)
      have hw2 : IntKind.i64.wrap ((s : Int) + (tn : Int)) = (e : Int) := by rw [show (s : Int) + (tn : Int) = (e : Int) by omega]; exact IntWalk.i64_in _ (by omega)
      have hw4 : IntKind.i64.wrap (((k : Int) + 1) * (tn : Int)) = (e : Int) := by rw [Int.add_mul, Int.one_mul, hkI, show (s : Int) + (tn : Int) = (e : Int) by omega]; exact IntWalk.i64_in _ (by omega)
      have hw5 : IntKind.i64.wrap ((k : Int) + 1) = (k : Int) + 1 := IntWalk.i64_in _ (by omega)
      have HFB := Lib.hid (frag_body (f := f) (cc := cc) (m := m2) HS.out HLF.out (by rw [HE9.out]; exact HM2.out))
      clear hkI hs he9 hm2 hmm
      have cX0 : wr.cell? ⟨w.heap.size, 0, none⟩ = some (.int .i64 f.Kind) := X3.out.cell 0
      have cX1 : wr.cell? ⟨w.heap.size, 1, none⟩ = some (.int .i64 f.From) := X3.out.cell 1
      have cX2 : wr.cell? ⟨w.heap.size, 2, none⟩ = some (.int .i64 f.To) := X3.out.cell 2
      have cX3 : wr.cell? ⟨w.heap.size, 3, none⟩ = some (.int .i64 f.Seq) := X3.out.cell 3
      have cX4 : wr.cell? ⟨w.heap.size, 4, none⟩ = some (.int .i64 f.Fragment) := X3.out.cell 4
      have cX5 : wr.cell? ⟨w.heap.size, 5, none⟩ = some (.bool f.More) := X3.out.cell 5
      have cX6 : wr.cell? ⟨w.heap.size, 6, none⟩ = some (.bool f.Retry) := X3.out.cell 6
      have cX7 : wr.cell? ⟨w.heap.size, 7, none⟩ = some (.int .i64 f.Duration) := X3.out.cell 7
      have cX8 : wr.cell? ⟨w.heap.size, 8, none⟩ = some (.slice A n c) := X3.out.cell 8
      go_upto_region 7 with fail
      clear cX0 cX1 cX2 cX3 cX4 cX5 cX6 cX7 cX8
      obtain ⟨bv, hbb⟩ : ∃ b, wr.heap.size = b := ⟨_, rfl⟩
      generalize hW : wr.alloc (.cells #[.int .i64 f.Kind, .int .i64 f.From, .int .i64 f.To, .int .i64 f.Seq, .int .i64 f.Fragment, .bool f.More, .bool f.Retry, .int .i64 f.Duration, .slice A n c] 45) = w4
      have LV := Lib.hid (show w.heap.size ≤ bv ∧ w.heap.size < bv ∧ hi ≤ bv ∧ wr.heap.size ≤ bv by have h1 := B3.out.size; have h2X := X3.out.lt; have h2R := R3.out.hi_; have h2O := O3.out.hi_; have h3 := hbb; omega)
      have V4 := Lib.hid (show Bx 45 w4 bv #[.int .i64 f.Kind, .int .i64 f.From, .int .i64 f.To, .int .i64 f.Seq, .int .i64 f.Fragment, .bool f.More, .bool f.Retry, .int .i64 f.Duration, .slice A n c] by rw [← hW, ← hbb]; exact Bx.made _ _ _)
      have hb : Below wr.heap.size wr w4 := by rw [← hW]; exact below_box _ _
      (try rw [hbb])
      clear hW hbb
      have SS4 := Lib.hid hb.size
      have B4 := Lib.hid (B3.out.trans (hb.mono B3.out.size))
      have X4 := Lib.hid (X3.out.below hb)
      have R4 := Lib.hid (R3.out.below hb)
      have O4 := Lib.hid (O3.out.below hb)
      clear hb B3 X3 R3 O3
      have LWV := Lib.hid V4.out.lt
      have cV0 : w4.cell? ⟨bv, 0, none⟩ = some (.int .i64 f.Kind) := V4.out.cell 0
      have cV1 : w4.cell? ⟨bv, 1, none⟩ = some (.int .i64 f.From) := V4.out.cell 1
      have cV2 : w4.cell? ⟨bv, 2, none⟩ = some (.int .i64 f.To) := V4.out.cell 2
      have cV3 : w4.cell? ⟨bv, 3, none⟩ = some (.int .i64 f.Seq) := V4.out.cell 3
      have cV4 : w4.cell? ⟨bv, 4, none⟩ = some (.int .i64 f.Fragment) := V4.out.cell 4
      have cV5 : w4.cell? ⟨bv, 5, none⟩ = some (.bool f.More) := V4.out.cell 5
      have cV6 : w4.cell? ⟨bv, 6, none⟩ = some (.bool f.Retry) := V4.out.cell 6
      have cV7 : w4.cell? ⟨bv, 7, none⟩ = some (.int .i64 f.Duration) := V4.out.cell 7
      have cV8 : w4.cell? ⟨bv, 8, none⟩ = some (.slice A n c) := V4.out.cell 8
      have fV4 : w4.frozen? ⟨bv, 4, none⟩ = false := V4.out.free 4
      go_upto_region 8 with fail
      clear cV0 cV1 cV2 cV3 cV4 cV5 cV6 cV7 cV8 fV4
      have hWW : (w4.setCell ⟨bv, 4, none⟩ (.int .i64 ((k : Int)))) = (w4.setCell ⟨bv, 4, none⟩ (.int .i64 ((k : Int)))) := rfl
      obtain ⟨w5, hW⟩ : ∃ wy, (w4.setCell ⟨bv, 4, none⟩ (.int .i64 ((k : Int)))) = wy := ⟨_, rfl⟩
      rw [hW]
      clear hWW
      have B5 := Lib.hid (show Below w.heap.size w w5 by rw [← hW]; exact (B4.out.setCell (p := ⟨bv, 4, none⟩) (by have hlE := LE.out; have hlV := LV.out; have hs0 := LTX.out; have hs1 := LHR.out; have hs2 := SS1.out; have hs3 := LWE.out; have hs4 := SS2.out; have hs5 := HBE.out; have hs6 := LUX3.out; have hs7 := SBR3.out; have hs8 := hbe.out; have hs9 := SS4.out; have hs10 := LWV.out; first | omega | (simp <;> omega)) _))
      have X5 := Lib.hid (show Bx 45 w5 (w.heap.size) #[.int .i64 f.Kind, .int .i64 f.From, .int .i64 f.To, .int .i64 f.Seq, .int .i64 f.Fragment, .bool f.More, .bool f.Retry, .int .i64 f.Duration, .slice A n c] by rw [← hW]; exact (X4.out.other (by have hlE := LE.out; have hlV := LV.out; have hs0 := LTX.out; have hs1 := LHR.out; have hs2 := SS1.out; have hs3 := LWE.out; have hs4 := SS2.out; have hs5 := HBE.out; have hs6 := LUX3.out; have hs7 := SBR3.out; have hs8 := hbe.out; have hs9 := SS4.out; have hs10 := LWV.out; first | omega | (simp <;> omega)) _ _))
      have V5 := Lib.hid (show Bx 45 w5 (bv) #[.int .i64 f.Kind, .int .i64 f.From, .int .i64 f.To, .int .i64 f.Seq, .int .i64 ((k : Int)), .bool f.More, .bool f.Retry, .int .i64 f.Duration, .slice A n c] by rw [← hW]; exact (V4.out.set 4 _))
      have R5 := Lib.hid (show Rd .u8 w5 (lo) (hi) A n c f.Body by rw [← hW]; exact (R4.out.same (by simp [World.setCell]) fun b h1 h2 => by rw [Below.heap_setCell _ _ _ _ (by have hlE := LE.out; have hlV := LV.out; have hs0 := LTX.out; have hs1 := LHR.out; have hs2 := SS1.out; have hs3 := LWE.out; have hs4 := SS2.out; have hs5 := HBE.out; have hs6 := LUX3.out; have hs7 := SBR3.out; have hs8 := hbe.out; have hs9 := SS4.out; have hs10 := LWV.out; first | omega | (simp <;> omega))]))
      have O5 := Lib.hid (show Oe fraS w5 be wr.heap.size A1 k c1 es by rw [← hW]; exact (O4.out.same (by simp [World.setCell]) fun b h1 h2 => by rw [Below.heap_setCell _ _ _ _ (by have hlE := LE.out; have hlV := LV.out; have hs0 := LTX.out; have hs1 := LHR.out; have hs2 := SS1.out; have hs3 := LWE.out; have hs4 := SS2.out; have hs5 := HBE.out; have hs6 := LUX3.out; have hs7 := SBR3.out; have hs8 := hbe.out; have hs9 := SS4.out; have hs10 := LWV.out; first | omega | (simp <;> omega))]))
      clear hW B4 X4 V4 R4 O4
      have SQ5 := Lib.hid V5.out.lt
      have cV0 : w5.cell? ⟨bv, 0, none⟩ = some (.int .i64 f.Kind) := V5.out.cell 0
      have cV1 : w5.cell? ⟨bv, 1, none⟩ = some (.int .i64 f.From) := V5.out.cell 1
      have cV2 : w5.cell? ⟨bv, 2, none⟩ = some (.int .i64 f.To) := V5.out.cell 2
      have cV3 : w5.cell? ⟨bv, 3, none⟩ = some (.int .i64 f.Seq) := V5.out.cell 3
      have cV4 : w5.cell? ⟨bv, 4, none⟩ = some (.int .i64 ((k : Int))) := V5.out.cell 4
      have cV5 : w5.cell? ⟨bv, 5, none⟩ = some (.bool f.More) := V5.out.cell 5
      have cV6 : w5.cell? ⟨bv, 6, none⟩ = some (.bool f.Retry) := V5.out.cell 6
      have cV7 : w5.cell? ⟨bv, 7, none⟩ = some (.int .i64 f.Duration) := V5.out.cell 7
      have cV8 : w5.cell? ⟨bv, 8, none⟩ = some (.slice A n c) := V5.out.cell 8
      have fV5 : w5.frozen? ⟨bv, 5, none⟩ = false := V5.out.free 5
      go_upto_region 9 with fail
      clear cV0 cV1 cV2 cV3 cV4 cV5 cV6 cV7 cV8 fV5
      have hWW : (w5.setCell ⟨bv, 5, none⟩ (.bool (decide ((k : Int) < cc - 1)))) = (w5.setCell ⟨bv, 5, none⟩ (.bool (decide ((k : Int) < cc - 1)))) := rfl
      obtain ⟨w6, hW⟩ : ∃ wy, (w5.setCell ⟨bv, 5, none⟩ (.bool (decide ((k : Int) < cc - 1)))) = wy := ⟨_, rfl⟩
      rw [hW]
      clear hWW
      have B6 := Lib.hid (show Below w.heap.size w w6 by rw [← hW]; exact (B5.out.setCell (p := ⟨bv, 5, none⟩) (by have hlE := LE.out; have hlV := LV.out; have hs0 := LTX.out; have hs1 := LHR.out; have hs2 := SS1.out; have hs3 := LWE.out; have hs4 := SS2.out; have hs5 := HBE.out; have hs6 := LUX3.out; have hs7 := SBR3.out; have hs8 := hbe.out; have hs9 := SS4.out; have hs10 := LWV.out; have hs11 := SQ5.out; first | omega | (simp <;> omega)) _))
      have X6 := Lib.hid (show Bx 45 w6 (w.heap.size) #[.int .i64 f.Kind, .int .i64 f.From, .int .i64 f.To, .int .i64 f.Seq, .int .i64 f.Fragment, .bool f.More, .bool f.Retry, .int .i64 f.Duration, .slice A n c] by rw [← hW]; exact (X5.out.other (by have hlE := LE.out; have hlV := LV.out; have hs0 := LTX.out; have hs1 := LHR.out; have hs2 := SS1.out; have hs3 := LWE.out; have hs4 := SS2.out; have hs5 := HBE.out; have hs6 := LUX3.out; have hs7 := SBR3.out; have hs8 := hbe.out; have hs9 := SS4.out; have hs10 := LWV.out; have hs11 := SQ5.out; first | omega | (simp <;> omega)) _ _))
      have V6 := Lib.hid (show Bx 45 w6 (bv) #[.int .i64 f.Kind, .int .i64 f.From, .int .i64 f.To, .int .i64 f.Seq, .int .i64 ((k : Int)), .bool (decide ((k : Int) < cc - 1)), .bool f.Retry, .int .i64 f.Duration, .slice A n c] by rw [← hW]; exact (V5.out.set 5 _))
      have R6 := Lib.hid (show Rd .u8 w6 (lo) (hi) A n c f.Body by rw [← hW]; exact (R5.out.same (by simp [World.setCell]) fun b h1 h2 => by rw [Below.heap_setCell _ _ _ _ (by have hlE := LE.out; have hlV := LV.out; have hs0 := LTX.out; have hs1 := LHR.out; have hs2 := SS1.out; have hs3 := LWE.out; have hs4 := SS2.out; have hs5 := HBE.out; have hs6 := LUX3.out; have hs7 := SBR3.out; have hs8 := hbe.out; have hs9 := SS4.out; have hs10 := LWV.out; have hs11 := SQ5.out; first | omega | (simp <;> omega))]))
      have O6 := Lib.hid (show Oe fraS w6 be wr.heap.size A1 k c1 es by rw [← hW]; exact (O5.out.same (by simp [World.setCell]) fun b h1 h2 => by rw [Below.heap_setCell _ _ _ _ (by have hlE := LE.out; have hlV := LV.out; have hs0 := LTX.out; have hs1 := LHR.out; have hs2 := SS1.out; have hs3 := LWE.out; have hs4 := SS2.out; have hs5 := HBE.out; have hs6 := LUX3.out; have hs7 := SBR3.out; have hs8 := hbe.out; have hs9 := SS4.out; have hs10 := LWV.out; have hs11 := SQ5.out; first | omega | (simp <;> omega))]))
      clear hW B5 X5 V5 R5 O5
      have SQ6 := Lib.hid V6.out.lt
      have HSL := Lib.hid (slice_mid (P := Try.prog) 22 5 j0 Try.underlying22 HY8.out.1 HY8.out.2.2.1 A n c s m2 HMM.out.1 (by have h1 := HMM.out.2.1; have h2 := HCA.out.1; omega))
      obtain ⟨A9, hA9, hsl9⟩ := HSL.out
      have HA9 := Lib.hid hA9
      have HS9 := Lib.hid hsl9
      clear hA9 hsl9 HSL
      refine reg.region_tail reg.Bel 17 50 [some [], some [], some [(1, 29)], some [], some [], some [(3, 31), (4, 32)], some [], some [(6, 34)], some [(7, 35)], some [], some [(9, 37)], some [], some [(10, 38), (11, 39)], some [(8, 36), (12, 40)], some [(2, 30), (5, 33), (13, 41)], some [(0, 28), (14, 42)], some [], none] [(0, 28), (1, 29), (2, 30), (3, 31), (4, 32), (5, 33), (6, 34), (7, 35), (8, 36), (9, 37), (10, 38), (11, 39), (12, 40), (13, 41), (14, 42), (15, 43), (16, 44)]
        (fun w' => Below w.heap.size w w' ∧ Bx 45 w' (w.heap.size) #[.int .i64 f.Kind, .int .i64 f.From, .int .i64 f.To, .int .i64 f.Seq, .int .i64 f.Fragment, .bool f.More, .bool f.Retry, .int .i64 f.Duration, .slice A n c] ∧ Bx 45 w' (bv) #[.int .i64 f.Kind, .int .i64 f.From, .int .i64 f.To, .int .i64 f.Seq, .int .i64 ((k : Int)), .bool (decide ((k : Int) < cc - 1)), .bool f.Retry, .int .i64 f.Duration, .slice A n c] ∧ Rd .u8 w' (lo) (hi) A n c f.Body ∧ Oe fraS w' be wr.heap.size A1 k c1 es ∧ True)
        (reg.rl [stw.ownE 5 .u8 (bv + 1), reg.is (.pointer (some ⟨w.heap.size, 8, none⟩)), reg.is (.slice A n c), reg.is (.int .i64 ((k : Int))), reg.is (.int .i64 ((tn : Int))), reg.is (.int .i64 ((s : Int))), reg.is (.pointer (some ⟨w.heap.size, 8, none⟩)), reg.is (.slice A n c), reg.is (.int .i64 ((n : Int))), reg.is (.int .i64 ((k : Int))), reg.is (.int .i64 ((k : Int) + 1)), reg.is (.int .i64 ((tn : Int))), reg.is (.int .i64 ((e : Int))), reg.is (.int .i64 ((m2 : Int))), reg.is (.slice A9 (m2 - s) (c - s)), stw.ownf 5 .u8 (bv + 1) ((f.Body.drop s).take (m2 - s)) (fun A n c => .slice A n c), reg.is (.pointer (some ⟨bv, 8, none⟩)), reg.free])
        (by kernel_rfl) rfl (by kernel_rfl) (by kernel_rfl) rfl
        (fun w1 w2 hc hb => ⟨hc.1.trans (hb.mono hc.1.size), hc.2.1.below hb, hc.2.2.1.below hb, hc.2.2.2.1.below hb, hc.2.2.2.2.1.below hb, trivial⟩) (reg.rl_keep _) (⟨own.below_drew B6.out, X6.out.same rfl, V6.out.same rfl, own.rd_drew R6.out, O6.out.same (Nat.le_refl _) (fun _ _ _ => rfl), trivial⟩) (by kernel_rfl) ⟨?_, ?_, ?_, ?_, ?_, ?_, ?_, ?_, ?_, ?_, ?_, ?_, ?_, ?_, ?_, ?_, ?_, trivial⟩ ?_
      · refine fun w8 hc  K hK => ?_
        (try simp only [Act.put, List.setIfInBounds_toArray, List.set_cons_zero, List.set_cons_succ])
        have hql := hc.2.2.1.lt
        go_simp
        exact hK (.slice (some ⟨w8.heap.size, 0, none⟩) 0 0) _ ⟨_, _, _, rfl, (by omega), (Ow.empty _ _ _)⟩ (below_box _ _)
      · refine fun w8 hc  K hK => ?_
        (try simp only [Act.put, List.setIfInBounds_toArray, List.set_cons_zero, List.set_cons_succ])
        go_simp
        exact hK (.pointer (some ⟨w.heap.size, 8, none⟩)) _ rfl (Below.refl _ _)
      · refine fun w8 hc v1 h1 K hK => ?_
        obtain rfl : v1 = .pointer (some ⟨w.heap.size, 8, none⟩) := h1
        (try simp only [Act.put, List.setIfInBounds_toArray, List.set_cons_zero, List.set_cons_succ])
        have c0 : w8.cell? ⟨w.heap.size, 8, none⟩ = some (.slice A n c) := hc.2.1.cell 8
        go_simp
        exact hK (.slice A n c) _ rfl (Below.refl _ _)
      · refine fun w8 hc  K hK => ?_
        (try simp only [Act.put, List.setIfInBounds_toArray, List.set_cons_zero, List.set_cons_succ])
        go_simp
        exact hK (.int .i64 ((k : Int))) _ rfl (Below.refl _ _)
      · refine fun w8 hc  K hK => ?_
        (try simp only [Act.put, List.setIfInBounds_toArray, List.set_cons_zero, List.set_cons_succ])
        go_simp
        exact hK (.int .i64 ((tn : Int))) _ rfl (Below.refl _ _)
      · refine fun w8 hc v3 h3 v4 h4 K hK => ?_
        obtain rfl : v3 = .int .i64 ((k : Int)) := h3
        obtain rfl : v4 = .int .i64 ((tn : Int)) := h4
        (try simp only [Act.put, List.setIfInBounds_toArray, List.set_cons_zero, List.set_cons_succ])
        go_simp
        exact hK (.int .i64 ((s : Int))) _ rfl (Below.refl _ _)
      · refine fun w8 hc  K hK => ?_
        (try simp only [Act.put, List.setIfInBounds_toArray, List.set_cons_zero, List.set_cons_succ])
        go_simp
        exact hK (.pointer (some ⟨w.heap.size, 8, none⟩)) _ rfl (Below.refl _ _)
      · refine fun w8 hc v6 h6 K hK => ?_
        obtain rfl : v6 = .pointer (some ⟨w.heap.size, 8, none⟩) := h6
        (try simp only [Act.put, List.setIfInBounds_toArray, List.set_cons_zero, List.set_cons_succ])
        have c0 : w8.cell? ⟨w.heap.size, 8, none⟩ = some (.slice A n c) := hc.2.1.cell 8
        go_simp
        exact hK (.slice A n c) _ rfl (Below.refl _ _)
      · refine fun w8 hc v7 h7 K hK => ?_
        obtain rfl : v7 = .slice A n c := h7
        (try simp only [Act.put, List.setIfInBounds_toArray, List.set_cons_zero, List.set_cons_succ])
        go_simp
        exact hK (.int .i64 ((n : Int))) _ rfl (Below.refl _ _)
      · refine fun w8 hc  K hK => ?_
        (try simp only [Act.put, List.setIfInBounds_toArray, List.set_cons_zero, List.set_cons_succ])
        go_simp
        exact hK (.int .i64 ((k : Int))) _ rfl (Below.refl _ _)
      · refine fun w8 hc v9 h9 K hK => ?_
        obtain rfl : v9 = .int .i64 ((k : Int)) := h9
        (try simp only [Act.put, List.setIfInBounds_toArray, List.set_cons_zero, List.set_cons_succ])
        go_simp
        exact hK (.int .i64 ((k : Int) + 1)) _ rfl (Below.refl _ _)
      · refine fun w8 hc  K hK => ?_
        (try simp only [Act.put, List.setIfInBounds_toArray, List.set_cons_zero, List.set_cons_succ])
        go_simp
        exact hK (.int .i64 ((tn : Int))) _ rfl (Below.refl _ _)
      · refine fun w8 hc v10 h10 v11 h11 K hK => ?_
        obtain rfl : v10 = .int .i64 ((k : Int) + 1) := h10
        obtain rfl : v11 = .int .i64 ((tn : Int)) := h11
        (try simp only [Act.put, List.setIfInBounds_toArray, List.set_cons_zero, List.set_cons_succ])
        go_simp
        exact hK (.int .i64 ((e : Int))) _ rfl (Below.refl _ _)
      · refine fun w8 hc v8 h8 v12 h12 K hK => ?_
        obtain rfl : v8 = .int .i64 ((n : Int)) := h8
        obtain rfl : v12 = .int .i64 ((e : Int)) := h12
        (try simp only [Act.put, List.setIfInBounds_toArray, List.set_cons_zero, List.set_cons_succ])
        go_simp
        (with_reducible refine (specMin (n : Int) (e : Int) (m2 : Int) HMM.out.2.2.2 _).mono ?_)
        rintro e w3 ⟨rfl, rfl⟩
        exact hK _ _ rfl (Below.refl _ _)
      · refine fun w8 hc v2 h2 v5 h5 v13 h13 K hK => ?_
        obtain rfl : v2 = .slice A n c := h2
        obtain rfl : v5 = .int .i64 ((s : Int)) := h5
        obtain rfl : v13 = .int .i64 ((m2 : Int)) := h13
        (try simp only [Act.put, List.setIfInBounds_toArray, List.set_cons_zero, List.set_cons_succ])
        rw [if_pos (by rfl)]
        refine wp_slice_lh 22 _ _ _ rfl (.slice A n c) (.int .i64 (s : Int)) (.int .i64 (m2 : Int)) _ rfl rfl rfl (fun W => by rw [at_slice _ _ Try.underlying22]; exact HS9.out W) ?_
        exact hK _ _ rfl (Below.refl _ _)
      · refine fun w8 hc v0 h0 v14 h14 K hK => ?_
        obtain ⟨q0, lo0, hi0, rfl, hB0, hO0⟩ := h0
        obtain rfl : v14 = .slice A9 (m2 - s) (c - s) := h14
        (try simp only [Act.put, List.setIfInBounds_toArray, List.set_cons_zero, List.set_cons_succ])
        have hql := hc.2.2.1.lt
        have hol := hO0.hi_
        rw [if_pos (by rfl)]
        refine stw.wp_app0 _ _ 22 rfl 5 _ _ .u8 Try.underlying22 HY8.out.1 HY8.out.2.1 HY8.out.2.2.1 (by rw [HY8.out.2.2.2]; omega) rfl rfl rfl hO0 (hc.2.2.2.1.cut s m2 (c - s) A9 HA9.out HMM.out.1 HMM.out.2.1 (by have h1 := HMM.out.2.1; have h2 := HCA.out.1; omega) (by have h2 := HCA.out.2; unfold maxLen; omega)) (by have h1 := HMM.out.2.1; have := HN.out; omega) (by have hh := ow_lo hO0; omega) ?_
        intro A4 c4 w4 ho4 hb4
        exact hK _ _ ⟨A4, _, c4, _, _, rfl, hB0, ho4⟩ hb4
      · refine fun w8 hc  K hK => ?_
        (try simp only [Act.put, List.setIfInBounds_toArray, List.set_cons_zero, List.set_cons_succ])
        go_simp
        exact hK (.pointer (some ⟨bv, 8, none⟩)) _ rfl (Below.refl _ _)
      refine fun wg7 hc v0 h0 v1 h1 v2 h2 v3 h3 v4 h4 v5 h5 v6 h6 v7 h7 v8 h8 v9 h9 v10 h10 v11 h11 v12 h12 v13 h13 v14 h14 v15 h15 v16 h16 => ?_
      obtain ⟨q0, lo0, hi0, rfl, hB0, hO0⟩ := h0
      obtain rfl : v1 = .pointer (some ⟨w.heap.size, 8, none⟩) := h1
      obtain rfl : v2 = .slice A n c := h2
      obtain rfl : v3 = .int .i64 ((k : Int)) := h3
      obtain rfl : v4 = .int .i64 ((tn : Int)) := h4
      obtain rfl : v5 = .int .i64 ((s : Int)) := h5
      obtain rfl : v6 = .pointer (some ⟨w.heap.size, 8, none⟩) := h6
      obtain rfl : v7 = .slice A n c := h7
      obtain rfl : v8 = .int .i64 ((n : Int)) := h8
      obtain rfl : v9 = .int .i64 ((k : Int)) := h9
      obtain rfl : v10 = .int .i64 ((k : Int) + 1) := h10
      obtain rfl : v11 = .int .i64 ((tn : Int)) := h11
      obtain rfl : v12 = .int .i64 ((e : Int)) := h12
      obtain rfl : v13 = .int .i64 ((m2 : Int)) := h13
      obtain rfl : v14 = .slice A9 (m2 - s) (c - s) := h14
      obtain ⟨A1_, n1_, c1_, lo1, hi1, rfl, hB1, hO1⟩ := h15
      obtain rfl : v16 = .pointer (some ⟨bv, 8, none⟩) := h16
      (try simp only [reg.Obs])
      (try simp only [Act.put, List.setIfInBounds_toArray, List.set_cons_zero, List.set_cons_succ])
      simp only [List.drop_succ_cons, List.drop_zero]
      have B7 := Lib.hid hc.1
      have X7 := Lib.hid hc.2.1
      have V7 := Lib.hid hc.2.2.1
      have R7 := Lib.hid hc.2.2.2.1
      have O7 := Lib.hid hc.2.2.2.2.1
      clear hc B6 X6 V6 R6 O6
      have P7 := Lib.hid hO1
      have HB1 := Lib.hid hB1
      have HH1 := Lib.hid hO1.hi_
      clear hO1 hB1
      (try clear hO0 hB0)
      have cV0 : wg7.cell? ⟨bv, 0, none⟩ = some (.int .i64 f.Kind) := V7.out.cell 0
      have cV1 : wg7.cell? ⟨bv, 1, none⟩ = some (.int .i64 f.From) := V7.out.cell 1
      have cV2 : wg7.cell? ⟨bv, 2, none⟩ = some (.int .i64 f.To) := V7.out.cell 2
      have cV3 : wg7.cell? ⟨bv, 3, none⟩ = some (.int .i64 f.Seq) := V7.out.cell 3
      have cV4 : wg7.cell? ⟨bv, 4, none⟩ = some (.int .i64 ((k : Int))) := V7.out.cell 4
      have cV5 : wg7.cell? ⟨bv, 5, none⟩ = some (.bool (decide ((k : Int) < cc - 1))) := V7.out.cell 5
      have cV6 : wg7.cell? ⟨bv, 6, none⟩ = some (.bool f.Retry) := V7.out.cell 6
      have cV7 : wg7.cell? ⟨bv, 7, none⟩ = some (.int .i64 f.Duration) := V7.out.cell 7
      have cV8 : wg7.cell? ⟨bv, 8, none⟩ = some (.slice A n c) := V7.out.cell 8
      have fV8 : wg7.frozen? ⟨bv, 8, none⟩ = false := V7.out.free 8
      go_upto_region 10 with fail
      clear cV0 cV1 cV2 cV3 cV4 cV5 cV6 cV7 cV8 fV8
      have hWW : (wg7.setCell ⟨bv, 8, none⟩ (.slice A1_ n1_ c1_)) = (wg7.setCell ⟨bv, 8, none⟩ (.slice A1_ n1_ c1_)) := rfl
      obtain ⟨w8, hW⟩ : ∃ wy, (wg7.setCell ⟨bv, 8, none⟩ (.slice A1_ n1_ c1_)) = wy := ⟨_, rfl⟩
      rw [hW]
      clear hWW
      have B8 := Lib.hid (show Below w.heap.size w w8 by rw [← hW]; exact (B7.out.setCell (p := ⟨bv, 8, none⟩) (by have hlE := LE.out; have hlV := LV.out; have hs0 := LTX.out; have hs1 := LHR.out; have hs2 := SS1.out; have hs3 := LWE.out; have hs4 := SS2.out; have hs5 := HBE.out; have hs6 := LUX3.out; have hs7 := SBR3.out; have hs8 := hbe.out; have hs9 := SS4.out; have hs10 := LWV.out; have hs11 := SQ5.out; have hs12 := SQ6.out; have hs13 := HB1.out; have hs14 := HH1.out; first | omega | (simp <;> omega)) _))
      have X8 := Lib.hid (show Bx 45 w8 (w.heap.size) #[.int .i64 f.Kind, .int .i64 f.From, .int .i64 f.To, .int .i64 f.Seq, .int .i64 f.Fragment, .bool f.More, .bool f.Retry, .int .i64 f.Duration, .slice A n c] by rw [← hW]; exact (X7.out.other (by have hlE := LE.out; have hlV := LV.out; have hs0 := LTX.out; have hs1 := LHR.out; have hs2 := SS1.out; have hs3 := LWE.out; have hs4 := SS2.out; have hs5 := HBE.out; have hs6 := LUX3.out; have hs7 := SBR3.out; have hs8 := hbe.out; have hs9 := SS4.out; have hs10 := LWV.out; have hs11 := SQ5.out; have hs12 := SQ6.out; have hs13 := HB1.out; have hs14 := HH1.out; first | omega | (simp <;> omega)) _ _))
      have V8 := Lib.hid (show Bx 45 w8 (bv) #[.int .i64 f.Kind, .int .i64 f.From, .int .i64 f.To, .int .i64 f.Seq, .int .i64 ((k : Int)), .bool (decide ((k : Int) < cc - 1)), .bool f.Retry, .int .i64 f.Duration, .slice A1_ n1_ c1_] by rw [← hW]; exact (V7.out.set 8 _))
      have R8 := Lib.hid (show Rd .u8 w8 (lo) (hi) A n c f.Body by rw [← hW]; exact (R7.out.same (by simp [World.setCell]) fun b h1 h2 => by rw [Below.heap_setCell _ _ _ _ (by have hlE := LE.out; have hlV := LV.out; have hs0 := LTX.out; have hs1 := LHR.out; have hs2 := SS1.out; have hs3 := LWE.out; have hs4 := SS2.out; have hs5 := HBE.out; have hs6 := LUX3.out; have hs7 := SBR3.out; have hs8 := hbe.out; have hs9 := SS4.out; have hs10 := LWV.out; have hs11 := SQ5.out; have hs12 := SQ6.out; have hs13 := HB1.out; have hs14 := HH1.out; first | omega | (simp <;> omega))]))
      have O8 := Lib.hid (show Oe fraS w8 be wr.heap.size A1 k c1 es by rw [← hW]; exact (O7.out.same (by simp [World.setCell]) fun b h1 h2 => by rw [Below.heap_setCell _ _ _ _ (by have hlE := LE.out; have hlV := LV.out; have hs0 := LTX.out; have hs1 := LHR.out; have hs2 := SS1.out; have hs3 := LWE.out; have hs4 := SS2.out; have hs5 := HBE.out; have hs6 := LUX3.out; have hs7 := SBR3.out; have hs8 := hbe.out; have hs9 := SS4.out; have hs10 := LWV.out; have hs11 := SQ5.out; have hs12 := SQ6.out; have hs13 := HB1.out; have hs14 := HH1.out; first | omega | (simp <;> omega))]))
      have P8 := Lib.hid (show Ow 5 .u8 w8 (lo1) (hi1) A1_ n1_ c1_ ((f.Body.drop s).take (m2 - s)) by rw [← hW]; exact (P7.out.same (by simp [World.setCell]) fun b h1 h2 => by rw [Below.heap_setCell _ _ _ _ (by have hlE := LE.out; have hlV := LV.out; have hs0 := LTX.out; have hs1 := LHR.out; have hs2 := SS1.out; have hs3 := LWE.out; have hs4 := SS2.out; have hs5 := HBE.out; have hs6 := LUX3.out; have hs7 := SBR3.out; have hs8 := hbe.out; have hs9 := SS4.out; have hs10 := LWV.out; have hs11 := SQ5.out; have hs12 := SQ6.out; have hs13 := HB1.out; have hs14 := HH1.out; first | omega | (simp <;> omega))]))
      clear hW B7 X7 V7 R7 O7 P7
      have SQ8 := Lib.hid V8.out.lt
      have cV0 : w8.cell? ⟨bv, 0, none⟩ = some (.int .i64 f.Kind) := V8.out.cell 0
      have cV1 : w8.cell? ⟨bv, 1, none⟩ = some (.int .i64 f.From) := V8.out.cell 1
      have cV2 : w8.cell? ⟨bv, 2, none⟩ = some (.int .i64 f.To) := V8.out.cell 2
      have cV3 : w8.cell? ⟨bv, 3, none⟩ = some (.int .i64 f.Seq) := V8.out.cell 3
      have cV4 : w8.cell? ⟨bv, 4, none⟩ = some (.int .i64 ((k : Int))) := V8.out.cell 4
      have cV5 : w8.cell? ⟨bv, 5, none⟩ = some (.bool (decide ((k : Int) < cc - 1))) := V8.out.cell 5
      have cV6 : w8.cell? ⟨bv, 6, none⟩ = some (.bool f.Retry) := V8.out.cell 6
      have cV7 : w8.cell? ⟨bv, 7, none⟩ = some (.int .i64 f.Duration) := V8.out.cell 7
      have cV8 : w8.cell? ⟨bv, 8, none⟩ = some (.slice A1_ n1_ c1_) := V8.out.cell 8
      go_wp2_with (at_builtin; refine list_push w8 rfl _ _ 48 rfl Try.underlying48 HZ.out.1 HZ.out.2.1 HZ.out.2.2.1 (by rw [HZ.out.2.2.2]; omega) rfl rfl rfl O8.out ⟨frag f (tn : Int) cc k, A1_, n1_, c1_⟩ (show Ow 5 .u8 w8 lo1 hi1 A1_ n1_ c1_ (frag f (tn : Int) cc k).Body by rw [HFB.out]; exact P8.out) (by have hlE := LE.out; have hlV := LV.out; have hs0 := LTX.out; have hs1 := LHR.out; have hs2 := SS1.out; have hs3 := LWE.out; have hs4 := SS2.out; have hs5 := HBE.out; have hs6 := LUX3.out; have hs7 := SBR3.out; have hs8 := hbe.out; have hs9 := SS4.out; have hs10 := LWV.out; have hs11 := SQ5.out; have hs12 := SQ6.out; have hs13 := HB1.out; have hs14 := HH1.out; have hs15 := SQ8.out; first | omega | (simp <;> omega)) (by have hlE := LE.out; have hlV := LV.out; have hs0 := LTX.out; have hs1 := LHR.out; have hs2 := SS1.out; have hs3 := LWE.out; have hs4 := SS2.out; have hs5 := HBE.out; have hs6 := LUX3.out; have hs7 := SBR3.out; have hs8 := hbe.out; have hs9 := SS4.out; have hs10 := LWV.out; have hs11 := SQ5.out; have hs12 := SQ6.out; have hs13 := HB1.out; have hs14 := HH1.out; have hs15 := SQ8.out; first | omega | (simp <;> omega)) (by omega) (by have hlE := LE.out; have hlV := LV.out; have hs0 := LTX.out; have hs1 := LHR.out; have hs2 := SS1.out; have hs3 := LWE.out; have hs4 := SS2.out; have hs5 := HBE.out; have hs6 := LUX3.out; have hs7 := SBR3.out; have hs8 := hbe.out; have hs9 := SS4.out; have hs10 := LWV.out; have hs11 := SQ5.out; have hs12 := SQ6.out; have hs13 := HB1.out; have hs14 := HH1.out; have hs15 := SQ8.out; first | omega | (simp <;> omega)) ?_; intro A3 c3 w9 ho hg; have B9 := Lib.hid (below_grown B8.out hg (fun q hq => by have hlE := LE.out; have hlV := LV.out; have hs0 := LTX.out; have hs1 := LHR.out; have hs2 := SS1.out; have hs3 := LWE.out; have hs4 := SS2.out; have hs5 := HBE.out; have hs6 := LUX3.out; have hs7 := SBR3.out; have hs8 := hbe.out; have hs9 := SS4.out; have hs10 := LWV.out; have hs11 := SQ5.out; have hs12 := SQ6.out; have hs13 := HB1.out; have hs14 := HH1.out; have hs15 := SQ8.out; have := (O8.out.lo_ hq).1; omega) B8.out.size); have X9 := Lib.hid (grown_bx X8.out hg (fun e => by have hlE := LE.out; have hlV := LV.out; have hs0 := LTX.out; have hs1 := LHR.out; have hs2 := SS1.out; have hs3 := LWE.out; have hs4 := SS2.out; have hs5 := HBE.out; have hs6 := LUX3.out; have hs7 := SBR3.out; have hs8 := hbe.out; have hs9 := SS4.out; have hs10 := LWV.out; have hs11 := SQ5.out; have hs12 := SQ6.out; have hs13 := HB1.out; have hs14 := HH1.out; have hs15 := SQ8.out; have := O8.out.lo_ e.symm; omega)); have V9 := Lib.hid (grown_bx V8.out hg (fun e => by have hlE := LE.out; have hlV := LV.out; have hs0 := LTX.out; have hs1 := LHR.out; have hs2 := SS1.out; have hs3 := LWE.out; have hs4 := SS2.out; have hs5 := HBE.out; have hs6 := LUX3.out; have hs7 := SBR3.out; have hs8 := hbe.out; have hs9 := SS4.out; have hs10 := LWV.out; have hs11 := SQ5.out; have hs12 := SQ6.out; have hs13 := HB1.out; have hs14 := HH1.out; have hs15 := SQ8.out; have := O8.out.lo_ e.symm; omega)); have R9 := Lib.hid (rd_grown O8.out hg R8.out (by have hlE := LE.out; have hlV := LV.out; have hs0 := LTX.out; have hs1 := LHR.out; have hs2 := SS1.out; have hs3 := LWE.out; have hs4 := SS2.out; have hs5 := HBE.out; have hs6 := LUX3.out; have hs7 := SBR3.out; have hs8 := hbe.out; have hs9 := SS4.out; have hs10 := LWV.out; have hs11 := SQ5.out; have hs12 := SQ6.out; have hs13 := HB1.out; have hs14 := HH1.out; have hs15 := SQ8.out; first | omega | (simp <;> omega))); have P9 := Lib.hid (ow_grown O8.out hg P8.out); have SS9 := Lib.hid hg.size; clear B8 X8 V8 R8 O8 P8; have O9 := Lib.hid ho; clear ho hg)
      clear cV0 cV1 cV2 cV3 cV4 cV5 cV6 cV7 cV8
      go_roundw
      case rel => exact ⟨k + 1, A3, c3, _, rfl, by go_num, by omega, by rw [List.map_append, he.out, range_snoc]; rfl, by have hlE := LE.out; have hlV := LV.out; have hs0 := LTX.out; have hs1 := LHR.out; have hs2 := SS1.out; have hs3 := LWE.out; have hs4 := SS2.out; have hs5 := HBE.out; have hs6 := LUX3.out; have hs7 := SBR3.out; have hs8 := hbe.out; have hs9 := SS4.out; have hs10 := LWV.out; have hs11 := SQ5.out; have hs12 := SQ6.out; have hs13 := HB1.out; have hs14 := HH1.out; have hs15 := SQ8.out; have hs16 := SS9.out; first | omega | (simp <;> omega), B9.out, X9.out, R9.out, O9.out.up⟩
      case measure => simp [intOf]; omega
    · have hlt2 : ¬ (k : Int) < cc := by have := HMC.out; omega
      obtain rfl : m = k := by omega
      go_wp2_with fail
      go_ret
      exact ⟨_, _, _, es, rfl, he.out, (O3.out.up).down (by have hlE := LE.out; have hs0 := LTX.out; have hs1 := LHR.out; have hs2 := SS1.out; have hs3 := LWE.out; have hs4 := SS2.out; have hs5 := HBE.out; have hs6 := LUX3.out; have hs7 := SBR3.out; have hs8 := hbe.out; first | omega | (simp <;> omega)), B3.out⟩
end Go.Proofs.Ytjmenbpalihnnaa.fr
