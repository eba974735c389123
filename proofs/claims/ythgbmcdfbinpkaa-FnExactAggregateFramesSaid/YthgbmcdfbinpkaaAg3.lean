/- ParseDelimiter of both sides. Condition: up to 2^26 bytes. -/
import Derived.Test.YthgbmcdfbinpkaaAg2
import Derived.Test.YthgbmcdfbinpkaaUv
import Derived.Test.YthgbmcdfbinpkaaEq
import Derived.Test.YthgbmcdfbinpkaaRwv
import Derived.Test.YthgbmcdfbinpkaaRgk
import Derived.Test.YthgbmcdfbinpkaaMrd
import Derived.Deep.QuietTactic
namespace Go.Proofs.Ythgbmcdfbinpkaa.ag
open Go.RowKit sl harn bx rng mrw drk stw
set_option linter.unusedVariables false
set_option linter.unusedSimpArgs false

theorem af_cell {w : World} {ad : Addr} {v : Value} (h : w.cell? ad = some v) (m : Af w) : m.w.cell? ad = some v := by rw [m.below.cell (World.block_lt_of_cell? _ _ h)]; exact h
theorem or_high {p q : Nat} (hp : p < 256) (hq : q < 256) : bits .or .i64 (p : Int) ((q : Int) * 256) = (p : Int) + (q : Int) * 256 := by
  have e : (p ||| q * 256) = p + q * 256 := by
    have := Nat.two_pow_add_eq_or_of_lt (show p < 2 ^ 8 by omega) q
    rw [Nat.or_comm, Nat.mul_comm q, Nat.add_comm p]
    exact this.symm
  rw [show ((q : Int) * 256) = ((q * 256 : Nat) : Int) by omega]
  show IntKind.i64.wrap ((BitVec.ofInt 64 (p : Int) ||| BitVec.ofInt 64 ((q * 256 : Nat) : Int)).toNat : Int) = _
  rw [BitVec.toNat_or]
  have e1 : (BitVec.ofInt 64 (p : Int)).toNat = p := by rw [BitVec.ofInt_natCast, BitVec.toNat_ofNat]; omega
  have e2 : (BitVec.ofInt 64 ((q * 256 : Nat) : Int)).toNat = q * 256 := by rw [BitVec.ofInt_natCast, BitVec.toNat_ofNat]; omega
  rw [e1, e2, e, IntKind.wrap_i64]
  omega
/-- A number and whether it is one. -/
def PdPost (r : Int × Bool) (w : World) (e : Ending) (w' : World) : Prop := e = .returned (.tuple #[.int .i64 r.1, .bool r.2]) ∧ Below w.heap.size w w'
theorem pd_parts {r : Int × Bool} {a : Int} {t : Bool} (ht : r = (a, t)) {w w' : World} {e : Ending} (h : PdPost r w e w') : e = .returned (.tuple #[.int .i64 a, .bool t]) ∧ Below w.heap.size w w' := by subst ht; exact h
theorem pd_end {r : Int × Bool} {a : Int} {t : Bool} (ht : r = (a, t)) {w w' : World} (hb : Below w.heap.size w w') : PdPost r w (.returned (.tuple #[.int .i64 a, .bool t])) w' := by subst ht; exact ⟨rfl, hb⟩
/-- Two bytes of a list. -/
theorem byte_at {w : World} {lo hi n cap k : Nat} {A : Option Addr} {zs : List Int} (h : Rd .u8 w lo hi A n cap zs) (hk : k < n) : ∃ p : Nat, p < 256 ∧ zs.getD k 0 = p ∧ ∃ b off, A = some ⟨b, off, none⟩ ∧ w.cell? ⟨b, off + k, none⟩ = some (.int .u8 (p : Int)) := by
  obtain ⟨b, off, e, h1, h2, hc⟩ := h.at_ hk
  have h3 := h.wf.getD (i := k) (by have := h.len; omega)
  have h4 := bounds_u8 h3
  obtain ⟨p, hp⟩ := Int.eq_ofNat_of_zero_le h4.1
  rw [hp] at hc
  exact ⟨p, by have := h4.2; omega, hp, b, off, e, hc⟩
theorem four_getD {zs : List Int} {k i : Nat} (hi : i < 4) : ((zs.drop k).take 4).getD i 0 = zs.getD (k + i) 0 := by
  rw [List.getD_eq_getElem?_getD, List.getElem?_take, if_pos hi, List.getElem?_drop, List.getD_eq_getElem?_getD]
theorem slice_mid {P : Program} (t E : TypeId) (i0 : TypeInfo) (hu : P.underlying t = some (.slice E)) (hi : P.info? E = some i0) (hs : i0.size = 1) (A : Option Addr) (n cap i j : Nat) (hij : i ≤ j) (hj : j ≤ cap) :
    ∃ A', (i < j → A' = A.map (·.add i)) ∧ ∀ W, (Instr.slice t (.slice A n cap) (some (.int .i64 i)) (some (.int .i64 j)) none).run P W = .ok (.slice A' (j - i) (cap - i)) W := by
  refine ⟨if cap = i then A else A.map (·.add (i * 1)), fun h => ?_, fun W => ?_⟩
  · rw [if_neg (by omega), Nat.mul_one]
  · have hj2 : (i : Int) ≤ j := by omega
    have hj3 : (j : Int) ≤ cap := by omega
    simp [Instr.slice, run_underlying hu, Instr.sliceBounds, Instr.sliceBound, sizeOf, typeInfo, hi, hs, go_sem]
    split <;> (try split) <;> (try rfl) <;> (try omega) <;> simp_all <;> omega
theorem wp_slice_lh {P : Program} {o : Oper} {a : Act} {w : World} {K : Act → World → Prop} {Q : Exit → Act → World → Prop} (t : TypeId) (x y z : Operand) (ho : o.op = .slice t x (some y) (some z) none) (v yv zv r : Value) (hx : a.eval x = v) (hy : a.eval y = yv) (hz : a.eval z = zv)
    (hr : ∀ W, (Instr.sliceAt t v (some yv) (some zv) none).run P W = .ok r W) (hK : K (a.put o.dst r) w) : Oper.wp P o a w K Q := by
  unfold Oper.wp execOp
  simp only [ho, Option.map_some, Option.map_none, hx, hy, hz, Sem.run_bind, hr, Result.andThen_ok, Sem.run_pure]
  exact hK
set_option maxRecDepth 100000 in
set_option maxHeartbeats 4000000 in
theorem implPd (zs : List Int) (lo hi : Nat) (A : Option Addr) (n cap : Nat) (o : Int) (w : World) (h : Rd .u8 w lo hi A n cap zs) (hn : n ≤ 67108864) :
    Calls Try.prog 18 #[.slice A n cap, .int .i64 o] w (PdPost (pd zs o) w) := by
  have RW := Lib.hid h
  have LHR := Lib.hid h.hi_
  have HLN := Lib.hid h.len
  have HCA := Lib.hid h.cap_
  clear h
  have HN := Lib.hid hn
  clear hn
  have hwn : IntKind.i64.wrap ((n : Int) - 4) = (n : Int) - 4 := IntWalk.i64_in _ (by have := HN.out; omega)
  have hca := HCA.out
  by_cases hr : 0 ≤ o ∧ o ≤ (n : Int) - 4
  · obtain ⟨j0, hj0, hy0, hy1, hy2⟩ := info_parts u8Info
    have HY8 := Lib.hid (And.intro hj0 (And.intro hy0 (And.intro hy1 hy2)))
    clear hj0 hy0 hy1 hy2
    obtain ⟨k, rfl⟩ : ∃ k : Nat, o = k := ⟨o.toNat, by omega⟩
    have H := Lib.hid hr
    obtain ⟨j, hj⟩ : ∃ j : Nat, k + 4 = j := ⟨_, rfl⟩
    have HJ := Lib.hid hj
    have hwj : IntKind.i64.wrap ((k : Int) + 4) = (j : Int) := by rw [show (k : Int) + 4 = (j : Int) by omega]; exact IntWalk.i64_in _ (by have := HN.out; omega)
    have hjn : j ≤ n := by omega
    have HJN := Lib.hid hjn
    clear hr hj hjn
    go_enter Try.func18, Try.ntmps18
    have B0 := Lib.hid (Below.refl w.heap.size w)
    have R0 := RW
    go_wp2_with fail
    (with_reducible refine (inRange_yes (k : Int) 0 ((n : Int) - 4) H.out _).mono ?_)
    rintro e w1 ⟨rfl, rfl⟩
    go_wp2_with fail
    (with_reducible refine (uvs.part lo hi A n cap zs k j _ R0.out (by have := HJ.out; omega) HJN.out).mono ?_)
    rintro e w1 ⟨A2, rfl, hr2, rfl⟩
    have e4 : j - k = 4 := by have := HJ.out; omega
    rw [e4] at hr2
    rw [e4]
    clear e4
    have F0 := Lib.hid hr2
    clear hr2
    obtain ⟨p, hp0, hp1, b1, off, rfl, ce0⟩ := byte_at F0.out (show 0 < 4 by omega)
    obtain ⟨q, hq0, hq1, b2, off2, e2, ce1⟩ := byte_at F0.out (show 1 < 4 by omega)
    injection e2 with e2; injection e2 with e2 e3; subst e2 e3
    rw [four_getD (by omega)] at hp1 hq1
    rw [Nat.add_zero] at hp1 ce0
    have hpq := or_high hp0 hq0
    obtain ⟨v, hv⟩ : ∃ v, (p : Int) + (q : Int) * 256 = v := ⟨_, rfl⟩
    rw [hv] at hpq
    have HV := Lib.hid (show at2 zs k = v by unfold at2; rw [hp1, hq1]; exact hv)
    have hwp : IntKind.i64.wrap (p : Int) = p := IntWalk.i64_in _ (by omega)
    have hwq : IntKind.i64.wrap (q : Int) = q := IntWalk.i64_in _ (by omega)
    have hw2 : IntKind.i64.wrap ((q : Int) * 256) = (q : Int) * 256 := IntWalk.i64_in _ (by omega)
    have hw3 : wrap64 ((q : Int) * 256) = (q : Int) * 256 := IntWalk.wrap64_in _ (by omega)
    have hvr : 0 ≤ v ∧ v ≤ 65535 := by omega
    have mce0 := af_cell ce0
    have mce1 := af_cell ce1
    clear ce0 ce1 hp1 hq1 hv
    go_upto_region 4 with fail
    refine bx.region_after (by kernel_rfl) (by kernel_rfl) ?_
    repeat (go_big_quiet_step (fail))
    refine wpQuiet_nil ?_
    intro _ hw'
    obtain ⟨nq9, hw''⟩ := hw'
    subst hw''
    clear mce0 mce1 hpq hwp hwq hw2 hw3 hp0 hq0
    obtain ⟨w1, hw5⟩ : ∃ w5, nq9.w = w5 := ⟨_, rfl⟩
    have hb := nq9.below
    rw [hw5] at hb
    (try rw [hw5])
    clear hw5
    have SS1 := Lib.hid hb.size
    have B1 := Lib.hid (B0.out.trans (hb.mono B0.out.size))
    have R1 := Lib.hid (R0.out.below hb)
    have F1 := Lib.hid (F0.out.below hb)
    clear hb nq9 B0 R0 F0
    go_wp2_with fail
    (with_reducible refine (implDb v _).mono ?_)
    rintro e w2 ⟨C, m, c, rfl, ho, hb⟩
    have SS2 := Lib.hid hb.size
    have B2 := Lib.hid (B1.out.trans (hb.mono B1.out.size))
    have R2 := Lib.hid (R1.out.below hb)
    have F2 := Lib.hid (F1.out.below hb)
    clear hb  B1 R1 F1
    have D2 := Lib.hid ho
    clear ho
    go_wp2_with fail
    obtain ⟨t, ht⟩ : ∃ t, decide ((zs.drop k).take 4 = dlm v) = t := ⟨_, rfl⟩
    have HT := Lib.hid ht
    clear ht
    (with_reducible refine (eqs.implEqB ((zs.drop k).take 4) (dlm v) _ _ _ _ _ C 4 4 m c _ F2.out D2.out.rd).mono ?_)
    rintro e w3 hp
    obtain ⟨rfl, hb⟩ := eqs.EqPost_parts HT.out hp
    clear hp
    have SS3 := Lib.hid hb.size
    have B3 := Lib.hid (B2.out.trans (hb.mono B2.out.size))
    have R3 := Lib.hid (R2.out.below hb)
    have F3 := Lib.hid (F2.out.below hb)
    have D3 := Lib.hid (D2.out.below hb)
    clear hb  B2 R2 F2 D2
    cases t with
    | true =>
      have HE := Lib.hid (show pd zs (k : Int) = (v, true) by rw [pd_yes (by rw [HLN.out]; exact H.out.2) (by rw [HV.out]; exact (of_decide_eq_true HT.out).symm), HV.out])
      go_wp2_with fail
      go_ret2
      exact pd_end (HE.out) B3.out
    | false =>
      have HE := Lib.hid (show pd zs (k : Int) = (0, false) from pd_no (by rw [HV.out]; exact fun e => of_decide_eq_false HT.out e.symm))
      go_wp2_with fail
      go_ret2
      exact pd_end (HE.out) B3.out
  · have H := Lib.hid (show ¬ (0 ≤ o ∧ o ≤ (n : Int) - 4) from hr)
    have HE := Lib.hid (show pd zs o = (0, false) from pd_out (by rw [HLN.out]; exact hr))
    clear hr
    go_enter Try.func18, Try.ntmps18
    have B0 := Lib.hid (Below.refl w.heap.size w)
    have R0 := RW
    go_wp2_with fail
    (with_reducible refine (inRange_no o 0 ((n : Int) - 4) H.out _).mono ?_)
    rintro e w1 ⟨rfl, rfl⟩
    go_wp2_with fail
    go_ret2
    exact pd_end (HE.out) B0.out
set_option maxRecDepth 100000 in
set_option maxHeartbeats 4000000 in
theorem specPd (zs : List Int) (lo hi : Nat) (A : Option Addr) (n cap : Nat) (o : Int) (w : World) (h : Rd .u8 w lo hi A n cap zs) (hn : n ≤ 67108864) :
    Calls Try.prog 27 #[.slice A n cap, .int .i64 o] w (PdPost (pd zs o) w) := by
  have RW := Lib.hid h
  have LHR := Lib.hid h.hi_
  have HLN := Lib.hid h.len
  have HCA := Lib.hid h.cap_
  clear h
  have HN := Lib.hid hn
  clear hn
  have hwn : IntKind.i64.wrap ((n : Int) - 4) = (n : Int) - 4 := IntWalk.i64_in _ (by have := HN.out; omega)
  have hca := HCA.out
  by_cases hneg : o < 0
  · have HE := Lib.hid (show pd zs o = (0, false) from pd_out (by rw [HLN.out]; omega))
    go_enter Try.func27, Try.ntmps27
    have B0 := Lib.hid (Below.refl w.heap.size w)
    have R0 := RW
    go_wp2_with fail
    go_ret2
    exact pd_end (HE.out) B0.out
  · by_cases hbig : (n : Int) - 4 < o
    · have HE := Lib.hid (show pd zs o = (0, false) from pd_out (by rw [HLN.out]; omega))
      go_enter Try.func27, Try.ntmps27
      have B0 := Lib.hid (Below.refl w.heap.size w)
      have R0 := RW
      go_wp2_with fail
      go_ret2
      exact pd_end (HE.out) B0.out
    · obtain ⟨j0, hj0, hy0, hy1, hy2⟩ := info_parts u8Info
      have HY8 := Lib.hid (And.intro hj0 (And.intro hy0 (And.intro hy1 hy2)))
      clear hj0 hy0 hy1 hy2
      obtain ⟨k, rfl⟩ : ∃ k : Nat, o = k := ⟨o.toNat, by omega⟩
      have hkn : (k : Int) < n := by omega
      have hk1 : (k : Int) + 1 < n := by omega
      obtain ⟨j, hj⟩ : ∃ j : Nat, k + 4 = j := ⟨_, rfl⟩
      have HJ := Lib.hid hj
      have hwj : IntKind.i64.wrap ((k : Int) + 4) = (j : Int) := by rw [show (k : Int) + 4 = (j : Int) by omega]; exact IntWalk.i64_in _ (by have := HN.out; omega)
      have HJN := Lib.hid (show j ≤ n by omega)
      obtain ⟨k1, hk1e⟩ : ∃ k1 : Nat, k + 1 = k1 := ⟨_, rfl⟩
      have hwk : IntKind.i64.wrap ((k : Int) + 1) = (k1 : Int) := by rw [show (k : Int) + 1 = (k1 : Int) by omega]; exact IntWalk.i64_in _ (by have := HN.out; omega)
      have hk1n : (k1 : Int) < n := by omega
      clear hj
      go_enter Try.func27, Try.ntmps27
      have B0 := Lib.hid (Below.refl w.heap.size w)
      have R0 := RW
      obtain ⟨p, hp0, hp1, b1, off, rfl, ce0⟩ := byte_at R0.out (show k < n by omega)
      obtain ⟨q, hq0, hq1, b2, off2, e2, ce1⟩ := byte_at R0.out (show k + 1 < n by omega)
      injection e2 with e2; injection e2 with e2 e3; subst e2 e3
      have hpq := or_high hp0 hq0
      obtain ⟨v, hv⟩ : ∃ v, (p : Int) + (q : Int) * 256 = v := ⟨_, rfl⟩
      rw [hv] at hpq
      have HV := Lib.hid (show at2 zs k = v by unfold at2; rw [hp1, hq1]; exact hv)
      have hwp : IntKind.i64.wrap (p : Int) = p := IntWalk.i64_in _ (by omega)
      have hwq : IntKind.i64.wrap (q : Int) = q := IntWalk.i64_in _ (by omega)
      have hw2 : IntKind.i64.wrap ((q : Int) * 256) = (q : Int) * 256 := IntWalk.i64_in _ (by omega)
      have hw3 : wrap64 ((q : Int) * 256) = (q : Int) * 256 := IntWalk.wrap64_in _ (by omega)
      have hvr : 0 ≤ v ∧ v ≤ 65535 := by omega
      rw [hk1e] at ce1
      have mce0 := af_cell ce0
      have mce1 := af_cell ce1
      have HK := Lib.hid (show (k : Int) ≤ (zs.length : Int) - 4 by rw [HLN.out]; omega)
      clear ce0 ce1 hp1 hq1 hv
      go_upto_region 3 with fail
      refine bx.region_after (by kernel_rfl) (by kernel_rfl) ?_
      repeat (go_big_quiet_step (fail))
      refine wpQuiet_nil ?_
      intro _ hw'
      obtain ⟨nq9, hw''⟩ := hw'
      subst hw''
      clear mce0 mce1 hpq hwp hwq hw2 hw3 hp0 hq0 hkn hk1 hwk hk1n
      obtain ⟨w1, hw5⟩ : ∃ w5, nq9.w = w5 := ⟨_, rfl⟩
      have hb := nq9.below
      rw [hw5] at hb
      (try rw [hw5])
      clear hw5
      have SS1 := Lib.hid hb.size
      have B1 := Lib.hid (B0.out.trans (hb.mono B0.out.size))
      have R1 := Lib.hid (R0.out.below hb)
      clear hb nq9 B0 R0
      go_upto_region 4 with fail
      by_cases hvi : 0 ≤ v ∧ v ≤ 200
      · have HT := Lib.hid (decide_eq_true hvi)
        clear hvi
        have HSL := Lib.hid (slice_mid (P := Try.prog) 22 5 j0 Try.underlying22 HY8.out.1 HY8.out.2.2.1 (some ⟨b1, off, none⟩) n cap k j (by have := HJ.out; omega) (by have := HJN.out; have := HCA.out; omega))
        obtain ⟨A9, hA9, hsl9⟩ := HSL.out
        have e4 : j - k = 4 := by have := HJ.out; omega
        rw [e4] at hsl9
        have HA9 := Lib.hid hA9
        have HS9 := Lib.hid hsl9
        have H4 := Lib.hid e4
        clear hA9 hsl9 HSL e4
        obtain ⟨t, ht⟩ : ∃ t, decide (dlm v = (zs.drop k).take 4) = t := ⟨_, rfl⟩
        have HT2 := Lib.hid ht
        clear ht
        refine reg.region_plain reg.Bel 44 [some [], some [(0, 29)], some [(1, 30)], some [(2, 31)], some [(3, 32)], some [(4, 33), (3, 32)], some [(3, 32)], some [(3, 32)], some [(3, 32)], some [(8, 37), (3, 32)], some [(6, 35), (7, 36), (9, 38), (3, 32)], some [(5, 34), (10, 39), (3, 32)], some [(11, 40), (3, 32)], some [(3, 32), (12, 41)]] [(0, 29), (1, 30), (2, 31), (3, 32), (4, 33), (5, 34), (6, 35), (7, 36), (8, 37), (9, 38), (10, 39), (11, 40), (12, 41), (13, 42)]
          (fun w' => Below w.heap.size w w' ∧ Rd .u8 w' (lo) (hi) (some ⟨b1, off, none⟩) n cap zs ∧ True)
          (reg.rl [reg.is (.int .i64 v), reg.is (.bool true), reg.is (.bool false), reg.is (.bool false), reg.is (.int .i64 v), stw.rowv .u8 (dlm v) (fun A n c => .slice A n c), reg.is (.slice (some ⟨b1, off, none⟩) n cap), reg.is (.int .i64 (k : Int)), reg.is (.int .i64 (k : Int)), reg.is (.int .i64 (j : Int)), reg.is (.slice A9 4 (cap - k)), reg.is (.bool t), reg.is (.bool (!t)), reg.is (.bool (!t))])
          (by kernel_rfl) (by kernel_rfl) rfl
          (fun w1 w2 hc hb => ⟨hc.1.trans (hb.mono hc.1.size), hc.2.1.below hb, trivial⟩) (reg.rl_keep _) (⟨own.below_drew B1.out, own.rd_drew R1.out, trivial⟩) (by kernel_rfl) ⟨?_, ?_, ?_, ?_, ?_, ?_, ?_, ?_, ?_, ?_, ?_, ?_, ?_, ?_, trivial⟩ ?_
        · refine fun w8 hc  K hK => ?_
          (try simp only [Act.put, List.setIfInBounds_toArray, List.set_cons_zero, List.set_cons_succ])
          go_simp
          exact hK (.int .i64 v) _ rfl (Below.refl _ _)
        · refine fun w8 hc v0 h0 K hK => ?_
          obtain rfl : v0 = .int .i64 v := h0
          (try simp only [Act.put, List.setIfInBounds_toArray, List.set_cons_zero, List.set_cons_succ])
          go_simp
          (with_reducible refine (specFl v true HT.out _).mono ?_)
          rintro e w3 ⟨rfl, rfl⟩
          exact hK _ _ rfl (Below.refl _ _)
        · refine fun w8 hc v1 h1 K hK => ?_
          obtain rfl : v1 = .bool true := h1
          (try simp only [Act.put, List.setIfInBounds_toArray, List.set_cons_zero, List.set_cons_succ])
          go_simp
          exact hK (.bool false) _ rfl (Below.refl _ _)
        · refine fun w8 hc v2 h2 K hK => ?_
          obtain rfl : v2 = .bool false := h2
          (try simp only [Act.put, List.setIfInBounds_toArray, List.set_cons_zero, List.set_cons_succ])
          go_simp
          exact hK (.bool false) _ rfl (Below.refl _ _)
        · refine fun w8 hc v3 h3 K hK => ?_
          obtain rfl : v3 = .bool false := h3
          (try simp only [Act.put, List.setIfInBounds_toArray, List.set_cons_zero, List.set_cons_succ])
          rw [if_pos (by rfl)]
          go_simp
          exact hK (.int .i64 v) _ rfl (Below.refl _ _)
        · refine fun w8 hc v4 h4 v3 h3 K hK => ?_
          obtain rfl : v4 = .int .i64 v := h4
          obtain rfl : v3 = .bool false := h3
          (try simp only [Act.put, List.setIfInBounds_toArray, List.set_cons_zero, List.set_cons_succ])
          rw [if_pos (by rfl)]
          go_simp
          (with_reducible refine (specDb v _).mono ?_)
          rintro e w3 ⟨A5, n5, c5, rfl, ho, hb⟩
          exact hK _ _ ⟨_, _, _, _, _, rfl, ho.rd⟩ hb
        · refine fun w8 hc v3 h3 K hK => ?_
          obtain rfl : v3 = .bool false := h3
          (try simp only [Act.put, List.setIfInBounds_toArray, List.set_cons_zero, List.set_cons_succ])
          rw [if_pos (by rfl)]
          go_simp
          exact hK (.slice (some ⟨b1, off, none⟩) n cap) _ rfl (Below.refl _ _)
        · refine fun w8 hc v3 h3 K hK => ?_
          obtain rfl : v3 = .bool false := h3
          (try simp only [Act.put, List.setIfInBounds_toArray, List.set_cons_zero, List.set_cons_succ])
          rw [if_pos (by rfl)]
          go_simp
          exact hK (.int .i64 (k : Int)) _ rfl (Below.refl _ _)
        · refine fun w8 hc v3 h3 K hK => ?_
          obtain rfl : v3 = .bool false := h3
          (try simp only [Act.put, List.setIfInBounds_toArray, List.set_cons_zero, List.set_cons_succ])
          rw [if_pos (by rfl)]
          go_simp
          exact hK (.int .i64 (k : Int)) _ rfl (Below.refl _ _)
        · refine fun w8 hc v8 h8 v3 h3 K hK => ?_
          obtain rfl : v8 = .int .i64 (k : Int) := h8
          obtain rfl : v3 = .bool false := h3
          (try simp only [Act.put, List.setIfInBounds_toArray, List.set_cons_zero, List.set_cons_succ])
          rw [if_pos (by rfl)]
          go_simp
          exact hK (.int .i64 (j : Int)) _ rfl (Below.refl _ _)
        · refine fun w8 hc v6 h6 v7 h7 v9 h9 v3 h3 K hK => ?_
          obtain rfl : v6 = .slice (some ⟨b1, off, none⟩) n cap := h6
          obtain rfl : v7 = .int .i64 (k : Int) := h7
          obtain rfl : v9 = .int .i64 (j : Int) := h9
          obtain rfl : v3 = .bool false := h3
          (try simp only [Act.put, List.setIfInBounds_toArray, List.set_cons_zero, List.set_cons_succ])
          rw [if_pos (by rfl)]
          refine wp_slice_lh 22 _ _ _ rfl (.slice (some ⟨b1, off, none⟩) n cap) (.int .i64 (k : Int)) (.int .i64 (j : Int)) _ rfl rfl rfl (fun W => by rw [at_slice _ _ Try.underlying22]; exact HS9.out W) ?_
          exact hK _ _ rfl (Below.refl _ _)
        · refine fun w8 hc v5 h5 v10 h10 v3 h3 K hK => ?_
          obtain ⟨Av5, nv5, cv5, lov5, hiv5, rfl, hRv5⟩ := h5
          obtain rfl : v10 = .slice A9 4 (cap - k) := h10
          obtain rfl : v3 = .bool false := h3
          (try simp only [Act.put, List.setIfInBounds_toArray, List.set_cons_zero, List.set_cons_succ])
          rw [if_pos (by rfl)]
          go_simp
          (with_reducible refine (eqs.specEqB (dlm v) ((zs.drop k).take 4) _ _ _ _ Av5 A9 nv5 cv5 4 (cap - k) _ hRv5 (show Rd .u8 w8 lo hi A9 4 (cap - k) ((zs.drop k).take 4) by have hh := hc.2.1.cut k j (cap - k) A9 HA9.out (by have := HJ.out; omega) HJN.out (by have h1 := HJN.out; have h2 := HCA.out.1; omega) (by have h2 := HCA.out.2; unfold maxLen; omega); rw [H4.out] at hh; exact hh)).mono ?_)
          rintro e w3 hp
          obtain ⟨rfl, hb⟩ := eqs.EqPost_parts HT2.out hp
          exact hK _ _ rfl hb
        · refine fun w8 hc v11 h11 v3 h3 K hK => ?_
          obtain rfl : v11 = .bool t := h11
          obtain rfl : v3 = .bool false := h3
          (try simp only [Act.put, List.setIfInBounds_toArray, List.set_cons_zero, List.set_cons_succ])
          rw [if_pos (by rfl)]
          go_simp
          exact hK (.bool (!t)) _ rfl (Below.refl _ _)
        · refine fun w8 hc v3 h3 v12 h12 K hK => ?_
          obtain rfl : v3 = .bool false := h3
          obtain rfl : v12 = .bool (!t) := h12
          (try simp only [Act.put, List.setIfInBounds_toArray, List.set_cons_zero, List.set_cons_succ])
          go_simp
          exact hK (.bool (!t)) _ rfl (Below.refl _ _)
        refine fun wg2 hc v0 h0 v1 h1 v2 h2 v3 h3 v4 h4 v5 h5 v6 h6 v7 h7 v8 h8 v9 h9 v10 h10 v11 h11 v12 h12 v13 h13 => ?_
        obtain rfl : v0 = .int .i64 v := h0
        obtain rfl : v1 = .bool true := h1
        obtain rfl : v2 = .bool false := h2
        obtain rfl : v3 = .bool false := h3
        obtain rfl : v4 = .int .i64 v := h4
        obtain ⟨Av5, nv5, cv5, lov5, hiv5, rfl, hRv5⟩ := h5
        obtain rfl : v6 = .slice (some ⟨b1, off, none⟩) n cap := h6
        obtain rfl : v7 = .int .i64 (k : Int) := h7
        obtain rfl : v8 = .int .i64 (k : Int) := h8
        obtain rfl : v9 = .int .i64 (j : Int) := h9
        obtain rfl : v10 = .slice A9 4 (cap - k) := h10
        obtain rfl : v11 = .bool t := h11
        obtain rfl : v12 = .bool (!t) := h12
        obtain rfl : v13 = .bool (!t) := h13
        (try simp only [reg.Obs])
        (try simp only [Act.put, List.setIfInBounds_toArray, List.set_cons_zero, List.set_cons_succ])
        have B2 := Lib.hid hc.1
        have R2 := Lib.hid hc.2.1
        clear hc B1 R1
        cases t with
        | true =>
          have HE := Lib.hid (show pd zs (k : Int) = (v, true) by rw [pd_yes HK.out (by rw [HV.out]; exact of_decide_eq_true HT2.out), HV.out])
          go_wp2_with fail
          go_ret2
          exact pd_end (HE.out) B2.out
        | false =>
          have HE := Lib.hid (show pd zs (k : Int) = (0, false) from pd_no (by rw [HV.out]; exact of_decide_eq_false HT2.out))
          go_wp2_with fail
          go_ret2
          exact pd_end (HE.out) B2.out
      · have HT := Lib.hid (decide_eq_false hvi)
        have HE := Lib.hid (show pd zs (k : Int) = (0, false) from pd_no (by rw [HV.out, dlm_no hvi]; intro e; have e9 := congrArg List.length e; rw [List.length_take, List.length_drop] at e9; simp only [List.length_nil] at e9; have := HK.out; omega))
        clear hvi
        have q0 := Lib.hid (fun m => (specFl v false HT.out m.w).mono (fun e w' h => ⟨h.1, h.2 ▸ Below.refl _ _⟩) : ∀ m : Af w1, Calls Try.prog 54 #[.int .i64 v, .int .i64 0, .int .i64 200] m.w fun e w' => e = .returned (.bool false) ∧ Below m.w.heap.size m.w w')
        refine bx.region_after (by kernel_rfl) (by kernel_rfl) ?_
        repeat (go_big_quiet_step ((go_at_call 54; with_reducible exact Af.call (q0.out _))))
        refine wpQuiet_nil ?_
        intro _ hw'
        obtain ⟨nq9, hw''⟩ := hw'
        subst hw''
        clear q0
        obtain ⟨w2, hw5⟩ : ∃ w5, nq9.w = w5 := ⟨_, rfl⟩
        have hb := nq9.below
        rw [hw5] at hb
        (try rw [hw5])
        clear hw5
        have SS2 := Lib.hid hb.size
        have B2 := Lib.hid (B1.out.trans (hb.mono B1.out.size))
        have R2 := Lib.hid (R1.out.below hb)
        clear hb nq9 B1 R1
        go_wp2_with fail
        go_ret2
        exact pd_end (HE.out) B2.out
end Go.Proofs.Ythgbmcdfbinpkaa.ag
