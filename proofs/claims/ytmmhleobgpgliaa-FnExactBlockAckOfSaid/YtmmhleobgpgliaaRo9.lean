/- BlockAckOf of both sides. Condition: none. -/
import Derived.Test.YtmmhleobgpgliaaRo1
namespace Go.Proofs.Ytmmhleobgpgliaa.ro
open Go.RowKit sl harn bx stw
set_option linter.unusedVariables false
open ux (Nf Rob RR OO row rowB rowNf nf rob)
open mrw (blkOf)
open bs (nsq sqd)
set_option linter.unusedSimpArgs false
open bx

theorem wrap_pow (x : Int) : IntKind.i64.wrap x = wrap64 x := by unfold wrap64; exact IntKind.wrap_i64 x
theorem bm_step {s : Int} {xs : List Nf} {k d : Nat} {x : Nf} (h : xs[k]? = some x) (hd : sqd s x.Seq = (d : Int)) : bm s (xs.take (k + 1)) = bm s (xs.take k) ||| 2 ^ d := by
  rw [List.take_add_one, h]
  simp [bm, hd]
theorem or_all {s : Int} : ∀ (xs : List Nf) (a : Nat), a < 65536 → (∀ f ∈ xs, (sqd s f.Seq).toNat < 16) → xs.foldl (fun a (f : Nf) => a ||| 2 ^ (sqd s f.Seq).toNat) a < 65536
  | [], a, ha, _ => ha
  | f :: r, a, ha, h => by
    have h1 : 2 ^ (sqd s f.Seq).toNat < 2 ^ 16 := Nat.pow_lt_pow_right (by omega) (h f List.mem_cons_self)
    have h2 : a ||| 2 ^ (sqd s f.Seq).toNat < 2 ^ 16 := Nat.or_lt_two_pow (by omega) h1
    exact or_all r _ (by omega) fun g hg => h g (List.mem_cons_of_mem _ hg)
theorem bm_lt {s : Int} {xs : List Nf} (h : ∀ f ∈ xs, (sqd s f.Seq).toNat < 16) (k : Nat) : bm s (xs.take k) < 65536 := or_all _ 0 (by omega) fun f hf => h f (List.mem_of_mem_take hf)
theorem near {s : Int} {xs : List Nf} (h : vr ⟨s, xs⟩ = true) : ∀ f ∈ xs, (1 ≤ sqd s f.Seq ∧ sqd s f.Seq ≤ 15) ∧ f.Body.length ≤ 100 := okp_mem (by omega) (vr_parts h).1
/-- What a function hands back that is an acknowledgment. -/
def AkPost (p : Int × Int) (w : World) (e : Ending) (w' : World) : Prop := e = .returned (.agg #[.int .i64 p.1, .int .i64 p.2]) ∧ Below w.heap.size w w'
theorem ak_parts {c b : Int} {p : Int × Int} (hq : p = (c, b)) {w : World} {e : Ending} {w' : World} (h : AkPost p w e w') : e = .returned (.agg #[.int .i64 c, .int .i64 b]) ∧ Below w.heap.size w w' := by subst hq; exact h
theorem ack_no {s : Int} {xs : List Nf} (h : vr ⟨s, xs⟩ = false) : ack ⟨s, xs⟩ = (0, 0) := by unfold ack; rw [h]; rfl
theorem ack_yes {s : Int} {xs : List Nf} (h : vr ⟨s, xs⟩ = true) : ack ⟨s, xs⟩ = (s, (bm s xs : Int)) := by unfold ack; rw [if_pos h]
set_option maxRecDepth 100000 in
set_option maxHeartbeats 4000000 in
theorem eqA_yes (c b : Int) (w : World) :
    Calls Try.prog 46 #[.agg #[.int .i64 c, .int .i64 b], .agg #[.int .i64 c, .int .i64 b]] w (fun e w' => e = .returned (.bool true) ∧ Below w.heap.size w w') := by
  go_enter Try.func46, Try.ntmps46
  go_wp2
  go_ret
  exact ⟨rfl, bs.below_box2 _ _ _⟩
set_option maxRecDepth 100000 in
set_option maxHeartbeats 4000000 in
theorem implAck (s : Int) (xs : List Nf) (lo hi : Nat) (A : Option Addr) (n c : Nat) (w : World) (h : RR rowNf w lo hi (.slice A n c) xs) :
    Calls Try.prog 21 #[.agg #[.int .i64 s, .slice A n c]] w (AkPost (ack ⟨s, xs⟩) w) := by
  have RW := Lib.hid h
  obtain ⟨hlR, hncR, hcmR⟩ := nf_len h
  have HL := Lib.hid hlR
  have LHR := Lib.hid (show hi ≤ w.heap.size from h.hi_)
  clear hlR h
  obtain ⟨v, hv⟩ : ∃ v, vr ⟨s, xs⟩ = v := ⟨_, rfl⟩
  have HV := Lib.hid hv
  clear hv
  go_enter Try.func21, Try.ntmps21
  go_wp2_with fail
  obtain ⟨w0, hW⟩ : ∃ w0, (w.alloc (.cells #[.int .i64 s, .slice A n c] 31)).alloc (.cells #[.int .i64 0, .int .i64 0] 42) = w0 := ⟨_, rfl⟩
  rw [hW]
  have B0 := Lib.hid (show Below w.heap.size w w0 by rw [← hW]; exact ((Below.refl _ _).alloc (by simp <;> omega) _).alloc (by simp <;> omega) _)
  have X0 := Lib.hid (show Bx 31 w0 (w.heap.size) #[.int .i64 s, .slice A n c] by
      rw [← hW]
      have hh := Bx.made 31 w #[.int .i64 s, .slice A n c]
      exact (hh.below (below_box _ _)))
  have Z0 := Lib.hid (show Bx 42 w0 (w.heap.size + 1) #[.int .i64 0, .int .i64 0] by
      rw [← hW]
      have hh : Bx 42 ((w.alloc (.cells #[.int .i64 s, .slice A n c] 31)).alloc (.cells #[.int .i64 0, .int .i64 0] 42)) (w.heap.size + 1) #[.int .i64 0, .int .i64 0] := by have hh := Bx.made 42 (w.alloc (.cells #[.int .i64 s, .slice A n c] 31)) #[.int .i64 0, .int .i64 0]; simpa using hh
      exact hh)
  have R0 := Lib.hid (show RR rowNf w0 lo hi (.slice A n c) xs by rw [← hW]; exact ((RW.out.below (below_box _ _)).below (below_box _ _)))
  clear hW
  have LTX := Lib.hid X0.out.lt
  have LTZ := Lib.hid Z0.out.lt
  go_wp2_with (refine stw.list_load rfl 31 _ rfl (w.heap.size) rfl 31 _ X0.out Try.underlying31 rfl ux.szRob ?_)
  (with_reducible refine (implVr s xs lo hi A n c _ R0.out).mono ?_)
  rintro e w1 hp
  obtain ⟨rfl, hb⟩ := b_parts HV.out hp
  clear hp
  have SS1 := Lib.hid hb.size
  have B1 := Lib.hid (B0.out.trans (hb.mono B0.out.size))
  have X1 := Lib.hid (X0.out.below hb)
  have Z1 := Lib.hid (Z0.out.below hb)
  have R1 := Lib.hid (R0.out.below hb)
  clear hb  B0 X0 Z0 R0
  cases v with
  | true =>
    have HNE := Lib.hid (near HV.out)
    have HBL := Lib.hid (bm_lt (fun f hf => by have h1 := HNE.out f hf; omega : ∀ f ∈ xs, (sqd s f.Seq).toNat < 16))
    have HE := Lib.hid (ack_yes HV.out)
    have cX0 : w1.cell? ⟨w.heap.size, 0, none⟩ = some (.int .i64 s) := X1.out.cell 0
    obtain ⟨b2, hbb⟩ : ∃ b, w1.heap.size = b := ⟨_, rfl⟩
    go_upto_region 4 with fail
    generalize hW : w1.alloc (.cells #[.int .i64 s, .int .i64 0] 42) = w2
    have LK := Lib.hid (show w.heap.size ≤ b2 ∧ w.heap.size < b2 ∧ w.heap.size + 1 < b2 ∧ hi ≤ b2 by have h1 := B1.out.size; have h2X := X1.out.lt; have h2Z := Z1.out.lt; have h2R := R1.out.hi_; have h3 := hbb; omega)
    have K2 := Lib.hid (show Bx 42 w2 b2 #[.int .i64 s, .int .i64 0] by rw [← hW, ← hbb]; exact Bx.made _ _ _)
    have hb : Below w1.heap.size w1 w2 := by rw [← hW]; exact below_box _ _
    (try rw [hbb])
    clear hW hbb
    have SS2 := Lib.hid hb.size
    have B2 := Lib.hid (B1.out.trans (hb.mono B1.out.size))
    have X2 := Lib.hid (X1.out.below hb)
    have Z2 := Lib.hid (Z1.out.below hb)
    have R2 := Lib.hid (R1.out.below hb)
    clear hb B1 X1 Z1 R1
    have LWK := Lib.hid K2.out.lt
    clear cX0
    have cX1 : w2.cell? ⟨w.heap.size, 1, none⟩ = some (.slice A n c) := X2.out.cell 1
    go_wp2_with fail
    clear cX1
    go_loopw [16] (fun v0 wr => ∃ (k : Nat) (m : Nat), v0 = .int .i64 (k : Int) ∧ (k ≤ n) ∧ (m = bm s (xs.take k)) ∧ Below w.heap.size w wr ∧ Bx 31 wr w.heap.size #[.int .i64 s, .slice A n c] ∧ Bx 42 wr (w.heap.size + 1) #[.int .i64 0, .int .i64 0] ∧ Bx 42 wr b2 #[.int .i64 s, .int .i64 (m : Int)] ∧ RR rowNf wr lo hi (.slice A n c) xs) (fun i _ => n - (intOf i).toNat)
    case atStart => exact ⟨0, 0, rfl, by omega, rfl, B2.out, X2.out, Z2.out, K2.out, R2.out⟩
    case round =>
      obtain ⟨k, m, rfl, ghk, ghm, gB3, gX3, gZ3, gK3, gR3⟩ := hrel
      have B3 := Lib.hid gB3
      have X3 := Lib.hid gX3
      have Z3 := Lib.hid gZ3
      have K3 := Lib.hid gK3
      have R3 := Lib.hid gR3
      have hk := Lib.hid ghk
      have hm := Lib.hid ghm
      clear gB3 gX3 gZ3 gK3 gR3 ghk ghm
      have LUX3 := Lib.hid X3.out.lt
      have LUZ3 := Lib.hid Z3.out.lt
      have LUK3 := Lib.hid K3.out.lt
      have SBR3 := Lib.hid B3.out.size
      have hk9 := hk.out
      have HM := Lib.hid (show m < 65536 by rw [hm.out]; exact HBL.out k)
      by_cases hlt : k < n
      · have hlt2 : (k : Int) < n := by omega
        obtain ⟨g, off, x, u, hA, hy, hg1, hg2, hru, hxu⟩ := ux.row_at (R3.out : RR (row 85 nf) _ _ _ _ _) hlt
        obtain ⟨A0, n0, c0_, rfl, hb0⟩ := ux.nf_r hxu
        subst hA
        have k0 : wr.cell? ⟨g, off + k * 2, none⟩ = some (.int .i64 x.Seq) := hru 0 _ rfl
        have k1 : wr.cell? ⟨g, off + k * 2 + 1, none⟩ = some (.slice A0 n0 c0_) := hru 1 _ rfl
        have HY := Lib.hid hy
        have HN0 := Lib.hid (ux.rd_of hb0).len
        have hn0 := (ux.rd_of hb0).cap_
        have F3 := Lib.hid hb0
        have HG := Lib.hid (show g < w.heap.size by have h7 := LHR.out; omega)
        clear hy hru hxu hb0 hg1 hg2
        obtain ⟨d, hd⟩ : ∃ d : Nat, sqd s x.Seq = d := ⟨(sqd s x.Seq).toNat, by have h1 := HNE.out x (List.mem_of_getElem? HY.out); omega⟩
        have HD := Lib.hid hd
        have HD16 := Lib.hid (show d < 16 by have h1 := HNE.out x (List.mem_of_getElem? HY.out); omega)
        have HST := Lib.hid (bm_step HY.out hd)
        clear hd
        obtain ⟨b4, hbb⟩ : ∃ b, wr.heap.size = b := ⟨_, rfl⟩
        go_upto_region 7 with fail
        generalize hW : wr.alloc (.cells #[.int .i64 x.Seq, .slice A0 n0 c0_] 85) = w4
        have LV := Lib.hid (show w.heap.size ≤ b4 ∧ w.heap.size < b4 ∧ w.heap.size + 1 < b4 ∧ b2 < b4 ∧ hi ≤ b4 ∧ hi ≤ b4 by have h1 := B3.out.size; have h2X := X3.out.lt; have h2Z := Z3.out.lt; have h2K := K3.out.lt; have h2R := R3.out.hi_; have h2F := F3.out.hi_; have h3 := hbb; omega)
        have V4 := Lib.hid (show Bx 85 w4 b4 #[.int .i64 x.Seq, .slice A0 n0 c0_] by rw [← hW, ← hbb]; exact Bx.made _ _ _)
        have hb : Below wr.heap.size wr w4 := by rw [← hW]; exact below_box _ _
        (try rw [hbb])
        clear hW hbb
        have SS4 := Lib.hid hb.size
        have B4 := Lib.hid (B3.out.trans (hb.mono B3.out.size))
        have X4 := Lib.hid (X3.out.below hb)
        have Z4 := Lib.hid (Z3.out.below hb)
        have K4 := Lib.hid (K3.out.below hb)
        have R4 := Lib.hid (R3.out.below hb)
        have F4 := Lib.hid (F3.out.below hb)
        clear hb B3 X3 Z3 K3 R3 F3
        have LWV := Lib.hid V4.out.lt
        clear k0 k1
        obtain ⟨p, hp⟩ : ∃ p, wrap64 (2 ^ d) = p := ⟨_, rfl⟩
        have hp2 : IntKind.i64.wrap (2 ^ d) = p := (wrap_pow _).trans hp
        obtain ⟨m2, hm2⟩ : ∃ x, m ||| 2 ^ d = x := ⟨_, rfl⟩
        have hor : bits .or .i64 (m : Int) p = (m2 : Int) := by rw [← hp, ← hm2]; exact bs.or_pow HM.out HD16.out
        have hk64 : (d : Int) ≤ 64 := by have := HD16.out; omega
        have HM2 := Lib.hid hm2
        clear hm2
        refine reg.region_tail reg.Bel 10 32 [some [], some [(0, 20)], some [], some [(2, 22)], some [], some [(4, 24)], some [(3, 23), (5, 25)], some [(6, 26)], some [(1, 21), (7, 27)], some [], none] [(0, 20), (1, 21), (2, 22), (3, 23), (4, 24), (5, 25), (6, 26), (7, 27), (8, 28), (9, 29)]
          (fun w' => Below w.heap.size w w' ∧ Bx 31 w' (w.heap.size) #[.int .i64 s, .slice (some ⟨g, off, none⟩) n c] ∧ Bx 42 w' (w.heap.size + 1) #[.int .i64 0, .int .i64 0] ∧ Bx 42 w' (b2) #[.int .i64 s, .int .i64 (m : Int)] ∧ Bx 85 w' (b4) #[.int .i64 x.Seq, .slice A0 n0 c0_] ∧ RR rowNf w' lo hi (.slice (some ⟨g, off, none⟩) n c) xs ∧ RR ux.bytes w' lo hi (.slice A0 n0 c0_) x.Body ∧ True)
          (reg.rl [reg.is (.pointer (some ⟨b2, 1, none⟩)), reg.is (.int .i64 (m : Int)), reg.is (.pointer (some ⟨w.heap.size, 0, none⟩)), reg.is (.int .i64 s), reg.is (.pointer (some ⟨b4, 0, none⟩)), reg.is (.int .i64 x.Seq), reg.is (.int .i64 (d : Int)), reg.is (.int .i64 p), reg.is (.int .i64 (m2 : Int)), reg.is (.pointer (some ⟨b2, 1, none⟩)), reg.free])
          (by kernel_rfl) rfl (by kernel_rfl) (by kernel_rfl) rfl
          (fun w1 w2 hc hb => ⟨hc.1.trans (hb.mono hc.1.size), hc.2.1.below hb, hc.2.2.1.below hb, hc.2.2.2.1.below hb, hc.2.2.2.2.1.below hb, hc.2.2.2.2.2.1.below hb, hc.2.2.2.2.2.2.1.below hb, trivial⟩) (reg.rl_keep _) (⟨own.below_drew B4.out, X4.out.same rfl, Z4.out.same rfl, K4.out.same rfl, V4.out.same rfl, R4.out.same (Nat.le_refl _) (fun _ _ _ => rfl), F4.out.same (Nat.le_refl _) (fun _ _ _ => rfl), trivial⟩) (by kernel_rfl) ⟨?_, ?_, ?_, ?_, ?_, ?_, ?_, ?_, ?_, ?_, trivial⟩ ?_
        · refine fun w8 hc  K hK => ?_
          (try simp only [Act.put, List.setIfInBounds_toArray, List.set_cons_zero, List.set_cons_succ])
          go_simp
          exact hK (.pointer (some ⟨b2, 1, none⟩)) _ rfl (Below.refl _ _)
        · refine fun w8 hc v0 h0 K hK => ?_
          obtain rfl : v0 = .pointer (some ⟨b2, 1, none⟩) := h0
          (try simp only [Act.put, List.setIfInBounds_toArray, List.set_cons_zero, List.set_cons_succ])
          have c0 : w8.cell? ⟨b2, 1, none⟩ = some (.int .i64 (m : Int)) := hc.2.2.2.1.cell 1
          go_simp
          exact hK (.int .i64 (m : Int)) _ rfl (Below.refl _ _)
        · refine fun w8 hc  K hK => ?_
          (try simp only [Act.put, List.setIfInBounds_toArray, List.set_cons_zero, List.set_cons_succ])
          go_simp
          exact hK (.pointer (some ⟨w.heap.size, 0, none⟩)) _ rfl (Below.refl _ _)
        · refine fun w8 hc v2 h2 K hK => ?_
          obtain rfl : v2 = .pointer (some ⟨w.heap.size, 0, none⟩) := h2
          (try simp only [Act.put, List.setIfInBounds_toArray, List.set_cons_zero, List.set_cons_succ])
          have c0 : w8.cell? ⟨w.heap.size, 0, none⟩ = some (.int .i64 s) := hc.2.1.cell 0
          go_simp
          exact hK (.int .i64 s) _ rfl (Below.refl _ _)
        · refine fun w8 hc  K hK => ?_
          (try simp only [Act.put, List.setIfInBounds_toArray, List.set_cons_zero, List.set_cons_succ])
          go_simp
          exact hK (.pointer (some ⟨b4, 0, none⟩)) _ rfl (Below.refl _ _)
        · refine fun w8 hc v4 h4 K hK => ?_
          obtain rfl : v4 = .pointer (some ⟨b4, 0, none⟩) := h4
          (try simp only [Act.put, List.setIfInBounds_toArray, List.set_cons_zero, List.set_cons_succ])
          have c0 : w8.cell? ⟨b4, 0, none⟩ = some (.int .i64 x.Seq) := hc.2.2.2.2.1.cell 0
          go_simp
          exact hK (.int .i64 x.Seq) _ rfl (Below.refl _ _)
        · refine fun w8 hc v3 h3 v5 h5 K hK => ?_
          obtain rfl : v3 = .int .i64 s := h3
          obtain rfl : v5 = .int .i64 x.Seq := h5
          (try simp only [Act.put, List.setIfInBounds_toArray, List.set_cons_zero, List.set_cons_succ])
          go_simp
          (with_reducible refine (bs.implSd s x.Seq _).mono ?_)
          rintro e w3 ⟨rfl, rfl⟩
          rw [HD.out]; exact hK _ _ rfl (Below.refl _ _)
        · refine fun w8 hc v6 h6 K hK => ?_
          obtain rfl : v6 = .int .i64 (d : Int) := h6
          (try simp only [Act.put, List.setIfInBounds_toArray, List.set_cons_zero, List.set_cons_succ])
          go_simp
          (try simp only [hp, hp2])
          exact hK (.int .i64 p) _ rfl (Below.refl _ _)
        · refine fun w8 hc v1 h1 v7 h7 K hK => ?_
          obtain rfl : v1 = .int .i64 (m : Int) := h1
          obtain rfl : v7 = .int .i64 p := h7
          (try simp only [Act.put, List.setIfInBounds_toArray, List.set_cons_zero, List.set_cons_succ])
          go_simp
          (try simp only [hor])
          exact hK (.int .i64 (m2 : Int)) _ rfl (Below.refl _ _)
        · refine fun w8 hc  K hK => ?_
          (try simp only [Act.put, List.setIfInBounds_toArray, List.set_cons_zero, List.set_cons_succ])
          go_simp
          exact hK (.pointer (some ⟨b2, 1, none⟩)) _ rfl (Below.refl _ _)
        refine fun wg5 hc v0 h0 v1 h1 v2 h2 v3 h3 v4 h4 v5 h5 v6 h6 v7 h7 v8 h8 v9 h9 => ?_
        obtain rfl : v0 = .pointer (some ⟨b2, 1, none⟩) := h0
        obtain rfl : v1 = .int .i64 (m : Int) := h1
        obtain rfl : v2 = .pointer (some ⟨w.heap.size, 0, none⟩) := h2
        obtain rfl : v3 = .int .i64 s := h3
        obtain rfl : v4 = .pointer (some ⟨b4, 0, none⟩) := h4
        obtain rfl : v5 = .int .i64 x.Seq := h5
        obtain rfl : v6 = .int .i64 (d : Int) := h6
        obtain rfl : v7 = .int .i64 p := h7
        obtain rfl : v8 = .int .i64 (m2 : Int) := h8
        obtain rfl : v9 = .pointer (some ⟨b2, 1, none⟩) := h9
        (try simp only [reg.Obs])
        (try simp only [Act.put, List.setIfInBounds_toArray, List.set_cons_zero, List.set_cons_succ])
        simp only [List.drop_succ_cons, List.drop_zero]
        have B5 := Lib.hid hc.1
        have X5 := Lib.hid hc.2.1
        have Z5 := Lib.hid hc.2.2.1
        have K5 := Lib.hid hc.2.2.2.1
        have V5 := Lib.hid hc.2.2.2.2.1
        have R5 := Lib.hid hc.2.2.2.2.2.1
        have F5 := Lib.hid hc.2.2.2.2.2.2.1
        clear hc B4 X4 Z4 K4 V4 R4 F4
        have cK1 : wg5.cell? ⟨b2, 1, none⟩ = some (.int .i64 (m : Int)) := K5.out.cell 1
        have fK1 : wg5.frozen? ⟨b2, 1, none⟩ = false := K5.out.free 1
        go_wp2_with fail
        clear cK1 fK1
        have hWW : (wg5.setCell ⟨b2, 1, none⟩ (.int .i64 (m2 : Int))) = (wg5.setCell ⟨b2, 1, none⟩ (.int .i64 (m2 : Int))) := rfl
        obtain ⟨w6, hW⟩ : ∃ wy, (wg5.setCell ⟨b2, 1, none⟩ (.int .i64 (m2 : Int))) = wy := ⟨_, rfl⟩
        rw [hW]
        clear hWW
        have B6 := Lib.hid (show Below w.heap.size w w6 by rw [← hW]; exact (B5.out.setCell (p := ⟨b2, 1, none⟩) (by have hlK := LK.out; have hlV := LV.out; have hs0 := LTX.out; have hs1 := LTZ.out; have hs2 := LHR.out; have hs3 := SS1.out; have hs4 := SS2.out; have hs5 := LWK.out; have hs6 := LUX3.out; have hs7 := LUZ3.out; have hs8 := LUK3.out; have hs9 := SBR3.out; have hs10 := SS4.out; have hs11 := LWV.out; first | omega | (simp <;> omega)) _))
        have X6 := Lib.hid (show Bx 31 w6 (w.heap.size) #[.int .i64 s, .slice (some ⟨g, off, none⟩) n c] by rw [← hW]; exact (X5.out.other (by have hlK := LK.out; have hlV := LV.out; have hs0 := LTX.out; have hs1 := LTZ.out; have hs2 := LHR.out; have hs3 := SS1.out; have hs4 := SS2.out; have hs5 := LWK.out; have hs6 := LUX3.out; have hs7 := LUZ3.out; have hs8 := LUK3.out; have hs9 := SBR3.out; have hs10 := SS4.out; have hs11 := LWV.out; first | omega | (simp <;> omega)) _ _))
        have Z6 := Lib.hid (show Bx 42 w6 (w.heap.size + 1) #[.int .i64 0, .int .i64 0] by rw [← hW]; exact (Z5.out.other (by have hlK := LK.out; have hlV := LV.out; have hs0 := LTX.out; have hs1 := LTZ.out; have hs2 := LHR.out; have hs3 := SS1.out; have hs4 := SS2.out; have hs5 := LWK.out; have hs6 := LUX3.out; have hs7 := LUZ3.out; have hs8 := LUK3.out; have hs9 := SBR3.out; have hs10 := SS4.out; have hs11 := LWV.out; first | omega | (simp <;> omega)) _ _))
        have K6 := Lib.hid (show Bx 42 w6 (b2) #[.int .i64 s, .int .i64 (m2 : Int)] by rw [← hW]; exact (K5.out.set 1 _))
        have V6 := Lib.hid (show Bx 85 w6 (b4) #[.int .i64 x.Seq, .slice A0 n0 c0_] by rw [← hW]; exact (V5.out.other (by have hlK := LK.out; have hlV := LV.out; have hs0 := LTX.out; have hs1 := LTZ.out; have hs2 := LHR.out; have hs3 := SS1.out; have hs4 := SS2.out; have hs5 := LWK.out; have hs6 := LUX3.out; have hs7 := LUZ3.out; have hs8 := LUK3.out; have hs9 := SBR3.out; have hs10 := SS4.out; have hs11 := LWV.out; first | omega | (simp <;> omega)) _ _))
        have R6 := Lib.hid (show RR rowNf w6 lo hi (.slice (some ⟨g, off, none⟩) n c) xs by rw [← hW]; exact (R5.out.same (by simp [World.setCell]) fun b h1 h2 => by rw [Below.heap_setCell _ _ _ _ (by have hlK := LK.out; have hlV := LV.out; have hs0 := LTX.out; have hs1 := LTZ.out; have hs2 := LHR.out; have hs3 := SS1.out; have hs4 := SS2.out; have hs5 := LWK.out; have hs6 := LUX3.out; have hs7 := LUZ3.out; have hs8 := LUK3.out; have hs9 := SBR3.out; have hs10 := SS4.out; have hs11 := LWV.out; first | omega | (simp <;> omega))]))
        have F6 := Lib.hid (show RR ux.bytes w6 lo hi (.slice A0 n0 c0_) x.Body by rw [← hW]; exact (F5.out.same (by simp [World.setCell]) fun b h1 h2 => by rw [Below.heap_setCell _ _ _ _ (by have hlK := LK.out; have hlV := LV.out; have hs0 := LTX.out; have hs1 := LTZ.out; have hs2 := LHR.out; have hs3 := SS1.out; have hs4 := SS2.out; have hs5 := LWK.out; have hs6 := LUX3.out; have hs7 := LUZ3.out; have hs8 := LUK3.out; have hs9 := SBR3.out; have hs10 := SS4.out; have hs11 := LWV.out; first | omega | (simp <;> omega))]))
        clear hW B5 X5 Z5 K5 V5 R5 F5
        go_roundw
        case rel => exact ⟨k + 1, m2, by go_num, by omega, by rw [HST.out, ← HM2.out, hm.out], B6.out, X6.out, Z6.out, K6.out, R6.out⟩
        case measure => simp [intOf]; omega
      · have hlt2 : ¬ (k : Int) < n := by omega
        obtain rfl : n = k := by omega
        have HF := Lib.hid (show xs.take n = xs from List.take_of_length_le (by rw [HL.out]; exact Nat.le_refl _))
        have HE2 := Lib.hid (show ack ⟨s, xs⟩ = (s, (m : Int)) by rw [HE.out, hm.out, HF.out])
        go_wp2_with (first | (refine stw.list_load rfl 42 _ rfl (b2) rfl 42 _ K3.out Try.underlying42 rfl bs.szA ?_) | (refine stw.list_store rfl 42 _ _ rfl (w.heap.size + 1) #[.int .i64 s, .int .i64 (m : Int)] rfl rfl 42 _ Z3.out rfl bs.szA (bs.oneA _ _) ?_; intro wz4 hz))
        have B4 := Lib.hid (hz.on B3.out (by have hlK := LK.out; have hs0 := LTX.out; have hs1 := LTZ.out; have hs2 := LHR.out; have hs3 := SS1.out; have hs4 := SS2.out; have hs5 := LWK.out; have hs6 := LUX3.out; have hs7 := LUZ3.out; have hs8 := LUK3.out; have hs9 := SBR3.out; first | omega | (simp <;> omega)))
        have X4 := Lib.hid (hz.keep X3.out (by have hlK := LK.out; have hs0 := LTX.out; have hs1 := LTZ.out; have hs2 := LHR.out; have hs3 := SS1.out; have hs4 := SS2.out; have hs5 := LWK.out; have hs6 := LUX3.out; have hs7 := LUZ3.out; have hs8 := LUK3.out; have hs9 := SBR3.out; first | omega | (simp <;> omega)))
        have Z4 := Lib.hid (hz.box)
        have K4 := Lib.hid (hz.keep K3.out (by have hlK := LK.out; have hs0 := LTX.out; have hs1 := LTZ.out; have hs2 := LHR.out; have hs3 := SS1.out; have hs4 := SS2.out; have hs5 := LWK.out; have hs6 := LUX3.out; have hs7 := LUZ3.out; have hs8 := LUK3.out; have hs9 := SBR3.out; first | omega | (simp <;> omega)))
        have R4 := Lib.hid (R3.out.same hz.below.size fun b h1 h2 => hz.other b (by have hlK := LK.out; have hs0 := LTX.out; have hs1 := LTZ.out; have hs2 := LHR.out; have hs3 := SS1.out; have hs4 := SS2.out; have hs5 := LWK.out; have hs6 := LUX3.out; have hs7 := LUZ3.out; have hs8 := LUK3.out; have hs9 := SBR3.out; first | omega | (simp <;> omega)))
        clear hz B3 X3 Z3 K3 R3
        (try simp only [Exit.inBlock, Exit.then])
        refine bodyPost_ret (v := .agg #[.int .i64 s, .int .i64 (m : Int)]) ?_ rfl ?_
        · rw [results_cell1 rfl]
          exact stw.back Z4.out Try.underlying42 rfl bs.szA
        · exact by rw [HE2.out]; exact ⟨rfl, B4.out⟩
  | false =>
    have HE := Lib.hid (ack_no HV.out)
    go_wp2_with (first | (refine stw.list_load rfl 31 _ rfl (w.heap.size) rfl 31 _ X1.out Try.underlying31 rfl ux.szRob ?_) | (refine stw.list_store rfl 42 _ _ rfl (w.heap.size + 1) #[.int .i64 0, .int .i64 0] rfl rfl 42 _ Z1.out rfl bs.szA (bs.oneA _ _) ?_; intro wz2 hz))
    have B2 := Lib.hid (hz.on B1.out (by have hs0 := LTX.out; have hs1 := LTZ.out; have hs2 := LHR.out; have hs3 := SS1.out; first | omega | (simp <;> omega)))
    have X2 := Lib.hid (hz.keep X1.out (by have hs0 := LTX.out; have hs1 := LTZ.out; have hs2 := LHR.out; have hs3 := SS1.out; first | omega | (simp <;> omega)))
    have Z2 := Lib.hid (hz.box)
    have R2 := Lib.hid (R1.out.same hz.below.size fun b h1 h2 => hz.other b (by have hs0 := LTX.out; have hs1 := LTZ.out; have hs2 := LHR.out; have hs3 := SS1.out; first | omega | (simp <;> omega)))
    clear hz B1 X1 Z1 R1
    (try simp only [Exit.inBlock, Exit.then])
    refine bodyPost_ret (v := .agg #[.int .i64 0, .int .i64 0]) ?_ rfl ?_
    · rw [results_cell1 rfl]
      exact stw.back Z2.out Try.underlying42 rfl bs.szA
    · exact by rw [HE.out]; exact ⟨rfl, B2.out⟩
set_option maxRecDepth 100000 in
set_option maxHeartbeats 4000000 in
theorem specAck (s : Int) (xs : List Nf) (lo hi : Nat) (A : Option Addr) (n c : Nat) (w : World) (h : RR rowNf w lo hi (.slice A n c) xs) :
    Calls Try.prog 45 #[.agg #[.int .i64 s, .slice A n c]] w (AkPost (ack ⟨s, xs⟩) w) := by
  have RW := Lib.hid h
  obtain ⟨hlR, hncR, hcmR⟩ := nf_len h
  have HL := Lib.hid hlR
  have LHR := Lib.hid (show hi ≤ w.heap.size from h.hi_)
  clear hlR h
  obtain ⟨v, hv⟩ : ∃ v, vr ⟨s, xs⟩ = v := ⟨_, rfl⟩
  have HV := Lib.hid hv
  clear hv
  go_enter Try.func45, Try.ntmps45
  go_wp2_with fail
  obtain ⟨w0, hW⟩ : ∃ w0, (w.alloc (.cells #[.int .i64 s, .slice A n c] 31)).alloc (.cells #[.int .i64 0, .int .i64 0] 42) = w0 := ⟨_, rfl⟩
  rw [hW]
  have B0 := Lib.hid (show Below w.heap.size w w0 by rw [← hW]; exact ((Below.refl _ _).alloc (by simp <;> omega) _).alloc (by simp <;> omega) _)
  have X0 := Lib.hid (show Bx 31 w0 (w.heap.size) #[.int .i64 s, .slice A n c] by
      rw [← hW]
      have hh := Bx.made 31 w #[.int .i64 s, .slice A n c]
      exact (hh.below (below_box _ _)))
  have Z0 := Lib.hid (show Bx 42 w0 (w.heap.size + 1) #[.int .i64 0, .int .i64 0] by
      rw [← hW]
      have hh : Bx 42 ((w.alloc (.cells #[.int .i64 s, .slice A n c] 31)).alloc (.cells #[.int .i64 0, .int .i64 0] 42)) (w.heap.size + 1) #[.int .i64 0, .int .i64 0] := by have hh := Bx.made 42 (w.alloc (.cells #[.int .i64 s, .slice A n c] 31)) #[.int .i64 0, .int .i64 0]; simpa using hh
      exact hh)
  have R0 := Lib.hid (show RR rowNf w0 lo hi (.slice A n c) xs by rw [← hW]; exact ((RW.out.below (below_box _ _)).below (below_box _ _)))
  clear hW
  have LTX := Lib.hid X0.out.lt
  have LTZ := Lib.hid Z0.out.lt
  go_wp2_with (refine stw.list_load rfl 31 _ rfl (w.heap.size) rfl 31 _ X0.out Try.underlying31 rfl ux.szRob ?_)
  (with_reducible refine (specVr s xs lo hi A n c _ R0.out).mono ?_)
  rintro e w1 hp
  obtain ⟨rfl, hb⟩ := b_parts HV.out hp
  clear hp
  have SS1 := Lib.hid hb.size
  have B1 := Lib.hid (B0.out.trans (hb.mono B0.out.size))
  have X1 := Lib.hid (X0.out.below hb)
  have Z1 := Lib.hid (Z0.out.below hb)
  have R1 := Lib.hid (R0.out.below hb)
  clear hb  B0 X0 Z0 R0
  cases v with
  | true =>
    have HNE := Lib.hid (near HV.out)
    have HBL := Lib.hid (bm_lt (fun f hf => by have h1 := HNE.out f hf; omega : ∀ f ∈ xs, (sqd s f.Seq).toNat < 16))
    have HE := Lib.hid (ack_yes HV.out)
    have cX0 : w1.cell? ⟨w.heap.size, 0, none⟩ = some (.int .i64 s) := X1.out.cell 0
    obtain ⟨b2, hbb⟩ : ∃ b, w1.heap.size = b := ⟨_, rfl⟩
    go_upto_region 4 with fail
    generalize hW : w1.alloc (.cells #[.int .i64 s, .int .i64 0] 42) = w2
    have LK := Lib.hid (show w.heap.size ≤ b2 ∧ w.heap.size < b2 ∧ w.heap.size + 1 < b2 ∧ hi ≤ b2 by have h1 := B1.out.size; have h2X := X1.out.lt; have h2Z := Z1.out.lt; have h2R := R1.out.hi_; have h3 := hbb; omega)
    have K2 := Lib.hid (show Bx 42 w2 b2 #[.int .i64 s, .int .i64 0] by rw [← hW, ← hbb]; exact Bx.made _ _ _)
    have hb : Below w1.heap.size w1 w2 := by rw [← hW]; exact below_box _ _
    (try rw [hbb])
    clear hW hbb
    have SS2 := Lib.hid hb.size
    have B2 := Lib.hid (B1.out.trans (hb.mono B1.out.size))
    have X2 := Lib.hid (X1.out.below hb)
    have Z2 := Lib.hid (Z1.out.below hb)
    have R2 := Lib.hid (R1.out.below hb)
    clear hb B1 X1 Z1 R1
    have LWK := Lib.hid K2.out.lt
    clear cX0
    go_wp2_with fail
    go_loopw [4] (fun v0 wr => ∃ (k : Nat) (m : Nat), v0 = .int .i64 (k : Int) ∧ (k ≤ n) ∧ (m = bm s (xs.take k)) ∧ Below w.heap.size w wr ∧ Bx 31 wr w.heap.size #[.int .i64 s, .slice A n c] ∧ Bx 42 wr (w.heap.size + 1) #[.int .i64 0, .int .i64 0] ∧ Bx 42 wr b2 #[.int .i64 s, .int .i64 (m : Int)] ∧ RR rowNf wr lo hi (.slice A n c) xs) (fun i _ => n - (intOf i).toNat)
    case atStart => exact ⟨0, 0, rfl, by omega, rfl, B2.out, X2.out, Z2.out, K2.out, R2.out⟩
    case round =>
      obtain ⟨k, m, rfl, ghk, ghm, gB3, gX3, gZ3, gK3, gR3⟩ := hrel
      have B3 := Lib.hid gB3
      have X3 := Lib.hid gX3
      have Z3 := Lib.hid gZ3
      have K3 := Lib.hid gK3
      have R3 := Lib.hid gR3
      have hk := Lib.hid ghk
      have hm := Lib.hid ghm
      clear gB3 gX3 gZ3 gK3 gR3 ghk ghm
      have LUX3 := Lib.hid X3.out.lt
      have LUZ3 := Lib.hid Z3.out.lt
      have LUK3 := Lib.hid K3.out.lt
      have SBR3 := Lib.hid B3.out.size
      have hk9 := hk.out
      have HM := Lib.hid (show m < 65536 by rw [hm.out]; exact HBL.out k)
      by_cases hlt : k < n
      · have hlt2 : (k : Int) < n := by omega
        obtain ⟨g, off, x, u, hA, hy, hg1, hg2, hru, hxu⟩ := ux.row_at (R3.out : RR (row 85 nf) _ _ _ _ _) hlt
        obtain ⟨A0, n0, c0_, rfl, hb0⟩ := ux.nf_r hxu
        subst hA
        have k0 : wr.cell? ⟨g, off + k * 2, none⟩ = some (.int .i64 x.Seq) := hru 0 _ rfl
        have k1 : wr.cell? ⟨g, off + k * 2 + 1, none⟩ = some (.slice A0 n0 c0_) := hru 1 _ rfl
        have HY := Lib.hid hy
        have HN0 := Lib.hid (ux.rd_of hb0).len
        have hn0 := (ux.rd_of hb0).cap_
        have F3 := Lib.hid hb0
        have HG := Lib.hid (show g < w.heap.size by have h7 := LHR.out; omega)
        clear hy hru hxu hb0 hg1 hg2
        obtain ⟨d, hd⟩ : ∃ d : Nat, sqd s x.Seq = d := ⟨(sqd s x.Seq).toNat, by have h1 := HNE.out x (List.mem_of_getElem? HY.out); omega⟩
        have HD := Lib.hid hd
        have HD16 := Lib.hid (show d < 16 by have h1 := HNE.out x (List.mem_of_getElem? HY.out); omega)
        have HST := Lib.hid (bm_step HY.out hd)
        clear hd
        have HK0 := Lib.hid ((B3.out.cell (show ((⟨g, off + k * 2, none⟩ : Addr)).block < w.heap.size from HG.out)).symm.trans k0)
        clear k0 k1
        have cX1 : wr.cell? ⟨w.heap.size, 1, none⟩ = some (.slice (some ⟨g, off, none⟩) n c) := X3.out.cell 1
        go_upto_region 7 with fail
        clear cX1
        obtain ⟨p, hp⟩ : ∃ p, wrap64 (2 ^ d) = p := ⟨_, rfl⟩
        have hp2 : IntKind.i64.wrap (2 ^ d) = p := (wrap_pow _).trans hp
        obtain ⟨m2, hm2⟩ : ∃ x, m ||| 2 ^ d = x := ⟨_, rfl⟩
        have hor : bits .or .i64 (m : Int) p = (m2 : Int) := by rw [← hp, ← hm2]; exact bs.or_pow HM.out HD16.out
        have hk64 : (d : Int) ≤ 64 := by have := HD16.out; omega
        have HM2 := Lib.hid hm2
        clear hm2
        refine reg.region_tail reg.Bel 14 34 [some [], some [(0, 19)], some [], some [(2, 21)], some [], some [(4, 23)], some [], some [(5, 24), (6, 25)], some [(7, 26)], some [(8, 27)], some [(3, 22), (9, 28)], some [(10, 29)], some [(1, 20), (11, 30)], some [], none] [(0, 19), (1, 20), (2, 21), (3, 22), (4, 23), (5, 24), (6, 25), (7, 26), (8, 27), (9, 28), (10, 29), (11, 30), (12, 31), (13, 32)]
          (fun w' => Below w.heap.size w w' ∧ Bx 31 w' (w.heap.size) #[.int .i64 s, .slice (some ⟨g, off, none⟩) n c] ∧ Bx 42 w' (w.heap.size + 1) #[.int .i64 0, .int .i64 0] ∧ Bx 42 w' (b2) #[.int .i64 s, .int .i64 (m : Int)] ∧ RR rowNf w' lo hi (.slice (some ⟨g, off, none⟩) n c) xs ∧ RR ux.bytes w' lo hi (.slice A0 n0 c0_) x.Body ∧ True)
          (reg.rl [reg.is (.pointer (some ⟨b2, 1, none⟩)), reg.is (.int .i64 (m : Int)), reg.is (.pointer (some ⟨w.heap.size, 0, none⟩)), reg.is (.int .i64 s), reg.is (.pointer (some ⟨w.heap.size, 1, none⟩)), reg.is (.slice (some ⟨g, off, none⟩) n c), reg.is (.int .i64 ((k : Int))), reg.is (.pointer (some ⟨g, off + k * 2, none⟩)), reg.is (.pointer (some ⟨g, off + k * 2, none⟩)), reg.is (.int .i64 x.Seq), reg.is (.int .i64 (d : Int)), reg.is (.int .i64 p), reg.is (.int .i64 (m2 : Int)), reg.is (.pointer (some ⟨b2, 1, none⟩)), reg.free])
          (by kernel_rfl) rfl (by kernel_rfl) (by kernel_rfl) rfl
          (fun w1 w2 hc hb => ⟨hc.1.trans (hb.mono hc.1.size), hc.2.1.below hb, hc.2.2.1.below hb, hc.2.2.2.1.below hb, hc.2.2.2.2.1.below hb, hc.2.2.2.2.2.1.below hb, trivial⟩) (reg.rl_keep _) (⟨own.below_drew B3.out, X3.out.same rfl, Z3.out.same rfl, K3.out.same rfl, R3.out.same (Nat.le_refl _) (fun _ _ _ => rfl), F3.out.same (Nat.le_refl _) (fun _ _ _ => rfl), trivial⟩) (by kernel_rfl) ⟨?_, ?_, ?_, ?_, ?_, ?_, ?_, ?_, ?_, ?_, ?_, ?_, ?_, ?_, trivial⟩ ?_
        · refine fun w8 hc  K hK => ?_
          (try simp only [Act.put, List.setIfInBounds_toArray, List.set_cons_zero, List.set_cons_succ])
          go_simp
          exact hK (.pointer (some ⟨b2, 1, none⟩)) _ rfl (Below.refl _ _)
        · refine fun w8 hc v0 h0 K hK => ?_
          obtain rfl : v0 = .pointer (some ⟨b2, 1, none⟩) := h0
          (try simp only [Act.put, List.setIfInBounds_toArray, List.set_cons_zero, List.set_cons_succ])
          have c0 : w8.cell? ⟨b2, 1, none⟩ = some (.int .i64 (m : Int)) := hc.2.2.2.1.cell 1
          go_simp
          exact hK (.int .i64 (m : Int)) _ rfl (Below.refl _ _)
        · refine fun w8 hc  K hK => ?_
          (try simp only [Act.put, List.setIfInBounds_toArray, List.set_cons_zero, List.set_cons_succ])
          go_simp
          exact hK (.pointer (some ⟨w.heap.size, 0, none⟩)) _ rfl (Below.refl _ _)
        · refine fun w8 hc v2 h2 K hK => ?_
          obtain rfl : v2 = .pointer (some ⟨w.heap.size, 0, none⟩) := h2
          (try simp only [Act.put, List.setIfInBounds_toArray, List.set_cons_zero, List.set_cons_succ])
          have c0 : w8.cell? ⟨w.heap.size, 0, none⟩ = some (.int .i64 s) := hc.2.1.cell 0
          go_simp
          exact hK (.int .i64 s) _ rfl (Below.refl _ _)
        · refine fun w8 hc  K hK => ?_
          (try simp only [Act.put, List.setIfInBounds_toArray, List.set_cons_zero, List.set_cons_succ])
          go_simp
          exact hK (.pointer (some ⟨w.heap.size, 1, none⟩)) _ rfl (Below.refl _ _)
        · refine fun w8 hc v4 h4 K hK => ?_
          obtain rfl : v4 = .pointer (some ⟨w.heap.size, 1, none⟩) := h4
          (try simp only [Act.put, List.setIfInBounds_toArray, List.set_cons_zero, List.set_cons_succ])
          have c0 : w8.cell? ⟨w.heap.size, 1, none⟩ = some (.slice (some ⟨g, off, none⟩) n c) := hc.2.1.cell 1
          go_simp
          exact hK (.slice (some ⟨g, off, none⟩) n c) _ rfl (Below.refl _ _)
        · refine fun w8 hc  K hK => ?_
          (try simp only [Act.put, List.setIfInBounds_toArray, List.set_cons_zero, List.set_cons_succ])
          go_simp
          exact hK (.int .i64 ((k : Int))) _ rfl (Below.refl _ _)
        · refine fun w8 hc v5 h5 v6 h6 K hK => ?_
          obtain rfl : v5 = .slice (some ⟨g, off, none⟩) n c := h5
          obtain rfl : v6 = .int .i64 ((k : Int)) := h6
          (try simp only [Act.put, List.setIfInBounds_toArray, List.set_cons_zero, List.set_cons_succ])
          go_simp
          exact hK (.pointer (some ⟨g, off + k * 2, none⟩)) _ rfl (Below.refl _ _)
        · refine fun w8 hc v7 h7 K hK => ?_
          obtain rfl : v7 = .pointer (some ⟨g, off + k * 2, none⟩) := h7
          (try simp only [Act.put, List.setIfInBounds_toArray, List.set_cons_zero, List.set_cons_succ])
          go_simp
          exact hK (.pointer (some ⟨g, off + k * 2, none⟩)) _ rfl (Below.refl _ _)
        · refine fun w8 hc v8 h8 K hK => ?_
          obtain rfl : v8 = .pointer (some ⟨g, off + k * 2, none⟩) := h8
          (try simp only [Act.put, List.setIfInBounds_toArray, List.set_cons_zero, List.set_cons_succ])
          have c0 : w8.cell? ⟨g, off + k * 2, none⟩ = some (.int .i64 x.Seq) := (hc.1.cell (show ((⟨g, off + k * 2, none⟩ : Addr)).block < w.heap.size from HG.out)).trans HK0.out
          go_simp
          exact hK (.int .i64 x.Seq) _ rfl (Below.refl _ _)
        · refine fun w8 hc v3 h3 v9 h9 K hK => ?_
          obtain rfl : v3 = .int .i64 s := h3
          obtain rfl : v9 = .int .i64 x.Seq := h9
          (try simp only [Act.put, List.setIfInBounds_toArray, List.set_cons_zero, List.set_cons_succ])
          go_simp
          (with_reducible refine (bs.specSd s x.Seq _).mono ?_)
          rintro e w3 ⟨rfl, rfl⟩
          rw [HD.out]; exact hK _ _ rfl (Below.refl _ _)
        · refine fun w8 hc v10 h10 K hK => ?_
          obtain rfl : v10 = .int .i64 (d : Int) := h10
          (try simp only [Act.put, List.setIfInBounds_toArray, List.set_cons_zero, List.set_cons_succ])
          go_simp
          (try simp only [hp, hp2])
          exact hK (.int .i64 p) _ rfl (Below.refl _ _)
        · refine fun w8 hc v1 h1 v11 h11 K hK => ?_
          obtain rfl : v1 = .int .i64 (m : Int) := h1
          obtain rfl : v11 = .int .i64 p := h11
          (try simp only [Act.put, List.setIfInBounds_toArray, List.set_cons_zero, List.set_cons_succ])
          go_simp
          (try simp only [hor])
          exact hK (.int .i64 (m2 : Int)) _ rfl (Below.refl _ _)
        · refine fun w8 hc  K hK => ?_
          (try simp only [Act.put, List.setIfInBounds_toArray, List.set_cons_zero, List.set_cons_succ])
          go_simp
          exact hK (.pointer (some ⟨b2, 1, none⟩)) _ rfl (Below.refl _ _)
        refine fun wg4 hc v0 h0 v1 h1 v2 h2 v3 h3 v4 h4 v5 h5 v6 h6 v7 h7 v8 h8 v9 h9 v10 h10 v11 h11 v12 h12 v13 h13 => ?_
        obtain rfl : v0 = .pointer (some ⟨b2, 1, none⟩) := h0
        obtain rfl : v1 = .int .i64 (m : Int) := h1
        obtain rfl : v2 = .pointer (some ⟨w.heap.size, 0, none⟩) := h2
        obtain rfl : v3 = .int .i64 s := h3
        obtain rfl : v4 = .pointer (some ⟨w.heap.size, 1, none⟩) := h4
        obtain rfl : v5 = .slice (some ⟨g, off, none⟩) n c := h5
        obtain rfl : v6 = .int .i64 ((k : Int)) := h6
        obtain rfl : v7 = .pointer (some ⟨g, off + k * 2, none⟩) := h7
        obtain rfl : v8 = .pointer (some ⟨g, off + k * 2, none⟩) := h8
        obtain rfl : v9 = .int .i64 x.Seq := h9
        obtain rfl : v10 = .int .i64 (d : Int) := h10
        obtain rfl : v11 = .int .i64 p := h11
        obtain rfl : v12 = .int .i64 (m2 : Int) := h12
        obtain rfl : v13 = .pointer (some ⟨b2, 1, none⟩) := h13
        (try simp only [reg.Obs])
        (try simp only [Act.put, List.setIfInBounds_toArray, List.set_cons_zero, List.set_cons_succ])
        simp only [List.drop_succ_cons, List.drop_zero]
        have B4 := Lib.hid hc.1
        have X4 := Lib.hid hc.2.1
        have Z4 := Lib.hid hc.2.2.1
        have K4 := Lib.hid hc.2.2.2.1
        have R4 := Lib.hid hc.2.2.2.2.1
        have F4 := Lib.hid hc.2.2.2.2.2.1
        clear hc B3 X3 Z3 K3 R3 F3
        have cK1 : wg4.cell? ⟨b2, 1, none⟩ = some (.int .i64 (m : Int)) := K4.out.cell 1
        have fK1 : wg4.frozen? ⟨b2, 1, none⟩ = false := K4.out.free 1
        go_wp2_with fail
        clear cK1 fK1
        have hWW : (wg4.setCell ⟨b2, 1, none⟩ (.int .i64 (m2 : Int))) = (wg4.setCell ⟨b2, 1, none⟩ (.int .i64 (m2 : Int))) := rfl
        obtain ⟨w5, hW⟩ : ∃ wy, (wg4.setCell ⟨b2, 1, none⟩ (.int .i64 (m2 : Int))) = wy := ⟨_, rfl⟩
        rw [hW]
        clear hWW
        have B5 := Lib.hid (show Below w.heap.size w w5 by rw [← hW]; exact (B4.out.setCell (p := ⟨b2, 1, none⟩) (by have hlK := LK.out; have hs0 := LTX.out; have hs1 := LTZ.out; have hs2 := LHR.out; have hs3 := SS1.out; have hs4 := SS2.out; have hs5 := LWK.out; have hs6 := LUX3.out; have hs7 := LUZ3.out; have hs8 := LUK3.out; have hs9 := SBR3.out; first | omega | (simp <;> omega)) _))
        have X5 := Lib.hid (show Bx 31 w5 (w.heap.size) #[.int .i64 s, .slice (some ⟨g, off, none⟩) n c] by rw [← hW]; exact (X4.out.other (by have hlK := LK.out; have hs0 := LTX.out; have hs1 := LTZ.out; have hs2 := LHR.out; have hs3 := SS1.out; have hs4 := SS2.out; have hs5 := LWK.out; have hs6 := LUX3.out; have hs7 := LUZ3.out; have hs8 := LUK3.out; have hs9 := SBR3.out; first | omega | (simp <;> omega)) _ _))
        have Z5 := Lib.hid (show Bx 42 w5 (w.heap.size + 1) #[.int .i64 0, .int .i64 0] by rw [← hW]; exact (Z4.out.other (by have hlK := LK.out; have hs0 := LTX.out; have hs1 := LTZ.out; have hs2 := LHR.out; have hs3 := SS1.out; have hs4 := SS2.out; have hs5 := LWK.out; have hs6 := LUX3.out; have hs7 := LUZ3.out; have hs8 := LUK3.out; have hs9 := SBR3.out; first | omega | (simp <;> omega)) _ _))
        have K5 := Lib.hid (show Bx 42 w5 (b2) #[.int .i64 s, .int .i64 (m2 : Int)] by rw [← hW]; exact (K4.out.set 1 _))
        have R5 := Lib.hid (show RR rowNf w5 lo hi (.slice (some ⟨g, off, none⟩) n c) xs by rw [← hW]; exact (R4.out.same (by simp [World.setCell]) fun b h1 h2 => by rw [Below.heap_setCell _ _ _ _ (by have hlK := LK.out; have hs0 := LTX.out; have hs1 := LTZ.out; have hs2 := LHR.out; have hs3 := SS1.out; have hs4 := SS2.out; have hs5 := LWK.out; have hs6 := LUX3.out; have hs7 := LUZ3.out; have hs8 := LUK3.out; have hs9 := SBR3.out; first | omega | (simp <;> omega))]))
        have F5 := Lib.hid (show RR ux.bytes w5 lo hi (.slice A0 n0 c0_) x.Body by rw [← hW]; exact (F4.out.same (by simp [World.setCell]) fun b h1 h2 => by rw [Below.heap_setCell _ _ _ _ (by have hlK := LK.out; have hs0 := LTX.out; have hs1 := LTZ.out; have hs2 := LHR.out; have hs3 := SS1.out; have hs4 := SS2.out; have hs5 := LWK.out; have hs6 := LUX3.out; have hs7 := LUZ3.out; have hs8 := LUK3.out; have hs9 := SBR3.out; first | omega | (simp <;> omega))]))
        clear hW B4 X4 Z4 K4 R4 F4
        go_roundw
        case rel => exact ⟨k + 1, m2, by go_num, by omega, by rw [HST.out, ← HM2.out, hm.out], B5.out, X5.out, Z5.out, K5.out, R5.out⟩
        case measure => simp [intOf]; omega
      · have hlt2 : ¬ (k : Int) < n := by omega
        obtain rfl : n = k := by omega
        have HF := Lib.hid (show xs.take n = xs from List.take_of_length_le (by rw [HL.out]; exact Nat.le_refl _))
        have HE2 := Lib.hid (show ack ⟨s, xs⟩ = (s, (m : Int)) by rw [HE.out, hm.out, HF.out])
        have cX1 : wr.cell? ⟨w.heap.size, 1, none⟩ = some (.slice A n c) := X3.out.cell 1
        go_wp2_with (first | (refine stw.list_load rfl 42 _ rfl (b2) rfl 42 _ K3.out Try.underlying42 rfl bs.szA ?_) | (refine stw.list_store rfl 42 _ _ rfl (w.heap.size + 1) #[.int .i64 s, .int .i64 (m : Int)] rfl rfl 42 _ Z3.out rfl bs.szA (bs.oneA _ _) ?_; intro wz4 hz))
        clear cX1
        have B4 := Lib.hid (hz.on B3.out (by have hlK := LK.out; have hs0 := LTX.out; have hs1 := LTZ.out; have hs2 := LHR.out; have hs3 := SS1.out; have hs4 := SS2.out; have hs5 := LWK.out; have hs6 := LUX3.out; have hs7 := LUZ3.out; have hs8 := LUK3.out; have hs9 := SBR3.out; first | omega | (simp <;> omega)))
        have X4 := Lib.hid (hz.keep X3.out (by have hlK := LK.out; have hs0 := LTX.out; have hs1 := LTZ.out; have hs2 := LHR.out; have hs3 := SS1.out; have hs4 := SS2.out; have hs5 := LWK.out; have hs6 := LUX3.out; have hs7 := LUZ3.out; have hs8 := LUK3.out; have hs9 := SBR3.out; first | omega | (simp <;> omega)))
        have Z4 := Lib.hid (hz.box)
        have K4 := Lib.hid (hz.keep K3.out (by have hlK := LK.out; have hs0 := LTX.out; have hs1 := LTZ.out; have hs2 := LHR.out; have hs3 := SS1.out; have hs4 := SS2.out; have hs5 := LWK.out; have hs6 := LUX3.out; have hs7 := LUZ3.out; have hs8 := LUK3.out; have hs9 := SBR3.out; first | omega | (simp <;> omega)))
        have R4 := Lib.hid (R3.out.same hz.below.size fun b h1 h2 => hz.other b (by have hlK := LK.out; have hs0 := LTX.out; have hs1 := LTZ.out; have hs2 := LHR.out; have hs3 := SS1.out; have hs4 := SS2.out; have hs5 := LWK.out; have hs6 := LUX3.out; have hs7 := LUZ3.out; have hs8 := LUK3.out; have hs9 := SBR3.out; first | omega | (simp <;> omega)))
        clear hz B3 X3 Z3 K3 R3
        (try simp only [Exit.inBlock, Exit.then])
        refine bodyPost_ret (v := .agg #[.int .i64 s, .int .i64 (m : Int)]) ?_ rfl ?_
        · rw [results_cell1 rfl]
          exact stw.back Z4.out Try.underlying42 rfl bs.szA
        · exact by rw [HE2.out]; exact ⟨rfl, B4.out⟩
  | false =>
    have HE := Lib.hid (ack_no HV.out)
    go_wp2_with (first | (refine stw.list_load rfl 31 _ rfl (w.heap.size) rfl 31 _ X1.out Try.underlying31 rfl ux.szRob ?_) | (refine stw.list_store rfl 42 _ _ rfl (w.heap.size + 1) #[.int .i64 0, .int .i64 0] rfl rfl 42 _ Z1.out rfl bs.szA (bs.oneA _ _) ?_; intro wz2 hz))
    have B2 := Lib.hid (hz.on B1.out (by have hs0 := LTX.out; have hs1 := LTZ.out; have hs2 := LHR.out; have hs3 := SS1.out; first | omega | (simp <;> omega)))
    have X2 := Lib.hid (hz.keep X1.out (by have hs0 := LTX.out; have hs1 := LTZ.out; have hs2 := LHR.out; have hs3 := SS1.out; first | omega | (simp <;> omega)))
    have Z2 := Lib.hid (hz.box)
    have R2 := Lib.hid (R1.out.same hz.below.size fun b h1 h2 => hz.other b (by have hs0 := LTX.out; have hs1 := LTZ.out; have hs2 := LHR.out; have hs3 := SS1.out; first | omega | (simp <;> omega)))
    clear hz B1 X1 Z1 R1
    (try simp only [Exit.inBlock, Exit.then])
    refine bodyPost_ret (v := .agg #[.int .i64 0, .int .i64 0]) ?_ rfl ?_
    · rw [results_cell1 rfl]
      exact stw.back Z2.out Try.underlying42 rfl bs.szA
    · exact by rw [HE.out]; exact ⟨rfl, B2.out⟩
end Go.Proofs.Ytmmhleobgpgliaa.ro
