/- Merged texts of this seat. Ro9: BlockAckOf of both sides. Condition: none. | Btm: A sender and a receiver together, as numbers: what is sent, received, acknowledged. No program. Condition: none. | Btw: What the walk of the block transfer needs: types of the blocks of own rows, the region of a call whose results are stored, bodies appended. Condition: none. -/
import Derived.Test.YtmmhleobgpgliaaG2
import Derived.Test.YtmmhleobgpgliaaG5
import Derived.Test.YtmmhleobgpgliaaG8
section
namespace Go.Proofs.Ytmmhleobgpgliaa.ro
open Go.RowKit sl harn bx stw
set_option linter.unusedVariables false
open ux (Nf Rob RR OO row rowB rowNf nf rob)
open mrw (blkOf)
open bs (nsq sqd)
set_option linter.unusedSimpArgs false
open bx

theorem wrap_pow (x : Int) : IntKind.i64.wrap x = wrap64 x := by unfold wrap64; exact IntKind.wrap_i64 x
theorem bm_step {s : Int} {xs : List Nf} {k d : Nat} {x : Nf} (h : xs[k]? = some x) (hd : sqd s x.Seq = (d : Int)) : bm s (xs.take (k + 1)) = bm s (xs.take k) ||| 2 ^ d := by
  rw [List.take_add_one, h]
  simp [bm, hd]
theorem or_all {s : Int} : ∀ (xs : List Nf) (a : Nat), a < 65536 → (∀ f ∈ xs, (sqd s f.Seq).toNat < 16) → xs.foldl (fun a (f : Nf) => a ||| 2 ^ (sqd s f.Seq).toNat) a < 65536
  | [], a, ha, _ => ha
  | f :: r, a, ha, h => by
    have h1 : 2 ^ (sqd s f.Seq).toNat < 2 ^ 16 := Nat.pow_lt_pow_right (by omega) (h f List.mem_cons_self)
    have h2 : a ||| 2 ^ (sqd s f.Seq).toNat < 2 ^ 16 := Nat.or_lt_two_pow (by omega) h1
    exact or_all r _ (by omega) fun g hg => h g (List.mem_cons_of_mem _ hg)
theorem bm_lt {s : Int} {xs : List Nf} (h : ∀ f ∈ xs, (sqd s f.Seq).toNat < 16) (k : Nat) : bm s (xs.take k) < 65536 := or_all _ 0 (by omega) fun f hf => h f (List.mem_of_mem_take hf)
theorem near {s : Int} {xs : List Nf} (h : vr ⟨s, xs⟩ = true) : ∀ f ∈ xs, (1 ≤ sqd s f.Seq ∧ sqd s f.Seq ≤ 15) ∧ f.Body.length ≤ 100 := okp_mem (by omega) (vr_parts h).1
/-- What a function hands back that is an acknowledgment. -/
def AkPost (p : Int × Int) (w : World) (e : Ending) (w' : World) : Prop := e = .returned (.agg #[.int .i64 p.1, .int .i64 p.2]) ∧ Below w.heap.size w w'
theorem ak_parts {c b : Int} {p : Int × Int} (hq : p = (c, b)) {w : World} {e : Ending} {w' : World} (h : AkPost p w e w') : e = .returned (.agg #[.int .i64 c, .int .i64 b]) ∧ Below w.heap.size w w' := by subst hq; exact h
theorem ack_no {s : Int} {xs : List Nf} (h : vr ⟨s, xs⟩ = false) : ack ⟨s, xs⟩ = (0, 0) := by unfold ack; rw [h]; rfl
theorem ack_yes {s : Int} {xs : List Nf} (h : vr ⟨s, xs⟩ = true) : ack ⟨s, xs⟩ = (s, (bm s xs : Int)) := by unfold ack; rw [if_pos h]
set_option maxRecDepth 100000 in
set_option maxHeartbeats 4000000 in
theorem eqA_yes (c b : Int) (w : World) :
    Calls Try.prog 46 #[.agg #[.int .i64 c, .int .i64 b], .agg #[.int .i64 c, .int .i64 b]] w (fun e w' => e = .returned (.bool true) ∧ Below w.heap.size w w') := by
  go_enter Try.func46, Try.ntmps46
  go_wp2
  go_ret
  exact ⟨rfl, bs.below_box2 _ _ _⟩
set_option maxRecDepth 100000 in
set_option maxHeartbeats 4000000 in
theorem implAck (s : Int) (xs : List Nf) (lo hi : Nat) (A : Option Addr) (n c : Nat) (w : World) (h : RR rowNf w lo hi (.slice A n c) xs) :
    Calls Try.prog 21 #[.agg #[.int .i64 s, .slice A n c]] w (AkPost (ack ⟨s, xs⟩) w) := by
  have RW := Lib.hid h
  obtain ⟨hlR, hncR, hcmR⟩ := nf_len h
  have HL := Lib.hid hlR
  have LHR := Lib.hid (show hi ≤ w.heap.size from h.hi_)
  clear hlR h
  obtain ⟨v, hv⟩ : ∃ v, vr ⟨s, xs⟩ = v := ⟨_, rfl⟩
  have HV := Lib.hid hv
  clear hv
  go_enter Try.func21, Try.ntmps21
  go_wp2_with fail
  obtain ⟨w0, hW⟩ : ∃ w0, (w.alloc (.cells #[.int .i64 s, .slice A n c] 31)).alloc (.cells #[.int .i64 0, .int .i64 0] 42) = w0 := ⟨_, rfl⟩
  rw [hW]
  have B0 := Lib.hid (show Below w.heap.size w w0 by rw [← hW]; exact ((Below.refl _ _).alloc (by simp <;> omega) _).alloc (by simp <;> omega) _)
  have X0 := Lib.hid (show Bx 31 w0 (w.heap.size) #[.int .i64 s, .slice A n c] by
      rw [← hW]
      have hh := Bx.made 31 w #[.int .i64 s, .slice A n c]
      exact (hh.below (below_box _ _)))
  have Z0 := Lib.hid (show Bx 42 w0 (w.heap.size + 1) #[.int .i64 0, .int .i64 0] by
      rw [← hW]
      have hh : Bx 42 ((w.alloc (.cells #[.int .i64 s, .slice A n c] 31)).alloc (.cells #[.int .i64 0, .int .i64 0] 42)) (w.heap.size + 1) #[.int .i64 0, .int .i64 0] := by have hh := Bx.made 42 (w.alloc (.cells #[.int .i64 s, .slice A n c] 31)) #[.int .i64 0, .int .i64 0]; simpa using hh
      exact hh)
  have R0 := Lib.hid (show RR rowNf w0 lo hi (.slice A n c) xs by rw [← hW]; exact ((RW.out.below (below_box _ _)).below (below_box _ _)))
  clear hW
  have LTX := Lib.hid X0.out.lt
  have LTZ := Lib.hid Z0.out.lt
  go_wp2_with (refine stw.list_load rfl 31 _ rfl (w.heap.size) rfl 31 _ X0.out Try.underlying31 rfl ux.szRob ?_)
  (with_reducible refine (implVr s xs lo hi A n c _ R0.out).mono ?_)
  rintro e w1 hp
  obtain ⟨rfl, hb⟩ := b_parts HV.out hp
  clear hp
  have SS1 := Lib.hid hb.size
  have B1 := Lib.hid (B0.out.trans (hb.mono B0.out.size))
  have X1 := Lib.hid (X0.out.below hb)
  have Z1 := Lib.hid (Z0.out.below hb)
  have R1 := Lib.hid (R0.out.below hb)
  clear hb  B0 X0 Z0 R0
  cases v with
  | true =>
    have HNE := Lib.hid (near HV.out)
    have HBL := Lib.hid (bm_lt (fun f hf => by have h1 := HNE.out f hf; omega : ∀ f ∈ xs, (sqd s f.Seq).toNat < 16))
    have HE := Lib.hid (ack_yes HV.out)
    have cX0 : w1.cell? ⟨w.heap.size, 0, none⟩ = some (.int .i64 s) := X1.out.cell 0
    obtain ⟨b2, hbb⟩ : ∃ b, w1.heap.size = b := ⟨_, rfl⟩
    go_upto_region 4 with fail
    generalize hW : w1.alloc (.cells #[.int .i64 s, .int .i64 0] 42) = w2
    have LK := Lib.hid (show w.heap.size ≤ b2 ∧ w.heap.size < b2 ∧ w.heap.size + 1 < b2 ∧ hi ≤ b2 by have h1 := B1.out.size; have h2X := X1.out.lt; have h2Z := Z1.out.lt; have h2R := R1.out.hi_; have h3 := hbb; omega)
    have K2 := Lib.hid (show Bx 42 w2 b2 #[.int .i64 s, .int .i64 0] by rw [← hW, ← hbb]; exact Bx.made _ _ _)
    have hb : Below w1.heap.size w1 w2 := by rw [← hW]; exact below_box _ _
    (try rw [hbb])
    clear hW hbb
    have SS2 := Lib.hid hb.size
    have B2 := Lib.hid (B1.out.trans (hb.mono B1.out.size))
    have X2 := Lib.hid (X1.out.below hb)
    have Z2 := Lib.hid (Z1.out.below hb)
    have R2 := Lib.hid (R1.out.below hb)
    clear hb B1 X1 Z1 R1
    have LWK := Lib.hid K2.out.lt
    clear cX0
    have cX1 : w2.cell? ⟨w.heap.size, 1, none⟩ = some (.slice A n c) := X2.out.cell 1
    go_wp2_with fail
    clear cX1
    go_loopw [16] (fun v0 wr => ∃ (k : Nat) (m : Nat), v0 = .int .i64 (k : Int) ∧ (k ≤ n) ∧ (m = bm s (xs.take k)) ∧ Below w.heap.size w wr ∧ Bx 31 wr w.heap.size #[.int .i64 s, .slice A n c] ∧ Bx 42 wr (w.heap.size + 1) #[.int .i64 0, .int .i64 0] ∧ Bx 42 wr b2 #[.int .i64 s, .int .i64 (m : Int)] ∧ RR rowNf wr lo hi (.slice A n c) xs) (fun i _ => n - (intOf i).toNat)
    case atStart => exact ⟨0, 0, rfl, by omega, rfl, B2.out, X2.out, Z2.out, K2.out, R2.out⟩
    case round =>
      obtain ⟨k, m, rfl, ghk, ghm, gB3, gX3, gZ3, gK3, gR3⟩ := hrel
      have B3 := Lib.hid gB3
      have X3 := Lib.hid gX3
      have Z3 := Lib.hid gZ3
      have K3 := Lib.hid gK3
      have R3 := Lib.hid gR3
      have hk := Lib.hid ghk
      have hm := Lib.hid ghm
      clear gB3 gX3 gZ3 gK3 gR3 ghk ghm
      have LUX3 := Lib.hid X3.out.lt
      have LUZ3 := Lib.hid Z3.out.lt
      have LUK3 := Lib.hid K3.out.lt
      have SBR3 := Lib.hid B3.out.size
      have hk9 := hk.out
      have HM := Lib.hid (show m < 65536 by rw [hm.out]; exact HBL.out k)
      by_cases hlt : k < n
      · have hlt2 : (k : Int) < n := by omega
        obtain ⟨g, off, x, u, hA, hy, hg1, hg2, hru, hxu⟩ := ux.row_at (R3.out : RR (row 85 nf) _ _ _ _ _) hlt
        obtain ⟨A0, n0, c0_, rfl, hb0⟩ := ux.nf_r hxu
        subst hA
        have k0 : wr.cell? ⟨g, off + k * 2, none⟩ = some (.int .i64 x.Seq) := hru 0 _ rfl
        have k1 : wr.cell? ⟨g, off + k * 2 + 1, none⟩ = some (.slice A0 n0 c0_) := hru 1 _ rfl
        have HY := Lib.hid hy
        have HN0 := Lib.hid (ux.rd_of hb0).len
        have hn0 := (ux.rd_of hb0).cap_
        have F3 := Lib.hid hb0
        have HG := Lib.hid (show g < w.heap.size by have h7 := LHR.out; omega)
        clear hy hru hxu hb0 hg1 hg2
        obtain ⟨d, hd⟩ : ∃ d : Nat, sqd s x.Seq = d := ⟨(sqd s x.Seq).toNat, by have h1 := HNE.out x (List.mem_of_getElem? HY.out); omega⟩
        have HD := Lib.hid hd
        have HD16 := Lib.hid (show d < 16 by have h1 := HNE.out x (List.mem_of_getElem? HY.out); omega)
        have HST := Lib.hid (bm_step HY.out hd)
        clear hd
        obtain ⟨b4, hbb⟩ : ∃ b, wr.heap.size = b := ⟨_, rfl⟩
        go_upto_region 7 with fail
        generalize hW : wr.alloc (.cells #[.int .i64 x.Seq, .slice A0 n0 c0_] 85) = w4
        have LV := Lib.hid (show w.heap.size ≤ b4 ∧ w.heap.size < b4 ∧ w.heap.size + 1 < b4 ∧ b2 < b4 ∧ hi ≤ b4 ∧ hi ≤ b4 by have h1 := B3.out.size; have h2X := X3.out.lt; have h2Z := Z3.out.lt; have h2K := K3.out.lt; have h2R := R3.out.hi_; have h2F := F3.out.hi_; have h3 := hbb; omega)
        have V4 := Lib.hid (show Bx 85 w4 b4 #[.int .i64 x.Seq, .slice A0 n0 c0_] by rw [← hW, ← hbb]; exact Bx.made _ _ _)
        have hb : Below wr.heap.size wr w4 := by rw [← hW]; exact below_box _ _
        (try rw [hbb])
        clear hW hbb
        have SS4 := Lib.hid hb.size
        have B4 := Lib.hid (B3.out.trans (hb.mono B3.out.size))
        have X4 := Lib.hid (X3.out.below hb)
        have Z4 := Lib.hid (Z3.out.below hb)
        have K4 := Lib.hid (K3.out.below hb)
        have R4 := Lib.hid (R3.out.below hb)
        have F4 := Lib.hid (F3.out.below hb)
        clear hb B3 X3 Z3 K3 R3 F3
        have LWV := Lib.hid V4.out.lt
        clear k0 k1
        obtain ⟨p, hp⟩ : ∃ p, wrap64 (2 ^ d) = p := ⟨_, rfl⟩
        have hp2 : IntKind.i64.wrap (2 ^ d) = p := (wrap_pow _).trans hp
        obtain ⟨m2, hm2⟩ : ∃ x, m ||| 2 ^ d = x := ⟨_, rfl⟩
        have hor : bits .or .i64 (m : Int) p = (m2 : Int) := by rw [← hp, ← hm2]; exact bs.or_pow HM.out HD16.out
        have hk64 : (d : Int) ≤ 64 := by have := HD16.out; omega
        have HM2 := Lib.hid hm2
        clear hm2
        refine reg.region_tail reg.Bel 10 32 [some [], some [(0, 20)], some [], some [(2, 22)], some [], some [(4, 24)], some [(3, 23), (5, 25)], some [(6, 26)], some [(1, 21), (7, 27)], some [], none] [(0, 20), (1, 21), (2, 22), (3, 23), (4, 24), (5, 25), (6, 26), (7, 27), (8, 28), (9, 29)]
          (fun w' => Below w.heap.size w w' ∧ Bx 31 w' (w.heap.size) #[.int .i64 s, .slice (some ⟨g, off, none⟩) n c] ∧ Bx 42 w' (w.heap.size + 1) #[.int .i64 0, .int .i64 0] ∧ Bx 42 w' (b2) #[.int .i64 s, .int .i64 (m : Int)] ∧ Bx 85 w' (b4) #[.int .i64 x.Seq, .slice A0 n0 c0_] ∧ RR rowNf w' lo hi (.slice (some ⟨g, off, none⟩) n c) xs ∧ RR ux.bytes w' lo hi (.slice A0 n0 c0_) x.Body ∧ True)
          (reg.rl [reg.is (.pointer (some ⟨b2, 1, none⟩)), reg.is (.int .i64 (m : Int)), reg.is (.pointer (some ⟨w.heap.size, 0, none⟩)), reg.is (.int .i64 s), reg.is (.pointer (some ⟨b4, 0, none⟩)), reg.is (.int .i64 x.Seq), reg.is (.int .i64 (d : Int)), reg.is (.int .i64 p), reg.is (.int .i64 (m2 : Int)), reg.is (.pointer (some ⟨b2, 1, none⟩)), reg.free])
          (by kernel_rfl) rfl (by kernel_rfl) (by kernel_rfl) rfl
          (fun w1 w2 hc hb => ⟨hc.1.trans (hb.mono hc.1.size), hc.2.1.below hb, hc.2.2.1.below hb, hc.2.2.2.1.below hb, hc.2.2.2.2.1.below hb, hc.2.2.2.2.2.1.below hb, hc.2.2.2.2.2.2.1.below hb, trivial⟩) (reg.rl_keep _) (⟨own.below_drew B4.out, X4.out.same rfl, Z4.out.same rfl, K4.out.same rfl, V4.out.same rfl, R4.out.same (Nat.le_refl _) (fun _ _ _ => rfl), F4.out.same (Nat.le_refl _) (fun _ _ _ => rfl), trivial⟩) (by kernel_rfl) ⟨?_, ?_, ?_, ?_, ?_, ?_, ?_, ?_, ?_, ?_, trivial⟩ ?_
        · refine fun w8 hc  K hK => ?_
          (try simp only [Act.put, List.setIfInBounds_toArray, List.set_cons_zero, List.set_cons_succ])
          go_simp
          exact hK (.pointer (some ⟨b2, 1, none⟩)) _ rfl (Below.refl _ _)
        · refine fun w8 hc v0 h0 K hK => ?_
          obtain rfl : v0 = .pointer (some ⟨b2, 1, none⟩) := h0
          (try simp only [Act.put, List.setIfInBounds_toArray, List.set_cons_zero, List.set_cons_succ])
          have c0 : w8.cell? ⟨b2, 1, none⟩ = some (.int .i64 (m : Int)) := hc.2.2.2.1.cell 1
          go_simp
          exact hK (.int .i64 (m : Int)) _ rfl (Below.refl _ _)
        · refine fun w8 hc  K hK => ?_
          (try simp only [Act.put, List.setIfInBounds_toArray, List.set_cons_zero, List.set_cons_succ])
          go_simp
          exact hK (.pointer (some ⟨w.heap.size, 0, none⟩)) _ rfl (Below.refl _ _)
        · refine fun w8 hc v2 h2 K hK => ?_
          obtain rfl : v2 = .pointer (some ⟨w.heap.size, 0, none⟩) := h2
          (try simp only [Act.put, List.setIfInBounds_toArray, List.set_cons_zero, List.set_cons_succ])
          have c0 : w8.cell? ⟨w.heap.size, 0, none⟩ = some (.int .i64 s) := hc.2.1.cell 0
          go_simp
          exact hK (.int .i64 s) _ rfl (Below.refl _ _)
        · refine fun w8 hc  K hK => ?_
          (try simp only [Act.put, List.setIfInBounds_toArray, List.set_cons_zero, List.set_cons_succ])
          go_simp
          exact hK (.pointer (some ⟨b4, 0, none⟩)) _ rfl (Below.refl _ _)
        · refine fun w8 hc v4 h4 K hK => ?_
          obtain rfl : v4 = .pointer (some ⟨b4, 0, none⟩) := h4
          (try simp only [Act.put, List.setIfInBounds_toArray, List.set_cons_zero, List.set_cons_succ])
          have c0 : w8.cell? ⟨b4, 0, none⟩ = some (.int .i64 x.Seq) := hc.2.2.2.2.1.cell 0
          go_simp
          exact hK (.int .i64 x.Seq) _ rfl (Below.refl _ _)
        · refine fun w8 hc v3 h3 v5 h5 K hK => ?_
          obtain rfl : v3 = .int .i64 s := h3
          obtain rfl : v5 = .int .i64 x.Seq := h5
          (try simp only [Act.put, List.setIfInBounds_toArray, List.set_cons_zero, List.set_cons_succ])
          go_simp
          (with_reducible refine (bs.implSd s x.Seq _).mono ?_)
          rintro e w3 ⟨rfl, rfl⟩
          rw [HD.out]; exact hK _ _ rfl (Below.refl _ _)
        · refine fun w8 hc v6 h6 K hK => ?_
          obtain rfl : v6 = .int .i64 (d : Int) := h6
          (try simp only [Act.put, List.setIfInBounds_toArray, List.set_cons_zero, List.set_cons_succ])
          go_simp
          (try simp only [hp, hp2])
          exact hK (.int .i64 p) _ rfl (Below.refl _ _)
        · refine fun w8 hc v1 h1 v7 h7 K hK => ?_
          obtain rfl : v1 = .int .i64 (m : Int) := h1
          obtain rfl : v7 = .int .i64 p := h7
          (try simp only [Act.put, List.setIfInBounds_toArray, List.set_cons_zero, List.set_cons_succ])
          go_simp
          (try simp only [hor])
          exact hK (.int .i64 (m2 : Int)) _ rfl (Below.refl _ _)
        · refine fun w8 hc  K hK => ?_
          (try simp only [Act.put, List.setIfInBounds_toArray, List.set_cons_zero, List.set_cons_succ])
          go_simp
          exact hK (.pointer (some ⟨b2, 1, none⟩)) _ rfl (Below.refl _ _)
        refine fun wg5 hc v0 h0 v1 h1 v2 h2 v3 h3 v4 h4 v5 h5 v6 h6 v7 h7 v8 h8 v9 h9 => ?_
        obtain rfl : v0 = .pointer (some ⟨b2, 1, none⟩) := h0
        obtain rfl : v1 = .int .i64 (m : Int) := h1
        obtain rfl : v2 = .pointer (some ⟨w.heap.size, 0, none⟩) := h2
        obtain rfl : v3 = .int .i64 s := h3
        obtain rfl : v4 = .pointer (some ⟨b4, 0, none⟩) := h4
        obtain rfl : v5 = .int .i64 x.Seq := h5
        obtain rfl : v6 = .int .i64 (d : Int) := h6
        obtain rfl : v7 = .int .i64 p := h7
        obtain rfl : v8 = .int .i64 (m2 : Int) := h8
        obtain rfl : v9 = .pointer (some ⟨b2, 1, none⟩) := h9
        (try simp only [reg.Obs])
        (try simp only [Act.put, List.setIfInBounds_toArray, List.set_cons_zero, List.set_cons_succ])
        simp only [List.drop_succ_cons, List.drop_zero]
        have B5 := Lib.hid hc.1
        have X5 := Lib.hid hc.2.1
        have Z5 := Lib.hid hc.2.2.1
        have K5 := Lib.hid hc.2.2.2.1
        have V5 := Lib.hid hc.2.2.2.2.1
        have R5 := Lib.hid hc.2.2.2.2.2.1
        have F5 := Lib.hid hc.2.2.2.2.2.2.1
        clear hc B4 X4 Z4 K4 V4 R4 F4
        have cK1 : wg5.cell? ⟨b2, 1, none⟩ = some (.int .i64 (m : Int)) := K5.out.cell 1
        have fK1 : wg5.frozen? ⟨b2, 1, none⟩ = false := K5.out.free 1
        go_wp2_with fail
        clear cK1 fK1
        have hWW : (wg5.setCell ⟨b2, 1, none⟩ (.int .i64 (m2 : Int))) = (wg5.setCell ⟨b2, 1, none⟩ (.int .i64 (m2 : Int))) := rfl
        obtain ⟨w6, hW⟩ : ∃ wy, (wg5.setCell ⟨b2, 1, none⟩ (.int .i64 (m2 : Int))) = wy := ⟨_, rfl⟩
        rw [hW]
        clear hWW
        have B6 := Lib.hid (show Below w.heap.size w w6 by rw [← hW]; exact (B5.out.setCell (p := ⟨b2, 1, none⟩) (by have hlK := LK.out; have hlV := LV.out; have hs0 := LTX.out; have hs1 := LTZ.out; have hs2 := LHR.out; have hs3 := SS1.out; have hs4 := SS2.out; have hs5 := LWK.out; have hs6 := LUX3.out; have hs7 := LUZ3.out; have hs8 := LUK3.out; have hs9 := SBR3.out; have hs10 := SS4.out; have hs11 := LWV.out; first | omega | (simp <;> omega)) _))
        have X6 := Lib.hid (show Bx 31 w6 (w.heap.size) #[.int .i64 s, .slice (some ⟨g, off, none⟩) n c] by rw [← hW]; exact (X5.out.other (by have hlK := LK.out; have hlV := LV.out; have hs0 := LTX.out; have hs1 := LTZ.out; have hs2 := LHR.out; have hs3 := SS1.out; have hs4 := SS2.out; have hs5 := LWK.out; have hs6 := LUX3.out; have hs7 := LUZ3.out; have hs8 := LUK3.out; have hs9 := SBR3.out; have hs10 := SS4.out; have hs11 := LWV.out; first | omega | (simp <;> omega)) _ _))
        have Z6 := Lib.hid (show Bx 42 w6 (w.heap.size + 1) #[.int .i64 0, .int .i64 0] by rw [← hW]; exact (Z5.out.other (by have hlK := LK.out; have hlV := LV.out; have hs0 := LTX.out; have hs1 := LTZ.out; have hs2 := LHR.out; have hs3 := SS1.out; have hs4 := SS2.out; have hs5 := LWK.out; have hs6 := LUX3.out; have hs7 := LUZ3.out; have hs8 := LUK3.out; have hs9 := SBR3.out; have hs10 := SS4.out; have hs11 := LWV.out; first | omega | (simp <;> omega)) _ _))
        have K6 := Lib.hid (show Bx 42 w6 (b2) #[.int .i64 s, .int .i64 (m2 : Int)] by rw [← hW]; exact (K5.out.set 1 _))
        have V6 := Lib.hid (show Bx 85 w6 (b4) #[.int .i64 x.Seq, .slice A0 n0 c0_] by rw [← hW]; exact (V5.out.other (by have hlK := LK.out; have hlV := LV.out; have hs0 := LTX.out; have hs1 := LTZ.out; have hs2 := LHR.out; have hs3 := SS1.out; have hs4 := SS2.out; have hs5 := LWK.out; have hs6 := LUX3.out; have hs7 := LUZ3.out; have hs8 := LUK3.out; have hs9 := SBR3.out; have hs10 := SS4.out; have hs11 := LWV.out; first | omega | (simp <;> omega)) _ _))
        have R6 := Lib.hid (show RR rowNf w6 lo hi (.slice (some ⟨g, off, none⟩) n c) xs by rw [← hW]; exact (R5.out.same (by simp [World.setCell]) fun b h1 h2 => by rw [Below.heap_setCell _ _ _ _ (by have hlK := LK.out; have hlV := LV.out; have hs0 := LTX.out; have hs1 := LTZ.out; have hs2 := LHR.out; have hs3 := SS1.out; have hs4 := SS2.out; have hs5 := LWK.out; have hs6 := LUX3.out; have hs7 := LUZ3.out; have hs8 := LUK3.out; have hs9 := SBR3.out; have hs10 := SS4.out; have hs11 := LWV.out; first | omega | (simp <;> omega))]))
        have F6 := Lib.hid (show RR ux.bytes w6 lo hi (.slice A0 n0 c0_) x.Body by rw [← hW]; exact (F5.out.same (by simp [World.setCell]) fun b h1 h2 => by rw [Below.heap_setCell _ _ _ _ (by have hlK := LK.out; have hlV := LV.out; have hs0 := LTX.out; have hs1 := LTZ.out; have hs2 := LHR.out; have hs3 := SS1.out; have hs4 := SS2.out; have hs5 := LWK.out; have hs6 := LUX3.out; have hs7 := LUZ3.out; have hs8 := LUK3.out; have hs9 := SBR3.out; have hs10 := SS4.out; have hs11 := LWV.out; first | omega | (simp <;> omega))]))
        clear hW B5 X5 Z5 K5 V5 R5 F5
        go_roundw
        case rel => exact ⟨k + 1, m2, by go_num, by omega, by rw [HST.out, ← HM2.out, hm.out], B6.out, X6.out, Z6.out, K6.out, R6.out⟩
        case measure => simp [intOf]; omega
      · have hlt2 : ¬ (k : Int) < n := by omega
        obtain rfl : n = k := by omega
        have HF := Lib.hid (show xs.take n = xs from List.take_of_length_le (by rw [HL.out]; exact Nat.le_refl _))
        have HE2 := Lib.hid (show ack ⟨s, xs⟩ = (s, (m : Int)) by rw [HE.out, hm.out, HF.out])
        go_wp2_with (first | (refine stw.list_load rfl 42 _ rfl (b2) rfl 42 _ K3.out Try.underlying42 rfl bs.szA ?_) | (refine stw.list_store rfl 42 _ _ rfl (w.heap.size + 1) #[.int .i64 s, .int .i64 (m : Int)] rfl rfl 42 _ Z3.out rfl bs.szA (bs.oneA _ _) ?_; intro wz4 hz))
        have B4 := Lib.hid (hz.on B3.out (by have hlK := LK.out; have hs0 := LTX.out; have hs1 := LTZ.out; have hs2 := LHR.out; have hs3 := SS1.out; have hs4 := SS2.out; have hs5 := LWK.out; have hs6 := LUX3.out; have hs7 := LUZ3.out; have hs8 := LUK3.out; have hs9 := SBR3.out; first | omega | (simp <;> omega)))
        have X4 := Lib.hid (hz.keep X3.out (by have hlK := LK.out; have hs0 := LTX.out; have hs1 := LTZ.out; have hs2 := LHR.out; have hs3 := SS1.out; have hs4 := SS2.out; have hs5 := LWK.out; have hs6 := LUX3.out; have hs7 := LUZ3.out; have hs8 := LUK3.out; have hs9 := SBR3.out; first | omega | (simp <;> omega)))
        have Z4 := Lib.hid (hz.box)
        have K4 := Lib.hid (hz.keep K3.out (by have hlK := LK.out; have hs0 := LTX.out; have hs1 := LTZ.out; have hs2 := LHR.out; have hs3 := SS1.out; have hs4 := SS2.out; have hs5 := LWK.out; have hs6 := LUX3.out; have hs7 := LUZ3.out; have hs8 := LUK3.out; have hs9 := SBR3.out; first | omega | (simp <;> omega)))
        have R4 := Lib.hid (R3.out.same hz.below.size fun b h1 h2 => hz.other b (by have hlK := LK.out; have hs0 := LTX.out; have hs1 := LTZ.out; have hs2 := LHR.out; have hs3 := SS1.out; have hs4 := SS2.out; have hs5 := LWK.out; have hs6 := LUX3.out; have hs7 := LUZ3.out; have hs8 := LUK3.out; have hs9 := SBR3.out; first | omega | (simp <;> omega)))
        clear hz B3 X3 Z3 K3 R3
        (try simp only [Exit.inBlock, Exit.then])
        refine bodyPost_ret (v := .agg #[.int .i64 s, .int .i64 (m : Int)]) ?_ rfl ?_
        · rw [results_cell1 rfl]
          exact stw.back Z4.out Try.underlying42 rfl bs.szA
        · exact by rw [HE2.out]; exact ⟨rfl, B4.out⟩
  | false =>
    have HE := Lib.hid (ack_no HV.out)
    go_wp2_with (first | (refine stw.list_load rfl 31 _ rfl (w.heap.size) rfl 31 _ X1.out Try.underlying31 rfl ux.szRob ?_) | (refine stw.list_store rfl 42 _ _ rfl (w.heap.size + 1) #[.int .i64 0, .int .i64 0] rfl rfl 42 _ Z1.out rfl bs.szA (bs.oneA _ _) ?_; intro wz2 hz))
    have B2 := Lib.hid (hz.on B1.out (by have hs0 := LTX.out; have hs1 := LTZ.out; have hs2 := LHR.out; have hs3 := SS1.out; first | omega | (simp <;> omega)))
    have X2 := Lib.hid (hz.keep X1.out (by have hs0 := LTX.out; have hs1 := LTZ.out; have hs2 := LHR.out; have hs3 := SS1.out; first | omega | (simp <;> omega)))
    have Z2 := Lib.hid (hz.box)
    have R2 := Lib.hid (R1.out.same hz.below.size fun b h1 h2 => hz.other b (by have hs0 := LTX.out; have hs1 := LTZ.out; have hs2 := LHR.out; have hs3 := SS1.out; first | omega | (simp <;> omega)))
    clear hz B1 X1 Z1 R1
    (try simp only [Exit.inBlock, Exit.then])
    refine bodyPost_ret (v := .agg #[.int .i64 0, .int .i64 0]) ?_ rfl ?_
    · rw [results_cell1 rfl]
      exact stw.back Z2.out Try.underlying42 rfl bs.szA
    · exact by rw [HE.out]; exact ⟨rfl, B2.out⟩
set_option maxRecDepth 100000 in
set_option maxHeartbeats 4000000 in
theorem specAck (s : Int) (xs : List Nf) (lo hi : Nat) (A : Option Addr) (n c : Nat) (w : World) (h : RR rowNf w lo hi (.slice A n c) xs) :
    Calls Try.prog 45 #[.agg #[.int .i64 s, .slice A n c]] w (AkPost (ack ⟨s, xs⟩) w) := by
  have RW := Lib.hid h
  obtain ⟨hlR, hncR, hcmR⟩ := nf_len h
  have HL := Lib.hid hlR
  have LHR := Lib.hid (show hi ≤ w.heap.size from h.hi_)
  clear hlR h
  obtain ⟨v, hv⟩ : ∃ v, vr ⟨s, xs⟩ = v := ⟨_, rfl⟩
  have HV := Lib.hid hv
  clear hv
  go_enter Try.func45, Try.ntmps45
  go_wp2_with fail
  obtain ⟨w0, hW⟩ : ∃ w0, (w.alloc (.cells #[.int .i64 s, .slice A n c] 31)).alloc (.cells #[.int .i64 0, .int .i64 0] 42) = w0 := ⟨_, rfl⟩
  rw [hW]
  have B0 := Lib.hid (show Below w.heap.size w w0 by rw [← hW]; exact ((Below.refl _ _).alloc (by simp <;> omega) _).alloc (by simp <;> omega) _)
  have X0 := Lib.hid (show Bx 31 w0 (w.heap.size) #[.int .i64 s, .slice A n c] by
      rw [← hW]
      have hh := Bx.made 31 w #[.int .i64 s, .slice A n c]
      exact (hh.below (below_box _ _)))
  have Z0 := Lib.hid (show Bx 42 w0 (w.heap.size + 1) #[.int .i64 0, .int .i64 0] by
      rw [← hW]
      have hh : Bx 42 ((w.alloc (.cells #[.int .i64 s, .slice A n c] 31)).alloc (.cells #[.int .i64 0, .int .i64 0] 42)) (w.heap.size + 1) #[.int .i64 0, .int .i64 0] := by have hh := Bx.made 42 (w.alloc (.cells #[.int .i64 s, .slice A n c] 31)) #[.int .i64 0, .int .i64 0]; simpa using hh
      exact hh)
  have R0 := Lib.hid (show RR rowNf w0 lo hi (.slice A n c) xs by rw [← hW]; exact ((RW.out.below (below_box _ _)).below (below_box _ _)))
  clear hW
  have LTX := Lib.hid X0.out.lt
  have LTZ := Lib.hid Z0.out.lt
  go_wp2_with (refine stw.list_load rfl 31 _ rfl (w.heap.size) rfl 31 _ X0.out Try.underlying31 rfl ux.szRob ?_)
  (with_reducible refine (specVr s xs lo hi A n c _ R0.out).mono ?_)
  rintro e w1 hp
  obtain ⟨rfl, hb⟩ := b_parts HV.out hp
  clear hp
  have SS1 := Lib.hid hb.size
  have B1 := Lib.hid (B0.out.trans (hb.mono B0.out.size))
  have X1 := Lib.hid (X0.out.below hb)
  have Z1 := Lib.hid (Z0.out.below hb)
  have R1 := Lib.hid (R0.out.below hb)
  clear hb  B0 X0 Z0 R0
  cases v with
  | true =>
    have HNE := Lib.hid (near HV.out)
    have HBL := Lib.hid (bm_lt (fun f hf => by have h1 := HNE.out f hf; omega : ∀ f ∈ xs, (sqd s f.Seq).toNat < 16))
    have HE := Lib.hid (ack_yes HV.out)
    have cX0 : w1.cell? ⟨w.heap.size, 0, none⟩ = some (.int .i64 s) := X1.out.cell 0
    obtain ⟨b2, hbb⟩ : ∃ b, w1.heap.size = b := ⟨_, rfl⟩
    go_upto_region 4 with fail
    generalize hW : w1.alloc (.cells #[.int .i64 s, .int .i64 0] 42) = w2
    have LK := Lib.hid (show w.heap.size ≤ b2 ∧ w.heap.size < b2 ∧ w.heap.size + 1 < b2 ∧ hi ≤ b2 by have h1 := B1.out.size; have h2X := X1.out.lt; have h2Z := Z1.out.lt; have h2R := R1.out.hi_; have h3 := hbb; omega)
    have K2 := Lib.hid (show Bx 42 w2 b2 #[.int .i64 s, .int .i64 0] by rw [← hW, ← hbb]; exact Bx.made _ _ _)
    have hb : Below w1.heap.size w1 w2 := by rw [← hW]; exact below_box _ _
    (try rw [hbb])
    clear hW hbb
    have SS2 := Lib.hid hb.size
    have B2 := Lib.hid (B1.out.trans (hb.mono B1.out.size))
    have X2 := Lib.hid (X1.out.below hb)
    have Z2 := Lib.hid (Z1.out.below hb)
    have R2 := Lib.hid (R1.out.below hb)
    clear hb B1 X1 Z1 R1
    have LWK := Lib.hid K2.out.lt
    clear cX0
    go_wp2_with fail
    go_loopw [4] (fun v0 wr => ∃ (k : Nat) (m : Nat), v0 = .int .i64 (k : Int) ∧ (k ≤ n) ∧ (m = bm s (xs.take k)) ∧ Below w.heap.size w wr ∧ Bx 31 wr w.heap.size #[.int .i64 s, .slice A n c] ∧ Bx 42 wr (w.heap.size + 1) #[.int .i64 0, .int .i64 0] ∧ Bx 42 wr b2 #[.int .i64 s, .int .i64 (m : Int)] ∧ RR rowNf wr lo hi (.slice A n c) xs) (fun i _ => n - (intOf i).toNat)
    case atStart => exact ⟨0, 0, rfl, by omega, rfl, B2.out, X2.out, Z2.out, K2.out, R2.out⟩
    case round =>
      obtain ⟨k, m, rfl, ghk, ghm, gB3, gX3, gZ3, gK3, gR3⟩ := hrel
      have B3 := Lib.hid gB3
      have X3 := Lib.hid gX3
      have Z3 := Lib.hid gZ3
      have K3 := Lib.hid gK3
      have R3 := Lib.hid gR3
      have hk := Lib.hid ghk
      have hm := Lib.hid ghm
      clear gB3 gX3 gZ3 gK3 gR3 ghk ghm
      have LUX3 := Lib.hid X3.out.lt
      have LUZ3 := Lib.hid Z3.out.lt
      have LUK3 := Lib.hid K3.out.lt
      have SBR3 := Lib.hid B3.out.size
      have hk9 := hk.out
      have HM := Lib.hid (show m < 65536 by rw [hm.out]; exact HBL.out k)
      by_cases hlt : k < n
      · have hlt2 : (k : Int) < n := by omega
        obtain ⟨g, off, x, u, hA, hy, hg1, hg2, hru, hxu⟩ := ux.row_at (R3.out : RR (row 85 nf) _ _ _ _ _) hlt
        obtain ⟨A0, n0, c0_, rfl, hb0⟩ := ux.nf_r hxu
        subst hA
        have k0 : wr.cell? ⟨g, off + k * 2, none⟩ = some (.int .i64 x.Seq) := hru 0 _ rfl
        have k1 : wr.cell? ⟨g, off + k * 2 + 1, none⟩ = some (.slice A0 n0 c0_) := hru 1 _ rfl
        have HY := Lib.hid hy
        have HN0 := Lib.hid (ux.rd_of hb0).len
        have hn0 := (ux.rd_of hb0).cap_
        have F3 := Lib.hid hb0
        have HG := Lib.hid (show g < w.heap.size by have h7 := LHR.out; omega)
        clear hy hru hxu hb0 hg1 hg2
        obtain ⟨d, hd⟩ : ∃ d : Nat, sqd s x.Seq = d := ⟨(sqd s x.Seq).toNat, by have h1 := HNE.out x (List.mem_of_getElem? HY.out); omega⟩
        have HD := Lib.hid hd
        have HD16 := Lib.hid (show d < 16 by have h1 := HNE.out x (List.mem_of_getElem? HY.out); omega)
        have HST := Lib.hid (bm_step HY.out hd)
        clear hd
        have HK0 := Lib.hid ((B3.out.cell (show ((⟨g, off + k * 2, none⟩ : Addr)).block < w.heap.size from HG.out)).symm.trans k0)
        clear k0 k1
        have cX1 : wr.cell? ⟨w.heap.size, 1, none⟩ = some (.slice (some ⟨g, off, none⟩) n c) := X3.out.cell 1
        go_upto_region 7 with fail
        clear cX1
        obtain ⟨p, hp⟩ : ∃ p, wrap64 (2 ^ d) = p := ⟨_, rfl⟩
        have hp2 : IntKind.i64.wrap (2 ^ d) = p := (wrap_pow _).trans hp
        obtain ⟨m2, hm2⟩ : ∃ x, m ||| 2 ^ d = x := ⟨_, rfl⟩
        have hor : bits .or .i64 (m : Int) p = (m2 : Int) := by rw [← hp, ← hm2]; exact bs.or_pow HM.out HD16.out
        have hk64 : (d : Int) ≤ 64 := by have := HD16.out; omega
        have HM2 := Lib.hid hm2
        clear hm2
        refine reg.region_tail reg.Bel 14 34 [some [], some [(0, 19)], some [], some [(2, 21)], some [], some [(4, 23)], some [], some [(5, 24), (6, 25)], some [(7, 26)], some [(8, 27)], some [(3, 22), (9, 28)], some [(10, 29)], some [(1, 20), (11, 30)], some [], none] [(0, 19), (1, 20), (2, 21), (3, 22), (4, 23), (5, 24), (6, 25), (7, 26), (8, 27), (9, 28), (10, 29), (11, 30), (12, 31), (13, 32)]
          (fun w' => Below w.heap.size w w' ∧ Bx 31 w' (w.heap.size) #[.int .i64 s, .slice (some ⟨g, off, none⟩) n c] ∧ Bx 42 w' (w.heap.size + 1) #[.int .i64 0, .int .i64 0] ∧ Bx 42 w' (b2) #[.int .i64 s, .int .i64 (m : Int)] ∧ RR rowNf w' lo hi (.slice (some ⟨g, off, none⟩) n c) xs ∧ RR ux.bytes w' lo hi (.slice A0 n0 c0_) x.Body ∧ True)
          (reg.rl [reg.is (.pointer (some ⟨b2, 1, none⟩)), reg.is (.int .i64 (m : Int)), reg.is (.pointer (some ⟨w.heap.size, 0, none⟩)), reg.is (.int .i64 s), reg.is (.pointer (some ⟨w.heap.size, 1, none⟩)), reg.is (.slice (some ⟨g, off, none⟩) n c), reg.is (.int .i64 ((k : Int))), reg.is (.pointer (some ⟨g, off + k * 2, none⟩)), reg.is (.pointer (some ⟨g, off + k * 2, none⟩)), reg.is (.int .i64 x.Seq), reg.is (.int .i64 (d : Int)), reg.is (.int .i64 p), reg.is (.int .i64 (m2 : Int)), reg.is (.pointer (some ⟨b2, 1, none⟩)), reg.free])
          (by kernel_rfl) rfl (by kernel_rfl) (by kernel_rfl) rfl
          (fun w1 w2 hc hb => ⟨hc.1.trans (hb.mono hc.1.size), hc.2.1.below hb, hc.2.2.1.below hb, hc.2.2.2.1.below hb, hc.2.2.2.2.1.below hb, hc.2.2.2.2.2.1.below hb, trivial⟩) (reg.rl_keep _) (⟨own.below_drew B3.out, X3.out.same rfl, Z3.out.same rfl, K3.out.same rfl, R3.out.same (Nat.le_refl _) (fun _ _ _ => rfl), F3.out.same (Nat.le_refl _) (fun _ _ _ => rfl), trivial⟩) (by kernel_rfl) ⟨?_, ?_, ?_, ?_, ?_, ?_, ?_, ?_, ?_, ?_, ?_, ?_, ?_, ?_, trivial⟩ ?_
        · refine fun w8 hc  K hK => ?_
          (try simp only [Act.put, List.setIfInBounds_toArray, List.set_cons_zero, List.set_cons_succ])
          go_simp
          exact hK (.pointer (some ⟨b2, 1, none⟩)) _ rfl (Below.refl _ _)
        · refine fun w8 hc v0 h0 K hK => ?_
          obtain rfl : v0 = .pointer (some ⟨b2, 1, none⟩) := h0
          (try simp only [Act.put, List.setIfInBounds_toArray, List.set_cons_zero, List.set_cons_succ])
          have c0 : w8.cell? ⟨b2, 1, none⟩ = some (.int .i64 (m : Int)) := hc.2.2.2.1.cell 1
          go_simp
          exact hK (.int .i64 (m : Int)) _ rfl (Below.refl _ _)
        · refine fun w8 hc  K hK => ?_
          (try simp only [Act.put, List.setIfInBounds_toArray, List.set_cons_zero, List.set_cons_succ])
          go_simp
          exact hK (.pointer (some ⟨w.heap.size, 0, none⟩)) _ rfl (Below.refl _ _)
        · refine fun w8 hc v2 h2 K hK => ?_
          obtain rfl : v2 = .pointer (some ⟨w.heap.size, 0, none⟩) := h2
          (try simp only [Act.put, List.setIfInBounds_toArray, List.set_cons_zero, List.set_cons_succ])
          have c0 : w8.cell? ⟨w.heap.size, 0, none⟩ = some (.int .i64 s) := hc.2.1.cell 0
          go_simp
          exact hK (.int .i64 s) _ rfl (Below.refl _ _)
        · refine fun w8 hc  K hK => ?_
          (try simp only [Act.put, List.setIfInBounds_toArray, List.set_cons_zero, List.set_cons_succ])
          go_simp
          exact hK (.pointer (some ⟨w.heap.size, 1, none⟩)) _ rfl (Below.refl _ _)
        · refine fun w8 hc v4 h4 K hK => ?_
          obtain rfl : v4 = .pointer (some ⟨w.heap.size, 1, none⟩) := h4
          (try simp only [Act.put, List.setIfInBounds_toArray, List.set_cons_zero, List.set_cons_succ])
          have c0 : w8.cell? ⟨w.heap.size, 1, none⟩ = some (.slice (some ⟨g, off, none⟩) n c) := hc.2.1.cell 1
          go_simp
          exact hK (.slice (some ⟨g, off, none⟩) n c) _ rfl (Below.refl _ _)
        · refine fun w8 hc  K hK => ?_
          (try simp only [Act.put, List.setIfInBounds_toArray, List.set_cons_zero, List.set_cons_succ])
          go_simp
          exact hK (.int .i64 ((k : Int))) _ rfl (Below.refl _ _)
        · refine fun w8 hc v5 h5 v6 h6 K hK => ?_
          obtain rfl : v5 = .slice (some ⟨g, off, none⟩) n c := h5
          obtain rfl : v6 = .int .i64 ((k : Int)) := h6
          (try simp only [Act.put, List.setIfInBounds_toArray, List.set_cons_zero, List.set_cons_succ])
          go_simp
          exact hK (.pointer (some ⟨g, off + k * 2, none⟩)) _ rfl (Below.refl _ _)
        · refine fun w8 hc v7 h7 K hK => ?_
          obtain rfl : v7 = .pointer (some ⟨g, off + k * 2, none⟩) := h7
          (try simp only [Act.put, List.setIfInBounds_toArray, List.set_cons_zero, List.set_cons_succ])
          go_simp
          exact hK (.pointer (some ⟨g, off + k * 2, none⟩)) _ rfl (Below.refl _ _)
        · refine fun w8 hc v8 h8 K hK => ?_
          obtain rfl : v8 = .pointer (some ⟨g, off + k * 2, none⟩) := h8
          (try simp only [Act.put, List.setIfInBounds_toArray, List.set_cons_zero, List.set_cons_succ])
          have c0 : w8.cell? ⟨g, off + k * 2, none⟩ = some (.int .i64 x.Seq) := (hc.1.cell (show ((⟨g, off + k * 2, none⟩ : Addr)).block < w.heap.size from HG.out)).trans HK0.out
          go_simp
          exact hK (.int .i64 x.Seq) _ rfl (Below.refl _ _)
        · refine fun w8 hc v3 h3 v9 h9 K hK => ?_
          obtain rfl : v3 = .int .i64 s := h3
          obtain rfl : v9 = .int .i64 x.Seq := h9
          (try simp only [Act.put, List.setIfInBounds_toArray, List.set_cons_zero, List.set_cons_succ])
          go_simp
          (with_reducible refine (bs.specSd s x.Seq _).mono ?_)
          rintro e w3 ⟨rfl, rfl⟩
          rw [HD.out]; exact hK _ _ rfl (Below.refl _ _)
        · refine fun w8 hc v10 h10 K hK => ?_
          obtain rfl : v10 = .int .i64 (d : Int) := h10
          (try simp only [Act.put, List.setIfInBounds_toArray, List.set_cons_zero, List.set_cons_succ])
          go_simp
          (try simp only [hp, hp2])
          exact hK (.int .i64 p) _ rfl (Below.refl _ _)
        · refine fun w8 hc v1 h1 v11 h11 K hK => ?_
          obtain rfl : v1 = .int .i64 (m : Int) := h1
          obtain rfl : v11 = .int .i64 p := h11
          (try simp only [Act.put, List.setIfInBounds_toArray, List.set_cons_zero, List.set_cons_succ])
          go_simp
          (try simp only [hor])
          exact hK (.int .i64 (m2 : Int)) _ rfl (Below.refl _ _)
        · refine fun w8 hc  K hK => ?_
          (try simp only [Act.put, List.setIfInBounds_toArray, List.set_cons_zero, List.set_cons_succ])
          go_simp
          exact hK (.pointer (some ⟨b2, 1, none⟩)) _ rfl (Below.refl _ _)
        refine fun wg4 hc v0 h0 v1 h1 v2 h2 v3 h3 v4 h4 v5 h5 v6 h6 v7 h7 v8 h8 v9 h9 v10 h10 v11 h11 v12 h12 v13 h13 => ?_
        obtain rfl : v0 = .pointer (some ⟨b2, 1, none⟩) := h0
        obtain rfl : v1 = .int .i64 (m : Int) := h1
        obtain rfl : v2 = .pointer (some ⟨w.heap.size, 0, none⟩) := h2
        obtain rfl : v3 = .int .i64 s := h3
        obtain rfl : v4 = .pointer (some ⟨w.heap.size, 1, none⟩) := h4
        obtain rfl : v5 = .slice (some ⟨g, off, none⟩) n c := h5
        obtain rfl : v6 = .int .i64 ((k : Int)) := h6
        obtain rfl : v7 = .pointer (some ⟨g, off + k * 2, none⟩) := h7
        obtain rfl : v8 = .pointer (some ⟨g, off + k * 2, none⟩) := h8
        obtain rfl : v9 = .int .i64 x.Seq := h9
        obtain rfl : v10 = .int .i64 (d : Int) := h10
        obtain rfl : v11 = .int .i64 p := h11
        obtain rfl : v12 = .int .i64 (m2 : Int) := h12
        obtain rfl : v13 = .pointer (some ⟨b2, 1, none⟩) := h13
        (try simp only [reg.Obs])
        (try simp only [Act.put, List.setIfInBounds_toArray, List.set_cons_zero, List.set_cons_succ])
        simp only [List.drop_succ_cons, List.drop_zero]
        have B4 := Lib.hid hc.1
        have X4 := Lib.hid hc.2.1
        have Z4 := Lib.hid hc.2.2.1
        have K4 := Lib.hid hc.2.2.2.1
        have R4 := Lib.hid hc.2.2.2.2.1
        have F4 := Lib.hid hc.2.2.2.2.2.1
        clear hc B3 X3 Z3 K3 R3 F3
        have cK1 : wg4.cell? ⟨b2, 1, none⟩ = some (.int .i64 (m : Int)) := K4.out.cell 1
        have fK1 : wg4.frozen? ⟨b2, 1, none⟩ = false := K4.out.free 1
        go_wp2_with fail
        clear cK1 fK1
        have hWW : (wg4.setCell ⟨b2, 1, none⟩ (.int .i64 (m2 : Int))) = (wg4.setCell ⟨b2, 1, none⟩ (.int .i64 (m2 : Int))) := rfl
        obtain ⟨w5, hW⟩ : ∃ wy, (wg4.setCell ⟨b2, 1, none⟩ (.int .i64 (m2 : Int))) = wy := ⟨_, rfl⟩
        rw [hW]
        clear hWW
        have B5 := Lib.hid (show Below w.heap.size w w5 by rw [← hW]; exact (B4.out.setCell (p := ⟨b2, 1, none⟩) (by have hlK := LK.out; have hs0 := LTX.out; have hs1 := LTZ.out; have hs2 := LHR.out; have hs3 := SS1.out; have hs4 := SS2.out; have hs5 := LWK.out; have hs6 := LUX3.out; have hs7 := LUZ3.out; have hs8 := LUK3.out; have hs9 := SBR3.out; first | omega | (simp <;> omega)) _))
        have X5 := Lib.hid (show Bx 31 w5 (w.heap.size) #[.int .i64 s, .slice (some ⟨g, off, none⟩) n c] by rw [← hW]; exact (X4.out.other (by have hlK := LK.out; have hs0 := LTX.out; have hs1 := LTZ.out; have hs2 := LHR.out; have hs3 := SS1.out; have hs4 := SS2.out; have hs5 := LWK.out; have hs6 := LUX3.out; have hs7 := LUZ3.out; have hs8 := LUK3.out; have hs9 := SBR3.out; first | omega | (simp <;> omega)) _ _))
        have Z5 := Lib.hid (show Bx 42 w5 (w.heap.size + 1) #[.int .i64 0, .int .i64 0] by rw [← hW]; exact (Z4.out.other (by have hlK := LK.out; have hs0 := LTX.out; have hs1 := LTZ.out; have hs2 := LHR.out; have hs3 := SS1.out; have hs4 := SS2.out; have hs5 := LWK.out; have hs6 := LUX3.out; have hs7 := LUZ3.out; have hs8 := LUK3.out; have hs9 := SBR3.out; first | omega | (simp <;> omega)) _ _))
        have K5 := Lib.hid (show Bx 42 w5 (b2) #[.int .i64 s, .int .i64 (m2 : Int)] by rw [← hW]; exact (K4.out.set 1 _))
        have R5 := Lib.hid (show RR rowNf w5 lo hi (.slice (some ⟨g, off, none⟩) n c) xs by rw [← hW]; exact (R4.out.same (by simp [World.setCell]) fun b h1 h2 => by rw [Below.heap_setCell _ _ _ _ (by have hlK := LK.out; have hs0 := LTX.out; have hs1 := LTZ.out; have hs2 := LHR.out; have hs3 := SS1.out; have hs4 := SS2.out; have hs5 := LWK.out; have hs6 := LUX3.out; have hs7 := LUZ3.out; have hs8 := LUK3.out; have hs9 := SBR3.out; first | omega | (simp <;> omega))]))
        have F5 := Lib.hid (show RR ux.bytes w5 lo hi (.slice A0 n0 c0_) x.Body by rw [← hW]; exact (F4.out.same (by simp [World.setCell]) fun b h1 h2 => by rw [Below.heap_setCell _ _ _ _ (by have hlK := LK.out; have hs0 := LTX.out; have hs1 := LTZ.out; have hs2 := LHR.out; have hs3 := SS1.out; have hs4 := SS2.out; have hs5 := LWK.out; have hs6 := LUX3.out; have hs7 := LUZ3.out; have hs8 := LUK3.out; have hs9 := SBR3.out; first | omega | (simp <;> omega))]))
        clear hW B4 X4 Z4 K4 R4 F4
        go_roundw
        case rel => exact ⟨k + 1, m2, by go_num, by omega, by rw [HST.out, ← HM2.out, hm.out], B5.out, X5.out, Z5.out, K5.out, R5.out⟩
        case measure => simp [intOf]; omega
      · have hlt2 : ¬ (k : Int) < n := by omega
        obtain rfl : n = k := by omega
        have HF := Lib.hid (show xs.take n = xs from List.take_of_length_le (by rw [HL.out]; exact Nat.le_refl _))
        have HE2 := Lib.hid (show ack ⟨s, xs⟩ = (s, (m : Int)) by rw [HE.out, hm.out, HF.out])
        have cX1 : wr.cell? ⟨w.heap.size, 1, none⟩ = some (.slice A n c) := X3.out.cell 1
        go_wp2_with (first | (refine stw.list_load rfl 42 _ rfl (b2) rfl 42 _ K3.out Try.underlying42 rfl bs.szA ?_) | (refine stw.list_store rfl 42 _ _ rfl (w.heap.size + 1) #[.int .i64 s, .int .i64 (m : Int)] rfl rfl 42 _ Z3.out rfl bs.szA (bs.oneA _ _) ?_; intro wz4 hz))
        clear cX1
        have B4 := Lib.hid (hz.on B3.out (by have hlK := LK.out; have hs0 := LTX.out; have hs1 := LTZ.out; have hs2 := LHR.out; have hs3 := SS1.out; have hs4 := SS2.out; have hs5 := LWK.out; have hs6 := LUX3.out; have hs7 := LUZ3.out; have hs8 := LUK3.out; have hs9 := SBR3.out; first | omega | (simp <;> omega)))
        have X4 := Lib.hid (hz.keep X3.out (by have hlK := LK.out; have hs0 := LTX.out; have hs1 := LTZ.out; have hs2 := LHR.out; have hs3 := SS1.out; have hs4 := SS2.out; have hs5 := LWK.out; have hs6 := LUX3.out; have hs7 := LUZ3.out; have hs8 := LUK3.out; have hs9 := SBR3.out; first | omega | (simp <;> omega)))
        have Z4 := Lib.hid (hz.box)
        have K4 := Lib.hid (hz.keep K3.out (by have hlK := LK.out; have hs0 := LTX.out; have hs1 := LTZ.out; have hs2 := LHR.out; have hs3 := SS1.out; have hs4 := SS2.out; have hs5 := LWK.out; have hs6 := LUX3.out; have hs7 := LUZ3.out; have hs8 := LUK3.out; have hs9 := SBR3.out; first | omega | (simp <;> omega)))
        have R4 := Lib.hid (R3.out.same hz.below.size fun b h1 h2 => hz.other b (by have hlK := LK.out; have hs0 := LTX.out; have hs1 := LTZ.out; have hs2 := LHR.out; have hs3 := SS1.out; have hs4 := SS2.out; have hs5 := LWK.out; have hs6 := LUX3.out; have hs7 := LUZ3.out; have hs8 := LUK3.out; have hs9 := SBR3.out; first | omega | (simp <;> omega)))
        clear hz B3 X3 Z3 K3 R3
        (try simp only [Exit.inBlock, Exit.then])
        refine bodyPost_ret (v := .agg #[.int .i64 s, .int .i64 (m : Int)]) ?_ rfl ?_
        · rw [results_cell1 rfl]
          exact stw.back Z4.out Try.underlying42 rfl bs.szA
        · exact by rw [HE2.out]; exact ⟨rfl, B4.out⟩
  | false =>
    have HE := Lib.hid (ack_no HV.out)
    go_wp2_with (first | (refine stw.list_load rfl 31 _ rfl (w.heap.size) rfl 31 _ X1.out Try.underlying31 rfl ux.szRob ?_) | (refine stw.list_store rfl 42 _ _ rfl (w.heap.size + 1) #[.int .i64 0, .int .i64 0] rfl rfl 42 _ Z1.out rfl bs.szA (bs.oneA _ _) ?_; intro wz2 hz))
    have B2 := Lib.hid (hz.on B1.out (by have hs0 := LTX.out; have hs1 := LTZ.out; have hs2 := LHR.out; have hs3 := SS1.out; first | omega | (simp <;> omega)))
    have X2 := Lib.hid (hz.keep X1.out (by have hs0 := LTX.out; have hs1 := LTZ.out; have hs2 := LHR.out; have hs3 := SS1.out; first | omega | (simp <;> omega)))
    have Z2 := Lib.hid (hz.box)
    have R2 := Lib.hid (R1.out.same hz.below.size fun b h1 h2 => hz.other b (by have hs0 := LTX.out; have hs1 := LTZ.out; have hs2 := LHR.out; have hs3 := SS1.out; first | omega | (simp <;> omega)))
    clear hz B1 X1 Z1 R1
    (try simp only [Exit.inBlock, Exit.then])
    refine bodyPost_ret (v := .agg #[.int .i64 0, .int .i64 0]) ?_ rfl ?_
    · rw [results_cell1 rfl]
      exact stw.back Z2.out Try.underlying42 rfl bs.szA
    · exact by rw [HE.out]; exact ⟨rfl, B2.out⟩
end Go.Proofs.Ytmmhleobgpgliaa.ro
end

section
namespace Go.Proofs.Ytmmhleobgpgliaa.bt
open ux (Nf Rob)
open bs (Bs V fr sqd nwr cvr rcv nxt outs setl ou)
open ro (Win St vr buf recv pend bods rdy runS advS kp put1 ack bm Ok)
set_option linter.unusedVariables false
set_option linter.unusedSimpArgs false
/-- Frame k was received. -/
def Rc (r : Rob) (p k : Nat) : Prop := k < p ∨ (p ≤ k ∧ ∃ b, (ro.start r).ws[k - p]? = some (some b))
structure J (f : Int) (q : Bs) (r : Rob) (A sent p : Nat) : Prop where
  hf : 0 ≤ f ∧ f ≤ 4095
  le : sent ≤ 20
  hA : A ≤ p ∧ p ≤ sent ∧ sent ≤ A + 16
  hV : ∃ m, V q (sent - A) m ∧ ∀ i, i < sent - A → m.testBit i = true → Rc r p (A + i)
  hq : q.st = fr f A
  hr : vr r = true
  hs : r.Start = fr f p
  hb : ∀ i b, (ro.start r).ws[i]? = some (some b) → b = [((p + i : Nat) : Int)] ∧ p + i < sent
theorem fr_sqd {f : Int} (hf : 0 ≤ f ∧ f ≤ 4095) (a b : Nat) (h : a ≤ b) (hb : b ≤ a + 16) : sqd (fr f a) (fr f b) = ((b - a : Nat) : Int) := by
  rw [bs.sqd_in (bs.fr_rng _ _) (bs.fr_rng _ _)]; unfold fr; omega
theorem fr_sqd' {f : Int} (hf : 0 ≤ f ∧ f ≤ 4095) (a b : Nat) (h : b < a) (hb : a ≤ b + 16) : 4080 ≤ sqd (fr f a) (fr f b) := by
  rw [bs.sqd_in (bs.fr_rng _ _) (bs.fr_rng _ _)]; unfold fr; omega
theorem start_new (n : Int) : (ro.start (ro.new n)).ws = List.replicate 16 none := by unfold ro.new; split <;> rfl
theorem J_start {f : Int} (hf : 0 ≤ f ∧ f ≤ 4095) : J f (bs.new f) (ro.new f) 0 0 0 := by
  refine ⟨hf, by omega, by omega, ⟨0, ⟨?_, ?_, by omega, ?_, by simp, rfl⟩, fun i hi => by omega⟩, ?_, ?_, ?_, fun i b h => ?_⟩
  · unfold bs.new; rw [if_pos hf]; exact hf
  · unfold bs.new; rw [if_pos hf]; dsimp only; omega
  · unfold bs.new; rw [if_pos hf]; rfl
  · unfold bs.new; rw [if_pos hf]; unfold fr; dsimp only; omega
  · unfold ro.new; rw [if_pos hf]; unfold vr ro.okp; simp; exact hf
  · unfold ro.new; rw [if_pos hf]; unfold fr; dsimp only; omega
  · rw [start_new, List.getElem?_replicate] at h
    split at h <;> simp at h
section
variable {f : Int} {q : Bs} {r : Rob} {A sent p : Nat}
theorem J.vs (h : J f q r A sent p) : bs.vs q = true := by obtain ⟨m, hV, _⟩ := h.hV; exact hV.vs
/-- One frame more is sent, unless the window is full. -/
theorem J.send (h : J f q r A sent p) (hl : sent < 20) : (nxt q).2.2 = true ∧ sent + 1 ≤ A + 16 ∧ J f (nxt q).1 r A (sent + 1) p ∨ (nxt q).2.2 = false ∧ sent = A + 16 := by
  obtain ⟨m, hV, hm⟩ := h.hV
  have hA := h.hA
  have hsq := hV.sq
  unfold nxt
  by_cases hw : sent - A < 16
  · left
    have hmay : bs.may q = true := by
      unfold bs.may bs.ful
      rw [hV.vs, hsq]
      simp; omega
    rw [if_pos hmay]
    obtain ⟨h1, h2⟩ := hV.sent hw
    refine ⟨rfl, by omega, h.hf, by omega, by omega, ⟨m, by rw [show sent + 1 - A = sent - A + 1 by omega]; exact h1, fun i hi hb => ?_⟩, h.hq, h.hr, h.hs, fun i b hi => ⟨(h.hb i b hi).1, by have := (h.hb i b hi).2; omega⟩⟩
    rcases Nat.lt_or_ge i (sent - A) with h3 | h3
    · exact hm i h3 hb
    · have h4 := Nat.testBit_lt_two_pow (Nat.lt_of_lt_of_le hV.hb (Nat.pow_le_pow_right (by omega) h3))
      rw [h4] at hb; cases hb
  · right
    have hw2 := hV.hw
    have hmay : bs.may q = false := by
      unfold bs.may bs.ful
      rw [hsq]
      simp; omega
    rw [if_neg (by simp [hmay])]
    exact ⟨rfl, by omega⟩
/-- An outstanding number. -/
theorem J.out (h : J f q r A sent p) {y : Int} (hy : y ∈ outs q) : ∃ k : Nat, A ≤ k ∧ k < sent ∧ y = fr f k ∧ (y - f) % 4096 = (k : Int) := by
  obtain ⟨m, hV, hm⟩ := h.hV
  rw [hV.outs, List.mem_map] at hy
  obtain ⟨i, hi, rfl⟩ := hy
  have h1 := (bs.mem_ou.1 hi).1
  have h2 := h.hf; have h3 := h.le
  refine ⟨A + i, by omega, by omega, ?_, ?_⟩
  · rw [h.hq]; unfold fr; omega
  · rw [h.hq]; unfold fr; omega
theorem bods_range {ws : Win} {g : Nat → List Int} : ∀ n, (∀ i, i < n → ws[i]? = some (some (g i))) → bods (ws.take n) = (List.range n).map g
  | 0, _ => by simp [bods]
  | n + 1, h => by rw [ro.bods_snoc_some (h n (by omega)), bods_range n (fun i hi => h i (by omega)), List.range_succ, List.map_append]; rfl
def one (p i : Nat) : List Int := [((p + i : Nat) : Int)]
/-- An outstanding frame arrives. -/
theorem J.arr (h : J f q r A sent p) {k : Nat} (h1 : A ≤ k) (h2 : k < sent) :
    ∃ n, J f q (recv r (fr f k) [(k : Int)]).1 A sent (p + n) ∧ (recv r (fr f k) [(k : Int)]).2 = (List.range n).map (one p) ∧ Rc (recv r (fr f k) [(k : Int)]).1 (p + n) k ∧ ∀ j, Rc r p j → Rc (recv r (fr f k) [(k : Int)]).1 (p + n) j := by
  have hA := h.hA; have hle := h.le
  obtain ⟨hok, hpe⟩ := ro.vr_ok h.hr
  have hsr := h.hs
  rcases Nat.lt_or_ge k p with hk | hk
  · have hsq := fr_sqd' h.hf p k hk (by omega)
    have hno : recv r (fr f k) [(k : Int)] = (r, []) := by
      refine ro.rd_no ?_
      unfold ro.may
      rw [hsr, decide_eq_false (by omega)]
      simp
    rw [hno]
    exact ⟨0, h, rfl, .inl hk, fun j hj => hj⟩
  · obtain ⟨d, rfl⟩ : ∃ d, k = p + d := ⟨k - p, by omega⟩
    have hsq := fr_sqd h.hf p (p + d) (by omega) (by omega)
    rw [Nat.add_sub_cancel_left] at hsq
    have hmay : (ro.may r (fr f (p + d)) && decide ([((p + d : Nat) : Int)].length ≤ 100)) = true := by
      unfold ro.may
      rw [h.hr, hsr, hsq, decide_eq_true (show (0 : Int) ≤ ((d : Nat) : Int) ∧ ((d : Nat) : Int) ≤ 2047 by omega)]
      rfl
    have hws : ro.start r = ⟨r.Start, (ro.start r).ws, []⟩ := rfl
    obtain ⟨ws, hw⟩ : ∃ ws, (ro.start r).ws = ws := ⟨_, rfl⟩
    have hb := h.hb
    rw [hw] at hws hok hpe hb
    have hput : put1 (ro.start r) d [((p + d : Nat) : Int)] = ⟨r.Start, kp ws d [((p + d : Nat) : Int)], []⟩ := by
      unfold put1
      rw [show d - 15 = 0 by omega, hws, ro.adv_zero (t := ⟨r.Start, ws, []⟩) hok.s]; rfl
    have hrec : recv r (fr f (p + d)) [((p + d : Nat) : Int)] = (buf (runS ⟨r.Start, kp ws d [((p + d : Nat) : Int)], []⟩), (runS ⟨r.Start, kp ws d [((p + d : Nat) : Int)], []⟩).out) := by
      rw [ro.rd_yes hmay, hsr, hsq, Int.toNat_natCast, hput, hsr]
    obtain ⟨tw, htw⟩ : ∃ tw, kp ws d [((p + d : Nat) : Int)] = tw := ⟨_, rfl⟩
    have hd16 : d < ws.length := by rw [hok.len]; omega
    have hel : ∀ i b, tw[i]? = some (some b) → b = one p i ∧ p + i < sent := fun i b hi => by
      rw [← htw] at hi
      by_cases hid : d = i
      · subst hid
        by_cases hn : ws[d]? = some none
        · rw [ro.kp_yes hn, List.getElem?_set_self hd16] at hi
          exact ⟨(Option.some.inj (Option.some.inj hi)).symm, h2⟩
        · rw [ro.kp_no hn] at hi; exact hb d b hi
      · rw [ro.kp_other hid] at hi; exact hb i b hi
    have hold : ∀ i b, ws[i]? = some (some b) → tw[i]? = some (some b) := fun i b hi => by
      rw [← htw]
      by_cases hid : d = i
      · subst hid; rw [ro.kp_no (by rw [hi]; simp)]; exact hi
      · rw [ro.kp_other hid]; exact hi
    have hnew : ∃ c, tw[d]? = some (some c) := by rw [← htw]; exact ro.kp_at hd16
    have hlen : tw.length = 16 := by rw [← htw, ro.kp_len]; exact hok.len
    rw [htw] at hrec
    obtain ⟨n, hn⟩ : ∃ n, rdy tw = n := ⟨_, rfl⟩
    have hnr : ∀ i, i < n → tw[i]? = some (some (one p i)) := fun i hi => by
      obtain ⟨b, hb9⟩ := ro.rdy_at (a := tw) (j := i) (by omega)
      rw [hb9, (hel i b hb9).1]
    have hn16 : n ≤ 16 := by rw [← hn, ← hlen]; exact ro.rdy_le tw
    have hS : (runS ⟨r.Start, tw, []⟩).s = fr f (p + n) := by
      show (r.Start + (rdy tw : Int)) % 4096 = _
      rw [hn, hsr]; unfold fr; omega
    have hW : (runS ⟨r.Start, tw, []⟩).ws = tw.drop n ++ List.replicate (min n tw.length) none := by
      show tw.drop (rdy tw) ++ List.replicate (min (rdy tw) tw.length) none = _
      rw [hn]
    have hO : (runS ⟨r.Start, tw, []⟩).out = (List.range n).map (one p) := by
      show [] ++ bods (tw.take (rdy tw)) = _
      rw [hn, List.nil_append, bods_range n hnr]
    have hmem : ∀ x, some x ∈ tw → x.length ≤ 100 := fun x hx => by
      obtain ⟨i, hi⟩ := List.getElem?_of_mem hx
      rw [(hel i x hi).1]; simp [one]
    have hok2 := ro.run_ok (t := ⟨r.Start, tw, []⟩) hok.s hlen hmem
    obtain ⟨hv2, hw2⟩ := ro.ok_vr hok2
    have hbuf : buf (runS ⟨r.Start, tw, []⟩) = ⟨(runS ⟨r.Start, tw, []⟩).s, pend (runS ⟨r.Start, tw, []⟩).s (runS ⟨r.Start, tw, []⟩).ws⟩ := rfl
    rw [← hbuf] at hv2 hw2
    rw [hrec]
    have hat : ∀ i, n + i < 16 → (ro.start (buf (runS ⟨r.Start, tw, []⟩))).ws[i]? = tw[n + i]? := fun i hi => by
      rw [hw2, hW, List.getElem?_append_left (by rw [List.length_drop]; omega), List.getElem?_drop]
    have hrc : ∀ i, (∃ c, tw[i]? = some (some c)) → Rc (buf (runS ⟨r.Start, tw, []⟩)) (p + n) (p + i) := fun i ⟨c, hc⟩ => by
      have hi16 : i < 16 := by rw [← hlen]; exact (List.getElem?_eq_some_iff.1 hc).1
      rcases Nat.lt_or_ge i n with h9 | h9
      · exact .inl (by omega)
      · refine .inr ⟨by omega, c, ?_⟩
        rw [hat _ (by omega), show n + (p + i - (p + n)) = i by omega]; exact hc
    have hps : p + n ≤ sent := by
      rcases Nat.eq_zero_or_pos n with h0 | h0
      · omega
      · have := (hel (n - 1) _ (hnr (n - 1) (by omega))).2; omega
    have hmono : ∀ j, Rc r p j → Rc (buf (runS ⟨r.Start, tw, []⟩)) (p + n) j := fun j hj => by
      rcases hj with hj | ⟨hj, b, hj2⟩
      · exact .inl (by omega)
      · rw [hw] at hj2
        have := hrc (j - p) ⟨b, hold _ _ hj2⟩
        rwa [show p + (j - p) = j by omega] at this
    refine ⟨n, ⟨h.hf, hle, by omega, ?_, h.hq, hv2, hS, fun i b hi => ?_⟩, hO, hrc d hnew, hmono⟩
    · obtain ⟨m, hV, hm⟩ := h.hV
      exact ⟨m, hV, fun i hi hbi => hmono _ (hm i hi hbi)⟩
    · rw [hw2, hW] at hi
      rcases Nat.lt_or_ge (n + i) 16 with h9 | h9
      · rw [List.getElem?_append_left (by rw [List.length_drop]; omega), List.getElem?_drop] at hi
        obtain ⟨e1, e2⟩ := hel _ _ hi
        refine ⟨by rw [e1]; unfold one; rw [Nat.add_assoc], by omega⟩
      · rw [List.getElem?_append_right (by rw [List.length_drop]; omega), List.getElem?_replicate] at hi
        split at hi <;> simp at hi
/-- The bit of a frame that is kept. -/
theorem bm_at (hr : vr r = true) {i : Nat} (hi : i < 16) : (bm r.Start r.Pending).testBit i = true ↔ ∃ b, (ro.start r).ws[i]? = some (some b) := by
  have h1 := ro.vr_ok hr
  constructor
  · intro h
    have hil : i < (ro.start r).ws.length := by rw [h1.1.len]; exact hi
    match hx : (ro.start r).ws[i]? with
    | none => rw [List.getElem?_eq_none_iff] at hx; omega
    | some none => rw [ro.bm_bit hr hi hx] at h; cases h
    | some (some b) => exact ⟨b, rfl⟩
  · intro ⟨b, hb⟩
    unfold bm
    rw [ro.bits_of, Nat.zero_testBit, Bool.false_or]
    have hil : i < (ro.start r).ws.length := by rw [h1.1.len]; exact hi
    have e1 : (ro.start r).ws = (ro.start r).ws.take i ++ some b :: (ro.start r).ws.drop (i + 1) := by
      conv => lhs; rw [← List.take_append_drop i (ro.start r).ws, List.drop_eq_getElem_cons hil]
      rw [List.getElem?_eq_getElem hil] at hb
      rw [Option.some.inj hb]
    have hm : (⟨(r.Start + (i : Int)) % 4096, b⟩ : Nf) ∈ r.Pending := by
      rw [← h1.2, e1, ro.pend_append, List.length_take, Nat.min_eq_left (by omega), pend]
      exact List.mem_append_right _ List.mem_cons_self
    refine List.any_eq_true.2 ⟨_, hm, ?_⟩
    have hsq := ro.sqd_at (s := r.Start) (i := i) h1.1.s (by omega)
    rw [show (⟨(r.Start + (i : Int)) % 4096, b⟩ : Nf).Seq = (r.Start + (i : Int)) % 4096 from rfl, hsq]
    simp
/-- What an acknowledgment covers was received. -/
theorem cvr_at (h : J f q r A sent p) {k : Nat} (h1 : A ≤ k) (h2 : k < sent) : cvr r.Start (bm r.Start r.Pending : Int) (fr f k) = true ↔ Rc r p k := by
  have hA := h.hA
  have hs := h.hs
  unfold cvr nwr
  rw [hs]
  rcases Nat.lt_or_ge k p with hk | hk
  · have e1 := fr_sqd h.hf k p (by omega) (by omega)
    rw [e1, decide_eq_true (show (1 : Int) ≤ ((p - k : Nat) : Int) ∧ ((p - k : Nat) : Int) ≤ 2047 by omega), Bool.true_or]
    exact ⟨fun _ => .inl hk, fun _ => rfl⟩
  · have e2 := fr_sqd h.hf p k hk (by omega)
    have e1 : decide (1 ≤ sqd (fr f k) (fr f p) ∧ sqd (fr f k) (fr f p) ≤ 2047) = false := by
      refine decide_eq_false ?_
      rcases Nat.eq_or_lt_of_le hk with h9 | h9
      · subst h9
        have := fr_sqd h.hf p p (by omega) (by omega)
        omega
      · have := fr_sqd' h.hf k p h9 (by omega)
        omega
    rw [e1, Bool.false_or, e2, decide_eq_true (show (0 : Int) ≤ ((k - p : Nat) : Int) ∧ ((k - p : Nat) : Int) ≤ 15 by omega), Bool.true_and, bs.bit_test _ (k - p) _ rfl, ← hs, bm_at h.hr (by omega)]
    exact ⟨fun hb => .inr ⟨hk, hb⟩, fun hb => hb.elim (fun h9 => absurd h9 (by omega)) fun h9 => h9.2⟩
theorem not_rc (h : J f q r A sent p) : ¬ Rc r p p := by
  intro hp
  have h0 := (ro.vr_ok h.hr).1.h0
  rcases hp with hp | ⟨_, b, hb⟩
  · omega
  · rw [Nat.sub_self, h0] at hb
    simp at hb
/-- An acknowledgment arrives. -/
theorem J.ackd (h : J f q r A sent p) : ∃ A', A ≤ A' ∧ J f (rcv q (ack r).1 (ack r).2) r A' sent p ∧ ((∀ y, y ∈ outs q → ∀ k : Nat, y = fr f k → k < sent → A ≤ k → Rc r p k) → A' = sent ∧ p = sent) := by
  have hA := h.hA; have hle := h.le; have hs := h.hs
  obtain ⟨m, hV, hm⟩ := h.hV
  have hack : ack r = (r.Start, (bm r.Start r.Pending : Int)) := by
    have := ro.ack_yes (s := r.Start) (xs := r.Pending) h.hr; exact this
  rw [hack]
  dsimp only
  have hnear := ro.near (s := r.Start) (xs := r.Pending) h.hr
  have hblt : bm r.Start r.Pending < 65536 := by
    have := ro.bm_lt (s := r.Start) (xs := r.Pending) (fun g hg => by have := (hnear g hg).1; omega) r.Pending.length
    rwa [List.take_length] at this
  have hmfa : (bs.vs q && bs.mfa q r.Start (bm r.Start r.Pending : Int)) = true := by
    unfold bs.mfa bs.va
    have hsr := bs.fr_rng f p
    have e : q.nx = fr f sent := by rw [hV.hn, h.hq]; unfold fr; omega
    have e2 := fr_sqd h.hf p sent (by omega) (by omega)
    rw [hV.vs, hs, e, e2, decide_eq_true hsr, decide_eq_true (show (0 : Int) ≤ ((bm (fr f p) r.Pending : Nat) : Int) ∧ ((bm (fr f p) r.Pending : Nat) : Int) ≤ 65535 by rw [hs] at hblt; omega), decide_eq_true (show (0 : Int) ≤ ((sent - p : Nat) : Int) ∧ ((sent - p : Nat) : Int) ≤ 2047 by omega)]
    rfl
  obtain ⟨cv, hcv⟩ : ∃ c, cvr r.Start (bm r.Start r.Pending : Int) = c := ⟨_, rfl⟩
  have hrcv : rcv q r.Start (bm r.Start r.Pending : Int) = bs.aft q (bs.mks q cv) := by unfold rcv; rw [if_pos hmfa, hcv]
  rw [hrcv]
  obtain ⟨M, hM⟩ : ∃ M, bs.mks q cv = M := ⟨_, rfl⟩
  have hMlt := bs.mks_lt hV cv
  have hMe := hV.mk' cv
  rw [hM] at hMlt hMe ⊢
  have hbit : ∀ i, i < sent - A → (M.testBit i = true → Rc r p (A + i)) ∧ (Rc r p (A + i) → m.testBit i = true ∨ M.testBit i = true) := fun i hi => by
    have e : M.testBit i = (m.testBit i || cv (fr q.st i)) := by
      rw [hMe, bs.setl_bit]; simp [hi]
    have e2 : fr q.st i = fr f (A + i) := by rw [h.hq]; unfold fr; omega
    have e3 := cvr_at h (k := A + i) (by omega) (by omega)
    rw [hcv, ← e2] at e3
    rw [e]
    constructor
    · intro h9
      rcases (by simpa using h9 : m.testBit i = true ∨ cv (fr q.st i) = true) with h8 | h8
      · exact hm i hi h8
      · exact e3.1 h8
    · intro h9
      right; rw [e3.2 h9, Bool.or_true]
  have hAf := hV.aft hMlt
  obtain ⟨t, v, m', ht, hVx, rfl, rfl, hst, hbt⟩ := hAf.ex
  have hAp : A + t ≤ p := by
    rcases Nat.lt_or_ge p (A + t) with h9 | h9
    · exact absurd ((hbit (p - A) (by omega)).1 (hbt (p - A) (by omega)) |> fun h8 => by rwa [show A + (p - A) = p by omega] at h8) (not_rc h)
    · exact h9
  refine ⟨A + t, by omega, ⟨h.hf, hle, by omega, ⟨_, by rw [show sent - (A + t) = sent - A - t by omega]; exact hVx, fun i hi hb => ?_⟩, by rw [hst, h.hq]; unfold fr; omega, h.hr, h.hs, h.hb⟩, fun hall => ?_⟩
  · rw [Nat.testBit_div_two_pow] at hb
    have h9 : M.testBit (t + i) = true := by rw [Nat.add_comm]; exact hb
    have := (hbit (t + i) (by omega)).1 h9
    rwa [← Nat.add_assoc] at this
  · have hrc : ∀ i, i < sent - A → M.testBit i = true := fun i hi => by
      have e : M.testBit i = (m.testBit i || cv (fr q.st i)) := by
        rw [hMe, bs.setl_bit]; simp [hi]
      cases hmb : m.testBit i with
      | true => rw [e, hmb]; rfl
      | false =>
        have h8 := hall (fr q.st i) (by rw [hV.outs]; exact List.mem_map.2 ⟨i, bs.mem_ou.2 ⟨hi, hmb⟩, rfl⟩) (A + i) (by rw [h.hq]; unfold fr; omega) (by omega) (by omega)
        rcases (hbit i hi).2 h8 with h7 | h7
        · rw [hmb] at h7; cases h7
        · exact h7
    have hou : bs.outs (bs.aft q M) = [] := by
      rw [hAf.o]
      have : ou M (sent - A) = [] := by
        unfold ou
        rw [List.filter_eq_nil_iff]
        intro i hi
        rw [hrc i (by simpa using hi)]; simp
      rw [this]; rfl
    have h7 := hVx.none hou
    have h6 : (bs.aft q M).nx = q.nx := hAf.n
    rw [h6, hst, hV.hn] at h7
    have hw := hV.hw
    have htt : t = sent - A := by omega
    have hA2 : A + t = sent := by omega
    refine ⟨hA2, ?_⟩
    omega
theorem J.done (h : J f q r sent sent p) : bs.don q = true := by
  obtain ⟨m, hV, _⟩ := h.hV
  rw [Nat.sub_self] at hV
  have ho : outs q = [] := by rw [hV.outs]; rfl
  unfold bs.don
  rw [hV.vs, ho]; rfl
end
end Go.Proofs.Ytmmhleobgpgliaa.bt
end

section
namespace Go.Proofs.Ytmmhleobgpgliaa.bt
open Go.RowKit sl harn bx stw
open ux (Nf Rob RR OO row rowB rowNf nf rob own_more)
open mrw (blkOf grown_below)
open ro (NF OF BF In)
set_option linter.unusedVariables false
set_option linter.unusedSimpArgs false
section
variable {w w' : World} {f : List Nat} {v : Value}
theorem bytes_ty {x : List Int} (h : ux.bytes.O w f v x) : ∀ b, b ∈ f → ∃ cur fz, w.heap[b]? = some (.cells cur 5 fz) := by
  intro b hb
  obtain ⟨A, n, c, e, h1, h2⟩ := h
  rw [h2] at hb
  rcases h1.2.2.2.2.2 with ⟨rfl, _⟩ | ⟨g, cur, fz, rfl, _, _, h3, _⟩
  · cases hb
  · obtain rfl : b = g := by simpa [ux.blks] using hb
    exact ⟨cur, fz, h3⟩
theorem rowB_ty {x : List (List Int)} (h : rowB.O w f v x) : ∀ b, b ∈ f → ∃ cur T fz, w.heap[b]? = some (.cells cur T fz) ∧ (T = 22 ∨ T = 5) := by
  intro b hb
  obtain ⟨A, n, c, es, e, h1, h2, h3, h4⟩ := h
  rcases h4 with ⟨_, _, _, _, rfl⟩ | ⟨g, cur, _, h5, _, _, _, _, _, rfl⟩
  · cases hb
  · rcases List.mem_cons.1 hb with rfl | hb
    · exact ⟨cur, _, _, h5, .inl rfl⟩
    · obtain ⟨u, hu, hbu⟩ := List.mem_flatMap.1 hb
      obtain ⟨c2, fz, h6⟩ := bytes_ty (h2 u hu).1 b hbu
      exact ⟨c2, _, fz, h6, .inr rfl⟩
theorem rowNf_ty {x : List Nf} (h : rowNf.O w f v x) : ∀ b, b ∈ f → ∃ cur T fz, w.heap[b]? = some (.cells cur T fz) ∧ (T = 85 ∨ T = 5) := by
  intro b hb
  obtain ⟨A, n, c, es, e, h1, h2, h3, h4⟩ := h
  rcases h4 with ⟨_, _, _, _, rfl⟩ | ⟨g, cur, _, h5, _, _, _, _, _, rfl⟩
  · cases hb
  · rcases List.mem_cons.1 hb with rfl | hb
    · exact ⟨cur, _, _, h5, .inl rfl⟩
    · obtain ⟨u, hu, hbu⟩ := List.mem_flatMap.1 hb
      obtain ⟨v0, f0, _, h7, h8, _⟩ := (h2 u hu).1
      rw [h8] at hbu
      obtain ⟨c2, fz, h6⟩ := bytes_ty h7 b hbu
      exact ⟨c2, _, fz, h6, .inr rfl⟩
theorem not_row {T : TypeId} {q : Nat} {cs : Array Value} (hX : Bx T w q cs) (h1 : T ≠ 22) (h2 : T ≠ 5) {x : List (List Int)} (h : rowB.O w f v x) : q ∉ f := fun hm => by
  obtain ⟨cur, T', fz, h3, h4⟩ := rowB_ty h q hm
  have h9 : w.heap[q]? = some (.cells cs T (0, 0)) := hX
  rw [h9] at h3
  injection h3 with h3
  injection h3 with _ h3 _
  rcases h4 with h4 | h4
  · exact h1 (h3.trans h4)
  · exact h2 (h3.trans h4)
theorem not_rowN {T : TypeId} {q : Nat} {cs : Array Value} (hX : Bx T w q cs) (h1 : T ≠ 85) (h2 : T ≠ 5) {x : List Nf} (h : rowNf.O w f v x) : q ∉ f := fun hm => by
  obtain ⟨cur, T', fz, h3, h4⟩ := rowNf_ty h q hm
  have h9 : w.heap[q]? = some (.cells cs T (0, 0)) := hX
  rw [h9] at h3
  injection h3 with h3
  injection h3 with _ h3 _
  rcases h4 with h4 | h4
  · exact h1 (h3.trans h4)
  · exact h2 (h3.trans h4)
end
/-- What the operations of the region of a call whose results are stored may change, and their values. -/
def Er (Bd : Nat) (i : Nat) (w w' : World) : Prop := if i = 13 then (∃ q cur cs, cs.size = 2 ∧ Bd ≤ q ∧ Bx 31 w q cur ∧ Put 31 w q cs w') else Below w.heap.size w w'
def Tp (Bd : Nat) (x : Rob) (l : List (List Int)) (v : Value) (w : World) : Prop := ∃ A n c f A2 n2 c2 f2, v = .tuple #[.agg #[.int .i64 x.Start, .slice A n c], .slice A2 n2 c2] ∧ OO rowNf w Bd w.heap.size f (.slice A n c) x.Pending ∧ OO rowB w Bd w.heap.size f2 (.slice A2 n2 c2) l
def Ta (Bd : Nat) (x : Rob) (v : Value) (w : World) : Prop := ∃ A n c f, v = .agg #[.int .i64 x.Start, .slice A n c] ∧ OO rowNf w Bd w.heap.size f (.slice A n c) x.Pending
def Ts (Bd : Nat) (l : List (List Int)) (v : Value) (w : World) : Prop := ∃ A2 n2 c2 f2, v = .slice A2 n2 c2 ∧ OO rowB w Bd w.heap.size f2 (.slice A2 n2 c2) l
def Tq (Bd : Nat) (v : Value) (w : World) : Prop := ∃ q cs, v = .pointer (some ⟨q, 0, none⟩) ∧ Bd ≤ q ∧ cs.size = 2 ∧ Bx 31 w q cs
def Tx (Bd : Nat) (x : Rob) (v : Value) (w : World) : Prop := ∃ q A n c f, v = .pointer (some ⟨q, 0, none⟩) ∧ Bd ≤ q ∧ Bx 31 w q #[.int .i64 x.Start, .slice A n c] ∧ OO rowNf w Bd w.heap.size f (.slice A n c) x.Pending
def To (y : Int) (v : Value) (w : World) : Prop := ∃ q, v = .slice (some ⟨q, 0, none⟩) 1 1 ∧ Bx 5 w q #[.int .u8 y]
def Rr (Bd : Nat) (x : Rob) (l : List (List Int)) (y : Int) (is : List (Nat × Value)) (j : Nat) (v : Value) (w : World) : Prop :=
  if j = 7 then To y v w else if j = 8 ∨ j = 9 then Tp Bd x l v w else if j = 10 then Ta Bd x v w else if j = 11 then Ts Bd l v w else if j = 12 then Tq Bd v w else if j = 13 then Tx Bd x v w else match is.lookup j with | some u => v = u | none => True
theorem oo_put {α : Type} {S : ux.Rep α} {Bd q : Nat} {w w' : World} {T : TypeId} {cs : Array Value} {f : List Nat} {v : Value} {x : α} (h : OO S w Bd w.heap.size f v x) (hp : Put T w q cs w') (hq : q ∉ f) : OO S w' Bd w'.heap.size f v x :=
  ⟨S.osame h.1 hp.below.size fun b hb => hp.other b (fun e => hq (e ▸ hb)), fun b hb => ⟨(h.2.1 b hb).1, Nat.lt_of_lt_of_le (h.2.1 b hb).2 hp.below.size⟩, Nat.le_refl _⟩
theorem oo_bel {α : Type} {S : ux.Rep α} {Bd : Nat} {w w' : World} {f : List Nat} {v : Value} {x : α} (h : OO S w Bd w.heap.size f v x) (hb : Below w.heap.size w w') : OO S w' Bd w'.heap.size f v x :=
  ⟨(h.below hb).1, fun b hm => ⟨(h.2.1 b hm).1, Nat.lt_of_lt_of_le (h.2.1 b hm).2 hb.size⟩, Nat.le_refl _⟩
theorem rr_keep {Bd : Nat} {x : Rob} {l : List (List Int)} {y : Int} {is : List (Nat × Value)} {ops : Array Oper} : ∀ i j v w w', i ≠ j → reg.waits ops j i = false → Rr Bd x l y is j v w → Er Bd i w w' → Rr Bd x l y is j v w' := by
  intro i j v w w' hij _ h hg
  have key : (∀ f, ∀ v, ∀ z : List Nf, OO rowNf w Bd w.heap.size f v z → OO rowNf w' Bd w'.heap.size f v z) → (∀ f, ∀ v, ∀ z : List (List Int), OO rowB w Bd w.heap.size f v z → OO rowB w' Bd w'.heap.size f v z) → (∀ q cs, Bx 5 w q cs → Bx 5 w' q cs) → (∀ q cs, cs.size = 2 → Bx 31 w q cs → ∃ cs', cs'.size = 2 ∧ Bx 31 w' q cs') → (j = 13 → ∀ q cs, Bx 31 w q cs → Bx 31 w' q cs) → Rr Bd x l y is j v w' := by
    intro k1 k2 k3 k4 k5
    unfold Rr at h ⊢
    by_cases j7 : j = 7
    · rw [if_pos j7] at h ⊢; obtain ⟨q, e, h1⟩ := h; exact ⟨q, e, k3 _ _ h1⟩
    rw [if_neg j7] at h ⊢
    by_cases j8 : j = 8 ∨ j = 9
    · rw [if_pos j8] at h ⊢; obtain ⟨A, n, c, f, A2, n2, c2, f2, e, h1, h2⟩ := h; exact ⟨A, n, c, f, A2, n2, c2, f2, e, k1 _ _ _ h1, k2 _ _ _ h2⟩
    rw [if_neg j8] at h ⊢
    by_cases j10 : j = 10
    · rw [if_pos j10] at h ⊢; obtain ⟨A, n, c, f, e, h1⟩ := h; exact ⟨A, n, c, f, e, k1 _ _ _ h1⟩
    rw [if_neg j10] at h ⊢
    by_cases j11 : j = 11
    · rw [if_pos j11] at h ⊢; obtain ⟨A, n, c, f, e, h1⟩ := h; exact ⟨A, n, c, f, e, k2 _ _ _ h1⟩
    rw [if_neg j11] at h ⊢
    by_cases j12 : j = 12
    · rw [if_pos j12] at h ⊢
      obtain ⟨q, cs, e, h1, h2, h3⟩ := h
      obtain ⟨cs', g1, g2⟩ := k4 q cs h2 h3
      exact ⟨q, cs', e, h1, g1, g2⟩
    rw [if_neg j12] at h ⊢
    by_cases j13 : j = 13
    · rw [if_pos j13] at h ⊢
      obtain ⟨q, A, n, c, f, e, h1, h2, h3⟩ := h
      exact ⟨q, A, n, c, f, e, h1, k5 j13 _ _ h2, k1 _ _ _ h3⟩
    rw [if_neg j13] at h ⊢
    exact h
  unfold Er at hg
  by_cases i13 : i = 13
  · rw [if_pos i13] at hg
    obtain ⟨q, cur, cs, hcs, hq, hX, hp⟩ := hg
    refine key (fun f v z h => oo_put h hp (not_rowN hX (by decide) (by decide) h.1)) (fun f v z h => oo_put h hp (not_row hX (by decide) (by decide) h.1)) (fun q2 cs2 h => hp.keep h fun e => ?_) (fun q2 cs2 hs2 h => ?_) (fun e => absurd (i13.trans e.symm) hij)
    · subst e
      have h1 : w.heap[q2]? = some (.cells cs2 5 (0, 0)) := h
      have h2 : w.heap[q2]? = some (.cells cur 31 (0, 0)) := hX
      rw [h2] at h1
      injection h1 with h1
      injection h1 with _ h1 _
      exact absurd h1 (by decide)
    · by_cases e : q2 = q
      · subst e; exact ⟨cs, hcs, hp.box⟩
      · exact ⟨cs2, hs2, hp.keep h e⟩
  · rw [if_neg i13] at hg
    exact key (fun f v z h => oo_bel h hg) (fun f v z h => oo_bel h hg) (fun q cs h => h.below hg) (fun q cs hs h => ⟨cs, hs, h.below hg⟩) (fun _ q cs h => h.below hg)
theorem bf_cells {F : Nat → Prop} {w w' : World} {A : Option Addr} {n c : Nat} {zs : List Int} (h : BF F w A n c zs) (hs : w.heap.size ≤ w'.heap.size) (hb : ∀ b, F b → w'.heap[b]? = w.heap[b]?) : BF F w' A n c zs := by
  obtain ⟨k1, k2, k3, k4, k5⟩ := h
  refine ⟨k1, k2, k3, k4, fun hn2 => ?_⟩
  obtain ⟨b2, off2, e2, l1, l2, l3⟩ := k5 hn2
  exact ⟨b2, off2, e2, l1, by omega, fun j hj => (World.cell?_of_block (hb b2 l1)).trans (l3 j hj)⟩
theorem nf_cells {F : Nat → Prop} {w w' : World} {A : Option Addr} {n c : Nat} {xs : List Nf} (h : NF F w A n c xs) (hs : w.heap.size ≤ w'.heap.size) (hb : ∀ b, F b → w'.heap[b]? = w.heap[b]?) : NF F w' A n c xs := by
  obtain ⟨h1, h2, h3, h5⟩ := h
  refine ⟨h1, h2, h3, fun hn => ?_⟩
  obtain ⟨b, off, e, g1, g2, g3⟩ := h5 hn
  refine ⟨b, off, e, g1, by omega, fun i x hx => ?_⟩
  obtain ⟨A0, n0, c0, r1, r2, r3⟩ := g3 i x hx
  exact ⟨A0, n0, c0, (World.cell?_of_block (hb b g1)).trans r1, (World.cell?_of_block (hb b g1)).trans r2, bf_cells r3 hs hb⟩
theorem of_cells {F : Nat → Prop} {w w' : World} {lo n c : Nat} {A : Option Addr} {l : List (List Int)} (h : OF F w lo A n c l) (hs : w.heap.size ≤ w'.heap.size) (hb : ∀ b, F b → w'.heap[b]? = w.heap[b]?) (hA : ∀ q, blkOf A = some q → w'.heap[q]? = w.heap[q]?) : OF F w' lo A n c l := by
  obtain ⟨vs, ⟨h1, h2⟩, h3, h4⟩ := h
  refine ⟨vs, ⟨h1, ?_⟩, h3, fun i y hy => ?_⟩
  · rcases h2 with h2 | ⟨g, c', cur, e, g1, g2, g3⟩
    · exact .inl h2
    · injection e with e1 e2 e3
      subst e1 e3
      exact .inr ⟨g, _, cur, rfl, g1, (hA g rfl).trans g2, g3⟩
  · obtain ⟨A0, n0, c0, r1, r2⟩ := h4 i y hy
    exact ⟨A0, n0, c0, r1, bf_cells r2 hs hb⟩
/-- The buffer's list and the bodies gathered, beside one another. -/
def GR (L0 H : Nat) (w : World) (A1 : Option Addr) (n1 c1 : Nat) (xs : List Nf) (Ag : Option Addr) (pg cg : Nat) (l : List (List Int)) : Prop :=
  ∃ (F G : Nat → Prop), (∀ b, F b ∨ G b → L0 ≤ b ∧ b < H) ∧ H ≤ w.heap.size ∧ NF F w A1 n1 c1 xs ∧ OF G w L0 Ag pg cg l ∧ ∀ g, blkOf Ag = some g → g < H ∧ ¬ F g ∧ ¬ G g
section
variable {L0 H n1 c1 pg cg : Nat} {w w' : World} {A1 Ag : Option Addr} {xs : List Nf} {l : List (List Int)}
theorem GR.hi_ (h : GR L0 H w A1 n1 c1 xs Ag pg cg l) : H ≤ w.heap.size := by obtain ⟨F, G, h1, h2, _⟩ := h; exact h2
theorem GR.same (h : GR L0 H w A1 n1 c1 xs Ag pg cg l) (hs : w.heap.size ≤ w'.heap.size) (hb : ∀ b, L0 ≤ b → b < H → w'.heap[b]? = w.heap[b]?) : GR L0 H w' A1 n1 c1 xs Ag pg cg l := by
  obtain ⟨F, G, h1, h2, h3, h4, h5⟩ := h
  exact ⟨F, G, h1, by omega, nf_cells h3 hs (fun b hf => hb b (h1 b (.inl hf)).1 (h1 b (.inl hf)).2), of_cells h4 hs (fun b hf => hb b (h1 b (.inr hf)).1 (h1 b (.inr hf)).2) (fun q hq => hb q (h4.lt hq).1 (h5 q hq).1), h5⟩
theorem GR.below (h : GR L0 H w A1 n1 c1 xs Ag pg cg l) (hb : Below w.heap.size w w') : GR L0 H w' A1 n1 c1 xs Ag pg cg l := h.same hb.size fun b _ h2 => hb.block b (by have := h.hi_; omega)
theorem GR.rr (h : GR L0 H w A1 n1 c1 xs Ag pg cg l) : RR rowNf w L0 H (.slice A1 n1 c1) xs := by
  obtain ⟨F, G, h1, h2, h3, h4, h5⟩ := h
  exact h3.rr (fun b hb => h1 b (.inl hb)) h2
theorem GR.rb (h : GR L0 H w A1 n1 c1 xs Ag pg cg l) : RR rowB w L0 H (.slice Ag pg cg) l := by
  obtain ⟨F, G, h1, h2, h3, h4, h5⟩ := h
  exact h4.rr h2 (fun b hb => h1 b (.inr hb)) (fun q hq => (h5 q hq).1)
theorem GR.len (h : GR L0 H w A1 n1 c1 xs Ag pg cg l) : xs.length = n1 ∧ l.length = pg := by
  obtain ⟨F, G, h1, h2, h3, h4, h5⟩ := h
  exact ⟨h3.1, h4.len⟩
theorem GR.blk (h : GR L0 H w A1 n1 c1 xs Ag pg cg l) : ∀ q, q ∈ ux.blks Ag → L0 ≤ q ∧ q < H := by
  obtain ⟨F, G, h1, h2, h3, h4, h5⟩ := h
  intro q hq
  exact ⟨(h4.lt (ro.in_blk hq)).1, (h5 q (ro.in_blk hq)).1⟩
theorem GR.ne (h : GR L0 H w A1 n1 c1 xs Ag pg cg l) {k : IntKind} {lo hi m c : Nat} {B : Option Addr} {zs : List Int} (ho : Ow 3 k w lo hi B m c zs) : ∀ q, q ∈ ux.blks B → q ∉ ux.blks Ag := by
  obtain ⟨F, G, h1, h2, h3, ⟨vs, ⟨k1, k2⟩, k3, k4⟩, h5⟩ := h
  intro q hq hq2
  rcases ho.form with ⟨rfl, _, _⟩ | ⟨g, cur, rfl, g1, g2, g3, g4⟩
  · cases hq
  · obtain rfl : q = g := by simpa [ux.blks] using hq
    rcases k2 with ⟨e, _⟩ | ⟨g', c', cur', e, r1, r2, r3⟩
    · injection e with e _ _; subst e; cases hq2
    · injection e with e _ _; subst e
      obtain rfl : q = g' := by simpa [ux.blks] using hq2
      rw [r2] at g3
      injection g3 with g3
      injection g3 with _ g3 _
      exact absurd g3 (by decide)
theorem gr_start {be : Nat} (h : Bx 22 w be #[]) (hL : L0 ≤ be) {A : Option Addr} {c : Nat} (hc : c ≤ maxLen) : GR L0 w.heap.size w A 0 c [] (some ⟨be, 0, none⟩) 0 0 [] := by
  refine ⟨fun _ => False, fun _ => False, fun b hb => by simp at hb, Nat.le_refl _, NF.nil _ _ _ hc, OF.of_bx _ h hL, fun g hg => ?_⟩
  obtain rfl : be = g := by simpa [blkOf] using hg
  exact ⟨h.lt, id, id⟩
end
theorem rd_one {w : World} {q : Nat} {y : Int} (h : Bx 5 w q #[.int .u8 y]) (hy : 0 ≤ y ∧ y ≤ 255) : RR ux.bytes w q (q + 1) (.slice (some ⟨q, 0, none⟩) 1 1) [y] := by
  refine ux.num_rd ⟨rfl, Nat.le_refl _, by unfold maxLen; omega, by have := h.lt; omega, Wf.of_u8 (fun z hz => ?_), fun _ => ⟨q, 0, rfl, Nat.le_refl _, Nat.lt_succ_self _, fun i hi => ?_⟩⟩
  · rw [List.mem_singleton.1 hz]; exact hy
  · obtain rfl : i = 0 := by omega
    exact h.cell 0
set_option maxRecDepth 100000 in
/-- The bodies handed back are appended. -/
theorem list_gr {L0 H Bd B2 n1 c1 pg cg n c n2 c2 : Nat} {w : World} {A1 Ag A A2 : Option Addr} {xs zs : List Nf} {l ys : List (List Int)} {ops : Array Oper} {rest : List Oper} {o : Oper} {a : Act} {Q : Exit → Act → World → Prop} (hg : o.guard = none) (s x : Operand)
    (hop : o.op = .call { callee := .builtin .append, args := #[s, x], argTypes := #[33, 33] }) (hs : a.eval s = .slice Ag pg cg) (hx : a.eval x = .slice A2 n2 c2)
    (h : GR L0 H w A1 n1 c1 xs Ag pg cg l) (hH : H ≤ Bd) (hL : L0 ≤ Bd) (hN : RR rowNf w Bd B2 (.slice A n c) zs) (hO : RR rowB w Bd B2 (.slice A2 n2 c2) ys) (hB : B2 ≤ w.heap.size) (hLB : Bd ≤ B2) (hn : pg + n2 ≤ 1073741824)
    (hK : ∀ A' c' w', GR L0 w'.heap.size w' A n c zs A' (pg + n2) c' (l ++ ys) → KS (ux.blks Ag) w w' → wpList Try.prog ops Q rest (a.put o.dst (.slice A' (pg + n2) c')) w') : wpList Try.prog ops Q (o :: rest) a w := by
  refine wpList_plain hg fun K hK' => ?_
  obtain ⟨F, G, h1, h2, h3, h4, h5⟩ := h
  have hnf : NF (In Bd B2) w A n c zs := NF.of_rr hN fun b g1 g2 => ⟨g1, g2⟩
  obtain ⟨A9, n9, c9, e9, q1, q2, q3, q4, q5⟩ := hO
  injection e9 with e1 e2 e3
  subst e1 e2 e3
  have key : ∀ A' c' w', (Builtin.append_ #[33, 33] o.type #[.slice Ag pg cg, .slice A2 n2 c2]).run Try.prog w = .ok (.slice A' (pg + n2) c') w' → OF (fun b => G b ∨ In Bd B2 b) w' L0 A' (pg + n2) c' (l ++ ys) → KS (ux.blks Ag) w w' → (∀ g, blkOf A' = some g → blkOf Ag = some g ∨ w.heap.size ≤ g) → Oper.wp Try.prog o a w K Q := by
    intro A' c' w' hrun g1 g2 g3
    unfold Oper.wp execOp
    simp only [hop, resolve, invoke, builtin, Sem.run_bind, Sem.run_pure, Result.andThen_ok, List.map_toArray, List.map_cons, List.map_nil, hs, hx, hrun]
    have hsz := g2.size
    refine hK' _ _ (hK A' c' w' ⟨In Bd B2, fun b => G b ∨ In Bd B2 b, fun b hb => ?_, Nat.le_refl _, hnf.ks g2 (fun b hb hm => ?_), g1, fun g hg => ?_⟩ g2)
    · rcases hb with hb | hb | hb
      · exact ⟨by have := hb.1; omega, by have := hb.2; omega⟩
      · have := h1 b (.inr hb); exact ⟨this.1, by omega⟩
      · exact ⟨by have := hb.1; omega, by have := hb.2; omega⟩
    · have := (h5 b (ro.in_blk hm)).1; have := hb.1; omega
    · refine ⟨(g1.lt hg).2, ?_, ?_⟩
      · rcases g3 g hg with h9 | h9
        · intro hb; have := (h5 g h9).1; have := hb.1; omega
        · intro hb; have := hb.2; omega
      · rcases g3 g hg with h9 | h9
        · intro hb
          rcases hb with hb | hb
          · exact (h5 g h9).2.2 hb
          · have := (h5 g h9).1; have := hb.1; omega
        · intro hb
          rcases hb with hb | hb
          · have := (h1 g (.inr hb)).2; omega
          · have := hb.2; omega
  obtain ⟨vs, hr, hln, hel⟩ := h4
  have hi := ux.infoB
  cases hq0 : Try.prog.info? 22 with
  | none => simp [hq0] at hi
  | some i0 =>
    simp only [hq0, Option.map_some, Option.some.injEq, Prod.mk.injEq] at hi
    obtain ⟨hz0, hz1, hz2⟩ := hi
    have hold : ∀ w', KS (ux.blks Ag) w w' → ∀ (i : Nat) (y : List Int), l[i]? = some y → ∃ (A0 : Option Addr) (n0 c0 : Nat), vs[i]? = some (Value.slice A0 n0 c0) ∧ BF (fun b => G b ∨ In Bd B2 b) w' A0 n0 c0 y := fun w' hk i y hy => by
      obtain ⟨B0, m0, d0, r1, r2⟩ := hel i y hy
      exact ⟨B0, m0, d0, r1, (r2.ks hk (fun b hb hm => (h5 b (ro.in_blk hm)).2.2 hb)).mono fun b hb => .inl hb⟩
    rcases Nat.eq_zero_or_pos n2 with h0 | h0
    · subst h0
      obtain rfl : ys = [] := List.eq_nil_of_length_eq_zero q1
      refine key Ag cg w ?_ ⟨vs, by simpa using hr, by simpa using hln, fun i y hy => hold w (KS.refl _ _) i y (by simpa using hy)⟩ (KS.refl _ _) (fun g hg => .inl hg)
      obtain ⟨g0, hr2⟩ := hr
      rcases hr2 with ⟨e, _⟩ | ⟨g, c', cur, e, _, r2, r3, r4, r5, r6⟩
      · injection e with e1 e2 e3; subst e1 e2 e3
        cases A2 <;> simp [Builtin.append_, run_underlying Try.underlying33, sizeOf, typeInfo, hq0, Builtin.lenOf, Builtin.firstCells, loadCells, loadCellsFrom]
      · injection e with e1 _ e3; subst e1 e3
        cases A2 <;> simp [Builtin.append_, run_underlying Try.underlying33, sizeOf, typeInfo, hq0, Builtin.lenOf, Builtin.firstCells, loadCells, loadCellsFrom, r3, storeCells]
    · obtain ⟨b, off, rfl, m1, m2, m3⟩ := q5 h0
      have hb1 : ∀ i, i < n2 → ∃ A0 n0 c0, w.cell? ⟨b, off + i, none⟩ = some (Value.slice A0 n0 c0) ∧ RR ux.bytes w Bd B2 (.slice A0 n0 c0) (ys.getD i []) := fun i hi => by
        have hyi : ys[i]? = some (ys.getD i []) := by rw [List.getD_eq_getElem?_getD, List.getElem?_eq_getElem (by omega)]; rfl
        obtain ⟨u, r1, r2⟩ := m3 i _ hyi
        obtain ⟨A0, n0, c0, rfl⟩ := ux.bytes_sl r2
        refine ⟨A0, n0, c0, ?_, r2⟩
        have := r1 0 _ rfl
        rwa [show off + i * ux.bytes.n + 0 = off + i from by show off + i * 1 + 0 = _; omega] at this
      obtain ⟨A', cap', w', hrun, g1, g2, g3, g4⟩ := own_more (P := Try.prog) 33 o.type i0 (.slice none 0 0) Try.underlying33 hq0 hz0 hz1 (by omega) rfl (by omega) hr (M := (List.range n2).map fun i => (w.cell? ⟨b, off + i, none⟩).getD undef) (fun u hu => by
          obtain ⟨i, hi, rfl⟩ := List.mem_map.1 hu
          obtain ⟨A0, n0, c0, r1, _⟩ := hb1 i (List.mem_range.1 hi)
          rw [r1]; rfl) ⟨b, off, none⟩ n2 c2 (by simp) (fun j u hj => by
          have hjl : j < n2 := by have := (List.getElem?_eq_some_iff.1 hj).1; simpa using this
          obtain ⟨A0, n0, c0, r1, _⟩ := hb1 j hjl
          rw [List.getElem?_map, List.getElem?_range hjl] at hj
          simp [r1] at hj
          rw [ro.add_at, r1, hj]) hn (by omega)
      have hks : KS (ux.blks Ag) w w' := ro.grown_ks g2 fun q hq => ro.blk_in hq
      refine key A' cap' w' hrun ⟨vs ++ (List.range n2).map fun i => (w.cell? ⟨b, off + i, none⟩).getD undef, g1, by simp [hln, q1], fun i y hy => ?_⟩ hks (fun g hg => by rcases g4 with h9 | h9; exact .inl (h9 ▸ hg); exact .inr (h9 g hg))
      have hvl : vs.length = pg := by have := hr.1; omega
      rcases Nat.lt_or_ge i pg with hlt | hge
      · rw [List.getElem?_append_left (by omega)] at hy
        rw [List.getElem?_append_left (by omega)]
        exact hold w' hks i y hy
      · rw [List.getElem?_append_right (by omega), hln] at hy
        have hil : i - pg < n2 := by have := (List.getElem?_eq_some_iff.1 hy).1; omega
        obtain ⟨A0, n0, c0, r1, r2⟩ := hb1 (i - pg) hil
        have hye : ys.getD (i - pg) [] = y := by rw [List.getD_eq_getElem?_getD, hy]; rfl
        rw [hye] at r2
        refine ⟨A0, n0, c0, by rw [List.getElem?_append_right (by omega), hvl, List.getElem?_map, List.getElem?_range hil]; simp [r1], (BF.ks (F := In Bd B2) (BF.of_rd (ux.rd_of r2) fun b g1 g2 => ⟨g1, g2⟩) hks fun b hb hm => ?_).mono fun b hb => .inr hb⟩
        have := (h5 b (ro.in_blk hm)).1; have := hb.1; omega
/-- What was gathered. -/
def Gt (p : Nat) : List (List Int) := (List.range p).map (one 0)
theorem gt_more (p n : Nat) : Gt p ++ (List.range n).map (one p) = Gt (p + n) := by
  unfold Gt
  rw [List.range_add, List.map_append, List.map_map]
  congr 1
  refine List.map_congr_left fun i _ => ?_
  simp [one, Function.comp]
theorem gt_at {p i : Nat} (h : i < p) : (Gt p)[i]? = some [(i : Int)] := by
  unfold Gt
  rw [List.getElem?_map, List.getElem?_range h]; simp [one]
end Go.Proofs.Ytmmhleobgpgliaa.bt
end
