/- MissingNumbers of the program. Condition: none. -/
import Derived.Test.YtmmhleobgpgliaaMs0
namespace Go.Proofs.Ytmmhleobgpgliaa.ro
open Go.RowKit sl harn bx stw
set_option linter.unusedVariables false
open ux (Nf Rob RR OO row rowB rowNf nf rob)
open mrw (blkOf)
open bs (nsq sqd)
set_option linter.unusedSimpArgs false
open mrw

theorem ow_bx0 {E : TypeId} {k : IntKind} {w : World} {b : Nat} (h : Bx E w b #[]) : Ow E k w b w.heap.size (some ⟨b, 0, none⟩) 0 0 [] :=
  ⟨⟨rfl, .inr ⟨b, 0, #[], rfl, Nat.le_refl _, h, Nat.le_refl _, by unfold maxLen; omega, rfl, rfl⟩⟩, Wf.nil k, Nat.le_refl _, fun g o e => by injection e with e; injection e with e _; subst e; exact h.lt⟩
def ptrB : Value → Nat
  | .pointer (some a) => a.block
  | _ => 0
theorem msn_no {r : Rob} (h : vr r = false) : msn r = [] := by unfold msn; rw [h]; rfl
theorem msn_yes {r : Rob} (h : vr r = true) : msn r = miss r.Start (start r).ws := by unfold msn; rw [if_pos h]
theorem blk_blks {A : Option Addr} {q : Nat} (h : blkOf A = some q) : q ∈ ux.blks A := by
  cases A with
  | none => cases h
  | some a => have : a.block = q := by simpa [blkOf] using h
              subst this; exact List.mem_singleton.2 rfl
theorem blks_blk {A : Option Addr} {q : Nat} (h : q ∈ ux.blks A) : blkOf A = some q := by
  cases A with
  | none => cases h
  | some a => have : q = a.block := by simpa [ux.blks] using h
              subst this; rfl
theorem ow_kept {E : TypeId} {k : IntKind} {w w' : World} {lo hi n c : Nat} {A : Option Addr} {zs : List Int} {F : List Nat} (h : Ow E k w lo hi A n c zs) (hk : KS F w w') (hd : ∀ q, blkOf A = some q → q ∉ F) : Ow E k w' lo hi A n c zs :=
  ux.ow_as h hk.size fun b hb => hk.block b (by have := (ux.ow_in h b hb).2; have := h.hi_; omega) (hd b (blks_blk hb))
theorem Rv.grown {w w' : World} {b : Nat} {f : List Nat} {t : St} {r : Option Nat} (h : Rv w b f t) (hg : w.grownBy w' r) (hd : ∀ q, r = some q → q ≠ b ∧ q ∉ f) : Rv w' b f t := by
  obtain ⟨A, n, c, h1, h2, h3⟩ := h
  exact ⟨A, n, c, mrw.grown_bx h1 hg (fun e => (hd b e.symm).1 rfl), (ux.oo_grown h2 hg fun q hq e => (hd q e.symm).2 hq).wide (Nat.le_refl _), h3⟩
theorem list_val {P : Program} {w : World} {ops : Array Oper} {rest : List Oper} {o : Oper} {a : Act} {Q : Exit → Act → World → Prop} (hg : o.guard = none) (v : Value) (hr : (execOp a.eval o).run P w = .ok (.value v) w) (hK : wpList P ops Q rest (a.put o.dst v) w) : wpList P ops Q (o :: rest) a w := by
  refine wpList_plain hg fun K hK' => ?_
  unfold Oper.wp
  rw [hr]
  exact hK' _ _ hK
theorem list_build0 {P : Program} {w : World} {ops : Array Oper} {rest : List Oper} {o : Oper} {a : Act} {Q : Exit → Act → World → Prop} (hg : o.guard = none) (t : TypeId) (ho : o.op = .build t #[]) (z : Value) (hz : (Instr.build t #[]).run P w = .ok z w) (hK : wpList P ops Q rest (a.put o.dst z) w) : wpList P ops Q (o :: rest) a w :=
  list_val hg z (by simp [execOp, ho, hz]) hK
theorem list_neq {P : Program} {w : World} {ops : Array Oper} {rest : List Oper} {o : Oper} {a : Act} {Q : Exit → Act → World → Prop} (hg : o.guard = none) (t t2 : TypeId) (x y : Operand) (ho : o.op = .binOp .neq t x y t2) (xs ys : Array Value) (hx : a.eval x = .agg xs) (hy : a.eval y = .agg ys) (hm : P.eqGuardType P.depth t = false) (v : Value) (hv : (binOp .neq t (.agg xs) (.agg ys)).run P w = .ok v w) (hK : wpList P ops Q rest (a.put o.dst v) w) : wpList P ops Q (o :: rest) a w :=
  list_val hg v (by simp [execOp, ho, hx, hy, run_eqGuard_agg w .neq t x y xs ys hm, hv]) hK
theorem build_win (w : World) : (Instr.build 76 #[]).run Try.prog w = .ok (.agg (wcs none16).toArray) w := by kernel_rfl
theorem all_step {t : St} {k : Nat} (hl : t.ws.length = 16) (hk : k ≤ 16) (ha : (advS t k).ws.all (·.isNone) = false) : k < 16 := by
  rcases Nat.lt_or_ge k 16 with h | h
  · exact h
  · obtain rfl : k = 16 := by omega
    rw [adv_all hl] at ha; cases ha
theorem adv_s_at (t : St) (k : Nat) : (advS t k).s = (t.s + (k : Int)) % 4096 := rfl
set_option maxRecDepth 100000 in
set_option maxHeartbeats 4000000 in
theorem implMs (s : Int) (xs : List Nf) (lo hi : Nat) (A : Option Addr) (n c : Nat) (w : World) (h : RR rowNf w lo hi (.slice A n c) xs) :
    Calls Try.prog 28 #[.agg #[.int .i64 s, .slice A n c]] w (SlPost 3 .i64 w (msn ⟨s, xs⟩)) := by
  have RW := Lib.hid h
  obtain ⟨hlR, hncR, hcmR⟩ := nf_len h
  have HL := Lib.hid hlR
  have LHR := Lib.hid (show hi ≤ w.heap.size from h.hi_)
  clear hlR h
  have HWF := Lib.hid (rr_wf RW.out)
  obtain ⟨i0, hi0, hz0, hz1, hz2⟩ := info_parts intInfo
  have HZ := Lib.hid (And.intro hi0 (And.intro hz0 (And.intro hz1 hz2)))
  clear hi0 hz0 hz1 hz2
  obtain ⟨v, hv⟩ : ∃ v, vr ⟨s, xs⟩ = v := ⟨_, rfl⟩
  have HV := Lib.hid hv
  clear hv
  go_enter Try.func28, Try.ntmps28
  go_upto_region 1 with fail
  obtain ⟨w0, hW⟩ : ∃ w0, w.alloc (.cells #[.int .i64 s, .slice A n c] 31) = w0 := ⟨_, rfl⟩
  rw [hW]
  have B0 := Lib.hid (show Below w.heap.size w w0 by rw [← hW]; exact (Below.refl _ _).alloc (by simp <;> omega) _)
  have X0 := Lib.hid (show Bx 31 w0 (w.heap.size) #[.int .i64 s, .slice A n c] by
      rw [← hW]
      have hh := Bx.made 31 w #[.int .i64 s, .slice A n c]
      exact hh)
  have R0 := Lib.hid (show RR rowNf w0 lo hi (.slice A n c) xs by rw [← hW]; exact (RW.out.below (below_box _ _)))
  clear hW
  have LTX := Lib.hid X0.out.lt
  obtain ⟨b0, hbb⟩ : ∃ b, w0.heap.size = b := ⟨_, rfl⟩
  go_upto_region 2 with fail
  generalize hW : w0.alloc (.cells #[] 3) = w1
  have LE := Lib.hid (show w.heap.size ≤ b0 ∧ w.heap.size < b0 ∧ hi ≤ b0 by have h1 := B0.out.size; have h2X := X0.out.lt; have h2R := R0.out.hi_; have h3 := hbb; omega)
  have E1 := Lib.hid (show Bx 3 w1 b0 #[] by rw [← hW, ← hbb]; exact Bx.made _ _ _)
  have hb : Below w0.heap.size w0 w1 := by rw [← hW]; exact below_box _ _
  (try rw [hbb])
  clear hW hbb
  have SS1 := Lib.hid hb.size
  have B1 := Lib.hid (B0.out.trans (hb.mono B0.out.size))
  have X1 := Lib.hid (X0.out.below hb)
  have R1 := Lib.hid (R0.out.below hb)
  clear hb B0 X0 R0
  have LWE := Lib.hid E1.out.lt
  have HB0 := Lib.hid (show w.heap.size < b0 ∧ b0 < w1.heap.size from ⟨by have := LE.out; omega, E1.out.lt⟩)
  have O1 := Lib.hid (ow_bx0 (k := .i64) E1.out)
  clear E1
  go_wp2_with (refine stw.list_load rfl 31 _ rfl (w.heap.size) rfl 31 _ X1.out Try.underlying31 rfl ux.szRob ?_)
  (with_reducible refine (implVr s xs lo hi A n c _ R1.out).mono ?_)
  rintro e w2 hp
  obtain ⟨rfl, hb⟩ := b_parts HV.out hp
  clear hp
  have SS2 := Lib.hid hb.size
  have B2 := Lib.hid (B1.out.trans (hb.mono B1.out.size))
  have X2 := Lib.hid (X1.out.below hb)
  have R2 := Lib.hid (R1.out.below hb)
  have O2 := Lib.hid (O1.out.below hb)
  clear hb  B1 X1 R1 O1
  cases v with
  | true =>
    have HVV := Lib.hid (show vr ⟨s, xs⟩ = true from HV.out)
    have cX0 : w2.cell? ⟨w.heap.size, 0, none⟩ = some (.int .i64 s) := X2.out.cell 0
    have cX1 : w2.cell? ⟨w.heap.size, 1, none⟩ = some (.slice A n c) := X2.out.cell 1
    go_wp2_with (refine stw.list_load rfl 31 _ rfl (w.heap.size) rfl 31 _ X2.out Try.underlying31 rfl ux.szRob ?_)
    clear cX0 cX1
    obtain ⟨L0, hL0⟩ : ∃ m, w2.heap.size = m := ⟨_, rfl⟩
    have HL0 := Lib.hid (show w.heap.size + 1 < L0 by have h1 := HB0.out; have hlE := LE.out; have hs0 := LTX.out; have hs1 := LHR.out; have hs2 := SS1.out; have hs3 := LWE.out; have hs4 := HB0.out; have hs5 := SS2.out; omega)
    have HBL0 := Lib.hid (show b0 < L0 by have h1 := HB0.out; have hlE := LE.out; have hs0 := LTX.out; have hs1 := LHR.out; have hs2 := SS1.out; have hs3 := LWE.out; have hs4 := HB0.out; have hs5 := SS2.out; omega)
    (with_reducible refine (implRo s xs lo hi A n c _ R2.out HVV.out).mono ?_)
    rintro e w3 hp
    obtain ⟨be, rfl, hE, hbe, hb⟩ := rg_parts hp
    clear hp
    have HBE := Lib.hid (show L0 ≤ be ∧ be < w3.heap.size from ⟨by omega, hE.lt⟩)
    have HLN := Lib.hid (show L0 ≤ w3.heap.size by have h1 := hE.lt; omega)
    clear hbe hL0
    have SS3 := Lib.hid hb.size
    have B3 := Lib.hid (B2.out.trans (hb.mono B2.out.size))
    have X3 := Lib.hid (X2.out.below hb)
    have R3 := Lib.hid (R2.out.below hb)
    have O3 := Lib.hid (O2.out.below hb)
    clear hb B2 X2 R2 O2
    have E3 := Lib.hid hE
    clear hE
    obtain ⟨hok, hpe⟩ := vr_ok HVV.out
    have HOKW := Lib.hid hok
    have HPE := Lib.hid hpe
    clear hok hpe
    have hX0 : Bx 78 (w3.alloc (.cells vcs0 78)) w3.heap.size vcs0 := Bx.made _ _ _
    have hS0 : vcs0.size = (vcs (start ⟨s, xs⟩) (.slice (some ⟨be, 0, none⟩) 0 0)).size := (vcs_size none16_len).trans (vcs_size HOKW.out.len).symm
    have hS1 := szRv (t := start ⟨s, xs⟩) (hd := .slice (some ⟨be, 0, none⟩) 0 0) HOKW.out.len
    have hO1 := vcs_one (start ⟨s, xs⟩) (some ⟨be, 0, none⟩) 0 0
    go_upto_region 5 with (refine stw.list_store rfl 78 _ _ rfl (w3.heap.size) (vcs (start ⟨s, xs⟩) (.slice (some ⟨be, 0, none⟩) 0 0)) rfl rfl 78 _ hX0 hS0 hS1 hO1 ?_; intro wz hz)
    have hb := hz.on ((Below.refl w3.heap.size w3).alloc (Nat.le_refl _) (.cells vcs0 78)) (Nat.le_refl _)
    have hE := hz.keep (E3.out.below (bx.below_box _ _)) (by have := HBE.out; omega)
    have hV := hz.box
    clear hz hX0 hS0 hS1 hO1
    obtain ⟨w4, hwz⟩ : ∃ w5, wz = w5 := ⟨_, rfl⟩
    rw [hwz] at hb hE hV ⊢
    clear hwz
    have hr := Rv.start_ (t := start ⟨s, xs⟩) hE hV (by have := HBE.out; omega) rfl HOKW.out.len HOKW.out.s (fun x hx => ⟨start_wf HWF.out x hx, HOKW.out.b x hx⟩)
    clear hE hV
    obtain ⟨b9, hb9⟩ : ∃ b, w3.heap.size = b := ⟨_, rfl⟩
    have HB9 := Lib.hid (show L0 ≤ b9 by have := HLN.out; omega)
    rw [hb9] at hr
    (try rw [hb9])
    clear hb9
    have HOL := Lib.hid (show (start ⟨s, xs⟩).out.length ≤ 1000000 from Nat.zero_le _)
    clear E3
    have SS4 := Lib.hid hb.size
    have B4 := Lib.hid (B3.out.trans (hb.mono B3.out.size))
    have X4 := Lib.hid (X3.out.below hb)
    have R4 := Lib.hid (R3.out.below hb)
    have O4 := Lib.hid (O3.out.below hb)
    clear hb B3 X3 R3 O3
    have RV4 := Lib.hid hr
    have HFP4 := Lib.hid (show ∀ q, q ∈ [be] → L0 ≤ q from fun q hq => by have := List.mem_singleton.1 hq; have := HBE.out; omega)
    clear hr
    (try simp only [Act.put, List.setIfInBounds_toArray, List.set_cons_zero, List.set_cons_succ])
    go_loopw [3, 4] (fun v0 v1 wr => ∃ (k n1 c1 : Nat) (A1 : Option Addr) (b : Nat) (f : List Nat) (acc : List Int), v0 = .slice A1 n1 c1 ∧ v1 = .pointer (some ⟨b, 0, none⟩) ∧ k ≤ 16 ∧ Rv wr b f (advS (start ⟨s, xs⟩) k) ∧ (∀ q, q ∈ f → L0 ≤ q) ∧ L0 ≤ b ∧ Below w.heap.size w wr ∧ Ow 3 .i64 wr b0 wr.heap.size A1 n1 c1 acc ∧ (∀ q, blkOf A1 = some q → q ≠ b ∧ q ∉ f) ∧ miss s (start ⟨s, xs⟩).ws = acc ++ miss (advS (start ⟨s, xs⟩) k).s (advS (start ⟨s, xs⟩) k).ws ∧ n1 ≤ k) (fun _ p wr => ((s + 20 - sAt wr (ptrB p)) % 4096).toNat)
    case atStart => exact ⟨0, 0, 0, some ⟨b0, 0, none⟩, b9, [be], [], rfl, rfl, Nat.zero_le _, by rw [adv_zero HOKW.out.s]; exact RV4.out, HFP4.out, HB9.out, B4.out, O4.out.up, fun q hq => by obtain rfl : b0 = q := (by simpa [blkOf] using hq); exact ⟨by have := HB9.out; have := HBL0.out; omega, fun hm => by have := HFP4.out _ hm; have := HBL0.out; omega⟩, by rw [adv_zero HOKW.out.s]; rfl, Nat.le_refl _⟩
    case round =>
      obtain ⟨k, n1, c1, A1, b, f, acc, rfl, rfl, hk, hr, hf, hbL, hB, hO, hdj, hms, hn1⟩ := hrel
      have HR := Lib.hid hr
      have HF := Lib.hid hf
      have HBL := Lib.hid hbL
      have HBB := Lib.hid hB
      have HO := Lib.hid hO
      have HDJ := Lib.hid hdj
      have HMS := Lib.hid hms
      have HKN := Lib.hid (And.intro hk hn1)
      obtain ⟨A5, n5, c5, hX5, hO5, hbf5, hl5, hs5, hw5⟩ := hr
      have HX := Lib.hid hX5
      have HO5 := Lib.hid hO5
      have HBF5 := Lib.hid hbf5
      have HL5 := Lib.hid hl5
      have HS5 := Lib.hid hs5
      have HW5 := Lib.hid hw5
      have HLT := Lib.hid hX5.lt
      clear hf hbL hB hO hdj hms hk hn1 hX5 hO5 hbf5 hl5 hs5 hw5
      obtain ⟨va, hva⟩ : ∃ v, (advS (start ⟨s, xs⟩) k).ws.all (·.isNone) = v := ⟨_, rfl⟩
      have HVA := Lib.hid hva
      clear hva
      cases va with
      | true =>
        have HE := Lib.hid (show msn ⟨s, xs⟩ = acc by rw [msn_yes HVV.out]; show miss s (start ⟨s, xs⟩).ws = acc; rw [HMS.out, miss_end HVA.out, List.append_nil])
        have hne : (binOp .neq 76 (.agg (wcs (advS (start ⟨s, xs⟩) k).ws).toArray) (.agg (wcs none16).toArray)).run Try.prog wr = .ok (.bool false) wr := by have h := eq_win HL5.out wr; rw [HVA.out] at h; exact h
        have hbw := build_win wr
        go_wp2_with (first | (refine wpList_load_mid rfl 76 _ rfl b 1 rfl (wcs (advS (start ⟨s, xs⟩) k).ws) _ (win_range HX.out) Try.underlying76 rfl (szWin HL5.out) ?_) | (refine list_build0 rfl _ rfl _ hbw ?_) | (refine list_neq rfl _ _ _ _ rfl _ _ rfl rfl (by kernel_rfl) _ hne ?_))
        clear hne hbw
        go_ret
        rw [HE.out]
        exact ⟨_, _, _, rfl, HO.out.down (by have := HB0.out; omega), HBB.out⟩
      | false =>
        have HK16 := Lib.hid (all_step HOKW.out.len HKN.out.1 HVA.out)
        obtain ⟨oo, hoo⟩ : ∃ o, (advS (start ⟨s, xs⟩) k).ws[0]? = some o := ⟨_, List.getElem?_eq_getElem (by have := HL5.out; omega)⟩
        have HOO := Lib.hid hoo
        have HST := Lib.hid (miss_step HL5.out hoo HVA.out)
        rw [adv_step (show k < (start ⟨s, xs⟩).ws.length by have := HOKW.out.len; have := HK16.out; omega)] at HST
        clear hoo
        have hne : (binOp .neq 76 (.agg (wcs (advS (start ⟨s, xs⟩) k).ws).toArray) (.agg (wcs none16).toArray)).run Try.prog wr = .ok (.bool true) wr := by have h := eq_win HL5.out wr; rw [HVA.out] at h; exact h
        have hbw := build_win wr
        go_upto_region 7 with (first | (refine wpList_load_mid rfl 76 _ rfl b 1 rfl (wcs (advS (start ⟨s, xs⟩) k).ws) _ (win_range HX.out) Try.underlying76 rfl (szWin HL5.out) ?_) | (refine list_build0 rfl _ rfl _ hbw ?_) | (refine list_neq rfl _ _ _ _ rfl _ _ rfl rfl (by kernel_rfl) _ hne ?_))
        clear hne hbw
        have c0 : wr.cell? ⟨b, 1, none⟩ = some (.bool oo.isSome) := by
          rw [HX.out.cell]
          exact vcs_win (i := 0) (wcs_at HOO.out).1
        have c1' : wr.cell? ⟨b, 0, none⟩ = some (.int .i64 (advS (start ⟨s, xs⟩) k).s) := by
          rw [HX.out.cell]; rfl
        cases oo with
        | none =>
          have c0 : wr.cell? ⟨b, 1, none⟩ = some (.bool false) := c0
          have HMS2 := Lib.hid (show miss s (start ⟨s, xs⟩).ws = (acc ++ [(advS (start ⟨s, xs⟩) k).s]) ++ miss (advS (start ⟨s, xs⟩) (k + 1)).s (advS (start ⟨s, xs⟩) (k + 1)).ws by rw [HMS.out, HST.out, List.append_assoc, show (advS (start ⟨s, xs⟩) k).s % 4096 = (advS (start ⟨s, xs⟩) k).s by have := HS5.out; omega]; rfl)
          go_upto_region 9 with (at_builtin; refine wpList_num _ rfl _ _ 24 rfl 3 i0 _ .i64 Try.underlying24 HZ.out.1 HZ.out.2.1 HZ.out.2.2.1 (by rw [HZ.out.2.2.2]; omega) rfl rfl rfl (HO.out.alloc _) (Rd.one .i64 _ _ _ (WalkArith.wf_i64 (by have := HS5.out; omega))) (by have := HKN.out; have := HK16.out; omega) (by have h1 := HB0.out; have h2 := HBL0.out; have h3 := HBL.out; have h4 := HLT.out; simp <;> omega) ?_; intro A2 c2 w2 ho hg _ hn2; have hbx := bx.below_box wr (.cells #[.int .i64 (advS (start ⟨s, xs⟩) k).s] 3); have HO2 := Lib.hid ho; have HR2 := Lib.hid ((HR.out.below hbx).grown hg HDJ.out); have HB2 := Lib.hid (below_grown (HBB.out.trans (hbx.mono HBB.out.size)) hg (fun q hq => by have h1 := (ux.ow_in HO.out q (blk_blks hq)).1; have h2 := HB0.out; omega) (by have h1 := HBB.out.size; simp <;> omega)); have HSZ2 := Lib.hid (show wr.heap.size < w2.heap.size by have h1 := hg.size; simp at h1; omega); have HDJ2 := Lib.hid (show ∀ q, blkOf A2 = some q → q ≠ b ∧ q ∉ f from fun q hq => by rcases hn2 with h1 | h1; exact HDJ.out q (h1 ▸ hq); (have h2 := h1 q hq; simp at h2; exact ⟨by have := HLT.out; omega, fun hm => by have := (HO5.out.inn q hm).2; omega⟩)); clear ho hg hn2 hbx c0 c1')
          obtain ⟨A6, n6, c6, hX6, hO6, hbf6, hl6, hs6, hw6⟩ := HR2.out
          have HX6 := Lib.hid hX6
          have HO6 := Lib.hid hO6
          have HL6 := Lib.hid hl6
          have HW6 := Lib.hid hw6
          clear hX6 hO6 hbf6 hl6 hs6 hw6
          have hXn : Bx 78 (w2.alloc (.cells vcs0 78)) w2.heap.size vcs0 := Bx.made _ _ _
          have hSn : vcs0.size = (vcs (advS (start ⟨s, xs⟩) k) (.slice A6 n6 c6)).size := (vcs_size none16_len).trans (vcs_size HL6.out).symm
          have hS1 := szRv (t := advS (start ⟨s, xs⟩) k) (hd := .slice A6 n6 c6) HL6.out
          have hO1 := vcs_one (advS (start ⟨s, xs⟩) k) A6 n6 c6
          go_upto_region 6 with (first | (refine stw.list_load rfl 78 _ rfl b rfl 78 _ HX6.out Try.underlying78 rfl hS1 ?_) | (refine stw.list_store rfl 78 _ _ rfl (w2.heap.size) (vcs (advS (start ⟨s, xs⟩) k) (.slice A6 n6 c6)) rfl rfl 78 _ hXn hSn hS1 hO1 ?_; intro wz hz))
          have hb3 := hz.on ((Below.refl w2.heap.size w2).alloc (Nat.le_refl _) (.cells vcs0 78)) (Nat.le_refl _)
          have HV := Lib.hid hz.box
          have HBZ := Lib.hid hb3
          have HNF := Lib.hid (show w2.heap.size ∉ f from fun hm => by have := (HO6.out.inn _ hm).2; omega)
          have HRZ := Lib.hid (show Rv wz w2.heap.size f (advS (start ⟨s, xs⟩) k) from ⟨A6, n6, c6, HV.out, (HO6.out.below hb3).wide (Nat.le_refl _), HNF.out, HL6.out, HS5.out, HW6.out⟩)
          clear hz hb3 hXn hSn hS1 hO1
          go_wp2_with fail
          have HA : Calls Try.prog 63 #[.pointer (some ⟨w2.heap.size, 0, none⟩), .int .i64 1] wz (AvPost w2.heap.size f (advS (advS (start ⟨s, xs⟩) k) 1) wz) := advance (advS (start ⟨s, xs⟩) k) 1 w2.heap.size f wz HRZ.out (by omega) (by have h1 := adv_out (start ⟨s, xs⟩) k; have h2 := HOKW.out.len; have h3 : (start ⟨s, xs⟩).out.length = 0 := rfl; omega)
          have HA := Lib.hid HA
          (with_reducible refine HA.out.mono ?_)
          rintro e w4 hp
          obtain ⟨rfl, f2, hr2, hf2, hk2⟩ := av_parts hp
          clear hp
          rw [adv_step (show k < (start ⟨s, xs⟩).ws.length by have := HOKW.out.len; have := HK16.out; omega)] at hr2
          have HSB := Lib.hid (show L0 ≤ w2.heap.size by have := HLT.out; have := HBL.out; have := HSZ2.out; first | omega | skip)
          have HDW := Lib.hid (show ∀ q, blkOf A2 = some q → q < w2.heap.size from fun q hq => by have h1 := (ux.ow_in HO2.out q (blk_blks hq)).2; omega)
          have HOE := Lib.hid (show Ow 3 .i64 w4 b0 w4.heap.size A2 (n1 + 1) c2 (acc ++ [(advS (start ⟨s, xs⟩) k).s]) from (ow_kept (HO2.out.below HBZ.out) hk2 (fun q hq hm => by rcases List.mem_cons.1 hm with h1 | h1; (have := HDW.out q hq; omega); exact (HDJ2.out q hq).2 h1)).up)
          have HBE4 := Lib.hid (show Below w.heap.size w w4 from (HB2.out.trans (HBZ.out.mono HB2.out.size)).trans (ux.ks_bel hk2 (fun q hm => by rcases List.mem_cons.1 hm with h1 | h1; (have := HB2.out.size; omega); (have h2 := HF.out q h1; have h3 := HBL0.out; have h4 := HB0.out; omega)) (HB2.out.trans (HBZ.out.mono HB2.out.size)).size))
          have HWZ := Lib.hid HBZ.out.size
          have HM := Lib.hid (show ((s + 20 - sAt w4 (ptrB (.pointer (some ⟨w2.heap.size, 0, none⟩)))) % 4096).toNat < ((s + 20 - sAt wr (ptrB (.pointer (some ⟨b, 0, none⟩)))) % 4096).toNat by
            have h1 : sAt w4 (ptrB (.pointer (some ⟨w2.heap.size, 0, none⟩))) = (s + ((k + 1 : Nat) : Int)) % 4096 := sAt_of hr2
            have h2 : sAt wr (ptrB (.pointer (some ⟨b, 0, none⟩))) = (s + (k : Int)) % 4096 := sAt_of HR.out
            rw [h1, h2]
            have h3 := HK16.out
            have h4 : 0 ≤ s ∧ s ≤ 4095 := HOKW.out.s
            push_cast
            omega)
          have HR4 := Lib.hid hr2
          have HF4 := Lib.hid hf2
          clear hr2 hf2 hk2
          go_wp2_with fail
          go_roundw
          case rel => exact ⟨k + 1, (n1 + 1), c2, A2, w2.heap.size, f2, (acc ++ [(advS (start ⟨s, xs⟩) k).s]), rfl, rfl, by have := HK16.out; omega, HR4.out, fun q hq => by rcases HF4.out q hq with h1 | h1; exact HF.out q h1; (have := HSB.out; have := HWZ.out; omega), HSB.out, HBE4.out, HOE.out, fun q hq => ⟨by have := HDW.out q hq; omega, fun hm => by rcases HF4.out q hm with h1 | h1; exact (HDJ2.out q hq).2 h1; (have := HDW.out q hq; have := HWZ.out; omega)⟩, HMS2.out, by have := HKN.out; omega⟩
          case measure => exact HM.out
        | some bo =>
          have c0 : wr.cell? ⟨b, 1, none⟩ = some (.bool true) := c0
          have HMS2 := Lib.hid (show miss s (start ⟨s, xs⟩).ws = acc ++ miss (advS (start ⟨s, xs⟩) (k + 1)).s (advS (start ⟨s, xs⟩) (k + 1)).ws by rw [HMS.out, HST.out]; rfl)
          go_upto_region 9 with fail
          clear c0 c1'
          obtain ⟨A6, n6, c6, hX6, hO6, hbf6, hl6, hs6, hw6⟩ := HR.out
          have HX6 := Lib.hid hX6
          have HO6 := Lib.hid hO6
          have HL6 := Lib.hid hl6
          have HW6 := Lib.hid hw6
          clear hX6 hO6 hbf6 hl6 hs6 hw6
          have hXn : Bx 78 (wr.alloc (.cells vcs0 78)) wr.heap.size vcs0 := Bx.made _ _ _
          have hSn : vcs0.size = (vcs (advS (start ⟨s, xs⟩) k) (.slice A6 n6 c6)).size := (vcs_size none16_len).trans (vcs_size HL6.out).symm
          have hS1 := szRv (t := advS (start ⟨s, xs⟩) k) (hd := .slice A6 n6 c6) HL6.out
          have hO1 := vcs_one (advS (start ⟨s, xs⟩) k) A6 n6 c6
          go_upto_region 6 with (first | (refine stw.list_load rfl 78 _ rfl b rfl 78 _ HX6.out Try.underlying78 rfl hS1 ?_) | (refine stw.list_store rfl 78 _ _ rfl (wr.heap.size) (vcs (advS (start ⟨s, xs⟩) k) (.slice A6 n6 c6)) rfl rfl 78 _ hXn hSn hS1 hO1 ?_; intro wz hz))
          have hb3 := hz.on ((Below.refl wr.heap.size wr).alloc (Nat.le_refl _) (.cells vcs0 78)) (Nat.le_refl _)
          have HV := Lib.hid hz.box
          have HBZ := Lib.hid hb3
          have HNF := Lib.hid (show wr.heap.size ∉ f from fun hm => by have := (HO6.out.inn _ hm).2; omega)
          have HRZ := Lib.hid (show Rv wz wr.heap.size f (advS (start ⟨s, xs⟩) k) from ⟨A6, n6, c6, HV.out, (HO6.out.below hb3).wide (Nat.le_refl _), HNF.out, HL6.out, HS5.out, HW6.out⟩)
          clear hz hb3 hXn hSn hS1 hO1
          go_wp2_with fail
          have HA : Calls Try.prog 63 #[.pointer (some ⟨wr.heap.size, 0, none⟩), .int .i64 1] wz (AvPost wr.heap.size f (advS (advS (start ⟨s, xs⟩) k) 1) wz) := advance (advS (start ⟨s, xs⟩) k) 1 wr.heap.size f wz HRZ.out (by omega) (by have h1 := adv_out (start ⟨s, xs⟩) k; have h2 := HOKW.out.len; have h3 : (start ⟨s, xs⟩).out.length = 0 := rfl; omega)
          have HA := Lib.hid HA
          (with_reducible refine HA.out.mono ?_)
          rintro e w4 hp
          obtain ⟨rfl, f2, hr2, hf2, hk2⟩ := av_parts hp
          clear hp
          rw [adv_step (show k < (start ⟨s, xs⟩).ws.length by have := HOKW.out.len; have := HK16.out; omega)] at hr2
          have HSB := Lib.hid (show L0 ≤ wr.heap.size by have := HLT.out; have := HBL.out; first | omega | skip)
          have HDW := Lib.hid (show ∀ q, blkOf A1 = some q → q < wr.heap.size from fun q hq => by have h1 := (ux.ow_in HO.out q (blk_blks hq)).2; omega)
          have HOE := Lib.hid (show Ow 3 .i64 w4 b0 w4.heap.size A1 n1 c1 acc from (ow_kept (HO.out.below HBZ.out) hk2 (fun q hq hm => by rcases List.mem_cons.1 hm with h1 | h1; (have := HDW.out q hq; omega); exact (HDJ.out q hq).2 h1)).up)
          have HBE4 := Lib.hid (show Below w.heap.size w w4 from (HBB.out.trans (HBZ.out.mono HBB.out.size)).trans (ux.ks_bel hk2 (fun q hm => by rcases List.mem_cons.1 hm with h1 | h1; (have := HBB.out.size; omega); (have h2 := HF.out q h1; have h3 := HBL0.out; have h4 := HB0.out; omega)) (HBB.out.trans (HBZ.out.mono HBB.out.size)).size))
          have HWZ := Lib.hid HBZ.out.size
          have HM := Lib.hid (show ((s + 20 - sAt w4 (ptrB (.pointer (some ⟨wr.heap.size, 0, none⟩)))) % 4096).toNat < ((s + 20 - sAt wr (ptrB (.pointer (some ⟨b, 0, none⟩)))) % 4096).toNat by
            have h1 : sAt w4 (ptrB (.pointer (some ⟨wr.heap.size, 0, none⟩))) = (s + ((k + 1 : Nat) : Int)) % 4096 := sAt_of hr2
            have h2 : sAt wr (ptrB (.pointer (some ⟨b, 0, none⟩))) = (s + (k : Int)) % 4096 := sAt_of HR.out
            rw [h1, h2]
            have h3 := HK16.out
            have h4 : 0 ≤ s ∧ s ≤ 4095 := HOKW.out.s
            push_cast
            omega)
          have HR4 := Lib.hid hr2
          have HF4 := Lib.hid hf2
          clear hr2 hf2 hk2
          go_wp2_with fail
          go_roundw
          case rel => exact ⟨k + 1, n1, c1, A1, wr.heap.size, f2, acc, rfl, rfl, by have := HK16.out; omega, HR4.out, fun q hq => by rcases HF4.out q hq with h1 | h1; exact HF.out q h1; (have := HSB.out; have := HWZ.out; omega), HSB.out, HBE4.out, HOE.out, fun q hq => ⟨by have := HDW.out q hq; omega, fun hm => by rcases HF4.out q hm with h1 | h1; exact (HDJ.out q hq).2 h1; (have := HDW.out q hq; have := HWZ.out; omega)⟩, HMS2.out, by have := HKN.out; omega⟩
          case measure => exact HM.out
  | false =>
    go_wp2_with fail
    have HE := Lib.hid (msn_no HV.out)
    rw [HE.out]
    go_ret
    exact ⟨_, _, _, rfl, ((O2.out).up.down (by have hlE := LE.out; have hs0 := LTX.out; have hs1 := LHR.out; have hs2 := SS1.out; have hs3 := LWE.out; have hs4 := HB0.out; have hs5 := SS2.out; first | omega | (simp <;> omega))), B2.out⟩
end Go.Proofs.Ytmmhleobgpgliaa.ro
