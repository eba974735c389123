import Derived.Test.YtejjafmppihneaaMs0
import Derived.Test.YtejjafmppihneaaHarn
import Derived.Test.YtejjafmppihneaaShelf
import Derived.Test.YtejjafmppihneaaRo1
import Derived.Test.YtejjafmppihneaaRg5
import Derived.Test.YtejjafmppihneaaDraw2
import Derived.Test.YtejjafmppihneaaDrawB
import Derived.Test.YtejjafmppihneaaDrk
import Derived.Test.YtejjafmppihneaaRgk
import Derived.Deep.Cut
import Derived.ArgAppend
/- MissingNumbers of the program. Condition: none. -/
namespace Go.Proofs.Ytejjafmppihneaa.ro
open Go.RowKit sl harn bx stw
set_option linter.unusedVariables false
open ux (Nf Rob RR OO row rowB rowNf nf rob)
open mrw (blkOf)
open bs (nsq sqd)
set_option linter.unusedSimpArgs false
open mrw

theorem ow_bx0 {E : TypeId} {k : IntKind} {w : World} {b : Nat} (h : Bx E w b #[]) : Ow E k w b w.heap.size (some ⟨b, 0, none⟩) 0 0 [] :=
  ⟨⟨rfl, .inr ⟨b, 0, #[], rfl, Nat.le_refl _, h, Nat.le_refl _, by unfold maxLen; omega, rfl, rfl⟩⟩, Wf.nil k, Nat.le_refl _, fun g o e => by injection e with e; injection e with e _; subst e; exact h.lt⟩
def ptrB : Value → Nat
  | .pointer (some a) => a.block
  | _ => 0
theorem msn_no {r : Rob} (h : vr r = false) : msn r = [] := by unfold msn; rw [h]; rfl
theorem msn_yes {r : Rob} (h : vr r = true) : msn r = miss r.Start (start r).ws := by unfold msn; rw [if_pos h]
theorem blk_blks {A : Option Addr} {q : Nat} (h : blkOf A = some q) : q ∈ ux.blks A := by
  cases A with
  | none => cases h
  | some a => have : a.block = q := by simpa [blkOf] using h
              subst this; exact List.mem_singleton.2 rfl
theorem blks_blk {A : Option Addr} {q : Nat} (h : q ∈ ux.blks A) : blkOf A = some q := by
  cases A with
  | none => cases h
  | some a => have : q = a.block := by simpa [ux.blks] using h
              subst this; rfl
theorem ow_kept {E : TypeId} {k : IntKind} {w w' : World} {lo hi n c : Nat} {A : Option Addr} {zs : List Int} {F : List Nat} (h : Ow E k w lo hi A n c zs) (hk : KS F w w') (hd : ∀ q, blkOf A = some q → q ∉ F) : Ow E k w' lo hi A n c zs :=
  ux.ow_as h hk.size fun b hb => hk.block b (by have := (ux.ow_in h b hb).2; have := h.hi_; omega) (hd b (blks_blk hb))
theorem Rv.grown {w w' : World} {b : Nat} {f : List Nat} {t : St} {r : Option Nat} (h : Rv w b f t) (hg : w.grownBy w' r) (hd : ∀ q, r = some q → q ≠ b ∧ q ∉ f) : Rv w' b f t := by
  obtain ⟨A, n, c, h1, h2, h3⟩ := h
  exact ⟨A, n, c, mrw.grown_bx h1 hg (fun e => (hd b e.symm).1 rfl), (ux.oo_grown h2 hg fun q hq e => (hd q e.symm).2 hq).wide (Nat.le_refl _), h3⟩
theorem list_val {P : Program} {w : World} {ops : Array Oper} {rest : List Oper} {o : Oper} {a : Act} {Q : Exit → Act → World → Prop} (hg : o.guard = none) (v : Value) (hr : (execOp a.eval o).run P w = .ok (.value v) w) (hK : wpList P ops Q rest (a.put o.dst v) w) : wpList P ops Q (o :: rest) a w := by
  refine wpList_plain hg fun K hK' => ?_
  unfold Oper.wp
  rw [hr]
  exact hK' _ _ hK
theorem list_build0 {P : Program} {w : World} {ops : Array Oper} {rest : List Oper} {o : Oper} {a : Act} {Q : Exit → Act → World → Prop} (hg : o.guard = none) (t : TypeId) (ho : o.op = .build t #[]) (z : Value) (hz : (Instr.build t #[]).run P w = .ok z w) (hK : wpList P ops Q rest (a.put o.dst z) w) : wpList P ops Q (o :: rest) a w :=
  list_val hg z (by simp [execOp, ho, hz]) hK
theorem list_neq {P : Program} {w : World} {ops : Array Oper} {rest : List Oper} {o : Oper} {a : Act} {Q : Exit → Act → World → Prop} (hg : o.guard = none) (t t2 : TypeId) (x y : Operand) (ho : o.op = .binOp .neq t x y t2) (xs ys : Array Value) (hx : a.eval x = .agg xs) (hy : a.eval y = .agg ys) (hm : P.eqGuardType P.depth t = false) (v : Value) (hv : (binOp .neq t (.agg xs) (.agg ys)).run P w = .ok v w) (hK : wpList P ops Q rest (a.put o.dst v) w) : wpList P ops Q (o :: rest) a w :=
  list_val hg v (by simp [execOp, ho, hx, hy, run_eqGuard_agg w .neq t x y xs ys hm, hv]) hK
theorem build_win (w : World) : (Instr.build 82 #[]).run Try.prog w = .ok (.agg (wcs none16).toArray) w := by kernel_rfl
theorem all_step {t : St} {k : Nat} (hl : t.ws.length = 16) (hk : k ≤ 16) (ha : (advS t k).ws.all (·.isNone) = false) : k < 16 := by
  rcases Nat.lt_or_ge k 16 with h | h
  · exact h
  · obtain rfl : k = 16 := by omega
    rw [adv_all hl] at ha; cases ha
theorem adv_s_at (t : St) (k : Nat) : (advS t k).s = (t.s + (k : Int)) % 4096 := rfl
set_option maxRecDepth 100000 in
set_option maxHeartbeats 4000000 in
theorem implMs (s : Int) (xs : List Nf) (lo hi : Nat) (A : Option Addr) (n c : Nat) (w : World) (h : RR rowNf w lo hi (.slice A n c) xs) :
    Calls Try.prog 42 #[.agg #[.int .i64 s, .slice A n c]] w (SlPost 3 .i64 w (msn ⟨s, xs⟩)) := by
  have RW := Lib.hid h
  obtain ⟨hlR, hncR, hcmR⟩ := nf_len h
  have HL := Lib.hid hlR
  have LHR := Lib.hid (show hi ≤ w.heap.size from h.hi_)
  clear hlR h
  have HWF := Lib.hid (rr_wf RW.out)
  obtain ⟨i0, hi0, hz0, hz1, hz2⟩ := info_parts intInfo
  have HZ := Lib.hid (And.intro hi0 (And.intro hz0 (And.intro hz1 hz2)))
  clear hi0 hz0 hz1 hz2
  obtain ⟨v, hv⟩ : ∃ v, vr ⟨s, xs⟩ = v := ⟨_, rfl⟩
  have HV := Lib.hid hv
  clear hv
  go_enter Try.func42, Try.ntmps42
  go_upto_region 1 with fail
  obtain ⟨w0, hW⟩ : ∃ w0, w.alloc (.cells #[.int .i64 s, .slice A n c] 50) = w0 := ⟨_, rfl⟩
  rw [hW]
  have B0 := Lib.hid (show Below w.heap.size w w0 by rw [← hW]; exact (Below.refl _ _).alloc (by simp <;> omega) _)
  have X0 := Lib.hid (show Bx 50 w0 (w.heap.size) #[.int .i64 s, .slice A n c] by
      rw [← hW]
      have hh := Bx.made 50 w #[.int .i64 s, .slice A n c]
      exact hh)
  have R0 := Lib.hid (show RR rowNf w0 lo hi (.slice A n c) xs by rw [← hW]; exact (RW.out.below (below_box _ _)))
  clear hW
  have LTX := Lib.hid X0.out.lt
  obtain ⟨b0, hbb⟩ : ∃ b, w0.heap.size = b := ⟨_, rfl⟩
  go_upto_region 2 with fail
  generalize hW : w0.alloc (.cells #[] 3) = w1
  have LE := Lib.hid (show w.heap.size ≤ b0 ∧ w.heap.size < b0 ∧ hi ≤ b0 by have h1 := B0.out.size; have h2X := X0.out.lt; have h2R := R0.out.hi_; have h3 := hbb; omega)
  have E1 := Lib.hid (show Bx 3 w1 b0 #[] by rw [← hW, ← hbb]; exact Bx.made _ _ _)
  have hb : Below w0.heap.size w0 w1 := by rw [← hW]; exact below_box _ _
  (try rw [hbb])
  clear hW hbb
  have SS1 := Lib.hid hb.size
  have B1 := Lib.hid (B0.out.trans (hb.mono B0.out.size))
  have X1 := Lib.hid (X0.out.below hb)
  have R1 := Lib.hid (R0.out.below hb)
  clear hb B0 X0 R0
  have LWE := Lib.hid E1.out.lt
  have HB0 := Lib.hid (show w.heap.size < b0 ∧ b0 < w1.heap.size from ⟨by have := LE.out; omega, E1.out.lt⟩)
  have O1 := Lib.hid (ow_bx0 (k := .i64) E1.out)
  clear E1
  go_wp2_with (refine stw.list_load rfl 50 _ rfl (w.heap.size) rfl 50 _ X1.out Try.underlying50 rfl ux.szRob ?_)
  (with_reducible refine (implVr s xs lo hi A n c _ R1.out).mono ?_)
  rintro e w2 hp
  obtain ⟨rfl, hb⟩ := b_parts HV.out hp
  clear hp
  have SS2 := Lib.hid hb.size
  have B2 := Lib.hid (B1.out.trans (hb.mono B1.out.size))
  have X2 := Lib.hid (X1.out.below hb)
  have R2 := Lib.hid (R1.out.below hb)
  have O2 := Lib.hid (O1.out.below hb)
  clear hb  B1 X1 R1 O1
  cases v with
  | true =>
    have HVV := Lib.hid (show vr ⟨s, xs⟩ = true from HV.out)
    have cX0 : w2.cell? ⟨w.heap.size, 0, none⟩ = some (.int .i64 s) := X2.out.cell 0
    have cX1 : w2.cell? ⟨w.heap.size, 1, none⟩ = some (.slice A n c) := X2.out.cell 1
    go_wp2_with (refine stw.list_load rfl 50 _ rfl (w.heap.size) rfl 50 _ X2.out Try.underlying50 rfl ux.szRob ?_)
    clear cX0 cX1
    obtain ⟨L0, hL0⟩ : ∃ m, w2.heap.size = m := ⟨_, rfl⟩
    have HL0 := Lib.hid (show w.heap.size + 1 < L0 by have h1 := HB0.out; have hlE := LE.out; have hs0 := LTX.out; have hs1 := LHR.out; have hs2 := SS1.out; have hs3 := LWE.out; have hs4 := HB0.out; have hs5 := SS2.out; omega)
    have HBL0 := Lib.hid (show b0 < L0 by have h1 := HB0.out; have hlE := LE.out; have hs0 := LTX.out; have hs1 := LHR.out; have hs2 := SS1.out; have hs3 := LWE.out; have hs4 := HB0.out; have hs5 := SS2.out; omega)
    (with_reducible refine (implRo s xs lo hi A n c _ R2.out HVV.out).mono ?_)
    rintro e w3 hp
    obtain ⟨be, rfl, hE, hbe, hb⟩ := rg_parts hp
    clear hp
    have HBE := Lib.hid (show L0 ≤ be ∧ be < w3.heap.size from ⟨by omega, hE.lt⟩)
    have HLN := Lib.hid (show L0 ≤ w3.heap.size by have h1 := hE.lt; omega)
    clear hbe hL0
    have SS3 := Lib.hid hb.size
    have B3 := Lib.hid (B2.out.trans (hb.mono B2.out.size))
    have X3 := Lib.hid (X2.out.below hb)
    have R3 := Lib.hid (R2.out.below hb)
    have O3 := Lib.hid (O2.out.below hb)
    clear hb B2 X2 R2 O2
    have E3 := Lib.hid hE
    clear hE
    obtain ⟨hok, hpe⟩ := vr_ok HVV.out
    have HOKW := Lib.hid hok
    have HPE := Lib.hid hpe
    clear hok hpe
    have hX0 : Bx 84 (w3.alloc (.cells vcs0 84)) w3.heap.size vcs0 := Bx.made _ _ _
    have hS0 : vcs0.size = (vcs (start ⟨s, xs⟩) (.slice (some ⟨be, 0, none⟩) 0 0)).size := (vcs_size none16_len).trans (vcs_size HOKW.out.len).symm
    have hS1 := szRv (t := start ⟨s, xs⟩) (hd := .slice (some ⟨be, 0, none⟩) 0 0) HOKW.out.len
    have hO1 := vcs_one (start ⟨s, xs⟩) (some ⟨be, 0, none⟩) 0 0
    go_upto_region 5 with (refine stw.list_store rfl 84 _ _ rfl (w3.heap.size) (vcs (start ⟨s, xs⟩) (.slice (some ⟨be, 0, none⟩) 0 0)) rfl rfl 84 _ hX0 hS0 hS1 hO1 ?_; intro wz hz)
    have hb := hz.on ((Below.refl w3.heap.size w3).alloc (Nat.le_refl _) (.cells vcs0 84)) (Nat.le_refl _)
    have hE := hz.keep (E3.out.below (bx.below_box _ _)) (by have := HBE.out; omega)
    have hV := hz.box
    clear hz hX0 hS0 hS1 hO1
    obtain ⟨w4, hwz⟩ : ∃ w5, wz = w5 := ⟨_, rfl⟩
    rw [hwz] at hb hE hV ⊢
    clear hwz
    have hr := Rv.start_ (t := start ⟨s, xs⟩) hE hV (by have := HBE.out; omega) rfl HOKW.out.len HOKW.out.s (fun x hx => ⟨start_wf HWF.out x hx, HOKW.out.b x hx⟩)
    clear hE hV
    obtain ⟨b9, hb9⟩ : ∃ b, w3.heap.size = b := ⟨_, rfl⟩
    have HB9 := Lib.hid (show L0 ≤ b9 by have := HLN.out; omega)
    rw [hb9] at hr
    (try rw [hb9])
    clear hb9
    have HOL := Lib.hid (show (start ⟨s, xs⟩).out.length ≤ 1000000 from Nat.zero_le _)
    clear E3
    have SS4 := Lib.hid hb.size
    have B4 := Lib.hid (B3.out.trans (hb.mono B3.out.size))
    have X4 := Lib.hid (X3.out.below hb)
    have R4 := Lib.hid (R3.out.below hb)
    have O4 := Lib.hid (O3.out.below hb)
    clear hb B3 X3 R3 O3
    have RV4 := Lib.hid hr
    have HFP4 := Lib.hid (show ∀ q, q ∈ [be] → L0 ≤ q from fun q hq => by have := List.mem_singleton.1 hq; have := HBE.out; omega)
    clear hr
    (try simp only [Act.put, List.setIfInBounds_toArray, List.set_cons_zero, List.set_cons_succ])
    go_loopw [3, 4] (fun v0 v1 wr => ∃ (k n1 c1 : Nat) (A1 : Option Addr) (b : Nat) (f : List Nat) (acc : List Int), v0 = .slice A1 n1 c1 ∧ v1 = .pointer (some ⟨b, 0, none⟩) ∧ k ≤ 16 ∧ Rv wr b f (advS (start ⟨s, xs⟩) k) ∧ (∀ q, q ∈ f → L0 ≤ q) ∧ L0 ≤ b ∧ Below w.heap.size w wr ∧ Ow 3 .i64 wr b0 wr.heap.size A1 n1 c1 acc ∧ (∀ q, blkOf A1 = some q → q ≠ b ∧ q ∉ f) ∧ miss s (start ⟨s, xs⟩).ws = acc ++ miss (advS (start ⟨s, xs⟩) k).s (advS (start ⟨s, xs⟩) k).ws ∧ n1 ≤ k) (fun _ p wr => ((s + 20 - sAt wr (ptrB p)) % 4096).toNat)
    case atStart => exact ⟨0, 0, 0, some ⟨b0, 0, none⟩, b9, [be], [], rfl, rfl, Nat.zero_le _, by rw [adv_zero HOKW.out.s]; exact RV4.out, HFP4.out, HB9.out, B4.out, O4.out.up, fun q hq => by obtain rfl : b0 = q := (by simpa [blkOf] using hq); exact ⟨by have := HB9.out; have := HBL0.out; omega, fun hm => by have := HFP4.out _ hm; have := HBL0.out; omega⟩, by rw [adv_zero HOKW.out.s]; rfl, Nat.le_refl _⟩
    case round =>
      obtain ⟨k, n1, c1, A1, b, f, acc, rfl, rfl, hk, hr, hf, hbL, hB, hO, hdj, hms, hn1⟩ := hrel
      have HR := Lib.hid hr
      have HF := Lib.hid hf
      have HBL := Lib.hid hbL
      have HBB := Lib.hid hB
      have HO := Lib.hid hO
      have HDJ := Lib.hid hdj
      have HMS := Lib.hid hms
      have HKN := Lib.hid (And.intro hk hn1)
      obtain ⟨A5, n5, c5, hX5, hO5, hbf5, hl5, hs5, hw5⟩ := hr
      have HX := Lib.hid hX5
      have HO5 := Lib.hid hO5
      have HBF5 := Lib.hid hbf5
      have HL5 := Lib.hid hl5
      have HS5 := Lib.hid hs5
      have HW5 := Lib.hid hw5
      have HLT := Lib.hid hX5.lt
      clear hf hbL hB hO hdj hms hk hn1 hX5 hO5 hbf5 hl5 hs5 hw5
      obtain ⟨va, hva⟩ : ∃ v, (advS (start ⟨s, xs⟩) k).ws.all (·.isNone) = v := ⟨_, rfl⟩
      have HVA := Lib.hid hva
      clear hva
      cases va with
      | true =>
        have HE := Lib.hid (show msn ⟨s, xs⟩ = acc by rw [msn_yes HVV.out]; show miss s (start ⟨s, xs⟩).ws = acc; rw [HMS.out, miss_end HVA.out, List.append_nil])
        have hne : (binOp .neq 82 (.agg (wcs (advS (start ⟨s, xs⟩) k).ws).toArray) (.agg (wcs none16).toArray)).run Try.prog wr = .ok (.bool false) wr := by have h := eq_win HL5.out wr; rw [HVA.out] at h; exact h
        have hbw := build_win wr
        go_wp2_with (first | (refine wpList_load_mid rfl 82 _ rfl b 1 rfl (wcs (advS (start ⟨s, xs⟩) k).ws) _ (win_range HX.out) Try.underlying82 rfl (szWin HL5.out) ?_) | (refine list_build0 rfl _ rfl _ hbw ?_) | (refine list_neq rfl _ _ _ _ rfl _ _ rfl rfl (by kernel_rfl) _ hne ?_))
        clear hne hbw
        go_ret
        rw [HE.out]
        exact ⟨_, _, _, rfl, HO.out.down (by have := HB0.out; omega), HBB.out⟩
      | false =>
        have HK16 := Lib.hid (all_step HOKW.out.len HKN.out.1 HVA.out)
        obtain ⟨oo, hoo⟩ : ∃ o, (advS (start ⟨s, xs⟩) k).ws[0]? = some o := ⟨_, List.getElem?_eq_getElem (by have := HL5.out; omega)⟩
        have HOO := Lib.hid hoo
        have HST := Lib.hid (miss_step HL5.out hoo HVA.out)
        rw [adv_step (show k < (start ⟨s, xs⟩).ws.length by have := HOKW.out.len; have := HK16.out; omega)] at HST
        clear hoo
        have hne : (binOp .neq 82 (.agg (wcs (advS (start ⟨s, xs⟩) k).ws).toArray) (.agg (wcs none16).toArray)).run Try.prog wr = .ok (.bool true) wr := by have h := eq_win HL5.out wr; rw [HVA.out] at h; exact h
        have hbw := build_win wr
        go_upto_region 7 with (first | (refine wpList_load_mid rfl 82 _ rfl b 1 rfl (wcs (advS (start ⟨s, xs⟩) k).ws) _ (win_range HX.out) Try.underlying82 rfl (szWin HL5.out) ?_) | (refine list_build0 rfl _ rfl _ hbw ?_) | (refine list_neq rfl _ _ _ _ rfl _ _ rfl rfl (by kernel_rfl) _ hne ?_))
        clear hne hbw
        have c0 : wr.cell? ⟨b, 1, none⟩ = some (.bool oo.isSome) := by
          rw [HX.out.cell]
          exact vcs_win (i := 0) (wcs_at HOO.out).1
        have c1' : wr.cell? ⟨b, 0, none⟩ = some (.int .i64 (advS (start ⟨s, xs⟩) k).s) := by
          rw [HX.out.cell]; rfl
        cases oo with
        | none =>
          have c0 : wr.cell? ⟨b, 1, none⟩ = some (.bool false) := c0
          have HMS2 := Lib.hid (show miss s (start ⟨s, xs⟩).ws = (acc ++ [(advS (start ⟨s, xs⟩) k).s]) ++ miss (advS (start ⟨s, xs⟩) (k + 1)).s (advS (start ⟨s, xs⟩) (k + 1)).ws by rw [HMS.out, HST.out, List.append_assoc, show (advS (start ⟨s, xs⟩) k).s % 4096 = (advS (start ⟨s, xs⟩) k).s by have := HS5.out; omega]; rfl)
          go_upto_region 9 with (at_builtin; refine wpList_num _ rfl _ _ 58 rfl 3 i0 _ .i64 Try.underlying58 HZ.out.1 HZ.out.2.1 HZ.out.2.2.1 (by rw [HZ.out.2.2.2]; omega) rfl rfl rfl (HO.out.alloc _) (Rd.one .i64 _ _ _ (WalkArith.wf_i64 (by have := HS5.out; omega))) (by have := HKN.out; have := HK16.out; omega) (by have h1 := HB0.out; have h2 := HBL0.out; have h3 := HBL.out; have h4 := HLT.out; simp <;> omega) ?_; intro A2 c2 w2 ho hg _ hn2; have hbx := bx.below_box wr (.cells #[.int .i64 (advS (start ⟨s, xs⟩) k).s] 3); have HO2 := Lib.hid ho; have HR2 := Lib.hid ((HR.out.below hbx).grown hg HDJ.out); have HB2 := Lib.hid (below_grown (HBB.out.trans (hbx.mono HBB.out.size)) hg (fun q hq => by have h1 := (ux.ow_in HO.out q (blk_blks hq)).1; have h2 := HB0.out; omega) (by have h1 := HBB.out.size; simp <;> omega)); have HSZ2 := Lib.hid (show wr.heap.size < w2.heap.size by have h1 := hg.size; simp at h1; omega); have HDJ2 := Lib.hid (show ∀ q, blkOf A2 = some q → q ≠ b ∧ q ∉ f from fun q hq => by rcases hn2 with h1 | h1; exact HDJ.out q (h1 ▸ hq); (have h2 := h1 q hq; simp at h2; exact ⟨by have := HLT.out; omega, fun hm => by have := (HO5.out.inn q hm).2; omega⟩)); clear ho hg hn2 hbx c0 c1')
          obtain ⟨A6, n6, c6, hX6, hO6, hbf6, hl6, hs6, hw6⟩ := HR2.out
          have HX6 := Lib.hid hX6
          have HO6 := Lib.hid hO6
          have HL6 := Lib.hid hl6
          have HW6 := Lib.hid hw6
          clear hX6 hO6 hbf6 hl6 hs6 hw6
          have hXn : Bx 84 (w2.alloc (.cells vcs0 84)) w2.heap.size vcs0 := Bx.made _ _ _
          have hSn : vcs0.size = (vcs (advS (start ⟨s, xs⟩) k) (.slice A6 n6 c6)).size := (vcs_size none16_len).trans (vcs_size HL6.out).symm
          have hS1 := szRv (t := advS (start ⟨s, xs⟩) k) (hd := .slice A6 n6 c6) HL6.out
          have hO1 := vcs_one (advS (start ⟨s, xs⟩) k) A6 n6 c6
          go_upto_region 6 with (first | (refine stw.list_load rfl 84 _ rfl b rfl 84 _ HX6.out Try.underlying84 rfl hS1 ?_) | (refine stw.list_store rfl 84 _ _ rfl (w2.heap.size) (vcs (advS (start ⟨s, xs⟩) k) (.slice A6 n6 c6)) rfl rfl 84 _ hXn hSn hS1 hO1 ?_; intro wz hz))
          have hb3 := hz.on ((Below.refl w2.heap.size w2).alloc (Nat.le_refl _) (.cells vcs0 84)) (Nat.le_refl _)
          have HV := Lib.hid hz.box
          have HBZ := Lib.hid hb3
          have HNF := Lib.hid (show w2.heap.size ∉ f from fun hm => by have := (HO6.out.inn _ hm).2; omega)
          have HRZ := Lib.hid (show Rv wz w2.heap.size f (advS (start ⟨s, xs⟩) k) from ⟨A6, n6, c6, HV.out, (HO6.out.below hb3).wide (Nat.le_refl _), HNF.out, HL6.out, HS5.out, HW6.out⟩)
          clear hz hb3 hXn hSn hS1 hO1
          go_wp2_with fail
          have HA : Calls Try.prog 74 #[.pointer (some ⟨w2.heap.size, 0, none⟩), .int .i64 1] wz (AvPost w2.heap.size f (advS (advS (start ⟨s, xs⟩) k) 1) wz) := advance (advS (start ⟨s, xs⟩) k) 1 w2.heap.size f wz HRZ.out (by omega) (by have h1 := adv_out (start ⟨s, xs⟩) k; have h2 := HOKW.out.len; have h3 : (start ⟨s, xs⟩).out.length = 0 := rfl; omega)
          have HA := Lib.hid HA
          (with_reducible refine HA.out.mono ?_)
          rintro e w4 hp
          obtain ⟨rfl, f2, hr2, hf2, hk2⟩ := av_parts hp
          clear hp
          rw [adv_step (show k < (start ⟨s, xs⟩).ws.length by have := HOKW.out.len; have := HK16.out; omega)] at hr2
          have HSB := Lib.hid (show L0 ≤ w2.heap.size by have := HLT.out; have := HBL.out; have := HSZ2.out; first | omega | skip)
          have HDW := Lib.hid (show ∀ q, blkOf A2 = some q → q < w2.heap.size from fun q hq => by have h1 := (ux.ow_in HO2.out q (blk_blks hq)).2; omega)
          have HOE := Lib.hid (show Ow 3 .i64 w4 b0 w4.heap.size A2 (n1 + 1) c2 (acc ++ [(advS (start ⟨s, xs⟩) k).s]) from (ow_kept (HO2.out.below HBZ.out) hk2 (fun q hq hm => by rcases List.mem_cons.1 hm with h1 | h1; (have := HDW.out q hq; omega); exact (HDJ2.out q hq).2 h1)).up)
          have HBE4 := Lib.hid (show Below w.heap.size w w4 from (HB2.out.trans (HBZ.out.mono HB2.out.size)).trans (ux.ks_bel hk2 (fun q hm => by rcases List.mem_cons.1 hm with h1 | h1; (have := HB2.out.size; omega); (have h2 := HF.out q h1; have h3 := HBL0.out; have h4 := HB0.out; omega)) (HB2.out.trans (HBZ.out.mono HB2.out.size)).size))
          have HWZ := Lib.hid HBZ.out.size
          have HM := Lib.hid (show ((s + 20 - sAt w4 (ptrB (.pointer (some ⟨w2.heap.size, 0, none⟩)))) % 4096).toNat < ((s + 20 - sAt wr (ptrB (.pointer (some ⟨b, 0, none⟩)))) % 4096).toNat by
            have h1 : sAt w4 (ptrB (.pointer (some ⟨w2.heap.size, 0, none⟩))) = (s + ((k + 1 : Nat) : Int)) % 4096 := sAt_of hr2
            have h2 : sAt wr (ptrB (.pointer (some ⟨b, 0, none⟩))) = (s + (k : Int)) % 4096 := sAt_of HR.out
            rw [h1, h2]
            have h3 := HK16.out
            have h4 : 0 ≤ s ∧ s ≤ 4095 := HOKW.out.s
            push_cast
            omega)
          have HR4 := Lib.hid hr2
          have HF4 := Lib.hid hf2
          clear hr2 hf2 hk2
          go_wp2_with fail
          go_roundw
          case rel => exact ⟨k + 1, (n1 + 1), c2, A2, w2.heap.size, f2, (acc ++ [(advS (start ⟨s, xs⟩) k).s]), rfl, rfl, by have := HK16.out; omega, HR4.out, fun q hq => by rcases HF4.out q hq with h1 | h1; exact HF.out q h1; (have := HSB.out; have := HWZ.out; omega), HSB.out, HBE4.out, HOE.out, fun q hq => ⟨by have := HDW.out q hq; omega, fun hm => by rcases HF4.out q hm with h1 | h1; exact (HDJ2.out q hq).2 h1; (have := HDW.out q hq; have := HWZ.out; omega)⟩, HMS2.out, by have := HKN.out; omega⟩
          case measure => exact HM.out
        | some bo =>
          have c0 : wr.cell? ⟨b, 1, none⟩ = some (.bool true) := c0
          have HMS2 := Lib.hid (show miss s (start ⟨s, xs⟩).ws = acc ++ miss (advS (start ⟨s, xs⟩) (k + 1)).s (advS (start ⟨s, xs⟩) (k + 1)).ws by rw [HMS.out, HST.out]; rfl)
          go_upto_region 9 with fail
          clear c0 c1'
          obtain ⟨A6, n6, c6, hX6, hO6, hbf6, hl6, hs6, hw6⟩ := HR.out
          have HX6 := Lib.hid hX6
          have HO6 := Lib.hid hO6
          have HL6 := Lib.hid hl6
          have HW6 := Lib.hid hw6
          clear hX6 hO6 hbf6 hl6 hs6 hw6
          have hXn : Bx 84 (wr.alloc (.cells vcs0 84)) wr.heap.size vcs0 := Bx.made _ _ _
          have hSn : vcs0.size = (vcs (advS (start ⟨s, xs⟩) k) (.slice A6 n6 c6)).size := (vcs_size none16_len).trans (vcs_size HL6.out).symm
          have hS1 := szRv (t := advS (start ⟨s, xs⟩) k) (hd := .slice A6 n6 c6) HL6.out
          have hO1 := vcs_one (advS (start ⟨s, xs⟩) k) A6 n6 c6
          go_upto_region 6 with (first | (refine stw.list_load rfl 84 _ rfl b rfl 84 _ HX6.out Try.underlying84 rfl hS1 ?_) | (refine stw.list_store rfl 84 _ _ rfl (wr.heap.size) (vcs (advS (start ⟨s, xs⟩) k) (.slice A6 n6 c6)) rfl rfl 84 _ hXn hSn hS1 hO1 ?_; intro wz hz))
          have hb3 := hz.on ((Below.refl wr.heap.size wr).alloc (Nat.le_refl _) (.cells vcs0 84)) (Nat.le_refl _)
          have HV := Lib.hid hz.box
          have HBZ := Lib.hid hb3
          have HNF := Lib.hid (show wr.heap.size ∉ f from fun hm => by have := (HO6.out.inn _ hm).2; omega)
          have HRZ := Lib.hid (show Rv wz wr.heap.size f (advS (start ⟨s, xs⟩) k) from ⟨A6, n6, c6, HV.out, (HO6.out.below hb3).wide (Nat.le_refl _), HNF.out, HL6.out, HS5.out, HW6.out⟩)
          clear hz hb3 hXn hSn hS1 hO1
          go_wp2_with fail
          have HA : Calls Try.prog 74 #[.pointer (some ⟨wr.heap.size, 0, none⟩), .int .i64 1] wz (AvPost wr.heap.size f (advS (advS (start ⟨s, xs⟩) k) 1) wz) := advance (advS (start ⟨s, xs⟩) k) 1 wr.heap.size f wz HRZ.out (by omega) (by have h1 := adv_out (start ⟨s, xs⟩) k; have h2 := HOKW.out.len; have h3 : (start ⟨s, xs⟩).out.length = 0 := rfl; omega)
          have HA := Lib.hid HA
          (with_reducible refine HA.out.mono ?_)
          rintro e w4 hp
          obtain ⟨rfl, f2, hr2, hf2, hk2⟩ := av_parts hp
          clear hp
          rw [adv_step (show k < (start ⟨s, xs⟩).ws.length by have := HOKW.out.len; have := HK16.out; omega)] at hr2
          have HSB := Lib.hid (show L0 ≤ wr.heap.size by have := HLT.out; have := HBL.out; first | omega | skip)
          have HDW := Lib.hid (show ∀ q, blkOf A1 = some q → q < wr.heap.size from fun q hq => by have h1 := (ux.ow_in HO.out q (blk_blks hq)).2; omega)
          have HOE := Lib.hid (show Ow 3 .i64 w4 b0 w4.heap.size A1 n1 c1 acc from (ow_kept (HO.out.below HBZ.out) hk2 (fun q hq hm => by rcases List.mem_cons.1 hm with h1 | h1; (have := HDW.out q hq; omega); exact (HDJ.out q hq).2 h1)).up)
          have HBE4 := Lib.hid (show Below w.heap.size w w4 from (HBB.out.trans (HBZ.out.mono HBB.out.size)).trans (ux.ks_bel hk2 (fun q hm => by rcases List.mem_cons.1 hm with h1 | h1; (have := HBB.out.size; omega); (have h2 := HF.out q h1; have h3 := HBL0.out; have h4 := HB0.out; omega)) (HBB.out.trans (HBZ.out.mono HBB.out.size)).size))
          have HWZ := Lib.hid HBZ.out.size
          have HM := Lib.hid (show ((s + 20 - sAt w4 (ptrB (.pointer (some ⟨wr.heap.size, 0, none⟩)))) % 4096).toNat < ((s + 20 - sAt wr (ptrB (.pointer (some ⟨b, 0, none⟩)))) % 4096).toNat by
            have h1 : sAt w4 (ptrB (.pointer (some ⟨wr.heap.size, 0, none⟩))) = (s + ((k + 1 : Nat) : Int)) % 4096 := sAt_of hr2
            have h2 : sAt wr (ptrB (.pointer (some ⟨b, 0, none⟩))) = (s + (k : Int)) % 4096 := sAt_of HR.out
            rw [h1, h2]
            have h3 := HK16.out
            have h4 : 0 ≤ s ∧ s ≤ 4095 := HOKW.out.s
            push_cast
            omega)
          have HR4 := Lib.hid hr2
          have HF4 := Lib.hid hf2
          clear hr2 hf2 hk2
          go_wp2_with fail
          go_roundw
          case rel => exact ⟨k + 1, n1, c1, A1, wr.heap.size, f2, acc, rfl, rfl, by have := HK16.out; omega, HR4.out, fun q hq => by rcases HF4.out q hq with h1 | h1; exact HF.out q h1; (have := HSB.out; have := HWZ.out; omega), HSB.out, HBE4.out, HOE.out, fun q hq => ⟨by have := HDW.out q hq; omega, fun hm => by rcases HF4.out q hm with h1 | h1; exact (HDJ.out q hq).2 h1; (have := HDW.out q hq; have := HWZ.out; omega)⟩, HMS2.out, by have := HKN.out; omega⟩
          case measure => exact HM.out
  | false =>
    go_wp2_with fail
    have HE := Lib.hid (msn_no HV.out)
    rw [HE.out]
    go_ret
    exact ⟨_, _, _, rfl, ((O2.out).up.down (by have hlE := LE.out; have hs0 := LTX.out; have hs1 := LHR.out; have hs2 := SS1.out; have hs3 := LWE.out; have hs4 := HB0.out; have hs5 := SS2.out; first | omega | (simp <;> omega))), B2.out⟩
end Go.Proofs.Ytejjafmppihneaa.ro

/- EqualBytes and EqualInts, program and specification. Condition: none. -/
namespace Go.Proofs.Ytejjafmppihneaa.eqs
open Go.RowKit sl harn

theorem bytesIn {w : World} {lo hi n cap : Nat} {A : Option Addr} {zs : List Int} (h : Rd .u8 w lo hi A n cap zs) : Lib.BytesIn w A n zs := fun hn => by
  obtain ⟨b, off, e, _, _, hc⟩ := h.2.2.2.2.2 hn
  exact ⟨b, off, e, hc⟩
theorem bytesOf_inj : ∀ {xs ys : List Int}, Wf .u8 xs → Wf .u8 ys → Lib.bytesOf xs = Lib.bytesOf ys → xs = ys
  | [], [], _, _, _ => rfl
  | [], _ :: _, _, _, h => by simp [Lib.bytesOf] at h
  | _ :: _, [], _, _, h => by simp [Lib.bytesOf] at h
  | x :: xs, y :: ys, hx, hy, h => by
    simp only [Lib.bytesOf, List.map_cons, List.cons.injEq] at h
    have h1 := hx.u8 x (List.mem_cons_self ..)
    have h2 := hy.u8 y (List.mem_cons_self ..)
    have e : x = y := by
      have := congrArg UInt8.toNat h.1
      simp at this
      omega
    rw [e, bytesOf_inj (xs := xs) (ys := ys) (fun z hz => hx z (List.mem_cons_of_mem _ hz)) (fun z hz => hy z (List.mem_cons_of_mem _ hz)) h.2]
theorem bytesOf_eq {xs ys : List Int} (hx : Wf .u8 xs) (hy : Wf .u8 ys) : (Lib.bytesOf xs == Lib.bytesOf ys) = decide (xs = ys) := by
  by_cases h : xs = ys
  · subst h; simp
  · have : ¬ Lib.bytesOf xs = Lib.bytesOf ys := fun e => h (bytesOf_inj hx hy e)
    simp [h, this]
theorem ret_bool {a b : Bool} (h : a = b) : Ending.returned (.bool a) = .returned (.bool b) := by rw [h]

theorem implEqB (zs ys : List Int) (lo hi lo2 hi2 : Nat) (A A2 : Option Addr) (n cap n2 cap2 : Nat) (w : World) (h : Rd .u8 w lo hi A n cap zs) (h2 : Rd .u8 w lo2 hi2 A2 n2 cap2 ys) :
    Calls Try.prog 99 #[.slice A n cap, .slice A2 n2 cap2] w (EqPost zs ys w) := by
  have hc := Try.bytes_Equal_all A A2 n cap n2 cap2 zs ys w h.len h2.len (bytesIn h) (bytesIn h2)
  rw [bytesOf_eq h.wf h2.wf] at hc
  obtain ⟨b, hb⟩ : ∃ b, decide (zs = ys) = b := ⟨_, rfl⟩
  rw [hb] at hc
  have HB := Lib.hid hb
  have HC := Lib.hid hc
  clear h h2 hb hc
  go_enter Try.func99, Try.ntmps99
  go_wp2_with (go_at_call 109; refine HC.out.mono ?_; rintro e w1 ⟨rfl, rfl⟩)
  go_ret
  exact ⟨ret_bool HB.out.symm, Below.refl _ _⟩
theorem EqPost_parts {zs ys : List Int} {b : Bool} (ht : decide (zs = ys) = b) {w : World} {e : Ending} {w' : World} (h : EqPost zs ys w e w') : e = .returned (.bool b) ∧ Below w.heap.size w w' := by
  unfold EqPost at h; rw [ht] at h; exact h
end Go.Proofs.Ytejjafmppihneaa.eqs

/- EqualReorderBuffers of both sides. Condition: none. -/
namespace Go.Proofs.Ytejjafmppihneaa.ro
open Go.RowKit sl harn bx stw
set_option linter.unusedVariables false
open ux (Nf Rob RR OO row rowB rowNf nf rob)
open mrw (blkOf)
open bs (nsq sqd)
set_option linter.unusedSimpArgs false
open bx

instance : DecidableEq Nf := fun x y => decidable_of_iff (x.Seq = y.Seq ∧ x.Body = y.Body) ⟨fun h => by obtain ⟨a, b⟩ := x; obtain ⟨a2, b2⟩ := y; simp only at h; obtain ⟨rfl, rfl⟩ := h; rfl, fun h => by subst h; exact ⟨rfl, rfl⟩⟩
instance : DecidableEq Rob := fun x y => decidable_of_iff (x.Start = y.Start ∧ x.Pending = y.Pending) ⟨fun h => by obtain ⟨a, b⟩ := x; obtain ⟨a2, b2⟩ := y; simp only at h; obtain ⟨rfl, rfl⟩ := h; rfl, fun h => by subst h; exact ⟨rfl, rfl⟩⟩
theorem nf_ne {x y : Nf} (h : x.Seq = y.Seq → x.Body ≠ y.Body) : decide (x = y) = false := decide_eq_false fun e => by subst e; exact h rfl rfl
theorem nf_eq {x y : Nf} {v : Bool} (h1 : x.Seq = y.Seq) (hv : decide (x.Body = y.Body) = v) : decide (x = y) = v := by
  obtain ⟨a, b⟩ := x
  obtain ⟨a2, b2⟩ := y
  simp only at h1
  subst h1
  rw [← hv]; simp
theorem ns_ne {a b : List Nf} {k : Nat} {x y : Nf} (h1 : a[k]? = some x) (h2 : b[k]? = some y) (h : decide (x = y) = false) : decide (a = b) = false := decide_eq_false fun e => (of_decide_eq_false h) (by rw [e] at h1; exact Option.some.inj (h1.symm.trans h2))
theorem ns_step {a b : List Nf} {k : Nat} {x y : Nf} (h0 : a.take k = b.take k) (h1 : a[k]? = some x) (h2 : b[k]? = some y) (h : decide (x = y) = true) : a.take (k + 1) = b.take (k + 1) := by
  rw [ux.take_snoc h1, ux.take_snoc h2, h0, of_decide_eq_true h]
theorem ns_all {a b : List Nf} {n : Nat} (ha : a.length = n) (hb : b.length = n) (h : a.take n = b.take n) : decide (a = b) = true := by
  rw [List.take_of_length_le (by omega), List.take_of_length_le (by omega)] at h
  exact decide_eq_true h
theorem ns_len {a b : List Nf} {n m : Nat} (ha : a.length = n) (hb : b.length = m) (h : ¬ n = m) : decide (a = b) = false := decide_eq_false fun e => h (by rw [← ha, ← hb, e])
theorem ro_eq {s t : Int} {xs ys : List Nf} {v : Bool} (h : s = t) (hv : decide (xs = ys) = v) : decide ((⟨s, xs⟩ : Rob) = ⟨t, ys⟩) = v := by subst h; rw [← hv]; simp
theorem ro_ne {s t : Int} {xs ys : List Nf} (h : ¬ s = t) : decide ((⟨s, xs⟩ : Rob) = ⟨t, ys⟩) = false := decide_eq_false fun e => h (by injection e)
theorem af_cell {w : World} {ad : Addr} {v : Value} (h : w.cell? ad = some v) (m : bx.Af w) : m.w.cell? ad = some v := by rw [m.below.cell (World.block_lt_of_cell? _ _ h)]; exact h
set_option maxRecDepth 100000 in
set_option maxHeartbeats 4000000 in
theorem implNe (x y : Nf) (A : Option Addr) (n c : Nat) (A' : Option Addr) (n' c' : Nat) (lo hi lo2 hi2 : Nat) (w : World) (h : RR ux.bytes w lo hi (.slice A n c) x.Body) (h2 : RR ux.bytes w lo2 hi2 (.slice A' n' c') y.Body) :
    Calls Try.prog 79 #[.agg #[.int .i64 x.Seq, .slice A n c], .agg #[.int .i64 y.Seq, .slice A' n' c']] w (BPost (decide (x = y)) w) := by
  obtain ⟨v, hv⟩ : ∃ v : Bool, decide (x = y) = v := ⟨_, rfl⟩
  have HV := Lib.hid hv
  rw [hv]
  clear hv
  have PW := Lib.hid h
  have RW := Lib.hid h2
  have LHP := Lib.hid h.hi_
  have LHR := Lib.hid h2.hi_
  clear h h2
  go_enter Try.func79, Try.ntmps79
  go_upto_region 1 with fail
  obtain ⟨w0, hW⟩ : ∃ w0, (w.alloc (.cells #[.int .i64 x.Seq, .slice A n c] 90)).alloc (.cells #[.int .i64 y.Seq, .slice A' n' c'] 90) = w0 := ⟨_, rfl⟩
  rw [hW]
  have B0 := Lib.hid (show Below w.heap.size w w0 by rw [← hW]; exact ((Below.refl _ _).alloc (by simp <;> omega) _).alloc (by simp <;> omega) _)
  have X0 := Lib.hid (show Bx 90 w0 (w.heap.size) #[.int .i64 x.Seq, .slice A n c] by
      rw [← hW]
      have hh := Bx.made 90 w #[.int .i64 x.Seq, .slice A n c]
      exact (hh.below (below_box _ _)))
  have Y0 := Lib.hid (show Bx 90 w0 (w.heap.size + 1) #[.int .i64 y.Seq, .slice A' n' c'] by
      rw [← hW]
      have hh : Bx 90 ((w.alloc (.cells #[.int .i64 x.Seq, .slice A n c] 90)).alloc (.cells #[.int .i64 y.Seq, .slice A' n' c'] 90)) (w.heap.size + 1) #[.int .i64 y.Seq, .slice A' n' c'] := by have hh := Bx.made 90 (w.alloc (.cells #[.int .i64 x.Seq, .slice A n c] 90)) #[.int .i64 y.Seq, .slice A' n' c']; simpa using hh
      exact hh)
  have P0 := Lib.hid (show RR ux.bytes w0 lo hi (.slice A n c) x.Body by rw [← hW]; exact ((PW.out.below (below_box _ _)).below (below_box _ _)))
  have R0 := Lib.hid (show RR ux.bytes w0 lo2 hi2 (.slice A' n' c') y.Body by rw [← hW]; exact ((RW.out.below (below_box _ _)).below (below_box _ _)))
  clear hW
  have LTX := Lib.hid X0.out.lt
  have LTY := Lib.hid Y0.out.lt
  by_cases h0 : x.Seq = y.Seq
  · have cX0 : w0.cell? ⟨w.heap.size, 0, none⟩ = some (.int .i64 x.Seq) := X0.out.cell 0
    have cX1 : w0.cell? ⟨w.heap.size, 1, none⟩ = some (.slice A n c) := X0.out.cell 1
    have cY0 : w0.cell? ⟨w.heap.size + 1, 0, none⟩ = some (.int .i64 y.Seq) := Y0.out.cell 0
    have cY1 : w0.cell? ⟨w.heap.size + 1, 1, none⟩ = some (.slice A' n' c') := Y0.out.cell 1
    go_wp2_with fail
    (with_reducible refine (eqs.implEqB x.Body y.Body _ _ _ _ A A' n c n' c' _ (ux.rd_of P0.out) (ux.rd_of R0.out)).mono ?_)
    rintro e w1 ⟨rfl, hb⟩
    have B1 := Lib.hid (B0.out.trans (hb.mono B0.out.size))
    clear hb
    obtain ⟨u, hu⟩ : ∃ u, decide (x.Body = y.Body) = u := ⟨_, rfl⟩
    have HE := Lib.hid (show v = u by rw [← HV.out]; exact nf_eq h0 hu)
    rw [hu]
    clear hu
    go_wp2_with fail
    go_ret
    exact ⟨by rw [HE.out]; rfl, B1.out⟩
  · have cX0 : w0.cell? ⟨w.heap.size, 0, none⟩ = some (.int .i64 x.Seq) := X0.out.cell 0
    have cX1 : w0.cell? ⟨w.heap.size, 1, none⟩ = some (.slice A n c) := X0.out.cell 1
    have cY0 : w0.cell? ⟨w.heap.size + 1, 0, none⟩ = some (.int .i64 y.Seq) := Y0.out.cell 0
    have cY1 : w0.cell? ⟨w.heap.size + 1, 1, none⟩ = some (.slice A' n' c') := Y0.out.cell 1
    have HE := Lib.hid (show v = false by rw [← HV.out]; exact nf_ne fun e0 _ => h0 e0)
    go_wp2_with fail
    go_ret
    exact ⟨by rw [HE.out]; rfl, B0.out⟩
set_option maxRecDepth 100000 in
set_option maxHeartbeats 4000000 in
theorem eqFn (ms ms2 : List Nf) (A : Option Addr) (n cap lo hi : Nat) (A2 : Option Addr) (n2 cap2 lo2 hi2 : Nat) (w : World) (h : RR rowNf w lo hi (.slice A n cap) ms) (h2 : RR rowNf w lo2 hi2 (.slice A2 n2 cap2) ms2) :
    Calls Try.prog 78 #[.slice A n cap, .slice A2 n2 cap2, .func (.func 79) #[] #[]] w (BPost (decide (ms = ms2)) w) := by
  have QW := Lib.hid h
  have RW := Lib.hid h2
  have LHQ := Lib.hid h.hi_
  have LHR := Lib.hid h2.hi_
  obtain ⟨hl1, hnc1, hcm1⟩ := nf_len h
  obtain ⟨hl2, hnc2, hcm2⟩ := nf_len h2
  have HL1 := Lib.hid hl1
  have HL2 := Lib.hid hl2
  clear h h2 hl1 hl2
  go_enter Try.func78, Try.ntmps78
  by_cases hne : n = n2
  · subst hne
    have B0 := Lib.hid (Below.refl w.heap.size w)
    have Q0 := QW
    have R0 := RW
    go_wp2_with fail
    go_loopw [17] (fun v0 wr => ∃ (k : Nat), v0 = .int .i64 ((k : Int)) ∧ (k ≤ n) ∧ (ms.take k = ms2.take k) ∧ Below w.heap.size w wr ∧ RR rowNf wr lo hi (.slice A n cap) ms ∧ RR rowNf wr lo2 hi2 (.slice A2 n cap2) ms2) (fun i _ => n - (intOf i).toNat)
    case atStart => exact ⟨0, rfl, by omega, by simp, B0.out, Q0.out, R0.out⟩
    case round =>
      obtain ⟨k, rfl, ghk, ghe, gB1, gQ1, gR1⟩ := hrel
      have B1 := Lib.hid gB1
      have Q1 := Lib.hid gQ1
      have R1 := Lib.hid gR1
      have hk := Lib.hid ghk
      have he := Lib.hid ghe
      clear gB1 gQ1 gR1 ghk ghe
      have SBR1 := Lib.hid B1.out.size
      have hk := hk.out
      by_cases hlt : k < n
      · have hlt2 : (k : Int) < n := by omega
        obtain ⟨g, off, x, u, hA, hy, hg1, hg2, hru, hxu⟩ := ux.row_at (Q1.out : RR (row 90 nf) _ _ _ _ _) hlt
        obtain ⟨A0, n0, c0_, rfl, hb0⟩ := ux.nf_r hxu
        subst hA
        have k0 : wr.cell? ⟨g, off + k * 2, none⟩ = some (.int .i64 x.Seq) := hru 0 _ rfl
        have k1 : wr.cell? ⟨g, off + k * 2 + 1, none⟩ = some (.slice A0 n0 c0_) := hru 1 _ rfl
        have HY := Lib.hid hy
        have HN0 := Lib.hid (ux.rd_of hb0).len
        have hn0 := (ux.rd_of hb0).cap_
        have F1 := Lib.hid hb0
        clear hy hru hxu hb0 hg1 hg2
        obtain ⟨b2, hbb⟩ : ∃ b, wr.heap.size = b := ⟨_, rfl⟩
        go_upto_region 6 with fail
        generalize hW : wr.alloc (.cells #[.int .i64 x.Seq, .slice A0 n0 c0_] 90) = w2
        have LV := Lib.hid (show w.heap.size ≤ b2 ∧ hi ≤ b2 ∧ hi2 ≤ b2 ∧ hi ≤ b2 by have h1 := B1.out.size; have h2Q := Q1.out.hi_; have h2R := R1.out.hi_; have h2F := F1.out.hi_; have h3 := hbb; omega)
        have V2 := Lib.hid (show Bx 90 w2 b2 #[.int .i64 x.Seq, .slice A0 n0 c0_] by rw [← hW, ← hbb]; exact Bx.made _ _ _)
        have hb : Below wr.heap.size wr w2 := by rw [← hW]; exact below_box _ _
        (try rw [hbb])
        clear hW hbb
        have SS2 := Lib.hid hb.size
        have B2 := Lib.hid (B1.out.trans (hb.mono B1.out.size))
        have Q2 := Lib.hid (Q1.out.below hb)
        have R2 := Lib.hid (R1.out.below hb)
        have F2 := Lib.hid (F1.out.below hb)
        clear hb B1 Q1 R1 F1
        have LWV := Lib.hid V2.out.lt
        clear k0 k1
        have hlty := hlt
        obtain ⟨gy, offy, y, uy, hAy, hyy, hg1y, hg2y, hruy, hxuy⟩ := ux.row_at (R2.out : RR (row 90 nf) _ _ _ _ _) hlty
        obtain ⟨A0y, n0y, c0y_, rfl, hb0y⟩ := ux.nf_r hxuy
        subst hAy
        have k0y : w2.cell? ⟨gy, offy + k * 2, none⟩ = some (.int .i64 y.Seq) := hruy 0 _ rfl
        have k1y : w2.cell? ⟨gy, offy + k * 2 + 1, none⟩ = some (.slice A0y n0y c0y_) := hruy 1 _ rfl
        have HYy := Lib.hid hyy
        have HN0y := Lib.hid (ux.rd_of hb0y).len
        have hn0y := (ux.rd_of hb0y).cap_
        have Fy2 := Lib.hid hb0y
        clear hyy hruy hxuy hb0y hg1y hg2y
        obtain ⟨b3, hbb⟩ : ∃ b, w2.heap.size = b := ⟨_, rfl⟩
        go_upto_region 7 with fail
        generalize hW : w2.alloc (.cells #[.int .i64 y.Seq, .slice A0y n0y c0y_] 90) = w3
        have LU := Lib.hid (show w.heap.size ≤ b3 ∧ b2 < b3 ∧ hi ≤ b3 ∧ hi2 ≤ b3 ∧ hi ≤ b3 ∧ hi2 ≤ b3 by have h1 := B2.out.size; have h2V := V2.out.lt; have h2Q := Q2.out.hi_; have h2R := R2.out.hi_; have h2F := F2.out.hi_; have h2Fy := Fy2.out.hi_; have h3 := hbb; omega)
        have U3 := Lib.hid (show Bx 90 w3 b3 #[.int .i64 y.Seq, .slice A0y n0y c0y_] by rw [← hW, ← hbb]; exact Bx.made _ _ _)
        have hb : Below w2.heap.size w2 w3 := by rw [← hW]; exact below_box _ _
        (try rw [hbb])
        clear hW hbb
        have SS3 := Lib.hid hb.size
        have B3 := Lib.hid (B2.out.trans (hb.mono B2.out.size))
        have V3 := Lib.hid (V2.out.below hb)
        have Q3 := Lib.hid (Q2.out.below hb)
        have R3 := Lib.hid (R2.out.below hb)
        have F3 := Lib.hid (F2.out.below hb)
        have Fy3 := Lib.hid (Fy2.out.below hb)
        clear hb B2 V2 Q2 R2 F2 Fy2
        have LWU := Lib.hid U3.out.lt
        clear k0y k1y
        have cV0 : w3.cell? ⟨b2, 0, none⟩ = some (.int .i64 x.Seq) := V3.out.cell 0
        have cV1 : w3.cell? ⟨b2, 1, none⟩ = some (.slice A0 n0 c0_) := V3.out.cell 1
        have cU0 : w3.cell? ⟨b3, 0, none⟩ = some (.int .i64 y.Seq) := U3.out.cell 0
        have cU1 : w3.cell? ⟨b3, 1, none⟩ = some (.slice A0y n0y c0y_) := U3.out.cell 1
        go_wp2_with fail
        clear cV0 cV1 cU0 cU1
        obtain ⟨v, hv⟩ : ∃ v, decide (x = y) = v := ⟨_, rfl⟩
        have HV := Lib.hid hv
        clear hv
        (with_reducible refine (implNe x y A0 n0 c0_ A0y n0y c0y_ _ _ _ _ _ F3.out Fy3.out).mono ?_)
        rintro e w4 hp
        obtain ⟨rfl, hb⟩ := b_parts HV.out hp
        clear hp
        have SS4 := Lib.hid hb.size
        have B4 := Lib.hid (B3.out.trans (hb.mono B3.out.size))
        have V4 := Lib.hid (V3.out.below hb)
        have U4 := Lib.hid (U3.out.below hb)
        have Q4 := Lib.hid (Q3.out.below hb)
        have R4 := Lib.hid (R3.out.below hb)
        have F4 := Lib.hid (F3.out.below hb)
        have Fy4 := Lib.hid (Fy3.out.below hb)
        clear hb  B3 V3 U3 Q3 R3 F3 Fy3
        cases v with
        | true =>
          have HT := Lib.hid (ns_step he.out HY.out HYy.out HV.out)
          go_wp2_with fail
          go_roundw
          case rel => exact ⟨k + 1, by go_num, by omega, HT.out, B4.out, Q4.out, R4.out⟩
          case measure => simp [intOf]; omega
        | false =>
          have HE := Lib.hid (ns_ne HY.out HYy.out HV.out)
          go_wp2_with fail
          go_ret
          exact ⟨by rw [HE.out]; try rfl, B4.out⟩
      · have hlt2 : ¬ (k : Int) < n := by omega
        obtain rfl : n = k := by omega
        have HE := Lib.hid (ns_all HL1.out HL2.out he.out)
        go_wp2_with fail
        go_ret
        exact ⟨by rw [HE.out]; try rfl, B1.out⟩
  · have hn2 : ¬ (n : Int) = (n2 : Int) := by omega
    have HE := Lib.hid (ns_len HL1.out HL2.out hne)
    go_wp2_with fail
    go_ret
    exact ⟨by rw [HE.out]; try rfl, Below.refl _ _⟩
set_option maxRecDepth 100000 in
set_option maxHeartbeats 4000000 in
theorem implEq (s t : Int) (ms ms2 : List Nf) (A : Option Addr) (n cap lo hi : Nat) (A2 : Option Addr) (n2 cap2 lo2 hi2 : Nat) (w : World) (h : RR rowNf w lo hi (.slice A n cap) ms) (h2 : RR rowNf w lo2 hi2 (.slice A2 n2 cap2) ms2) :
    Calls Try.prog 40 #[.agg #[.int .i64 s, .slice A n cap], .agg #[.int .i64 t, .slice A2 n2 cap2]] w (BPost (decide ((⟨s, ms⟩ : Rob) = ⟨t, ms2⟩)) w) := by
  obtain ⟨v, hv⟩ : ∃ v : Bool, decide ((⟨s, ms⟩ : Rob) = ⟨t, ms2⟩) = v := ⟨_, rfl⟩
  have HV := Lib.hid hv
  rw [hv]
  clear hv
  have QW := Lib.hid h
  have RW := Lib.hid h2
  have LHQ := Lib.hid h.hi_
  have LHR := Lib.hid h2.hi_
  obtain ⟨hl1, hnc1, hcm1⟩ := nf_len h
  obtain ⟨hl2, hnc2, hcm2⟩ := nf_len h2
  have HL1 := Lib.hid hl1
  have HL2 := Lib.hid hl2
  clear h h2 hl1 hl2
  go_enter Try.func40, Try.ntmps40
  go_upto_region 1 with fail
  obtain ⟨w0, hW⟩ : ∃ w0, (w.alloc (.cells #[.int .i64 s, .slice A n cap] 50)).alloc (.cells #[.int .i64 t, .slice A2 n2 cap2] 50) = w0 := ⟨_, rfl⟩
  rw [hW]
  have B0 := Lib.hid (show Below w.heap.size w w0 by rw [← hW]; exact ((Below.refl _ _).alloc (by simp <;> omega) _).alloc (by simp <;> omega) _)
  have X0 := Lib.hid (show Bx 50 w0 (w.heap.size) #[.int .i64 s, .slice A n cap] by
      rw [← hW]
      have hh := Bx.made 50 w #[.int .i64 s, .slice A n cap]
      exact (hh.below (below_box _ _)))
  have Y0 := Lib.hid (show Bx 50 w0 (w.heap.size + 1) #[.int .i64 t, .slice A2 n2 cap2] by
      rw [← hW]
      have hh : Bx 50 ((w.alloc (.cells #[.int .i64 s, .slice A n cap] 50)).alloc (.cells #[.int .i64 t, .slice A2 n2 cap2] 50)) (w.heap.size + 1) #[.int .i64 t, .slice A2 n2 cap2] := by have hh := Bx.made 50 (w.alloc (.cells #[.int .i64 s, .slice A n cap] 50)) #[.int .i64 t, .slice A2 n2 cap2]; simpa using hh
      exact hh)
  have Q0 := Lib.hid (show RR rowNf w0 lo hi (.slice A n cap) ms by rw [← hW]; exact ((QW.out.below (below_box _ _)).below (below_box _ _)))
  have R0 := Lib.hid (show RR rowNf w0 lo2 hi2 (.slice A2 n2 cap2) ms2 by rw [← hW]; exact ((RW.out.below (below_box _ _)).below (below_box _ _)))
  clear hW
  have LTX := Lib.hid X0.out.lt
  have LTY := Lib.hid Y0.out.lt
  by_cases h0 : s = t
  · have cX0 : w0.cell? ⟨w.heap.size, 0, none⟩ = some (.int .i64 s) := X0.out.cell 0
    have cX1 : w0.cell? ⟨w.heap.size, 1, none⟩ = some (.slice A n cap) := X0.out.cell 1
    have cY0 : w0.cell? ⟨w.heap.size + 1, 0, none⟩ = some (.int .i64 t) := Y0.out.cell 0
    have cY1 : w0.cell? ⟨w.heap.size + 1, 1, none⟩ = some (.slice A2 n2 cap2) := Y0.out.cell 1
    go_wp2_with fail
    obtain ⟨v2, hv2⟩ : ∃ v, decide (ms = ms2) = v := ⟨_, rfl⟩
    have HV2 := Lib.hid hv2
    clear hv2
    have HE := Lib.hid (show v = v2 by rw [← HV.out]; exact ro_eq h0 HV2.out)
    clear cX0 cX1 cY0 cY1
    (with_reducible refine (eqFn ms ms2 A n cap lo hi A2 n2 cap2 lo2 hi2 _ Q0.out R0.out).mono ?_)
    rintro e w1 hp
    obtain ⟨rfl, hb⟩ := b_parts HV2.out hp
    clear hp
    have SS1 := Lib.hid hb.size
    have B1 := Lib.hid (B0.out.trans (hb.mono B0.out.size))
    have X1 := Lib.hid (X0.out.below hb)
    have Y1 := Lib.hid (Y0.out.below hb)
    have Q1 := Lib.hid (Q0.out.below hb)
    have R1 := Lib.hid (R0.out.below hb)
    clear hb  B0 X0 Y0 Q0 R0
    go_wp2_with fail
    go_ret
    exact ⟨by rw [HE.out]; rfl, B1.out⟩
  · have cX0 : w0.cell? ⟨w.heap.size, 0, none⟩ = some (.int .i64 s) := X0.out.cell 0
    have cX1 : w0.cell? ⟨w.heap.size, 1, none⟩ = some (.slice A n cap) := X0.out.cell 1
    have cY0 : w0.cell? ⟨w.heap.size + 1, 0, none⟩ = some (.int .i64 t) := Y0.out.cell 0
    have cY1 : w0.cell? ⟨w.heap.size + 1, 1, none⟩ = some (.slice A2 n2 cap2) := Y0.out.cell 1
    have HE := Lib.hid (show v = false by rw [← HV.out]; exact ro_ne h0)
    go_wp2_with fail
    go_ret
    exact ⟨by rw [HE.out]; rfl, B0.out⟩
end Go.Proofs.Ytejjafmppihneaa.ro

/- BlockAckOf of both sides. Condition: none. -/
namespace Go.Proofs.Ytejjafmppihneaa.ro
open Go.RowKit sl harn bx stw
set_option linter.unusedVariables false
open ux (Nf Rob RR OO row rowB rowNf nf rob)
open mrw (blkOf)
open bs (nsq sqd)
set_option linter.unusedSimpArgs false
open bx

theorem wrap_pow (x : Int) : IntKind.i64.wrap x = wrap64 x := by unfold wrap64; exact IntKind.wrap_i64 x
theorem bm_step {s : Int} {xs : List Nf} {k d : Nat} {x : Nf} (h : xs[k]? = some x) (hd : sqd s x.Seq = (d : Int)) : bm s (xs.take (k + 1)) = bm s (xs.take k) ||| 2 ^ d := by
  rw [List.take_add_one, h]
  simp [bm, hd]
theorem or_all {s : Int} : ∀ (xs : List Nf) (a : Nat), a < 65536 → (∀ f ∈ xs, (sqd s f.Seq).toNat < 16) → xs.foldl (fun a (f : Nf) => a ||| 2 ^ (sqd s f.Seq).toNat) a < 65536
  | [], a, ha, _ => ha
  | f :: r, a, ha, h => by
    have h1 : 2 ^ (sqd s f.Seq).toNat < 2 ^ 16 := Nat.pow_lt_pow_right (by omega) (h f List.mem_cons_self)
    have h2 : a ||| 2 ^ (sqd s f.Seq).toNat < 2 ^ 16 := Nat.or_lt_two_pow (by omega) h1
    exact or_all r _ (by omega) fun g hg => h g (List.mem_cons_of_mem _ hg)
theorem bm_lt {s : Int} {xs : List Nf} (h : ∀ f ∈ xs, (sqd s f.Seq).toNat < 16) (k : Nat) : bm s (xs.take k) < 65536 := or_all _ 0 (by omega) fun f hf => h f (List.mem_of_mem_take hf)
theorem near {s : Int} {xs : List Nf} (h : vr ⟨s, xs⟩ = true) : ∀ f ∈ xs, (1 ≤ sqd s f.Seq ∧ sqd s f.Seq ≤ 15) ∧ f.Body.length ≤ 100 := okp_mem (by omega) (vr_parts h).1
/-- What a function hands back that is an acknowledgment. -/
def AkPost (p : Int × Int) (w : World) (e : Ending) (w' : World) : Prop := e = .returned (.agg #[.int .i64 p.1, .int .i64 p.2]) ∧ Below w.heap.size w w'
theorem ak_parts {c b : Int} {p : Int × Int} (hq : p = (c, b)) {w : World} {e : Ending} {w' : World} (h : AkPost p w e w') : e = .returned (.agg #[.int .i64 c, .int .i64 b]) ∧ Below w.heap.size w w' := by subst hq; exact h
theorem ack_no {s : Int} {xs : List Nf} (h : vr ⟨s, xs⟩ = false) : ack ⟨s, xs⟩ = (0, 0) := by unfold ack; rw [h]; rfl
theorem ack_yes {s : Int} {xs : List Nf} (h : vr ⟨s, xs⟩ = true) : ack ⟨s, xs⟩ = (s, (bm s xs : Int)) := by unfold ack; rw [if_pos h]
set_option maxRecDepth 100000 in
set_option maxHeartbeats 4000000 in
theorem implAck (s : Int) (xs : List Nf) (lo hi : Nat) (A : Option Addr) (n c : Nat) (w : World) (h : RR rowNf w lo hi (.slice A n c) xs) :
    Calls Try.prog 44 #[.agg #[.int .i64 s, .slice A n c]] w (AkPost (ack ⟨s, xs⟩) w) := by
  have RW := Lib.hid h
  obtain ⟨hlR, hncR, hcmR⟩ := nf_len h
  have HL := Lib.hid hlR
  have LHR := Lib.hid (show hi ≤ w.heap.size from h.hi_)
  clear hlR h
  obtain ⟨v, hv⟩ : ∃ v, vr ⟨s, xs⟩ = v := ⟨_, rfl⟩
  have HV := Lib.hid hv
  clear hv
  go_enter Try.func44, Try.ntmps44
  go_wp2_with fail
  obtain ⟨w0, hW⟩ : ∃ w0, (w.alloc (.cells #[.int .i64 s, .slice A n c] 50)).alloc (.cells #[.int .i64 0, .int .i64 0] 61) = w0 := ⟨_, rfl⟩
  rw [hW]
  have B0 := Lib.hid (show Below w.heap.size w w0 by rw [← hW]; exact ((Below.refl _ _).alloc (by simp <;> omega) _).alloc (by simp <;> omega) _)
  have X0 := Lib.hid (show Bx 50 w0 (w.heap.size) #[.int .i64 s, .slice A n c] by
      rw [← hW]
      have hh := Bx.made 50 w #[.int .i64 s, .slice A n c]
      exact (hh.below (below_box _ _)))
  have Z0 := Lib.hid (show Bx 61 w0 (w.heap.size + 1) #[.int .i64 0, .int .i64 0] by
      rw [← hW]
      have hh : Bx 61 ((w.alloc (.cells #[.int .i64 s, .slice A n c] 50)).alloc (.cells #[.int .i64 0, .int .i64 0] 61)) (w.heap.size + 1) #[.int .i64 0, .int .i64 0] := by have hh := Bx.made 61 (w.alloc (.cells #[.int .i64 s, .slice A n c] 50)) #[.int .i64 0, .int .i64 0]; simpa using hh
      exact hh)
  have R0 := Lib.hid (show RR rowNf w0 lo hi (.slice A n c) xs by rw [← hW]; exact ((RW.out.below (below_box _ _)).below (below_box _ _)))
  clear hW
  have LTX := Lib.hid X0.out.lt
  have LTZ := Lib.hid Z0.out.lt
  go_wp2_with (refine stw.list_load rfl 50 _ rfl (w.heap.size) rfl 50 _ X0.out Try.underlying50 rfl ux.szRob ?_)
  (with_reducible refine (implVr s xs lo hi A n c _ R0.out).mono ?_)
  rintro e w1 hp
  obtain ⟨rfl, hb⟩ := b_parts HV.out hp
  clear hp
  have SS1 := Lib.hid hb.size
  have B1 := Lib.hid (B0.out.trans (hb.mono B0.out.size))
  have X1 := Lib.hid (X0.out.below hb)
  have Z1 := Lib.hid (Z0.out.below hb)
  have R1 := Lib.hid (R0.out.below hb)
  clear hb  B0 X0 Z0 R0
  cases v with
  | true =>
    have HNE := Lib.hid (near HV.out)
    have HBL := Lib.hid (bm_lt (fun f hf => by have h1 := HNE.out f hf; omega : ∀ f ∈ xs, (sqd s f.Seq).toNat < 16))
    have HE := Lib.hid (ack_yes HV.out)
    have cX0 : w1.cell? ⟨w.heap.size, 0, none⟩ = some (.int .i64 s) := X1.out.cell 0
    obtain ⟨b2, hbb⟩ : ∃ b, w1.heap.size = b := ⟨_, rfl⟩
    go_upto_region 4 with fail
    generalize hW : w1.alloc (.cells #[.int .i64 s, .int .i64 0] 61) = w2
    have LK := Lib.hid (show w.heap.size ≤ b2 ∧ w.heap.size < b2 ∧ w.heap.size + 1 < b2 ∧ hi ≤ b2 by have h1 := B1.out.size; have h2X := X1.out.lt; have h2Z := Z1.out.lt; have h2R := R1.out.hi_; have h3 := hbb; omega)
    have K2 := Lib.hid (show Bx 61 w2 b2 #[.int .i64 s, .int .i64 0] by rw [← hW, ← hbb]; exact Bx.made _ _ _)
    have hb : Below w1.heap.size w1 w2 := by rw [← hW]; exact below_box _ _
    (try rw [hbb])
    clear hW hbb
    have SS2 := Lib.hid hb.size
    have B2 := Lib.hid (B1.out.trans (hb.mono B1.out.size))
    have X2 := Lib.hid (X1.out.below hb)
    have Z2 := Lib.hid (Z1.out.below hb)
    have R2 := Lib.hid (R1.out.below hb)
    clear hb B1 X1 Z1 R1
    have LWK := Lib.hid K2.out.lt
    clear cX0
    have cX1 : w2.cell? ⟨w.heap.size, 1, none⟩ = some (.slice A n c) := X2.out.cell 1
    go_wp2_with fail
    clear cX1
    go_loopw [16] (fun v0 wr => ∃ (k : Nat) (m : Nat), v0 = .int .i64 (k : Int) ∧ (k ≤ n) ∧ (m = bm s (xs.take k)) ∧ Below w.heap.size w wr ∧ Bx 50 wr w.heap.size #[.int .i64 s, .slice A n c] ∧ Bx 61 wr (w.heap.size + 1) #[.int .i64 0, .int .i64 0] ∧ Bx 61 wr b2 #[.int .i64 s, .int .i64 (m : Int)] ∧ RR rowNf wr lo hi (.slice A n c) xs) (fun i _ => n - (intOf i).toNat)
    case atStart => exact ⟨0, 0, rfl, by omega, rfl, B2.out, X2.out, Z2.out, K2.out, R2.out⟩
    case round =>
      obtain ⟨k, m, rfl, ghk, ghm, gB3, gX3, gZ3, gK3, gR3⟩ := hrel
      have B3 := Lib.hid gB3
      have X3 := Lib.hid gX3
      have Z3 := Lib.hid gZ3
      have K3 := Lib.hid gK3
      have R3 := Lib.hid gR3
      have hk := Lib.hid ghk
      have hm := Lib.hid ghm
      clear gB3 gX3 gZ3 gK3 gR3 ghk ghm
      have LUX3 := Lib.hid X3.out.lt
      have LUZ3 := Lib.hid Z3.out.lt
      have LUK3 := Lib.hid K3.out.lt
      have SBR3 := Lib.hid B3.out.size
      have hk9 := hk.out
      have HM := Lib.hid (show m < 65536 by rw [hm.out]; exact HBL.out k)
      by_cases hlt : k < n
      · have hlt2 : (k : Int) < n := by omega
        obtain ⟨g, off, x, u, hA, hy, hg1, hg2, hru, hxu⟩ := ux.row_at (R3.out : RR (row 90 nf) _ _ _ _ _) hlt
        obtain ⟨A0, n0, c0_, rfl, hb0⟩ := ux.nf_r hxu
        subst hA
        have k0 : wr.cell? ⟨g, off + k * 2, none⟩ = some (.int .i64 x.Seq) := hru 0 _ rfl
        have k1 : wr.cell? ⟨g, off + k * 2 + 1, none⟩ = some (.slice A0 n0 c0_) := hru 1 _ rfl
        have HY := Lib.hid hy
        have HN0 := Lib.hid (ux.rd_of hb0).len
        have hn0 := (ux.rd_of hb0).cap_
        have F3 := Lib.hid hb0
        have HG := Lib.hid (show g < w.heap.size by have h7 := LHR.out; omega)
        clear hy hru hxu hb0 hg1 hg2
        obtain ⟨d, hd⟩ : ∃ d : Nat, sqd s x.Seq = d := ⟨(sqd s x.Seq).toNat, by have h1 := HNE.out x (List.mem_of_getElem? HY.out); omega⟩
        have HD := Lib.hid hd
        have HD16 := Lib.hid (show d < 16 by have h1 := HNE.out x (List.mem_of_getElem? HY.out); omega)
        have HST := Lib.hid (bm_step HY.out hd)
        clear hd
        obtain ⟨b4, hbb⟩ : ∃ b, wr.heap.size = b := ⟨_, rfl⟩
        go_upto_region 7 with fail
        generalize hW : wr.alloc (.cells #[.int .i64 x.Seq, .slice A0 n0 c0_] 90) = w4
        have LV := Lib.hid (show w.heap.size ≤ b4 ∧ w.heap.size < b4 ∧ w.heap.size + 1 < b4 ∧ b2 < b4 ∧ hi ≤ b4 ∧ hi ≤ b4 by have h1 := B3.out.size; have h2X := X3.out.lt; have h2Z := Z3.out.lt; have h2K := K3.out.lt; have h2R := R3.out.hi_; have h2F := F3.out.hi_; have h3 := hbb; omega)
        have V4 := Lib.hid (show Bx 90 w4 b4 #[.int .i64 x.Seq, .slice A0 n0 c0_] by rw [← hW, ← hbb]; exact Bx.made _ _ _)
        have hb : Below wr.heap.size wr w4 := by rw [← hW]; exact below_box _ _
        (try rw [hbb])
        clear hW hbb
        have SS4 := Lib.hid hb.size
        have B4 := Lib.hid (B3.out.trans (hb.mono B3.out.size))
        have X4 := Lib.hid (X3.out.below hb)
        have Z4 := Lib.hid (Z3.out.below hb)
        have K4 := Lib.hid (K3.out.below hb)
        have R4 := Lib.hid (R3.out.below hb)
        have F4 := Lib.hid (F3.out.below hb)
        clear hb B3 X3 Z3 K3 R3 F3
        have LWV := Lib.hid V4.out.lt
        clear k0 k1
        obtain ⟨p, hp⟩ : ∃ p, wrap64 (2 ^ d) = p := ⟨_, rfl⟩
        have hp2 : IntKind.i64.wrap (2 ^ d) = p := (wrap_pow _).trans hp
        obtain ⟨m2, hm2⟩ : ∃ x, m ||| 2 ^ d = x := ⟨_, rfl⟩
        have hor : bits .or .i64 (m : Int) p = (m2 : Int) := by rw [← hp, ← hm2]; exact bs.or_pow HM.out HD16.out
        have hk64 : (d : Int) ≤ 64 := by have := HD16.out; omega
        have HM2 := Lib.hid hm2
        clear hm2
        refine reg.region_tail reg.Bel 10 32 [some [], some [(0, 20)], some [], some [(2, 22)], some [], some [(4, 24)], some [(3, 23), (5, 25)], some [(6, 26)], some [(1, 21), (7, 27)], some [], none] [(0, 20), (1, 21), (2, 22), (3, 23), (4, 24), (5, 25), (6, 26), (7, 27), (8, 28), (9, 29)]
          (fun w' => Below w.heap.size w w' ∧ Bx 50 w' (w.heap.size) #[.int .i64 s, .slice (some ⟨g, off, none⟩) n c] ∧ Bx 61 w' (w.heap.size + 1) #[.int .i64 0, .int .i64 0] ∧ Bx 61 w' (b2) #[.int .i64 s, .int .i64 (m : Int)] ∧ Bx 90 w' (b4) #[.int .i64 x.Seq, .slice A0 n0 c0_] ∧ RR rowNf w' lo hi (.slice (some ⟨g, off, none⟩) n c) xs ∧ RR ux.bytes w' lo hi (.slice A0 n0 c0_) x.Body ∧ True)
          (reg.rl [reg.is (.pointer (some ⟨b2, 1, none⟩)), reg.is (.int .i64 (m : Int)), reg.is (.pointer (some ⟨w.heap.size, 0, none⟩)), reg.is (.int .i64 s), reg.is (.pointer (some ⟨b4, 0, none⟩)), reg.is (.int .i64 x.Seq), reg.is (.int .i64 (d : Int)), reg.is (.int .i64 p), reg.is (.int .i64 (m2 : Int)), reg.is (.pointer (some ⟨b2, 1, none⟩)), reg.free])
          (by kernel_rfl) rfl (by kernel_rfl) (by kernel_rfl) rfl
          (fun w1 w2 hc hb => ⟨hc.1.trans (hb.mono hc.1.size), hc.2.1.below hb, hc.2.2.1.below hb, hc.2.2.2.1.below hb, hc.2.2.2.2.1.below hb, hc.2.2.2.2.2.1.below hb, hc.2.2.2.2.2.2.1.below hb, trivial⟩) (reg.rl_keep _) (⟨own.below_drew B4.out, X4.out.same rfl, Z4.out.same rfl, K4.out.same rfl, V4.out.same rfl, R4.out.same (Nat.le_refl _) (fun _ _ _ => rfl), F4.out.same (Nat.le_refl _) (fun _ _ _ => rfl), trivial⟩) (by kernel_rfl) ⟨?_, ?_, ?_, ?_, ?_, ?_, ?_, ?_, ?_, ?_, trivial⟩ ?_
        · refine fun w8 hc  K hK => ?_
          (try simp only [Act.put, List.setIfInBounds_toArray, List.set_cons_zero, List.set_cons_succ])
          go_simp
          exact hK (.pointer (some ⟨b2, 1, none⟩)) _ rfl (Below.refl _ _)
        · refine fun w8 hc v0 h0 K hK => ?_
          obtain rfl : v0 = .pointer (some ⟨b2, 1, none⟩) := h0
          (try simp only [Act.put, List.setIfInBounds_toArray, List.set_cons_zero, List.set_cons_succ])
          have c0 : w8.cell? ⟨b2, 1, none⟩ = some (.int .i64 (m : Int)) := hc.2.2.2.1.cell 1
          go_simp
          exact hK (.int .i64 (m : Int)) _ rfl (Below.refl _ _)
        · refine fun w8 hc  K hK => ?_
          (try simp only [Act.put, List.setIfInBounds_toArray, List.set_cons_zero, List.set_cons_succ])
          go_simp
          exact hK (.pointer (some ⟨w.heap.size, 0, none⟩)) _ rfl (Below.refl _ _)
        · refine fun w8 hc v2 h2 K hK => ?_
          obtain rfl : v2 = .pointer (some ⟨w.heap.size, 0, none⟩) := h2
          (try simp only [Act.put, List.setIfInBounds_toArray, List.set_cons_zero, List.set_cons_succ])
          have c0 : w8.cell? ⟨w.heap.size, 0, none⟩ = some (.int .i64 s) := hc.2.1.cell 0
          go_simp
          exact hK (.int .i64 s) _ rfl (Below.refl _ _)
        · refine fun w8 hc  K hK => ?_
          (try simp only [Act.put, List.setIfInBounds_toArray, List.set_cons_zero, List.set_cons_succ])
          go_simp
          exact hK (.pointer (some ⟨b4, 0, none⟩)) _ rfl (Below.refl _ _)
        · refine fun w8 hc v4 h4 K hK => ?_
          obtain rfl : v4 = .pointer (some ⟨b4, 0, none⟩) := h4
          (try simp only [Act.put, List.setIfInBounds_toArray, List.set_cons_zero, List.set_cons_succ])
          have c0 : w8.cell? ⟨b4, 0, none⟩ = some (.int .i64 x.Seq) := hc.2.2.2.2.1.cell 0
          go_simp
          exact hK (.int .i64 x.Seq) _ rfl (Below.refl _ _)
        · refine fun w8 hc v3 h3 v5 h5 K hK => ?_
          obtain rfl : v3 = .int .i64 s := h3
          obtain rfl : v5 = .int .i64 x.Seq := h5
          (try simp only [Act.put, List.setIfInBounds_toArray, List.set_cons_zero, List.set_cons_succ])
          go_simp
          (with_reducible refine (bs.implSd s x.Seq _).mono ?_)
          rintro e w3 ⟨rfl, rfl⟩
          rw [HD.out]; exact hK _ _ rfl (Below.refl _ _)
        · refine fun w8 hc v6 h6 K hK => ?_
          obtain rfl : v6 = .int .i64 (d : Int) := h6
          (try simp only [Act.put, List.setIfInBounds_toArray, List.set_cons_zero, List.set_cons_succ])
          go_simp
          (try simp only [hp, hp2])
          exact hK (.int .i64 p) _ rfl (Below.refl _ _)
        · refine fun w8 hc v1 h1 v7 h7 K hK => ?_
          obtain rfl : v1 = .int .i64 (m : Int) := h1
          obtain rfl : v7 = .int .i64 p := h7
          (try simp only [Act.put, List.setIfInBounds_toArray, List.set_cons_zero, List.set_cons_succ])
          go_simp
          (try simp only [hor])
          exact hK (.int .i64 (m2 : Int)) _ rfl (Below.refl _ _)
        · refine fun w8 hc  K hK => ?_
          (try simp only [Act.put, List.setIfInBounds_toArray, List.set_cons_zero, List.set_cons_succ])
          go_simp
          exact hK (.pointer (some ⟨b2, 1, none⟩)) _ rfl (Below.refl _ _)
        refine fun wg5 hc v0 h0 v1 h1 v2 h2 v3 h3 v4 h4 v5 h5 v6 h6 v7 h7 v8 h8 v9 h9 => ?_
        obtain rfl : v0 = .pointer (some ⟨b2, 1, none⟩) := h0
        obtain rfl : v1 = .int .i64 (m : Int) := h1
        obtain rfl : v2 = .pointer (some ⟨w.heap.size, 0, none⟩) := h2
        obtain rfl : v3 = .int .i64 s := h3
        obtain rfl : v4 = .pointer (some ⟨b4, 0, none⟩) := h4
        obtain rfl : v5 = .int .i64 x.Seq := h5
        obtain rfl : v6 = .int .i64 (d : Int) := h6
        obtain rfl : v7 = .int .i64 p := h7
        obtain rfl : v8 = .int .i64 (m2 : Int) := h8
        obtain rfl : v9 = .pointer (some ⟨b2, 1, none⟩) := h9
        (try simp only [reg.Obs])
        (try simp only [Act.put, List.setIfInBounds_toArray, List.set_cons_zero, List.set_cons_succ])
        simp only [List.drop_succ_cons, List.drop_zero]
        have B5 := Lib.hid hc.1
        have X5 := Lib.hid hc.2.1
        have Z5 := Lib.hid hc.2.2.1
        have K5 := Lib.hid hc.2.2.2.1
        have V5 := Lib.hid hc.2.2.2.2.1
        have R5 := Lib.hid hc.2.2.2.2.2.1
        have F5 := Lib.hid hc.2.2.2.2.2.2.1
        clear hc B4 X4 Z4 K4 V4 R4 F4
        have cK1 : wg5.cell? ⟨b2, 1, none⟩ = some (.int .i64 (m : Int)) := K5.out.cell 1
        have fK1 : wg5.frozen? ⟨b2, 1, none⟩ = false := K5.out.free 1
        go_wp2_with fail
        clear cK1 fK1
        have hWW : (wg5.setCell ⟨b2, 1, none⟩ (.int .i64 (m2 : Int))) = (wg5.setCell ⟨b2, 1, none⟩ (.int .i64 (m2 : Int))) := rfl
        obtain ⟨w6, hW⟩ : ∃ wy, (wg5.setCell ⟨b2, 1, none⟩ (.int .i64 (m2 : Int))) = wy := ⟨_, rfl⟩
        rw [hW]
        clear hWW
        have B6 := Lib.hid (show Below w.heap.size w w6 by rw [← hW]; exact (B5.out.setCell (p := ⟨b2, 1, none⟩) (by have hlK := LK.out; have hlV := LV.out; have hs0 := LTX.out; have hs1 := LTZ.out; have hs2 := LHR.out; have hs3 := SS1.out; have hs4 := SS2.out; have hs5 := LWK.out; have hs6 := LUX3.out; have hs7 := LUZ3.out; have hs8 := LUK3.out; have hs9 := SBR3.out; have hs10 := SS4.out; have hs11 := LWV.out; first | omega | (simp <;> omega)) _))
        have X6 := Lib.hid (show Bx 50 w6 (w.heap.size) #[.int .i64 s, .slice (some ⟨g, off, none⟩) n c] by rw [← hW]; exact (X5.out.other (by have hlK := LK.out; have hlV := LV.out; have hs0 := LTX.out; have hs1 := LTZ.out; have hs2 := LHR.out; have hs3 := SS1.out; have hs4 := SS2.out; have hs5 := LWK.out; have hs6 := LUX3.out; have hs7 := LUZ3.out; have hs8 := LUK3.out; have hs9 := SBR3.out; have hs10 := SS4.out; have hs11 := LWV.out; first | omega | (simp <;> omega)) _ _))
        have Z6 := Lib.hid (show Bx 61 w6 (w.heap.size + 1) #[.int .i64 0, .int .i64 0] by rw [← hW]; exact (Z5.out.other (by have hlK := LK.out; have hlV := LV.out; have hs0 := LTX.out; have hs1 := LTZ.out; have hs2 := LHR.out; have hs3 := SS1.out; have hs4 := SS2.out; have hs5 := LWK.out; have hs6 := LUX3.out; have hs7 := LUZ3.out; have hs8 := LUK3.out; have hs9 := SBR3.out; have hs10 := SS4.out; have hs11 := LWV.out; first | omega | (simp <;> omega)) _ _))
        have K6 := Lib.hid (show Bx 61 w6 (b2) #[.int .i64 s, .int .i64 (m2 : Int)] by rw [← hW]; exact (K5.out.set 1 _))
        have V6 := Lib.hid (show Bx 90 w6 (b4) #[.int .i64 x.Seq, .slice A0 n0 c0_] by rw [← hW]; exact (V5.out.other (by have hlK := LK.out; have hlV := LV.out; have hs0 := LTX.out; have hs1 := LTZ.out; have hs2 := LHR.out; have hs3 := SS1.out; have hs4 := SS2.out; have hs5 := LWK.out; have hs6 := LUX3.out; have hs7 := LUZ3.out; have hs8 := LUK3.out; have hs9 := SBR3.out; have hs10 := SS4.out; have hs11 := LWV.out; first | omega | (simp <;> omega)) _ _))
        have R6 := Lib.hid (show RR rowNf w6 lo hi (.slice (some ⟨g, off, none⟩) n c) xs by rw [← hW]; exact (R5.out.same (by simp [World.setCell]) fun b h1 h2 => by rw [Below.heap_setCell _ _ _ _ (by have hlK := LK.out; have hlV := LV.out; have hs0 := LTX.out; have hs1 := LTZ.out; have hs2 := LHR.out; have hs3 := SS1.out; have hs4 := SS2.out; have hs5 := LWK.out; have hs6 := LUX3.out; have hs7 := LUZ3.out; have hs8 := LUK3.out; have hs9 := SBR3.out; have hs10 := SS4.out; have hs11 := LWV.out; first | omega | (simp <;> omega))]))
        have F6 := Lib.hid (show RR ux.bytes w6 lo hi (.slice A0 n0 c0_) x.Body by rw [← hW]; exact (F5.out.same (by simp [World.setCell]) fun b h1 h2 => by rw [Below.heap_setCell _ _ _ _ (by have hlK := LK.out; have hlV := LV.out; have hs0 := LTX.out; have hs1 := LTZ.out; have hs2 := LHR.out; have hs3 := SS1.out; have hs4 := SS2.out; have hs5 := LWK.out; have hs6 := LUX3.out; have hs7 := LUZ3.out; have hs8 := LUK3.out; have hs9 := SBR3.out; have hs10 := SS4.out; have hs11 := LWV.out; first | omega | (simp <;> omega))]))
        clear hW B5 X5 Z5 K5 V5 R5 F5
        go_roundw
        case rel => exact ⟨k + 1, m2, by go_num, by omega, by rw [HST.out, ← HM2.out, hm.out], B6.out, X6.out, Z6.out, K6.out, R6.out⟩
        case measure => simp [intOf]; omega
      · have hlt2 : ¬ (k : Int) < n := by omega
        obtain rfl : n = k := by omega
        have HF := Lib.hid (show xs.take n = xs from List.take_of_length_le (by rw [HL.out]; exact Nat.le_refl _))
        have HE2 := Lib.hid (show ack ⟨s, xs⟩ = (s, (m : Int)) by rw [HE.out, hm.out, HF.out])
        go_wp2_with (first | (refine stw.list_load rfl 61 _ rfl (b2) rfl 61 _ K3.out Try.underlying61 rfl bs.szA ?_) | (refine stw.list_store rfl 61 _ _ rfl (w.heap.size + 1) #[.int .i64 s, .int .i64 (m : Int)] rfl rfl 61 _ Z3.out rfl bs.szA (bs.oneA _ _) ?_; intro wz4 hz))
        have B4 := Lib.hid (hz.on B3.out (by have hlK := LK.out; have hs0 := LTX.out; have hs1 := LTZ.out; have hs2 := LHR.out; have hs3 := SS1.out; have hs4 := SS2.out; have hs5 := LWK.out; have hs6 := LUX3.out; have hs7 := LUZ3.out; have hs8 := LUK3.out; have hs9 := SBR3.out; first | omega | (simp <;> omega)))
        have X4 := Lib.hid (hz.keep X3.out (by have hlK := LK.out; have hs0 := LTX.out; have hs1 := LTZ.out; have hs2 := LHR.out; have hs3 := SS1.out; have hs4 := SS2.out; have hs5 := LWK.out; have hs6 := LUX3.out; have hs7 := LUZ3.out; have hs8 := LUK3.out; have hs9 := SBR3.out; first | omega | (simp <;> omega)))
        have Z4 := Lib.hid (hz.box)
        have K4 := Lib.hid (hz.keep K3.out (by have hlK := LK.out; have hs0 := LTX.out; have hs1 := LTZ.out; have hs2 := LHR.out; have hs3 := SS1.out; have hs4 := SS2.out; have hs5 := LWK.out; have hs6 := LUX3.out; have hs7 := LUZ3.out; have hs8 := LUK3.out; have hs9 := SBR3.out; first | omega | (simp <;> omega)))
        have R4 := Lib.hid (R3.out.same hz.below.size fun b h1 h2 => hz.other b (by have hlK := LK.out; have hs0 := LTX.out; have hs1 := LTZ.out; have hs2 := LHR.out; have hs3 := SS1.out; have hs4 := SS2.out; have hs5 := LWK.out; have hs6 := LUX3.out; have hs7 := LUZ3.out; have hs8 := LUK3.out; have hs9 := SBR3.out; first | omega | (simp <;> omega)))
        clear hz B3 X3 Z3 K3 R3
        (try simp only [Exit.inBlock, Exit.then])
        refine bodyPost_ret (v := .agg #[.int .i64 s, .int .i64 (m : Int)]) ?_ rfl ?_
        · rw [results_cell1 rfl]
          exact stw.back Z4.out Try.underlying61 rfl bs.szA
        · exact by rw [HE2.out]; exact ⟨rfl, B4.out⟩
  | false =>
    have HE := Lib.hid (ack_no HV.out)
    go_wp2_with (first | (refine stw.list_load rfl 50 _ rfl (w.heap.size) rfl 50 _ X1.out Try.underlying50 rfl ux.szRob ?_) | (refine stw.list_store rfl 61 _ _ rfl (w.heap.size + 1) #[.int .i64 0, .int .i64 0] rfl rfl 61 _ Z1.out rfl bs.szA (bs.oneA _ _) ?_; intro wz2 hz))
    have B2 := Lib.hid (hz.on B1.out (by have hs0 := LTX.out; have hs1 := LTZ.out; have hs2 := LHR.out; have hs3 := SS1.out; first | omega | (simp <;> omega)))
    have X2 := Lib.hid (hz.keep X1.out (by have hs0 := LTX.out; have hs1 := LTZ.out; have hs2 := LHR.out; have hs3 := SS1.out; first | omega | (simp <;> omega)))
    have Z2 := Lib.hid (hz.box)
    have R2 := Lib.hid (R1.out.same hz.below.size fun b h1 h2 => hz.other b (by have hs0 := LTX.out; have hs1 := LTZ.out; have hs2 := LHR.out; have hs3 := SS1.out; first | omega | (simp <;> omega)))
    clear hz B1 X1 Z1 R1
    (try simp only [Exit.inBlock, Exit.then])
    refine bodyPost_ret (v := .agg #[.int .i64 0, .int .i64 0]) ?_ rfl ?_
    · rw [results_cell1 rfl]
      exact stw.back Z2.out Try.underlying61 rfl bs.szA
    · exact by rw [HE.out]; exact ⟨rfl, B2.out⟩
end Go.Proofs.Ytejjafmppihneaa.ro

/- Draws of buffers. Condition: the bytes that are drawn from are a slice that came in. -/
namespace Go.Proofs.Ytejjafmppihneaa.ro
open Go.RowKit sl harn rng bx drk stw draw
set_option linter.unusedVariables false
open ux (Nf Rob RR OO row rowB rowNf nf rob own_more)
open mrw (blkOf grown_below)
set_option linter.unusedSimpArgs false

/-- A slice of shared frames whose blocks lie in a range and which knows its room. -/
def Fr (lo hi : Nat) (w : World) (A : Option Addr) (n c : Nat) (xs : List Nf) : Prop := NF (In lo hi) w A n c xs ∧ hi ≤ w.heap.size
section
variable {lo hi n c : Nat} {w w' : World} {A : Option Addr} {xs : List Nf}
theorem Fr.hi_ (h : Fr lo hi w A n c xs) : hi ≤ w.heap.size := h.2
theorem Fr.len (h : Fr lo hi w A n c xs) : xs.length = n ∧ n ≤ c ∧ c ≤ 9223372036854775807 := ⟨h.1.1, h.1.2.1, by have := h.1.2.2.1; unfold maxLen at this; omega⟩
theorem Fr.same (h : Fr lo hi w A n c xs) (hs : w.heap.size ≤ w'.heap.size) (hb : ∀ b, lo ≤ b → b < hi → w'.heap[b]? = w.heap[b]?) : Fr lo hi w' A n c xs := ⟨h.1.cells hs fun b hf => hb b hf.1 hf.2, Nat.le_trans h.2 hs⟩
theorem Fr.below (h : Fr lo hi w A n c xs) (hb : Below w.heap.size w w') : Fr lo hi w' A n c xs := h.same hb.size fun b _ h2 => hb.block b (by have := h.2; omega)
theorem fr_keep {p : Nat} (h : Fr lo hi w A n c xs) (hk : Keep p w w') (hp : p < lo) : Fr lo hi w' A n c xs := h.same hk.size fun b h1 h2 => hk.block b (by have := h.2; omega) (by omega)
theorem Fr.rr (h : Fr lo hi w A n c xs) : RR rowNf w lo hi (.slice A n c) xs := h.1.rr (fun b hb => hb) h.2
theorem Fr.nil (w : World) (lo hi : Nat) (hh : hi ≤ w.heap.size) : Fr lo hi w none 0 0 [] := ⟨NF.nil _ w none (by unfold maxLen; omega) (Rm.zero _ w none 0), hh⟩
theorem Fr.wide {l2 h2 : Nat} (h : Fr lo hi w A n c xs) (hl : l2 ≤ lo) (hh : hi ≤ h2) (hs : h2 ≤ w.heap.size) : Fr l2 h2 w A n c xs := ⟨h.1.mono fun b hb => ⟨Nat.le_trans hl hb.1, Nat.lt_of_lt_of_le hb.2 hh⟩, hs⟩
end
theorem rr2_fr {p : Rob × List (List Int)} {w : World} {e : Ending} {w' : World} (h : Rr2 p w e w') : ∃ A n c A2 n2 c2, e = .returned (.tuple #[.agg #[.int .i64 p.1.Start, .slice A n c], .slice A2 n2 c2]) ∧ Fr w.heap.size w'.heap.size w' A n c p.1.Pending ∧ Below w.heap.size w w' := by
  obtain ⟨A, n, c, A2, n2, c2, e, h1, h2, h3⟩ := h
  exact ⟨A, n, c, A2, n2, c2, e, ⟨NF.of_rr (F := In w.heap.size w'.heap.size) h1.1 (fun b h1 h2 => ⟨h1, h2⟩) h1.2, Nat.le_refl _⟩, h3⟩
theorem vr_small {r : Rob} (h : vr r = true) : r.Pending.length ≤ 16 ∧ (∀ x ∈ r.Pending, x.Body.length ≤ 100) ∧ (0 ≤ r.Start ∧ r.Start ≤ 4095) := by
  obtain ⟨h1, h2⟩ := vr_ok h
  refine ⟨?_, fun x hx => (okp_mem (by omega) (vr_parts h).1 x hx).2, (vr_parts h).2⟩
  rw [← h2]
  have h3 := pend_len (start r).ws r.Start
  rw [h1.len] at h3
  exact h3
def BuPost (p : Nat) (a : Option Addr) (len cap : Nat) (w : World) (e : Ending) (w' : World) : Prop := ∃ (s : Int) (xs : List Nf) (A : Option Addr) (n c lo hi : Nat), e = .returned (.agg #[.int .i64 s, .slice A n c]) ∧ vr ⟨s, xs⟩ = true ∧ (w.heap.size ≤ lo ∧ lo ≤ hi) ∧ Fr lo hi w' A n c xs ∧ Keep p w w' ∧ Cur w' p a len cap
set_option maxRecDepth 100000 in
set_option maxHeartbeats 4000000 in
theorem specNew0 (m : Int) (hm : 0 ≤ m ∧ m ≤ 4095) (w : World) :
    Calls Try.prog 106 #[.int .i64 m] w (fun e w' => e = .returned (.agg #[.int .i64 m, .slice none 0 0]) ∧ Below w.heap.size w w') := by
  have H1 := Lib.hid (show decide (0 ≤ m ∧ m ≤ 4095) = true from decide_eq_true hm)
  clear hm
  go_enter Try.func106, Try.ntmps106
  go_wp2_with fail
  obtain ⟨w0, hW⟩ : ∃ w0, w.alloc (.cells #[.int .i64 0, .slice none 0 0] 50) = w0 := ⟨_, rfl⟩
  rw [hW]
  have B0 := Lib.hid (show Below w.heap.size w w0 by rw [← hW]; exact (Below.refl _ _).alloc (by simp <;> omega) _)
  have Z0 := Lib.hid (show Bx 50 w0 (w.heap.size) #[.int .i64 0, .slice none 0 0] by
      rw [← hW]
      have hh := Bx.made 50 w #[.int .i64 0, .slice none 0 0]
      exact hh)
  clear hW
  have LTZ := Lib.hid Z0.out.lt
  (with_reducible refine (l1R m 0 4095 true _ H1.out).mono ?_)
  rintro e wq ⟨rfl, rfl⟩
  go_wp2_with (first | (refine stw.list_store rfl 50 _ _ rfl (w.heap.size) #[.int .i64 m, .slice none 0 0] rfl rfl 50 _ Z0.out rfl ux.szRob (ux.oneRob _ _ _ _) ?_; intro wz1 hz))
  have B1 := Lib.hid (hz.on B0.out (by have hs0 := LTZ.out; first | omega | (simp <;> omega)))
  have Z1 := Lib.hid (hz.box)
  clear hz B0 Z0
  (try simp only [Exit.inBlock, Exit.then])
  refine bodyPost_ret (v := .agg #[.int .i64 m, .slice none 0 0]) ?_ rfl ?_
  · rw [results_cell1 rfl]
    exact stw.back Z1.out Try.underlying50 rfl ux.szRob
  · exact ⟨rfl, B1.out⟩
set_option maxRecDepth 100000 in
set_option maxHeartbeats 4000000 in
theorem dBu (w : World) (p : Nat) (a : Option Addr) (len cap : Nat) (hc : Cur w p a len cap) :
    Calls Try.prog 92 #[.pointer (some ⟨p, 0, none⟩)] w (BuPost p a len cap w) := by
  have CW := Lib.hid hc
  have P0 := Lib.hid hc.lt
  clear hc
  go_enter Try.func92, Try.ntmps92
  go_upto_region 1 with fail
  obtain ⟨w0, hW⟩ : ∃ w0, w.alloc (.cells #[.int .i64 0, .slice none 0 0] 50) = w0 := ⟨_, rfl⟩
  rw [hW]
  have K0 := Lib.hid (show Keep p w w0 by rw [← hW]; exact (Keep.refl p w).alloc _)
  have C0 := Lib.hid (show Cur w0 p a len cap by rw [← hW]; exact (CW.out).alloc _)
  have Z0 := Lib.hid (show Bx 50 w0 (w.heap.size) #[.int .i64 0, .slice none 0 0] by
      rw [← hW]
      have hh := Bx.made 50 w #[.int .i64 0, .slice none 0 0]
      exact hh)
  clear hW
  have LTZ := Lib.hid Z0.out.lt
  go_wp2_with fail
  (with_reducible refine (pickIn 0 4090 3 (by omega) (by omega) _ p a len cap C0.out #[.int .i64 0, .int .i64 7, .int .i64 4090] rfl (by decide)).mono ?_)
  rintro e w1 ⟨y, rfl, hx0, hx1, hk, hc⟩
  have Hy := Lib.hid (show 0 ≤ y ∧ y ≤ 4090 from ⟨hx0, hx1⟩)
  have SS1 := Lib.hid hk.size
  have K1 := Lib.hid (K0.out.trans hk)
  have C1 := Lib.hid (hc)
  have Z1 := Lib.hid (drk.bx_keep Z0.out hk (by have h0 := P0.out; have hs0 := LTZ.out; have hs1 := SS1.out; first | omega | (simp <;> omega)))
  clear hk hc hx0 hx1 K0 C0 Z0
  go_wp2_with fail
  (with_reducible refine (specNew0 y (by have := Hy.out; omega) _).mono ?_)
  rintro e w2 ⟨rfl, hb⟩
  have SS2 := Lib.hid hb.size
  have K2 := Lib.hid (drk.later K1.out K1.out.size hb)
  have C2 := Lib.hid (drk.cur_below C1.out hb)
  have Z2 := Lib.hid (Z1.out.below hb)
  clear hb  K1 C1 Z1
  obtain ⟨b2, hbb⟩ : ∃ b, w2.heap.size = b := ⟨_, rfl⟩
  go_upto_region 2 with fail
  generalize hW : w2.alloc (.cells #[.int .i64 y, .slice none 0 0] 50) = w3
  have LS := Lib.hid (show w.heap.size ≤ b2 ∧ w.heap.size < b2 by have h1 := K2.out.size; have h2Z := Z2.out.lt; have h3 := hbb; omega)
  have S3 := Lib.hid (show Bx 50 w3 b2 #[.int .i64 y, .slice none 0 0] by rw [← hW, ← hbb]; exact Bx.made _ _ _)
  have hb : Below w2.heap.size w2 w3 := by rw [← hW]; exact below_box _ _
  (try rw [hbb])
  clear hW hbb
  have SS3 := Lib.hid hb.size
  have K3 := Lib.hid (drk.later K2.out K2.out.size hb)
  have C3 := Lib.hid (drk.cur_below C2.out hb)
  have Z3 := Lib.hid (Z2.out.below hb)
  clear hb K2 C2 Z2
  have LWS := Lib.hid S3.out.lt
  go_wp2_with fail
  (with_reducible refine (below 12 (by omega) _ p a len cap C3.out).mono ?_)
  rintro e w4 ⟨j0, rfl, hx0, hx1, hk, hc⟩
  have Hj0 := Lib.hid (show 0 ≤ j0 ∧ j0 < 12 from ⟨hx0, hx1 (by omega)⟩)
  have SS4 := Lib.hid hk.size
  have K4 := Lib.hid (K3.out.trans hk)
  have C4 := Lib.hid (hc)
  have Z4 := Lib.hid (drk.bx_keep Z3.out hk (by have hlS := LS.out; have h0 := P0.out; have hs0 := LTZ.out; have hs1 := SS1.out; have hs2 := SS2.out; have hs3 := SS3.out; have hs4 := LWS.out; have hs5 := SS4.out; first | omega | (simp <;> omega)))
  have S4 := Lib.hid (drk.bx_keep S3.out hk (by have hlS := LS.out; have h0 := P0.out; have hs0 := LTZ.out; have hs1 := SS1.out; have hs2 := SS2.out; have hs3 := SS3.out; have hs4 := LWS.out; have hs5 := SS4.out; first | omega | (simp <;> omega)))
  clear hk hc hx0 hx1 K3 C3 Z3 S3
  go_wp2_with fail
  have F4 := Lib.hid (show Fr (b2 + 1) (b2 + 1) w4 none 0 0 [] from Fr.nil _ _ _ S4.out.lt)
  have HV0 := Lib.hid (show vr ⟨y, []⟩ = true by have := Hy.out; unfold vr okp; simp; omega)
  go_loopw [4] (fun v0 wr => ∃ (j : Int) (s : Int) (xs : List Nf) (A1 : Option Addr) (n1 : Nat) (c1 : Nat) (l1 : Nat) (h1 : Nat), v0 = .int .i64 j ∧ (0 ≤ j ∧ j ≤ 11) ∧ (vr ⟨s, xs⟩ = true) ∧ (b2 < l1 ∧ w.heap.size ≤ l1 ∧ l1 ≤ h1) ∧ Keep p w wr ∧ Cur wr p a len cap ∧ Bx 50 wr w.heap.size #[.int .i64 0, .slice none 0 0] ∧ Bx 50 wr b2 #[.int .i64 s, .slice A1 n1 c1] ∧ Fr l1 h1 wr A1 n1 c1 xs) ((fun j _ => (intOf j).toNat))
  case atStart => exact ⟨j0, y, [], none, 0, 0, b2 + 1, b2 + 1, rfl, by have := Hj0.out; omega, HV0.out, (by have h1 := LS.out; omega), K4.out, C4.out, Z4.out, S4.out, F4.out⟩
  case round =>
    obtain ⟨j, s, xs, A1, n1, c1, l1, h1, rfl, ghj, ghv, ghlo, gK5, gC5, gZ5, gS5, gF5⟩ := hrel
    have K5 := Lib.hid gK5
    have C5 := Lib.hid gC5
    have Z5 := Lib.hid gZ5
    have S5 := Lib.hid gS5
    have F5 := Lib.hid gF5
    have hj := Lib.hid ghj
    have hv := Lib.hid ghv
    have hlo := Lib.hid ghlo
    clear gK5 gC5 gZ5 gS5 gF5 ghj ghv ghlo
    have LUZ5 := Lib.hid Z5.out.lt
    have LUS5 := Lib.hid S5.out.lt
    have SBR5 := Lib.hid K5.out.size
    have hj := hj.out
    by_cases hlt : 0 < j
    · have HSM := Lib.hid (vr_small hv.out)
      go_upto_region 5 with fail
      refine reg.region_plain (drk.Dr p a len cap) 35 [some [], some [(0, 18)], some [], some [(2, 20)], some [(1, 19), (3, 21)], some [(4, 22)], some [(5, 23)]] [(0, 18), (1, 19), (2, 20), (3, 21), (4, 22), (5, 23), (6, 5)]
        (fun w' => Keep p w w' ∧ Cur w' p a len cap ∧ Bx 50 w' (w.heap.size) #[.int .i64 0, .slice none 0 0] ∧ Bx 50 w' (b2) #[.int .i64 s, .slice A1 n1 c1] ∧ Fr l1 h1 w' A1 n1 c1 xs ∧ True)
        (reg.rl [reg.is (.pointer (some ⟨b2, 0, none⟩)), reg.is (.int .i64 s), reg.is (.pointer (some ⟨p, 0, none⟩)), reg.val (fun v => ∃ y : Int, v = .int .i64 y ∧ 0 ≤ y ∧ y ≤ 6), reg.val (fun v => ∃ y : Int, v = .int .i64 y ∧ 0 ≤ y ∧ y ≤ 4101), reg.val (fun v => ∃ y : Int, v = .int .i64 y ∧ 0 ≤ y ∧ y ≤ 4095), reg.val (fun v => ∃ y : Int, v = .int .i64 y ∧ 0 ≤ y ∧ y ≤ 4095)])
        (by kernel_rfl) (by kernel_rfl) rfl
        (fun w1 w2 hc hb => ⟨hc.1.trans hb.1, hb.2, drk.bx_keep hc.2.2.1 hb.1 (by have hlS := LS.out; have h0 := P0.out; have hs0 := LTZ.out; have hs1 := SS1.out; have hs2 := SS2.out; have hs3 := SS3.out; have hs4 := LWS.out; have hs5 := SS4.out; have hs6 := LUZ5.out; have hs7 := LUS5.out; have hs8 := SBR5.out; have hs9 := hlo.out; first | omega | (simp <;> omega)), drk.bx_keep hc.2.2.2.1 hb.1 (by have hlS := LS.out; have h0 := P0.out; have hs0 := LTZ.out; have hs1 := SS1.out; have hs2 := SS2.out; have hs3 := SS3.out; have hs4 := LWS.out; have hs5 := SS4.out; have hs6 := LUZ5.out; have hs7 := LUS5.out; have hs8 := SBR5.out; have hs9 := hlo.out; first | omega | (simp <;> omega)), ro.fr_keep hc.2.2.2.2.1 hb.1 (by have hlS := LS.out; have h0 := P0.out; have hs0 := LTZ.out; have hs1 := SS1.out; have hs2 := SS2.out; have hs3 := SS3.out; have hs4 := LWS.out; have hs5 := SS4.out; have hs6 := LUZ5.out; have hs7 := LUS5.out; have hs8 := SBR5.out; have hs9 := hlo.out; first | omega | (simp <;> omega)), trivial⟩) (reg.rl_keep _) (⟨Keep.drew K5.out, show Cur wr.drew p a len cap from C5.out, Z5.out.same rfl, S5.out.same rfl, F5.out.same (Nat.le_refl _) (fun _ _ _ => rfl), trivial⟩) (by kernel_rfl) ⟨?_, ?_, ?_, ?_, ?_, ?_, ?_, trivial⟩ ?_
      · refine fun w8 hc  K hK => ?_
        (try simp only [Act.put, List.setIfInBounds_toArray, List.set_cons_zero, List.set_cons_succ])
        go_simp
        exact hK (.pointer (some ⟨b2, 0, none⟩)) _ rfl ⟨Keep.refl _ _, hc.2.1⟩
      · refine fun w8 hc v0 h0 K hK => ?_
        obtain rfl : v0 = .pointer (some ⟨b2, 0, none⟩) := h0
        (try simp only [Act.put, List.setIfInBounds_toArray, List.set_cons_zero, List.set_cons_succ])
        have c0 : w8.cell? ⟨b2, 0, none⟩ = some (.int .i64 s) := hc.2.2.2.1.cell 0
        go_simp
        exact hK (.int .i64 s) _ rfl ⟨Keep.refl _ _, hc.2.1⟩
      · refine fun w8 hc  K hK => ?_
        (try simp only [Act.put, List.setIfInBounds_toArray, List.set_cons_zero, List.set_cons_succ])
        go_simp
        exact hK (.pointer (some ⟨p, 0, none⟩)) _ rfl ⟨Keep.refl _ _, hc.2.1⟩
      · refine fun w8 hc v2 h2 K hK => ?_
        obtain rfl : v2 = .pointer (some ⟨p, 0, none⟩) := h2
        (try simp only [Act.put, List.setIfInBounds_toArray, List.set_cons_zero, List.set_cons_succ])
        go_simp
        (with_reducible refine (below 7 (by omega) _ p a len cap hc.2.1).mono ?_)
        rintro e w3 ⟨y, rfl, h1, h2, hk, hcc⟩
        exact hK (.int .i64 y) _ ⟨y, rfl, h1, by have := h2 (by omega); omega⟩ ⟨hk, hcc⟩
      · refine fun w8 hc v1 h1 v3 h3 K hK => ?_
        obtain rfl : v1 = .int .i64 s := h1
        obtain ⟨y3, rfl, hy30, hy31⟩ : ∃ y : Int, v3 = .int .i64 y ∧ 0 ≤ y ∧ y ≤ 6 := h3
        (try simp only [Act.put, List.setIfInBounds_toArray, List.set_cons_zero, List.set_cons_succ])
        have hs1 := HSM.out.2.2
        dsimp only at hs1
        have m1 : IntKind.i64.wrap (s + y3) = s + y3 := IntWalk.i64_in _ (by omega)
        go_simp
        (try simp only [m1])
        exact hK (.int .i64 (s + y3)) _ ⟨_, rfl, by omega, by omega⟩ ⟨Keep.refl _ _, hc.2.1⟩
      · refine fun w8 hc v4 h4 K hK => ?_
        obtain ⟨y4, rfl, hy40, hy41⟩ : ∃ y : Int, v4 = .int .i64 y ∧ 0 ≤ y ∧ y ≤ 4101 := h4
        (try simp only [Act.put, List.setIfInBounds_toArray, List.set_cons_zero, List.set_cons_succ])
        go_simp
        (with_reducible refine (hsh.specMod y4 4096 (by omega) _).mono ?_)
        rintro e w3 ⟨rfl, rfl⟩
        exact hK (.int .i64 (y4 % 4096)) _ ⟨_, rfl, by omega, by omega⟩ ⟨Keep.refl _ _, hc.2.1⟩
      · refine fun w8 hc v5 h5 K hK => ?_
        obtain ⟨y5, rfl, hy50, hy51⟩ : ∃ y : Int, v5 = .int .i64 y ∧ 0 ≤ y ∧ y ≤ 4095 := h5
        (try simp only [Act.put, List.setIfInBounds_toArray, List.set_cons_zero, List.set_cons_succ])
        go_simp
        exact hK (.int .i64 y5) _ ⟨_, rfl, by omega, by omega⟩ ⟨Keep.refl _ _, hc.2.1⟩
      refine fun wg6 hc v0 h0 v1 h1 v2 h2 v3 h3 v4 h4 v5 h5 v6 h6 => ?_
      obtain rfl : v0 = .pointer (some ⟨b2, 0, none⟩) := h0
      obtain rfl : v1 = .int .i64 s := h1
      obtain rfl : v2 = .pointer (some ⟨p, 0, none⟩) := h2
      obtain ⟨y3, rfl, hy30, hy31⟩ : ∃ y : Int, v3 = .int .i64 y ∧ 0 ≤ y ∧ y ≤ 6 := h3
      obtain ⟨y4, rfl, hy40, hy41⟩ : ∃ y : Int, v4 = .int .i64 y ∧ 0 ≤ y ∧ y ≤ 4101 := h4
      obtain ⟨y5, rfl, hy50, hy51⟩ : ∃ y : Int, v5 = .int .i64 y ∧ 0 ≤ y ∧ y ≤ 4095 := h5
      obtain ⟨m, rfl, hm0, hm1⟩ : ∃ y : Int, v6 = .int .i64 y ∧ 0 ≤ y ∧ y ≤ 4095 := h6
      (try simp only [reg.Obs])
      (try simp only [Act.put, List.setIfInBounds_toArray, List.set_cons_zero, List.set_cons_succ])
      have K6 := Lib.hid hc.1
      have C6 := Lib.hid hc.2.1
      have Z6 := Lib.hid hc.2.2.1
      have S6 := Lib.hid hc.2.2.2.1
      have F6 := Lib.hid hc.2.2.2.2.1
      clear hc K5 C5 Z5 S5 F5
      have HM := Lib.hid (show 0 ≤ m ∧ m ≤ 4095 from ⟨hm0, hm1⟩)
      clear hm0 hm1
      go_wp2_with (refine stw.list_load rfl 50 _ rfl (b2) rfl 50 _ S6.out Try.underlying50 rfl ux.szRob ?_)
      have HSW := Lib.hid S6.out.lt
      obtain ⟨⟨⟨s2, xs2⟩, l2⟩, hr⟩ : ∃ x, recv ⟨s, xs⟩ m [m % 256] = x := ⟨_, rfl⟩
      have HR := Lib.hid hr
      have HV2 := Lib.hid (show vr ⟨s2, xs2⟩ = true by have h := recv_vr (n := m) (b := [m % 256]) hv.out; rw [hr] at h; exact h)
      clear hr
      (with_reducible refine (specRc s xs l1 h1 A1 n1 c1 m [m % 256] wg6.heap.size (wg6.heap.size + 1) (some ⟨wg6.heap.size, 0, none⟩) 1 1 _ (F6.out.below (bx.below_box _ _)).rr (by have h1 := HSM.out.1; have h2 := F6.out.len; (try dsimp only at h1); omega) (fun x hx => by have h1 := HSM.out.2.1 x hx; omega) ?_).mono ?_)
      · exact ux.num_rd (by have h := Rd.one .u8 5 wg6 (m % 256) (WalkArith.wf_u8 (by omega)); exact h)
      rintro e w7 hp
      rw [HR.out] at hp
      obtain ⟨A5, n5, c5, A6, n6, c6, rfl, hF5, hb⟩ := rr2_fr hp
      clear hp
      have HSZ9 := Lib.hid (show wg6.heap.size + 1 ≤ w7.heap.size by have h := hb.size; simpa using h)
      have hb := ((Below.refl _ _).alloc (Nat.le_refl _) (.cells #[.int .u8 (m % 256)] 5)).trans (hb.mono (by simp))
      have HF5 := Lib.hid hF5
      clear hF5
      clear F6
      have SS7 := Lib.hid hb.size
      have K7 := Lib.hid (drk.later K6.out K6.out.size hb)
      have C7 := Lib.hid (drk.cur_below C6.out hb)
      have Z7 := Lib.hid (Z6.out.below hb)
      have S7 := Lib.hid (S6.out.below hb)
      clear hb K6 C6 Z6 S6
      have F7 := Lib.hid (show Fr (wg6.heap.size + 1) w7.heap.size w7 A5 n5 c5 xs2 by have h := HF5.out; simpa using h)
      clear HF5
      obtain ⟨bx, hbb⟩ : ∃ b, w7.heap.size = b := ⟨_, rfl⟩
      go_upto_region 7 with fail
      generalize hW : w7.alloc (.cells #[.int .i64 s2, .slice A5 n5 c5] 50) = w8
      have LX := Lib.hid (show w.heap.size ≤ bx ∧ w.heap.size < bx ∧ b2 < bx ∧ w7.heap.size ≤ bx by have h1 := K7.out.size; have h2Z := Z7.out.lt; have h2S := S7.out.lt; have h2F := F7.out.hi_; have h3 := hbb; omega)
      have X8 := Lib.hid (show Bx 50 w8 bx #[.int .i64 s2, .slice A5 n5 c5] by rw [← hW, ← hbb]; exact Bx.made _ _ _)
      have hb : Below w7.heap.size w7 w8 := by rw [← hW]; exact below_box _ _
      (try rw [hbb])
      clear hW hbb
      have SS8 := Lib.hid hb.size
      have K8 := Lib.hid (drk.later K7.out K7.out.size hb)
      have C8 := Lib.hid (drk.cur_below C7.out hb)
      have Z8 := Lib.hid (Z7.out.below hb)
      have S8 := Lib.hid (S7.out.below hb)
      have F8 := Lib.hid (F7.out.below hb)
      clear hb K7 C7 Z7 S7 F7
      have LWX := Lib.hid X8.out.lt
      go_wp2_with (first | (refine stw.list_load rfl 50 _ rfl (bx) rfl 50 _ X8.out Try.underlying50 rfl ux.szRob ?_) | (refine stw.list_store rfl 50 _ _ rfl (b2) #[.int .i64 s2, .slice A5 n5 c5] rfl rfl 50 _ S8.out rfl ux.szRob (ux.oneRob _ _ _ _) ?_; intro wz9 hz))
      have K9 := Lib.hid (drk.later K8.out (by have hlS := LS.out; have hlX := LX.out; have h0 := P0.out; have hs0 := LTZ.out; have hs1 := SS1.out; have hs2 := SS2.out; have hs3 := SS3.out; have hs4 := LWS.out; have hs5 := SS4.out; have hs6 := LUZ5.out; have hs7 := LUS5.out; have hs8 := SBR5.out; have hs9 := hlo.out; have hs10 := HSW.out; have hs11 := SS7.out; have hs12 := SS8.out; have hs13 := LWX.out; first | omega | (simp <;> omega)) hz.below)
      have C9 := Lib.hid (drk.cur_later CW.out K8.out C8.out (by have hlS := LS.out; have hlX := LX.out; have h0 := P0.out; have hs0 := LTZ.out; have hs1 := SS1.out; have hs2 := SS2.out; have hs3 := SS3.out; have hs4 := LWS.out; have hs5 := SS4.out; have hs6 := LUZ5.out; have hs7 := LUS5.out; have hs8 := SBR5.out; have hs9 := hlo.out; have hs10 := HSW.out; have hs11 := SS7.out; have hs12 := SS8.out; have hs13 := LWX.out; first | omega | (simp <;> omega)) hz.below)
      have Z9 := Lib.hid (hz.keep Z8.out (by have hlS := LS.out; have hlX := LX.out; have h0 := P0.out; have hs0 := LTZ.out; have hs1 := SS1.out; have hs2 := SS2.out; have hs3 := SS3.out; have hs4 := LWS.out; have hs5 := SS4.out; have hs6 := LUZ5.out; have hs7 := LUS5.out; have hs8 := SBR5.out; have hs9 := hlo.out; have hs10 := HSW.out; have hs11 := SS7.out; have hs12 := SS8.out; have hs13 := LWX.out; first | omega | (simp <;> omega)))
      have S9 := Lib.hid (hz.box)
      have X9 := Lib.hid (hz.keep X8.out (by have hlS := LS.out; have hlX := LX.out; have h0 := P0.out; have hs0 := LTZ.out; have hs1 := SS1.out; have hs2 := SS2.out; have hs3 := SS3.out; have hs4 := LWS.out; have hs5 := SS4.out; have hs6 := LUZ5.out; have hs7 := LUS5.out; have hs8 := SBR5.out; have hs9 := hlo.out; have hs10 := HSW.out; have hs11 := SS7.out; have hs12 := SS8.out; have hs13 := LWX.out; first | omega | (simp <;> omega)))
      have F9 := Lib.hid (F8.out.same hz.below.size fun b h1 h2 => hz.other b (by have hlS := LS.out; have hlX := LX.out; have h0 := P0.out; have hs0 := LTZ.out; have hs1 := SS1.out; have hs2 := SS2.out; have hs3 := SS3.out; have hs4 := LWS.out; have hs5 := SS4.out; have hs6 := LUZ5.out; have hs7 := LUS5.out; have hs8 := SBR5.out; have hs9 := hlo.out; have hs10 := HSW.out; have hs11 := SS7.out; have hs12 := SS8.out; have hs13 := LWX.out; first | omega | (simp <;> omega)))
      clear hz K8 C8 Z8 S8 X8 F8
      have HSB := Lib.hid S9.out.lt
      go_roundw
      case rel => exact ⟨j - 1, s2, xs2, A5, n5, c5, wg6.heap.size + 1, w7.heap.size, by go_num, by omega, HV2.out, (by have h1 := S9.out.lt; have h9 := HSZ9.out; have hlS := LS.out; have hlX := LX.out; have h0 := P0.out; have hs0 := LTZ.out; have hs1 := SS1.out; have hs2 := SS2.out; have hs3 := SS3.out; have hs4 := LWS.out; have hs5 := SS4.out; have hs6 := LUZ5.out; have hs7 := LUS5.out; have hs8 := SBR5.out; have hs9 := hlo.out; have hs10 := HSW.out; have hs11 := SS7.out; have hs12 := SS8.out; have hs13 := LWX.out; omega), K9.out, C9.out, Z9.out, S9.out, F9.out⟩
      case measure => simp [intOf]; omega
    · go_wp2_with (first | (refine stw.list_load rfl 50 _ rfl (b2) rfl 50 _ S5.out Try.underlying50 rfl ux.szRob ?_) | (refine stw.list_store rfl 50 _ _ rfl (w.heap.size) #[.int .i64 s, .slice A1 n1 c1] rfl rfl 50 _ Z5.out rfl ux.szRob (ux.oneRob _ _ _ _) ?_; intro wz6 hz))
      have K6 := Lib.hid (drk.later K5.out (by have hlS := LS.out; have h0 := P0.out; have hs0 := LTZ.out; have hs1 := SS1.out; have hs2 := SS2.out; have hs3 := SS3.out; have hs4 := LWS.out; have hs5 := SS4.out; have hs6 := LUZ5.out; have hs7 := LUS5.out; have hs8 := SBR5.out; have hs9 := hlo.out; first | omega | (simp <;> omega)) hz.below)
      have C6 := Lib.hid (drk.cur_later CW.out K5.out C5.out (by have hlS := LS.out; have h0 := P0.out; have hs0 := LTZ.out; have hs1 := SS1.out; have hs2 := SS2.out; have hs3 := SS3.out; have hs4 := LWS.out; have hs5 := SS4.out; have hs6 := LUZ5.out; have hs7 := LUS5.out; have hs8 := SBR5.out; have hs9 := hlo.out; first | omega | (simp <;> omega)) hz.below)
      have Z6 := Lib.hid (hz.box)
      have S6 := Lib.hid (hz.keep S5.out (by have hlS := LS.out; have h0 := P0.out; have hs0 := LTZ.out; have hs1 := SS1.out; have hs2 := SS2.out; have hs3 := SS3.out; have hs4 := LWS.out; have hs5 := SS4.out; have hs6 := LUZ5.out; have hs7 := LUS5.out; have hs8 := SBR5.out; have hs9 := hlo.out; first | omega | (simp <;> omega)))
      have F6 := Lib.hid (F5.out.same hz.below.size fun b h1 h2 => hz.other b (by have hlS := LS.out; have h0 := P0.out; have hs0 := LTZ.out; have hs1 := SS1.out; have hs2 := SS2.out; have hs3 := SS3.out; have hs4 := LWS.out; have hs5 := SS4.out; have hs6 := LUZ5.out; have hs7 := LUS5.out; have hs8 := SBR5.out; have hs9 := hlo.out; first | omega | (simp <;> omega)))
      clear hz K5 C5 Z5 S5 F5
      (try simp only [Exit.inBlock, Exit.then])
      refine bodyPost_ret (v := .agg #[.int .i64 s, .slice A1 n1 c1]) ?_ rfl ?_
      · rw [results_cell1 rfl]
        exact stw.back Z6.out Try.underlying50 rfl ux.szRob
      · exact ⟨s, xs, A1, n1, c1, l1, h1, rfl, hv.out, hlo.out.2, F6.out, K6.out, C6.out⟩
end Go.Proofs.Ytejjafmppihneaa.ro

/- An append onto a slice of shared frames. Condition: at most a million frames. -/
namespace Go.Proofs.Ytejjafmppihneaa.ro
open Go.RowKit sl harn rng bx drk stw draw
set_option linter.unusedVariables false
open ux (Nf Rob RR OO row rowB rowNf nf rob own_more)
open mrw (blkOf grown_below)
set_option linter.unusedSimpArgs false

/-- Only blocks that meet F may have been written. -/
structure App (F : Nat → Prop) (w w' : World) : Prop where
  os : w'.os = w.os
  tape : w'.tape = w.tape
  output : w'.output = w.output
  size : w.heap.size ≤ w'.heap.size
  block : ∀ b, b < w.heap.size → ¬ F b → w'.heap[b]? = w.heap[b]?
theorem App.low {F : Nat → Prop} {w w' : World} {lo : Nat} (h : App F w w') (hl : ∀ b, F b → lo ≤ b) (hs : lo ≤ w.heap.size) : Below lo w w' := ⟨h.os, h.tape, h.output, h.size, fun b hb => h.block b (by omega) fun h2 => by have := hl b h2; omega⟩
theorem NF.part {F : Nat → Prop} {w : World} {A : Option Addr} {n c : Nat} {xs : List Nf} (g : NF F w A n c xs) : NF (fun b => F b ∧ b < w.heap.size) w A n c xs := by
  obtain ⟨k1, k2, k3, k5, k6⟩ := g
  refine ⟨k1, k2, k3, fun hn => ?_, fun hc => by obtain ⟨b, off, cur, e, g1, g2, g3⟩ := k6 hc; exact ⟨b, off, cur, e, ⟨g1, lt_of_block g2⟩, g2, g3⟩⟩
  obtain ⟨b, off, e, g1, g2, g3⟩ := k5 hn
  refine ⟨b, off, e, ⟨g1, g2⟩, g2, fun i x hx => ?_⟩
  obtain ⟨A0, n0, c0, r1, r2, q1, q2, q3, q4, q5⟩ := g3 i x hx
  refine ⟨A0, n0, c0, r1, r2, q1, q2, q3, q4, fun hn2 => ?_⟩
  obtain ⟨b2, off2, e2, l1, l2, l3⟩ := q5 hn2
  exact ⟨b2, off2, e2, ⟨l1, l2⟩, l2, l3⟩
theorem nf_elems {F : Nat → Prop} {w : World} {A : Option Addr} {n c : Nat} {xs : List Nf} (h : NF F w A n c xs) : ∃ M : List Value, M.length = n * 2 ∧ (∀ ad, A = some ad → ∀ j u, M[j]? = some u → w.cell? (ad.add j) = some u) ∧
    ∀ i x, xs[i]? = some x → ∃ A0 n0 c0, M[i * 2]? = some (Value.int .i64 x.Seq) ∧ M[i * 2 + 1]? = some (Value.slice A0 n0 c0) ∧ BF F w A0 n0 c0 x.Body := by
  obtain ⟨h1, h2⟩ := h.src
  rcases Nat.eq_zero_or_pos n with h0 | h0
  · subst h0
    obtain rfl : xs = [] := List.eq_nil_of_length_eq_zero h1
    exact ⟨[], rfl, fun ad _ j u hj => by simp at hj, fun i x hx => by simp at hx⟩
  · obtain ⟨ad, M, e, k1, k2, k3, k4⟩ := h2 h0
    exact ⟨M, k1, fun ad' e' j u hj => by rw [e] at e'; injection e' with e'; subst e'; exact k3 j u hj, k4⟩
theorem last_at {α : Type} {l : List α} {x y : α} {i : Nat} (h : (l ++ [x])[i]? = some y) : (i < l.length ∧ l[i]? = some y) ∨ (i = l.length ∧ x = y) := by
  rcases Nat.lt_or_ge i l.length with h1 | h1
  · rw [List.getElem?_append_left h1] at h; exact .inl ⟨h1, h⟩
  · rw [List.getElem?_append_right h1] at h
    rcases Nat.eq_zero_or_pos (i - l.length) with h2 | h2
    · rw [h2] at h; exact .inr ⟨by omega, by simpa using h⟩
    · rw [List.getElem?_eq_none (by simp; omega)] at h; cases h
set_option maxRecDepth 100000 in
/-- One frame without a body is put behind a slice of frames. -/
theorem nf_app {F : Nat → Prop} {w : World} {A : Option Addr} {n c N : Nat} {xs : List Nf} {y : Int} (ty : TypeId) (h : NF F w A n c xs) (hF : ∀ b, F b → b < w.heap.size) (hn : n ≤ 1000000) (hN : Bx 90 w N #[.int .i64 y, .slice none 0 0]) :
    ∃ A' c' w', (Builtin.append_ #[48, 48] ty #[.slice A n c, .slice (some ⟨N, 0, none⟩) 1 1]).run Try.prog w = .ok (.slice A' (n + 1) c') w' ∧ NF (fun b => F b ∨ (w.heap.size ≤ b ∧ b < w'.heap.size)) w' A' (n + 1) c' (xs ++ [⟨y, []⟩]) ∧ App F w w' := by
  obtain ⟨i0, hi0, hz0, hz1, hz2⟩ := info_parts infoNF
  have hnews : ∀ j u, ([.int .i64 y, .slice none 0 0] : List Value)[j]? = some u → w.cell? ((⟨N, 0, none⟩ : Addr).add j) = some u := fun j u hj => by
    rw [add_at, Nat.zero_add]
    match j, hj with
    | 0, hj => obtain rfl : Value.int .i64 y = u := by simpa using hj
               exact hN.cell 0
    | 1, hj => obtain rfl : Value.slice none 0 0 = u := by simpa using hj
               exact hN.cell 1
    | j + 2, hj => simp at hj
  have hone : ∀ u ∈ ([.int .i64 y, .slice none 0 0] : List Value), u.oneCell' = true := fun u hu => by
    rcases List.mem_cons.1 hu with rfl | hu
    · rfl
    · rw [List.mem_singleton.1 hu]; rfl
  have hlen := h.1
  have hnc := h.2.1
  have hcm := h.2.2.1
  have hnil : ∀ (G : Nat → Prop) (W : World), BF G W none 0 0 [] := fun G W => ⟨rfl, Nat.le_refl _, by unfold maxLen; omega, Wf.nil _, fun h => absurd h (by omega)⟩
  by_cases hroom : n + 1 ≤ c
  · obtain ⟨b, off, cur, rfl, hFb, hblk, hsz, hdis⟩ := h.rm (by omega)
    have hcl : ∀ j, j < 2 → (w.cell? ⟨b, off + n * 2 + j, none⟩).isSome = true := fun j hj => by
      simp only [World.cell?, hblk]
      rw [Array.getElem?_eq_getElem (by omega)]; rfl
    have hrun := run_append_room_cells (P := Try.prog) w 48 ty 90 i0 Try.underlying48 hi0 b off n c ⟨N, 0, none⟩ 1 1 [.int .i64 y, .slice none 0 0] (by rw [hz1]; rfl) hnews hone hroom (fun j hj => by rw [hz1]; exact hcl j hj) (fun j hj => by simp [World.frozen?, hblk])
    rw [hz1] at hrun
    obtain ⟨w', hw⟩ : ∃ w', w.setCells b (off + n * 2) [.int .i64 y, .slice none 0 0] = w' := ⟨_, rfl⟩
    rw [hw] at hrun
    have hout : ∀ x : Addr, (x.block = b → x.spot = none → x.off < off + n * 2) → w'.cell? x = w.cell? x := fun x hx => by
      rw [← hw]; exact World.cell?_setCells_out b _ _ w x fun e1 e2 => .inl (hx e1 e2)
    have hin := World.cell?_setCells_in b [.int .i64 y, .slice none 0 0] (off + n * 2) w hcl
    rw [hw] at hin
    have hheap : w'.heap[b]? = some (.cells ((cur.setIfInBounds (off + n * 2) (.int .i64 y)).setIfInBounds (off + n * 2 + 1) (.slice none 0 0)) 90 (0, 0)) := by
      rw [← hw]
      exact heap_setCell_same _ b (off + n * 2 + 1) _ _ _ (heap_setCell_same w b (off + n * 2) cur _ _ hblk)
    have hsize : w'.heap.size = w.heap.size := by rw [← hw]; simp [World.setCells, World.setCell]
    have hother : ∀ k, k < w.heap.size → k ≠ b → w'.heap[k]? = w.heap[k]? := fun k hk hkb => by
      rw [← hw]
      show ((w.setCell ⟨b, off + n * 2, none⟩ _).setCell ⟨b, off + n * 2 + 1, none⟩ _).heap[k]? = _
      rw [Below.heap_setCell _ _ _ _ hkb, Below.heap_setCell _ _ _ _ hkb]
    refine ⟨_, c, w', hrun, ⟨by simp [hlen], hroom, hcm, fun _ => ⟨b, off, rfl, .inl hFb, by rw [hsize]; exact lt_of_block hblk, fun i x hx => ?_⟩, fun _ => ⟨b, off, _, rfl, .inl hFb, hheap, by simpa using hsz, fun j b0 o0 n0 c0 hj hv h0 => ?_⟩⟩, ⟨by rw [← hw]; rfl, by rw [← hw]; rfl, by rw [← hw]; rfl, by omega, fun k hk hk2 => hother k hk fun e => hk2 (e ▸ hFb)⟩⟩
    · rcases last_at hx with ⟨hi, hx⟩ | ⟨hi, rfl⟩
      · obtain ⟨b', off', e, g1, g2, g3⟩ := h.2.2.2.1 (by omega)
        obtain ⟨rfl, rfl⟩ : b = b' ∧ off = off' := by injection e with e; injection e with e1 e2; exact ⟨e1, e2⟩
        obtain ⟨A0, n0, c0, r1, r2, r3⟩ := g3 i x hx
        refine ⟨A0, n0, c0, (hout _ fun _ _ => by show off + i * 2 < _; omega).trans r1, (hout _ fun _ _ => by show off + i * 2 + 1 < _; omega).trans r2, ?_⟩
        obtain ⟨q1, q2, q3, q4, q5⟩ := r3
        refine ⟨q1, q2, q3, q4, fun h0 => ?_⟩
        obtain ⟨b2, off2, rfl, l1, l2, l3⟩ := q5 h0
        refine ⟨b2, off2, rfl, .inl l1, by omega, fun j hj => (hout _ fun e1 _ => ?_).trans (l3 j hj)⟩
        exfalso
        have hcc : cur[off + i * 2 + 1]? = some (Value.slice (some ⟨b2, off2, none⟩) n0 c0) := by
          have := r2
          simp only [World.cell?, hblk] at this
          exact this
        exact hdis _ _ _ _ _ (by omega) hcc h0 e1
      · refine ⟨none, 0, 0, ?_, ?_, hnil _ _⟩
        · have := hin 0 (by simp); rw [hi, hlen]; simpa using this
        · have := hin 1 (by simp); rw [hi, hlen]; simpa using this
    · rcases Nat.lt_or_ge j (off + n * 2) with h1 | h1
      · rw [Array.getElem?_setIfInBounds_ne (by omega), Array.getElem?_setIfInBounds_ne (by omega)] at hv
        exact hdis j b0 o0 n0 c0 h1 hv h0
      · exfalso
        rcases Nat.lt_or_ge j (off + n * 2 + 1) with h2 | h2
        · obtain rfl : j = off + n * 2 := by omega
          rw [Array.getElem?_setIfInBounds_ne (by omega), Array.getElem?_setIfInBounds_self_of_lt (by omega)] at hv
          cases hv
        · obtain rfl : j = off + n * 2 + 1 := by omega
          rw [Array.getElem?_setIfInBounds_self_of_lt (by simp; omega)] at hv
          cases hv
  · obtain rfl : c = n := by omega
    obtain ⟨M, hM, hMc, hMe⟩ := nf_elems h
    have hb8 : (c + 1) * i0.bytes ≤ 140737488355328 := by have := Nat.mul_le_mul (show c + 1 ≤ 1000001 by omega) (show i0.bytes ≤ 128 by omega); omega
    obtain ⟨v', w', hrun, ho, hg⟩ : ∃ v' w', (Builtin.append_ #[48, 48] ty #[.slice A c c, .slice (some ⟨N, 0, none⟩) 1 1]).run Try.prog w = .ok v' w' ∧ w'.ownsRow w.heap.size 90 2 v' (c + 1) (M ++ [.int .i64 y, .slice none 0 0]) ∧ w.grownBy w' none := by
      cases A with
      | some ad => exact run_append_arg_grows (P := Try.prog) w 48 ty 90 i0 _ 2 i0.bytes Try.underlying48 hi0 hz0 hz1 rfl rfl (by omega) ad c c M hM (hMc ad rfl) ⟨N, 0, none⟩ 1 1 _ rfl hnews (by omega) (by unfold maxLen; omega) hb8
      | none =>
        obtain rfl : c = 0 := by
          rcases Nat.eq_zero_or_pos c with h0 | h0
          · exact h0
          · obtain ⟨b, off, e, _⟩ := h.2.2.2.1 h0; cases e
        obtain rfl : M = [] := List.eq_nil_of_length_eq_zero (by omega)
        obtain ⟨v', w', hr, r1, r2, _⟩ := run_append_own (P := Try.prog) w w.heap.size 48 ty 90 i0 _ 2 i0.bytes Try.underlying48 hi0 hz0 hz1 rfl rfl (by omega) (.slice none 0 0) 0 [] (World.ownsRow_nil w _ _ 2) ⟨N, 0, none⟩ 1 1 _ rfl hnews hone (by unfold maxLen; omega) hb8 (Nat.le_refl _)
        exact ⟨v', w', hr, r1, r2⟩
    have hb : Below w.heap.size w w' := (Below.refl _ _).grown hg (Nat.le_refl _) (fun j hj => by cases hj)
    rcases ho.2 with ⟨_, h9⟩ | ⟨g, cap, cur, rfl, q1, q2, q3, q4, q5, q6⟩
    · omega
    · have hgl := lt_of_block q2
      have cell : ∀ j u, (M ++ [.int .i64 y, .slice none 0 0])[j]? = some u → w'.cell? ⟨g, j, none⟩ = some u := fun j u hj => by
        have hjl : j < (c + 1) * 2 := by have := (List.getElem?_eq_some_iff.1 hj).1; simp [hM] at this; omega
        rw [← q6, List.getElem?_take_of_lt hjl, Array.getElem?_toList] at hj
        simp [World.cell?, q2]
        simpa using hj
      refine ⟨_, cap, w', hrun, ⟨by simp [hlen], q3, q4, fun _ => ⟨g, 0, rfl, .inr ⟨q1, hgl⟩, hgl, fun i x hx => ?_⟩, fun _ => ⟨g, 0, cur, rfl, .inr ⟨q1, hgl⟩, q2, by omega, fun j b0 o0 n0 c0 hj hv h0 => ?_⟩⟩, ⟨hb.os, hb.tape, hb.output, hb.size, fun k hk _ => hb.block k hk⟩⟩
      · rw [Nat.zero_add]
        rcases last_at hx with ⟨hi, hx⟩ | ⟨hi, rfl⟩
        · obtain ⟨A0, n0, c0, r1, r2, r3⟩ := hMe i x hx
          exact ⟨A0, n0, c0, cell _ _ (by rw [List.getElem?_append_left (by omega)]; exact r1), cell _ _ (by rw [List.getElem?_append_left (by omega)]; exact r2), (r3.below hb).mono fun b hb => .inl hb⟩
        · refine ⟨none, 0, 0, cell _ _ ?_, cell _ _ ?_, hnil _ _⟩
          · rw [List.getElem?_append_right (by omega), hM, hi, hlen, Nat.sub_self]; rfl
          · rw [List.getElem?_append_right (by omega), hM, hi, hlen, show c * 2 + 1 - c * 2 = 1 by omega]; rfl
      · have hLj : (M ++ [.int .i64 y, .slice none 0 0])[j]? = some (Value.slice (some ⟨b0, o0, none⟩) n0 c0) := by
          rw [← q6, List.getElem?_take_of_lt (by omega), Array.getElem?_toList]; exact hv
        rcases Nat.lt_or_ge j (c * 2) with h1 | h1
        · rw [List.getElem?_append_left (by omega)] at hLj
          obtain ⟨A0, m0, d0, r1, r2, r3⟩ := hMe (j / 2) _ (List.getElem?_eq_getElem (show j / 2 < xs.length by omega))
          rcases Nat.mod_two_eq_zero_or_one j with e | e
          · rw [show j / 2 * 2 = j by omega, hLj] at r1; cases r1
          · rw [show j / 2 * 2 + 1 = j by omega, hLj] at r2
            injection r2 with r2
            injection r2 with e1 e2 e3
            subst e1 e2 e3
            obtain ⟨_, _, _, _, r4⟩ := r3
            obtain ⟨b9, o9, e9, f9, _⟩ := r4 h0
            injection e9 with e9
            injection e9 with e9 _
            subst e9
            have := hF _ f9
            omega
        · exfalso
          rw [List.getElem?_append_right (by omega), hM] at hLj
          rcases (show j - c * 2 = 0 ∨ j - c * 2 = 1 by omega) with e | e <;> rw [e] at hLj <;> cases hLj
theorem wp_nf {F : Nat → Prop} {o : Oper} {a : Act} {w : World} {K : Act → World → Prop} {Q : Exit → Act → World → Prop} {A : Option Addr} {n c N : Nat} {xs : List Nf} {y : Int} (s x : Operand)
    (hop : o.op = .call { callee := .builtin .append, args := #[s, x], argTypes := #[48, 48] })
    (hs : a.eval s = .slice A n c) (hx : a.eval x = .slice (some ⟨N, 0, none⟩) 1 1) (h : NF F w A n c xs) (hF : ∀ b, F b → b < w.heap.size) (hn : n ≤ 1000000) (hN : Bx 90 w N #[.int .i64 y, .slice none 0 0])
    (hK : ∀ A' c' w', NF (fun b => F b ∨ (w.heap.size ≤ b ∧ b < w'.heap.size)) w' A' (n + 1) c' (xs ++ [⟨y, []⟩]) → App F w w' → K (a.put o.dst (.slice A' (n + 1) c')) w') : Oper.wp Try.prog o a w K Q := by
  obtain ⟨A', c', w', hrun, g1, g2⟩ := nf_app o.type h hF hn hN
  unfold Oper.wp execOp
  simp only [hop, resolve, invoke, builtin, Sem.run_bind, Sem.run_pure, Result.andThen_ok, List.map_toArray, List.map_cons, List.map_nil, hs, hx, hrun]
  exact hK A' c' w' g1 g2
end Go.Proofs.Ytejjafmppihneaa.ro

/- Draws of buffers beyond what is valid. Condition: the bytes that are drawn from are a slice that came in. -/
namespace Go.Proofs.Ytejjafmppihneaa.ro
open Go.RowKit sl harn rng bx drk stw draw
set_option linter.unusedVariables false
open ux (Nf Rob RR OO row rowB rowNf nf rob own_more)
open mrw (blkOf grown_below)
set_option linter.unusedSimpArgs false

theorem nrow_keep {F : Nat → Prop} {lo hi lo2 hi2 n c p : Nat} {w w' : World} {A : Option Addr} {xs : List Nf} (h : Nrow F lo hi lo2 hi2 w A n c xs) (hk : Keep p w w') (hp : p < lo ∧ p < lo2) : Nrow F lo hi lo2 hi2 w' A n c xs := h.same hk.size fun b h1 _ => hk.block b (by have := h.hi_; omega) (by omega)
/-- What the operations of the region that puts a frame behind a buffer's may change, their values, and what holds ahead of the append. -/
def E6 (p : Nat) (a : Option Addr) (len cap lo hi i : Nat) (w w' : World) : Prop := if i = 10 then App (In lo hi) w w' else drk.Dr p a len cap w w'
def R6 (lo hi b2 n : Nat) (xs : List Nf) (is : List (Nat × Value)) (j : Nat) (v : Value) (w : World) : Prop :=
  if j = 5 then (∃ y : Int, v = .int .i64 y ∧ 0 ≤ y ∧ y ≤ 17) else if j = 6 ∨ j = 7 then (∃ y : Int, v = .int .i64 y ∧ -1 ≤ y ∧ y ≤ 4200) else if j = 8 then (∃ y : Int, v = .agg #[.int .i64 y, .slice none 0 0]) else
  if j = 9 then (∃ (N : Nat) (y : Int), v = .slice (some ⟨N, 0, none⟩) 1 1 ∧ hi ≤ N ∧ Bx 90 w N #[.int .i64 y, .slice none 0 0]) else
  if j = 10 then (∃ (A : Option Addr) (c : Nat) (y : Int), v = .slice A (n + 1) c ∧ NF (fun b => In lo hi b ∨ b2 < b) w A (n + 1) c (xs ++ [⟨y, []⟩])) else match is.lookup j with | some u => v = u | none => True
def U6 (lo hi : Nat) (A : Option Addr) (n c : Nat) (xs : List Nf) (j : Nat) (w : World) : Prop := j = 10 → Fr lo hi w A n c xs
theorem r6_keep {p : Nat} {a : Option Addr} {len cap lo hi b2 n : Nat} {xs : List Nf} {is : List (Nat × Value)} {ops : Array Oper} (hp : p < lo ∧ lo ≤ hi ∧ hi ≤ b2 ∧ p < b2) :
    ∀ i j v w w', i ≠ j → reg.waits ops j i = false → R6 lo hi b2 n xs is j v w → E6 p a len cap lo hi i w w' → R6 lo hi b2 n xs is j v w' := by
  intro i j v w w' hij _ h hg
  have key : w.heap.size ≤ w'.heap.size ∧ (∀ b, hi ≤ b → b < w.heap.size → w'.heap[b]? = w.heap[b]?) ∧ (i ≠ 10 → ∀ b, lo ≤ b → b < w.heap.size → w'.heap[b]? = w.heap[b]?) := by
    unfold E6 at hg
    by_cases e : i = 10
    · rw [if_pos e] at hg
      exact ⟨hg.size, fun b h1 h2 => hg.block b h2 fun h3 => by have := h3.2; omega, fun h => absurd e h⟩
    · rw [if_neg e] at hg
      exact ⟨hg.1.size, fun b h1 h2 => hg.1.block b h2 (by omega), fun _ b h1 h2 => hg.1.block b h2 (by omega)⟩
  obtain ⟨hs, hb, hb2⟩ := key
  unfold R6 at h ⊢
  by_cases j5 : j = 5
  · rw [if_pos j5] at h ⊢; exact h
  rw [if_neg j5] at h ⊢
  by_cases j6 : j = 6 ∨ j = 7
  · rw [if_pos j6] at h ⊢; exact h
  rw [if_neg j6] at h ⊢
  by_cases j8 : j = 8
  · rw [if_pos j8] at h ⊢; exact h
  rw [if_neg j8] at h ⊢
  by_cases j9 : j = 9
  · rw [if_pos j9] at h ⊢
    obtain ⟨N, y, e, h1, h2⟩ := h
    exact ⟨N, y, e, h1, h2.same (hb N h1 h2.lt)⟩
  rw [if_neg j9] at h ⊢
  by_cases j10 : j = 10
  · rw [if_pos j10] at h ⊢
    obtain ⟨A, c, y, e, h1⟩ := h
    exact ⟨A, c, y, e, (h1.part.cells hs fun b hf => hb2 (by omega) b (by rcases hf.1 with h9 | h9; exact h9.1; omega) hf.2).mono fun b hf => hf.1⟩
  rw [if_neg j10] at h ⊢
  exact h
theorem u6_keep {p : Nat} {a : Option Addr} {len cap lo hi n c : Nat} {A : Option Addr} {xs : List Nf} {ops : Array Oper} (hp : p < lo) : ∀ i j w w', i ≠ j → reg.waits ops i j = false → U6 lo hi A n c xs j w → E6 p a len cap lo hi i w w' → U6 lo hi A n c xs j w' := by
  intro i j w w' hij _ h hg e
  unfold E6 at hg
  rw [if_neg (by omega)] at hg
  exact fr_keep (h e) hg.1 hp
def AyPost (p : Nat) (a : Option Addr) (len cap : Nat) (w : World) (e : Ending) (w' : World) : Prop := ∃ (s : Int) (xs : List Nf) (A : Option Addr) (n c : Nat), e = .returned (.agg #[.int .i64 s, .slice A n c]) ∧ (-1 ≤ s ∧ s ≤ 4096) ∧ (n ≤ 17 ∧ ∀ x ∈ xs, x.Body.length ≤ 100) ∧ RR rowNf w' w.heap.size w'.heap.size (.slice A n c) xs ∧ Keep p w w' ∧ Cur w' p a len cap
theorem nsq_rng (n : Int) : 0 ≤ bs.nsq n ∧ bs.nsq n ≤ 4095 := by unfold bs.nsq; split <;> omega
set_option maxRecDepth 100000 in
set_option maxHeartbeats 4000000 in
theorem dAn (w : World) (p : Nat) (a : Option Addr) (len cap : Nat) (hc : Cur w p a len cap) :
    Calls Try.prog 66 #[.pointer (some ⟨p, 0, none⟩)] w (AyPost p a len cap w) := by
  have CW := Lib.hid hc
  have P0 := Lib.hid hc.lt
  clear hc
  go_enter Try.func66, Try.ntmps66
  go_wp2_with fail
  obtain ⟨w0, hW⟩ : ∃ w0, w.alloc (.cells #[.int .i64 0, .slice none 0 0] 50) = w0 := ⟨_, rfl⟩
  rw [hW]
  have K0 := Lib.hid (show Keep p w w0 by rw [← hW]; exact (Keep.refl p w).alloc _)
  have C0 := Lib.hid (show Cur w0 p a len cap by rw [← hW]; exact (CW.out).alloc _)
  have Z0 := Lib.hid (show Bx 50 w0 (w.heap.size) #[.int .i64 0, .slice none 0 0] by
      rw [← hW]
      have hh := Bx.made 50 w #[.int .i64 0, .slice none 0 0]
      exact hh)
  clear hW
  have LTZ := Lib.hid Z0.out.lt
  (with_reducible refine (dBu _ p a len cap C0.out).mono ?_)
  rintro e w1 ⟨s, xs, A1, n1, c1, lo, hi, rfl, hv, hl, hf, hk, hc⟩
  have HV := Lib.hid (vr_small hv)
  have HL := Lib.hid hl
  have HF := Lib.hid hf
  have SS1 := Lib.hid hk.size
  have K1 := Lib.hid (K0.out.trans hk)
  have C1 := Lib.hid (hc)
  have Z1 := Lib.hid (drk.bx_keep Z0.out hk (by have h0 := P0.out; have hs0 := LTZ.out; have hs1 := SS1.out; first | omega | (simp <;> omega)))
  clear hk hc hv hl hf K0 C0 Z0
  have F1 := Lib.hid HF.out
  have HLN := Lib.hid HF.out.len
  have HLH := Lib.hid (show w.heap.size < lo ∧ hi ≤ w1.heap.size ∧ p < lo ∧ lo ≤ hi by have h1 := HL.out; have h2 := HF.out.hi_; have h3 := LTZ.out; have h4 := P0.out; omega)
  clear HF
  obtain ⟨b2, hbb⟩ : ∃ b, w1.heap.size = b := ⟨_, rfl⟩
  go_upto_region 2 with fail
  generalize hW : w1.alloc (.cells #[.int .i64 s, .slice A1 n1 c1] 50) = w2
  have LS := Lib.hid (show w.heap.size ≤ b2 ∧ w.heap.size < b2 ∧ hi ≤ b2 by have h1 := K1.out.size; have h2Z := Z1.out.lt; have h2F := F1.out.hi_; have h3 := hbb; omega)
  have S2 := Lib.hid (show Bx 50 w2 b2 #[.int .i64 s, .slice A1 n1 c1] by rw [← hW, ← hbb]; exact Bx.made _ _ _)
  have hb : Below w1.heap.size w1 w2 := by rw [← hW]; exact below_box _ _
  (try rw [hbb])
  clear hW hbb
  have SS2 := Lib.hid hb.size
  have K2 := Lib.hid (drk.later K1.out K1.out.size hb)
  have C2 := Lib.hid (drk.cur_below C1.out hb)
  have Z2 := Lib.hid (Z1.out.below hb)
  have F2 := Lib.hid (F1.out.below hb)
  clear hb K1 C1 Z1 F1
  have LWS := Lib.hid S2.out.lt
  go_wp2_with fail
  (with_reducible refine (below 10 (by omega) _ p a len cap C2.out).mono ?_)
  rintro e w3 ⟨q, rfl, hx0, hx1, hk, hc⟩
  have Hq := Lib.hid (show 0 ≤ q ∧ q < 10 from ⟨hx0, hx1 (by omega)⟩)
  have SS3 := Lib.hid hk.size
  have K3 := Lib.hid (K2.out.trans hk)
  have C3 := Lib.hid (hc)
  have Z3 := Lib.hid (drk.bx_keep Z2.out hk (by have hlS := LS.out; have h0 := P0.out; have hs0 := LTZ.out; have hs1 := SS1.out; have hs2 := HLH.out; have hs3 := SS2.out; have hs4 := LWS.out; have hs5 := SS3.out; first | omega | (simp <;> omega)))
  have S3 := Lib.hid (drk.bx_keep S2.out hk (by have hlS := LS.out; have h0 := P0.out; have hs0 := LTZ.out; have hs1 := SS1.out; have hs2 := HLH.out; have hs3 := SS2.out; have hs4 := LWS.out; have hs5 := SS3.out; first | omega | (simp <;> omega)))
  have F3 := Lib.hid (ro.fr_keep F2.out hk (by have hlS := LS.out; have h0 := P0.out; have hs0 := LTZ.out; have hs1 := SS1.out; have hs2 := HLH.out; have hs3 := SS2.out; have hs4 := LWS.out; have hs5 := SS3.out; first | omega | (simp <;> omega)))
  clear hk hc hx0 hx1 K2 C2 Z2 S2 F2
  have HB2 := Lib.hid (show hi ≤ b2 ∧ w.heap.size < b2 ∧ p < b2 by have h1 := LS.out; have h2 := HLH.out; have h4 := P0.out; omega)
  by_cases h0 : q = 0
  · subst h0
    obtain ⟨n2, hn2⟩ : ∃ y, bs.nsq s = y := ⟨_, rfl⟩
    have HN2 := Lib.hid (show 0 ≤ n2 ∧ n2 ≤ 4095 by rw [← hn2]; exact nsq_rng s)
    have HNQ := Lib.hid hn2
    clear hn2
    have cS0 : w3.cell? ⟨b2, 0, none⟩ = some (.int .i64 s) := S3.out.cell 0
    go_wp2_with fail
    clear cS0
    (with_reducible refine (bs.specNs s _).mono ?_)
    rw [HNQ.out]
    rintro e wq ⟨rfl, rfl⟩
    go_wp2_with fail
    (with_reducible refine (pickIn (-1) 4096 3 (by omega) (by omega) _ p a len cap C3.out #[.int .i64 (-1), .int .i64 4096, .int .i64 n2] rfl (by have h2 := HN2.out; simp [okInt]; omega)).mono ?_)
    rintro e w4 ⟨y2, rfl, hx0, hx1, hk, hc⟩
    have Hy2 := Lib.hid (show -1 ≤ y2 ∧ y2 ≤ 4096 from ⟨hx0, hx1⟩)
    have SS4 := Lib.hid hk.size
    have K4 := Lib.hid (K3.out.trans hk)
    have C4 := Lib.hid (hc)
    have Z4 := Lib.hid (drk.bx_keep Z3.out hk (by have hlS := LS.out; have h0 := P0.out; have hs0 := LTZ.out; have hs1 := SS1.out; have hs2 := HLH.out; have hs3 := SS2.out; have hs4 := LWS.out; have hs5 := SS3.out; have hs6 := SS4.out; first | omega | (simp <;> omega)))
    have S4 := Lib.hid (drk.bx_keep S3.out hk (by have hlS := LS.out; have h0 := P0.out; have hs0 := LTZ.out; have hs1 := SS1.out; have hs2 := HLH.out; have hs3 := SS2.out; have hs4 := LWS.out; have hs5 := SS3.out; have hs6 := SS4.out; first | omega | (simp <;> omega)))
    have F4 := Lib.hid (ro.fr_keep F3.out hk (by have hlS := LS.out; have h0 := P0.out; have hs0 := LTZ.out; have hs1 := SS1.out; have hs2 := HLH.out; have hs3 := SS2.out; have hs4 := LWS.out; have hs5 := SS3.out; have hs6 := SS4.out; first | omega | (simp <;> omega)))
    clear hk hc hx0 hx1 K3 C3 Z3 S3 F3
    have cS0 : w4.cell? ⟨b2, 0, none⟩ = some (.int .i64 s) := S4.out.cell 0
    have fS0 : w4.frozen? ⟨b2, 0, none⟩ = false := S4.out.free 0
    go_upto_region 7 with fail
    clear cS0 fS0
    have BB := Lib.hid (show Below w.heap.size w4 (w4.setCell ⟨b2, 0, none⟩ (.int .i64 y2)) from (Below.refl _ _).setCell (p := ⟨b2, 0, none⟩) (by have hlS := LS.out; have h0 := P0.out; have hs0 := LTZ.out; have hs1 := SS1.out; have hs2 := HLH.out; have hs3 := SS2.out; have hs4 := LWS.out; have hs5 := SS3.out; have hs6 := SS4.out; (try simp only []); omega) _)
    have hWW : (w4.setCell ⟨b2, 0, none⟩ (.int .i64 y2)) = (w4.setCell ⟨b2, 0, none⟩ (.int .i64 y2)) := rfl
    obtain ⟨w5, hW⟩ : ∃ wy, (w4.setCell ⟨b2, 0, none⟩ (.int .i64 y2)) = wy := ⟨_, rfl⟩
    rw [hW]
    clear hWW
    have K5 := Lib.hid (drk.later K4.out (Nat.le_refl _) (hW ▸ BB.out))
    have C5 := Lib.hid (drk.cur_later CW.out K4.out C4.out (Nat.le_refl _) (hW ▸ BB.out))
    have Z5 := Lib.hid (show Bx 50 w5 (w.heap.size) #[.int .i64 0, .slice none 0 0] by rw [← hW]; exact (Z4.out.other (by have hlS := LS.out; have h0 := P0.out; have hs0 := LTZ.out; have hs1 := SS1.out; have hs2 := HLH.out; have hs3 := SS2.out; have hs4 := LWS.out; have hs5 := SS3.out; have hs6 := SS4.out; first | omega | (simp <;> omega)) _ _))
    have S5 := Lib.hid (show Bx 50 w5 (b2) #[.int .i64 y2, .slice A1 n1 c1] by rw [← hW]; exact (S4.out.set 0 _))
    have F5 := Lib.hid (show Fr lo hi w5 A1 n1 c1 xs by rw [← hW]; exact (F4.out.same (by simp [World.setCell]) fun b h1 h2 => by rw [Below.heap_setCell _ _ _ _ (by have hlS := LS.out; have h0 := P0.out; have hs0 := LTZ.out; have hs1 := SS1.out; have hs2 := HLH.out; have hs3 := SS2.out; have hs4 := LWS.out; have hs5 := SS3.out; have hs6 := SS4.out; first | omega | (simp <;> omega))]))
    clear hW BB K4 C4 Z4 S4 F4
    go_wp2_with (first | (refine stw.list_load rfl 50 _ rfl (b2) rfl 50 _ S5.out Try.underlying50 rfl ux.szRob ?_) | (refine stw.list_store rfl 50 _ _ rfl (w.heap.size) #[.int .i64 y2, .slice A1 n1 c1] rfl rfl 50 _ Z5.out rfl ux.szRob (ux.oneRob _ _ _ _) ?_; intro wz6 hz))
    have K6 := Lib.hid (drk.later K5.out (by have hlS := LS.out; have h0 := P0.out; have hs0 := LTZ.out; have hs1 := SS1.out; have hs2 := HLH.out; have hs3 := SS2.out; have hs4 := LWS.out; have hs5 := SS3.out; have hs6 := SS4.out; first | omega | (simp <;> omega)) hz.below)
    have C6 := Lib.hid (drk.cur_later CW.out K5.out C5.out (by have hlS := LS.out; have h0 := P0.out; have hs0 := LTZ.out; have hs1 := SS1.out; have hs2 := HLH.out; have hs3 := SS2.out; have hs4 := LWS.out; have hs5 := SS3.out; have hs6 := SS4.out; first | omega | (simp <;> omega)) hz.below)
    have Z6 := Lib.hid (hz.box)
    have S6 := Lib.hid (hz.keep S5.out (by have hlS := LS.out; have h0 := P0.out; have hs0 := LTZ.out; have hs1 := SS1.out; have hs2 := HLH.out; have hs3 := SS2.out; have hs4 := LWS.out; have hs5 := SS3.out; have hs6 := SS4.out; first | omega | (simp <;> omega)))
    have F6 := Lib.hid (F5.out.same hz.below.size fun b h1 h2 => hz.other b (by have hlS := LS.out; have h0 := P0.out; have hs0 := LTZ.out; have hs1 := SS1.out; have hs2 := HLH.out; have hs3 := SS2.out; have hs4 := LWS.out; have hs5 := SS3.out; have hs6 := SS4.out; first | omega | (simp <;> omega)))
    clear hz K5 C5 Z5 S5 F5
    (try simp only [Exit.inBlock, Exit.then])
    refine bodyPost_ret (v := .agg #[.int .i64 y2, .slice A1 n1 c1]) ?_ rfl ?_
    · rw [results_cell1 rfl]
      exact stw.back Z6.out Try.underlying50 rfl ux.szRob
    · exact ⟨y2, xs, A1, n1, c1, rfl, (by have h1 := HV.out.2.2; (try dsimp only at h1); have h3 := Hy2.out; omega), ⟨(by have h1 := HV.out.1; have h2 := HLN.out.1; (try dsimp only at h1); omega), HV.out.2.1⟩, (F6.out.wide (by have := HLH.out; omega) F6.out.hi_ (Nat.le_refl _)).rr, K6.out, C6.out⟩
  · by_cases h1 : q = 1
    · subst h1
      go_upto_region 6 with fail
      have CWB := Lib.hid CW.out
      have h9S := S3.out.lt
      have hFh := F3.out.hi_
      refine reg.region_tailY (E6 p a len cap lo hi) (U6 lo hi A1 n1 c1 xs) 12 32 [] [some [], some [(0, 19)], some [], some [(2, 21)], some [], some [(4, 23)], some [(3, 22), (5, 24)], some [(6, 25)], some [(7, 26)], some [(8, 27)], some [(1, 20), (9, 28)], some [], none] [(0, 19), (1, 20), (2, 21), (3, 22), (4, 23), (5, 24), (6, 25), (7, 26), (8, 27), (9, 28), (10, 29), (11, 30)]
        (fun w' => (Keep p w w' ∧ Cur w' p a len cap ∧ hi ≤ w'.heap.size) ∧ Bx 50 w' w.heap.size #[.int .i64 0, .slice none 0 0] ∧ Bx 50 w' b2 #[.int .i64 s, .slice A1 n1 c1])
        (R6 lo hi b2 n1 xs [(0, .pointer (some ⟨b2, 1, none⟩)), (1, .slice A1 n1 c1), (2, .pointer (some ⟨b2, 0, none⟩)), (3, .int .i64 s), (4, .pointer (some ⟨p, 0, none⟩)), (11, .pointer (some ⟨b2, 1, none⟩))])
        (by kernel_rfl) rfl (by kernel_rfl) (by kernel_rfl) rfl
        (fun i w1 w2 hc he => by unfold E6 at he; by_cases i9 : i = 10; (rw [if_pos i9] at he; have hlow := (he.low (fun b hb => hb.1) (by have h1 := hc.1.2.2; have h2 := HLH.out; omega)); exact ⟨⟨drk.later hc.1.1 (by have := HLH.out; omega) hlow, drk.cur_later CWB.out hc.1.1 hc.1.2.1 (by have := HLH.out; omega) hlow, by have h1 := hc.1.2.2; have h2 := he.size; omega⟩, hc.2.1.same (he.block _ hc.2.1.lt fun h9 => by have h1 := h9.1; have h2 := HLH.out; omega), hc.2.2.same (he.block _ hc.2.2.lt fun h9 => by have h1 := h9.2; have h2 := HB2.out; omega)⟩); (rw [if_neg i9] at he; exact ⟨⟨hc.1.1.trans he.1, he.2, by have h1 := hc.1.2.2; have h2 := he.1.size; omega⟩, drk.bx_keep hc.2.1 he.1 (by have := P0.out; omega), drk.bx_keep hc.2.2 he.1 (by have := HB2.out; omega)⟩))
        (r6_keep (by have h1 := HLH.out; have h2 := HB2.out; omega)) (u6_keep (by have := HLH.out; omega)) ⟨⟨Keep.drew K3.out, show Cur w3.drew p a len cap from C3.out, hFh⟩, Z3.out.same rfl, S3.out.same rfl⟩ (fun j _ => F3.out.same (Nat.le_refl _) fun _ _ _ => rfl) (by kernel_rfl) ⟨?_, ?_, ?_, ?_, ?_, ?_, ?_, ?_, ?_, ?_, ?_, ?_, trivial⟩ ?_
      · refine fun w8 hc hu  K hK => ?_
        (try simp only [Act.put, List.setIfInBounds_toArray, List.set_cons_zero, List.set_cons_succ])
        go_simp
        exact hK (.pointer (some ⟨b2, 1, none⟩)) _ rfl ⟨Keep.refl _ _, hc.1.2.1⟩
      · refine fun w8 hc hu v0 h0 K hK => ?_
        obtain rfl : v0 = .pointer (some ⟨b2, 1, none⟩) := h0
        (try simp only [Act.put, List.setIfInBounds_toArray, List.set_cons_zero, List.set_cons_succ])
        have c0 : w8.cell? ⟨b2, 1, none⟩ = some (.slice A1 n1 c1) := hc.2.2.cell 1
        go_simp
        exact hK (.slice A1 n1 c1) _ rfl ⟨Keep.refl _ _, hc.1.2.1⟩
      · refine fun w8 hc hu  K hK => ?_
        (try simp only [Act.put, List.setIfInBounds_toArray, List.set_cons_zero, List.set_cons_succ])
        go_simp
        exact hK (.pointer (some ⟨b2, 0, none⟩)) _ rfl ⟨Keep.refl _ _, hc.1.2.1⟩
      · refine fun w8 hc hu v2 h2 K hK => ?_
        obtain rfl : v2 = .pointer (some ⟨b2, 0, none⟩) := h2
        (try simp only [Act.put, List.setIfInBounds_toArray, List.set_cons_zero, List.set_cons_succ])
        have c0 : w8.cell? ⟨b2, 0, none⟩ = some (.int .i64 s) := hc.2.2.cell 0
        go_simp
        exact hK (.int .i64 s) _ rfl ⟨Keep.refl _ _, hc.1.2.1⟩
      · refine fun w8 hc hu  K hK => ?_
        (try simp only [Act.put, List.setIfInBounds_toArray, List.set_cons_zero, List.set_cons_succ])
        go_simp
        exact hK (.pointer (some ⟨p, 0, none⟩)) _ rfl ⟨Keep.refl _ _, hc.1.2.1⟩
      · refine fun w8 hc hu v4 h4 K hK => ?_
        obtain rfl : v4 = .pointer (some ⟨p, 0, none⟩) := h4
        (try simp only [Act.put, List.setIfInBounds_toArray, List.set_cons_zero, List.set_cons_succ])
        go_simp
        (with_reducible refine (below 18 (by omega) _ p a len cap hc.1.2.1).mono ?_)
        rintro e w3 ⟨y, rfl, h1, h2, hk, hcc⟩
        exact hK (.int .i64 y) _ ⟨y, rfl, by omega, by have := h2 (by omega); omega⟩ ⟨hk, hcc⟩
      · refine fun w8 hc hu v3 h3 v5 h5 K hK => ?_
        obtain rfl : v3 = .int .i64 s := h3
        obtain ⟨y5, rfl, ha5, hb5⟩ : ∃ y : Int, v5 = .int .i64 y ∧ 0 ≤ y ∧ y ≤ 17 := h5
        (try simp only [Act.put, List.setIfInBounds_toArray, List.set_cons_zero, List.set_cons_succ])
        have hs1 := HV.out.2.2
        (try dsimp only at hs1)
        have m1 : IntKind.i64.wrap (s + y5) = s + y5 := IntWalk.i64_in _ (by omega)
        go_simp
        (try simp only [m1])
        exact hK (.int .i64 (s + y5)) _ ⟨_, rfl, by omega, by omega⟩ ⟨Keep.refl _ _, hc.1.2.1⟩
      · refine fun w8 hc hu v6 h6 K hK => ?_
        obtain ⟨y6, rfl, ha6, hb6⟩ : ∃ y : Int, v6 = .int .i64 y ∧ -1 ≤ y ∧ y ≤ 4200 := h6
        (try simp only [Act.put, List.setIfInBounds_toArray, List.set_cons_zero, List.set_cons_succ])
        go_simp
        (with_reducible refine (hsh.specMod y6 4096 (by omega) _).mono ?_)
        rintro e w3 ⟨rfl, rfl⟩
        exact hK (.int .i64 (y6 % 4096)) _ ⟨_, rfl, by omega, by omega⟩ ⟨Keep.refl _ _, hc.1.2.1⟩
      · refine fun w8 hc hu v7 h7 K hK => ?_
        obtain ⟨y7, rfl, ha7, hb7⟩ : ∃ y : Int, v7 = .int .i64 y ∧ -1 ≤ y ∧ y ≤ 4200 := h7
        (try simp only [Act.put, List.setIfInBounds_toArray, List.set_cons_zero, List.set_cons_succ])
        go_simp
        exact hK (.agg #[.int .i64 y7, .slice none 0 0]) _ ⟨_, rfl⟩ ⟨Keep.refl _ _, hc.1.2.1⟩
      · refine fun w8 hc hu v8 h8 K hK => ?_
        obtain ⟨y8, rfl⟩ : ∃ y : Int, v8 = .agg #[.int .i64 y, .slice none 0 0] := h8
        (try simp only [Act.put, List.setIfInBounds_toArray, List.set_cons_zero, List.set_cons_succ])
        have hql := hc.1.2.2
        go_simp
        exact hK (.slice (some ⟨w8.heap.size, 0, none⟩) 1 1) _ ⟨w8.heap.size, y8, rfl, hql, Bx.made _ _ _⟩ ⟨drk.later (Keep.refl _ w8) (Nat.le_refl _) (bx.below_box _ _), drk.cur_below hc.1.2.1 (bx.below_box _ _)⟩
      · refine fun w8 hc hu v1 h1 v9 h9 K hK => ?_
        obtain rfl : v1 = .slice A1 n1 c1 := h1
        obtain ⟨N, y9, rfl, hN, hX⟩ : ∃ (N : Nat) (y : Int), v9 = .slice (some ⟨N, 0, none⟩) 1 1 ∧ hi ≤ N ∧ Bx 90 w8 N #[.int .i64 y, .slice none 0 0] := h9
        (try simp only [Act.put, List.setIfInBounds_toArray, List.set_cons_zero, List.set_cons_succ])
        have hfr : Fr lo hi w8 A1 n1 c1 xs := hu rfl
        refine wp_nf _ _ rfl rfl rfl hfr.1 (fun b hb => by have h1 := hb.2; have h2 := hfr.hi_; omega) (by have h1 := HV.out.1; have h2 := HLN.out.1; (try dsimp only at h1); omega) hX ?_
        intro A9 c9 w9 g1 g2
        have hlt := hc.2.2.lt
        exact hK _ _ ⟨A9, c9, y9, rfl, g1.mono fun b hb => by rcases hb with h1 | h1; exact .inl h1; exact .inr (by omega)⟩ g2
      · refine fun w8 hc hu  K hK => ?_
        (try simp only [Act.put, List.setIfInBounds_toArray, List.set_cons_zero, List.set_cons_succ])
        go_simp
        exact hK (.pointer (some ⟨b2, 1, none⟩)) _ rfl ⟨Keep.refl _ _, hc.1.2.1⟩
      refine fun wx9 hc v0 h0 v1 h1 v2 h2 v3 h3 v4 h4 v5 h5 v6 h6 v7 h7 v8 h8 v9 h9 v10 h10 v11 h11 => ?_
      obtain rfl : v0 = .pointer (some ⟨b2, 1, none⟩) := h0
      obtain rfl : v1 = .slice A1 n1 c1 := h1
      obtain rfl : v2 = .pointer (some ⟨b2, 0, none⟩) := h2
      obtain rfl : v3 = .int .i64 s := h3
      obtain rfl : v4 = .pointer (some ⟨p, 0, none⟩) := h4
      obtain ⟨y5, rfl, ha5, hb5⟩ : ∃ y : Int, v5 = .int .i64 y ∧ 0 ≤ y ∧ y ≤ 17 := h5
      obtain ⟨y6, rfl, ha6, hb6⟩ : ∃ y : Int, v6 = .int .i64 y ∧ -1 ≤ y ∧ y ≤ 4200 := h6
      obtain ⟨y7, rfl, ha7, hb7⟩ : ∃ y : Int, v7 = .int .i64 y ∧ -1 ≤ y ∧ y ≤ 4200 := h7
      obtain ⟨y8, rfl⟩ : ∃ y : Int, v8 = .agg #[.int .i64 y, .slice none 0 0] := h8
      obtain ⟨N, y9, rfl, hN, hX⟩ : ∃ (N : Nat) (y : Int), v9 = .slice (some ⟨N, 0, none⟩) 1 1 ∧ hi ≤ N ∧ Bx 90 wx9 N #[.int .i64 y, .slice none 0 0] := h9
      obtain ⟨A9, c9, y10, rfl, hN9⟩ : ∃ (A : Option Addr) (c : Nat) (y : Int), v10 = .slice A (n1 + 1) c ∧ NF (fun b => In lo hi b ∨ b2 < b) wx9 A (n1 + 1) c (xs ++ [(⟨y, []⟩ : Nf)]) := h10
      obtain rfl : v11 = .pointer (some ⟨b2, 1, none⟩) := h11
      (try simp only [reg.Obs])
      intro hrf
      clear hrf
      (try simp only [Act.put, List.setIfInBounds_toArray, List.set_cons_zero, List.set_cons_succ])
      simp only [List.drop_succ_cons, List.drop_zero]
      have K4 := Lib.hid hc.1.1
      have C4 := Lib.hid hc.1.2.1
      have Z4 := Lib.hid hc.2.1
      have S4 := Lib.hid hc.2.2
      have HN9 := Lib.hid hN9.part
      have HHW := Lib.hid (show hi ≤ wx9.heap.size ∧ b2 < wx9.heap.size from ⟨hc.1.2.2, hc.2.2.lt⟩)
      clear hc hN9 hX hN ha5 hb5 ha6 hb6 ha7 hb7 K3 C3 Z3 S3 F3 h9S hFh
      obtain ⟨F9, hF9⟩ : ∃ F : Nat → Prop, (fun b => (In lo hi b ∨ b2 < b) ∧ b < wx9.heap.size) = F := ⟨_, rfl⟩
      have N4 := Lib.hid (show Nrow F9 lo hi (b2 + 1) wx9.heap.size wx9 A9 (n1 + 1) c9 (xs ++ [⟨y10, []⟩]) from ⟨fun b hb => by rw [← hF9] at hb; rcases hb.1 with h1 | h1; exact .inl h1; exact .inr ⟨h1, hb.2⟩, ⟨HHW.out.1, Nat.le_refl _⟩, by rw [← hF9]; exact HN9.out⟩)
      clear hF9 HN9
      have cS0 : wx9.cell? ⟨b2, 0, none⟩ = some (.int .i64 s) := S4.out.cell 0
      have cS1 : wx9.cell? ⟨b2, 1, none⟩ = some (.slice A1 n1 c1) := S4.out.cell 1
      have fS0 : wx9.frozen? ⟨b2, 0, none⟩ = false := S4.out.free 0
      have fS1 : wx9.frozen? ⟨b2, 1, none⟩ = false := S4.out.free 1
      go_upto_region 7 with fail
      clear cS0 cS1 fS0 fS1
      have BB := Lib.hid (show Below w.heap.size wx9 (wx9.setCell ⟨b2, 1, none⟩ (.slice A9 (n1 + 1) c9)) from (Below.refl _ _).setCell (p := ⟨b2, 1, none⟩) (by have hlS := LS.out; have h0 := P0.out; have hs0 := LTZ.out; have hs1 := SS1.out; have hs2 := HLH.out; have hs3 := SS2.out; have hs4 := LWS.out; have hs5 := SS3.out; have hs6 := HHW.out; have hs7 := HB2.out; (try simp only []); omega) _)
      have hWW : (wx9.setCell ⟨b2, 1, none⟩ (.slice A9 (n1 + 1) c9)) = (wx9.setCell ⟨b2, 1, none⟩ (.slice A9 (n1 + 1) c9)) := rfl
      obtain ⟨w5, hW⟩ : ∃ wy, (wx9.setCell ⟨b2, 1, none⟩ (.slice A9 (n1 + 1) c9)) = wy := ⟨_, rfl⟩
      rw [hW]
      clear hWW
      have K5 := Lib.hid (drk.later K4.out (Nat.le_refl _) (hW ▸ BB.out))
      have C5 := Lib.hid (drk.cur_later CW.out K4.out C4.out (Nat.le_refl _) (hW ▸ BB.out))
      have Z5 := Lib.hid (show Bx 50 w5 (w.heap.size) #[.int .i64 0, .slice none 0 0] by rw [← hW]; exact (Z4.out.other (by have hlS := LS.out; have h0 := P0.out; have hs0 := LTZ.out; have hs1 := SS1.out; have hs2 := HLH.out; have hs3 := SS2.out; have hs4 := LWS.out; have hs5 := SS3.out; have hs6 := HHW.out; have hs7 := HB2.out; first | omega | (simp <;> omega)) _ _))
      have S5 := Lib.hid (show Bx 50 w5 (b2) #[.int .i64 s, .slice A9 (n1 + 1) c9] by rw [← hW]; exact (S4.out.set 1 _))
      have N5 := Lib.hid (show Nrow F9 lo hi (b2 + 1) wx9.heap.size w5 A9 (n1 + 1) c9 (xs ++ [⟨y10, []⟩]) by rw [← hW]; exact (N4.out.same (by simp [World.setCell]) fun b h1 h2 => by rw [Below.heap_setCell _ _ _ _ (by have hlS := LS.out; have h0 := P0.out; have hs0 := LTZ.out; have hs1 := SS1.out; have hs2 := HLH.out; have hs3 := SS2.out; have hs4 := LWS.out; have hs5 := SS3.out; have hs6 := HHW.out; have hs7 := HB2.out; first | omega | (simp <;> omega))]))
      clear hW BB K4 C4 Z4 S4 N4
      go_wp2_with (first | (refine stw.list_load rfl 50 _ rfl (b2) rfl 50 _ S5.out Try.underlying50 rfl ux.szRob ?_) | (refine stw.list_store rfl 50 _ _ rfl (w.heap.size) #[.int .i64 s, .slice A9 (n1 + 1) c9] rfl rfl 50 _ Z5.out rfl ux.szRob (ux.oneRob _ _ _ _) ?_; intro wz6 hz))
      have K6 := Lib.hid (drk.later K5.out (by have hlS := LS.out; have h0 := P0.out; have hs0 := LTZ.out; have hs1 := SS1.out; have hs2 := HLH.out; have hs3 := SS2.out; have hs4 := LWS.out; have hs5 := SS3.out; have hs6 := HHW.out; have hs7 := HB2.out; first | omega | (simp <;> omega)) hz.below)
      have C6 := Lib.hid (drk.cur_later CW.out K5.out C5.out (by have hlS := LS.out; have h0 := P0.out; have hs0 := LTZ.out; have hs1 := SS1.out; have hs2 := HLH.out; have hs3 := SS2.out; have hs4 := LWS.out; have hs5 := SS3.out; have hs6 := HHW.out; have hs7 := HB2.out; first | omega | (simp <;> omega)) hz.below)
      have Z6 := Lib.hid (hz.box)
      have S6 := Lib.hid (hz.keep S5.out (by have hlS := LS.out; have h0 := P0.out; have hs0 := LTZ.out; have hs1 := SS1.out; have hs2 := HLH.out; have hs3 := SS2.out; have hs4 := LWS.out; have hs5 := SS3.out; have hs6 := HHW.out; have hs7 := HB2.out; first | omega | (simp <;> omega)))
      have N6 := Lib.hid (N5.out.same hz.below.size fun b h1 h2 => hz.other b (by have hlS := LS.out; have h0 := P0.out; have hs0 := LTZ.out; have hs1 := SS1.out; have hs2 := HLH.out; have hs3 := SS2.out; have hs4 := LWS.out; have hs5 := SS3.out; have hs6 := HHW.out; have hs7 := HB2.out; first | omega | (simp <;> omega)))
      clear hz K5 C5 Z5 S5 N5
      (try simp only [Exit.inBlock, Exit.then])
      refine bodyPost_ret (v := .agg #[.int .i64 s, .slice A9 (n1 + 1) c9]) ?_ rfl ?_
      · rw [results_cell1 rfl]
        exact stw.back Z6.out Try.underlying50 rfl ux.szRob
      · exact ⟨s, _, A9, n1 + 1, c9, rfl, (by have h1 := HV.out.2.2; (try dsimp only at h1); omega), ⟨(by have h1 := HV.out.1; have h2 := HLN.out.1; (try dsimp only at h1); omega), fun x hx => by rcases List.mem_append.1 hx with h1 | h1; exact HV.out.2.1 x h1; (rw [List.mem_singleton.1 h1]; simp)⟩, N6.out.nf.rr (fun b hb => by have h1 := N6.out.fi b hb; have h2 := N6.out.hi_; have h3 := HLH.out; have h4 := HB2.out; omega) (Nat.le_refl _), K6.out, C6.out⟩
    · have e0 : (q == 0) = false := by simpa using h0
      have e1 : (q == 1) = false := by simpa using h1
      go_wp2_with (first | (refine stw.list_load rfl 50 _ rfl (b2) rfl 50 _ S3.out Try.underlying50 rfl ux.szRob ?_) | (refine stw.list_store rfl 50 _ _ rfl (w.heap.size) #[.int .i64 s, .slice A1 n1 c1] rfl rfl 50 _ Z3.out rfl ux.szRob (ux.oneRob _ _ _ _) ?_; intro wz4 hz))
      have K4 := Lib.hid (drk.later K3.out (by have hlS := LS.out; have h0 := P0.out; have hs0 := LTZ.out; have hs1 := SS1.out; have hs2 := HLH.out; have hs3 := SS2.out; have hs4 := LWS.out; have hs5 := SS3.out; first | omega | (simp <;> omega)) hz.below)
      have C4 := Lib.hid (drk.cur_later CW.out K3.out C3.out (by have hlS := LS.out; have h0 := P0.out; have hs0 := LTZ.out; have hs1 := SS1.out; have hs2 := HLH.out; have hs3 := SS2.out; have hs4 := LWS.out; have hs5 := SS3.out; first | omega | (simp <;> omega)) hz.below)
      have Z4 := Lib.hid (hz.box)
      have S4 := Lib.hid (hz.keep S3.out (by have hlS := LS.out; have h0 := P0.out; have hs0 := LTZ.out; have hs1 := SS1.out; have hs2 := HLH.out; have hs3 := SS2.out; have hs4 := LWS.out; have hs5 := SS3.out; first | omega | (simp <;> omega)))
      have F4 := Lib.hid (F3.out.same hz.below.size fun b h1 h2 => hz.other b (by have hlS := LS.out; have h0 := P0.out; have hs0 := LTZ.out; have hs1 := SS1.out; have hs2 := HLH.out; have hs3 := SS2.out; have hs4 := LWS.out; have hs5 := SS3.out; first | omega | (simp <;> omega)))
      clear hz K3 C3 Z3 S3 F3
      (try simp only [Exit.inBlock, Exit.then])
      refine bodyPost_ret (v := .agg #[.int .i64 s, .slice A1 n1 c1]) ?_ rfl ?_
      · rw [results_cell1 rfl]
        exact stw.back Z4.out Try.underlying50 rfl ux.szRob
      · exact ⟨s, xs, A1, n1, c1, rfl, (by have h1 := HV.out.2.2; (try dsimp only at h1); omega), ⟨(by have h1 := HV.out.1; have h2 := HLN.out.1; (try dsimp only at h1); omega), HV.out.2.1⟩, (F4.out.wide (by have := HLH.out; omega) F4.out.hi_ (Nat.le_refl _)).rr, K4.out, C4.out⟩
end Go.Proofs.Ytejjafmppihneaa.ro

/- Drawn numbers, and the draw of FnReorderBuffers. Condition: the bytes that are drawn from are a slice that came in. -/
namespace Go.Proofs.Ytejjafmppihneaa.ro
open Go.RowKit sl harn rng bx drk stw draw
set_option linter.unusedVariables false
open ux (Nf Rob RR OO row rowB rowNf nf rob own_more)
open mrw (blkOf grown_below)
set_option linter.unusedSimpArgs false

theorem rr_keep {lo hi n c p : Nat} {w w' : World} {A : Option Addr} {xs : List Nf} (h : RR rowNf w lo hi (.slice A n c) xs) (hk : Keep p w w') (hp : p < lo) : RR rowNf w' lo hi (.slice A n c) xs := h.same hk.size fun b h1 h2 => hk.block b (by have := h.hi_; omega) (by omega)
theorem keep_low {p B : Nat} {w wb wc : World} (h : Below B w wb) (k : Keep p wb wc) (hp : B ≤ p) (hs : p < wb.heap.size) : Below B w wc := h.trans (k.below hp hs)
/-- What the operations of the region that hands the draw back may change, their values, and what holds ahead of the store. -/
def Ve4 (p : Nat) (a : Option Addr) (len cap zb i : Nat) (w w' : World) : Prop := if i = 7 then ∃ cs, Put 50 w zb cs w' else drk.Dr p a len cap w w'
def Vr4 (zb H : Nat) (cs : Array Value) (is : List (Nat × Value)) (j : Nat) (v : Value) (w : World) : Prop :=
  if j = 4 then (∃ N, v = .slice (some ⟨N, 0, none⟩) 5 5 ∧ H ≤ N ∧ Bx 3 w N #[.int .i64 0, .int .i64 1, .int .i64 2, .int .i64 100, .int .i64 101]) else
  if j = 5 then (∃ y : Int, v = .int .i64 y ∧ 0 ≤ y ∧ y ≤ 101) else
  if j = 6 then (∃ (A : Option Addr) (n c hi : Nat) (l : List Int), v = .slice A n c ∧ n ≤ 101 ∧ Ow 5 .u8 w H hi A n c l) else
  if j = 7 then Bx 50 w zb cs else match is.lookup j with | some u => v = u | none => True
def Vu4 (zb : Nat) (cs : Array Value) (j : Nat) (w : World) : Prop := j = 7 → Bx 50 w zb cs
theorem r4_keep {p : Nat} {a : Option Addr} {len cap zb H : Nat} {cs : Array Value} {is : List (Nat × Value)} {ops : Array Oper} (hp : zb < p ∧ p < H) :
    ∀ i j v w w', i ≠ j → reg.waits ops j i = false → Vr4 zb H cs is j v w → Ve4 p a len cap zb i w w' → Vr4 zb H cs is j v w' := by
  intro i j v w w' hij _ h hg
  have key : w.heap.size ≤ w'.heap.size ∧ (∀ b, H ≤ b → b < w.heap.size → w'.heap[b]? = w.heap[b]?) ∧ (i ≠ 7 → zb < w.heap.size → w'.heap[zb]? = w.heap[zb]?) := by
    unfold Ve4 at hg
    by_cases e : i = 7
    · rw [if_pos e] at hg
      obtain ⟨cs, hg⟩ := hg
      exact ⟨hg.below.size, fun b h1 h2 => hg.other b (by omega), fun h => absurd e h⟩
    · rw [if_neg e] at hg
      exact ⟨hg.1.size, fun b h1 h2 => hg.1.block b h2 (by omega), fun _ h2 => hg.1.block zb h2 (by omega)⟩
  obtain ⟨hs, hb, hz⟩ := key
  unfold Vr4 at h ⊢
  by_cases j4 : j = 4
  · rw [if_pos j4] at h ⊢
    obtain ⟨N, e, h1, h2⟩ := h
    exact ⟨N, e, h1, h2.same (hb N h1 h2.lt)⟩
  rw [if_neg j4] at h ⊢
  by_cases j5 : j = 5
  · rw [if_pos j5] at h ⊢; exact h
  rw [if_neg j5] at h ⊢
  by_cases j6 : j = 6
  · rw [if_pos j6] at h ⊢
    obtain ⟨A, n, c, hi, l, e, h1, h2⟩ := h
    exact ⟨A, n, c, hi, l, e, h1, h2.same hs fun b g1 g2 => hb b g1 (by have := h2.hi_; omega)⟩
  rw [if_neg j6] at h ⊢
  by_cases j7 : j = 7
  · rw [if_pos j7] at h ⊢
    have h : Bx 50 w zb cs := h
    exact h.same (hz (by omega) h.lt)
  rw [if_neg j7] at h ⊢
  exact h
theorem u4_keep {p : Nat} {a : Option Addr} {len cap zb : Nat} {cs : Array Value} {ops : Array Oper} (hp : zb < p) : ∀ i j w w', i ≠ j → reg.waits ops i j = false → Vu4 zb cs j w → Ve4 p a len cap zb i w w' → Vu4 zb cs j w' := by
  intro i j w w' hij _ h hg e
  unfold Ve4 at hg
  rw [if_neg (by omega)] at hg
  exact drk.bx_keep (h e) hg.1 (by omega)
def DrPost (w : World) (e : Ending) (w' : World) : Prop := ∃ (s : Int) (xs : List Nf) (A : Option Addr) (n c : Nat) (m : Int) (zb : List Int) (Ab : Option Addr) (nb cb lo hi lo2 hi2 : Nat), e = .returned (.tuple #[.agg #[.int .i64 s, .slice A n c], .int .i64 m, .slice Ab nb cb]) ∧ ((-1 ≤ s ∧ s ≤ 4096) ∧ (n ≤ 17 ∧ ∀ x ∈ xs, x.Body.length ≤ 100) ∧ (-1 ≤ m ∧ m ≤ 4096) ∧ nb ≤ 101) ∧ RR rowNf w' lo hi (.slice A n c) xs ∧ Rd .u8 w' lo2 hi2 Ab nb cb zb ∧ (w.heap.size ≤ lo ∧ w.heap.size ≤ lo2) ∧ Below w.heap.size w w'
theorem results_cell2R {fn : Func} {p u t : Tmp} {ty : TypeId} (h : fn.results = #[.cell p ty, .tmp u, .tmp t]) (tmps : Array Value) (P : Program) (w : World) :
    (results fn tmps).run P w = ((asAddr (tmps.getD p undef)).run P w).andThen fun a w₁ => ((loadVar ty a).run P w₁).andThen fun v w₂ => .ok (.tuple #[v, tmps.getD u undef, tmps.getD t undef]) w₂ := by
  simp only [results, h]
  simp [Sem.run_bind, Result.andThen]
theorem back3R {P : Program} {w : World} {b : Nat} {ty T : TypeId} {cur : Array Value} {d : TypeDesc} (hX : Bx T w b cur) (hu : P.underlying ty = some d) (hd : d.isRow = true) (hi : (P.info? ty).map (·.size) = some cur.size) (x y : Value) :
    ((asAddr (.pointer (some ⟨b, 0, none⟩))).run P w).andThen (fun a w₁ => ((loadVar ty a).run P w₁).andThen fun v w₂ => Result.ok (Value.tuple #[v, x, y]) w₂) = Result.ok (Value.tuple #[.agg cur, x, y]) w := by
  have h := stw.back hX hu hd hi
  have e : ((asAddr (.pointer (some ⟨b, 0, none⟩))).run P w).andThen (fun a w₁ => ((loadVar ty a).run P w₁).andThen fun v w₂ => Result.ok (Value.tuple #[v, x, y]) w₂) = (((asAddr (.pointer (some ⟨b, 0, none⟩))).run P w).andThen (fun a w₁ => (loadVar ty a).run P w₁)).andThen fun v w₂ => Result.ok (Value.tuple #[v, x, y]) w₂ := by
    cases (asAddr (.pointer (some ⟨b, 0, none⟩))).run P w <;> rfl
  rw [e, h]
  rfl
def NuPost (p : Nat) (a : Option Addr) (len cap : Nat) (w : World) (e : Ending) (w' : World) : Prop := ∃ m : Int, e = .returned (.int .i64 m) ∧ -1 ≤ m ∧ m ≤ 4096 ∧ Keep p w w' ∧ Cur w' p a len cap
def bkD (p : Nat) (A : Option Addr) (len cap : Nat) (f : Nat → Value) (T : TypeId) (cs : Array Value) : reg.Stay (drk.Dr p A len cap) :=
  ⟨fun v w => ∃ N, v = f N ∧ N ≠ p ∧ Bx T w N cs, fun v w w' ⟨N, h1, h2, h3⟩ h => ⟨N, h1, h2, drk.bx_keep h3 h.1 h2⟩⟩
set_option maxRecDepth 100000 in
set_option maxHeartbeats 4000000 in
theorem dNu (s : Int) (hs : -1 ≤ s ∧ s ≤ 4096) (A : Option Addr) (n c : Nat) (w : World) (p : Nat) (a : Option Addr) (len cap : Nat) (hc : Cur w p a len cap) :
    Calls Try.prog 67 #[.pointer (some ⟨p, 0, none⟩), .agg #[.int .i64 s, .slice A n c]] w (NuPost p a len cap w) := by
  have HSB := Lib.hid hs
  clear hs
  have CW := Lib.hid hc
  have P0 := Lib.hid hc.lt
  clear hc
  obtain ⟨q0, hq0⟩ : ∃ y : Int, s % 4096 = y := ⟨_, rfl⟩
  have HQ0 := Lib.hid hq0
  obtain ⟨q1, hq1⟩ : ∃ y : Int, (s + 1) % 4096 = y := ⟨_, rfl⟩
  have HQ1 := Lib.hid hq1
  obtain ⟨q2, hq2⟩ : ∃ y : Int, (s + 2) % 4096 = y := ⟨_, rfl⟩
  have HQ2 := Lib.hid hq2
  obtain ⟨q3, hq3⟩ : ∃ y : Int, (s + 15) % 4096 = y := ⟨_, rfl⟩
  have HQ3 := Lib.hid hq3
  obtain ⟨q4, hq4⟩ : ∃ y : Int, (s + 16) % 4096 = y := ⟨_, rfl⟩
  have HQ4 := Lib.hid hq4
  obtain ⟨q5, hq5⟩ : ∃ y : Int, (s + 18) % 4096 = y := ⟨_, rfl⟩
  have HQ5 := Lib.hid hq5
  obtain ⟨q6, hq6⟩ : ∃ y : Int, (s + 2047) % 4096 = y := ⟨_, rfl⟩
  have HQ6 := Lib.hid hq6
  obtain ⟨q7, hq7⟩ : ∃ y : Int, (s + 2048) % 4096 = y := ⟨_, rfl⟩
  have HQ7 := Lib.hid hq7
  obtain ⟨q8, hq8⟩ : ∃ y : Int, (s - 1) % 4096 = y := ⟨_, rfl⟩
  have HQ8 := Lib.hid hq8
  have HQB := Lib.hid (show (0 ≤ q0 ∧ q0 ≤ 4095) ∧ (0 ≤ q1 ∧ q1 ≤ 4095) ∧ (0 ≤ q2 ∧ q2 ≤ 4095) ∧ (0 ≤ q3 ∧ q3 ≤ 4095) ∧ (0 ≤ q4 ∧ q4 ≤ 4095) ∧ (0 ≤ q5 ∧ q5 ≤ 4095) ∧ (0 ≤ q6 ∧ q6 ≤ 4095) ∧ (0 ≤ q7 ∧ q7 ≤ 4095) ∧ (0 ≤ q8 ∧ q8 ≤ 4095) by omega)
  clear hq0 hq1 hq2 hq3 hq4 hq5 hq6 hq7 hq8
  go_enter Try.func67, Try.ntmps67
  go_upto_region 1 with fail
  obtain ⟨w0, hW⟩ : ∃ w0, w.alloc (.cells #[.int .i64 s, .slice A n c] 50) = w0 := ⟨_, rfl⟩
  rw [hW]
  have K0 := Lib.hid (show Keep p w w0 by rw [← hW]; exact (Keep.refl p w).alloc _)
  have C0 := Lib.hid (show Cur w0 p a len cap by rw [← hW]; exact (CW.out).alloc _)
  have X0 := Lib.hid (show Bx 50 w0 (w.heap.size) #[.int .i64 s, .slice A n c] by
      rw [← hW]
      have hh := Bx.made 50 w #[.int .i64 s, .slice A n c]
      exact hh)
  clear hW
  have LTX := Lib.hid X0.out.lt
  refine reg.region_plain (drk.Dr p a len cap) 43 [some [], some [], some [(1, 6)], some [(2, 7)], some [], some [(4, 9)], some [(5, 10)], some [(6, 11)], some [], some [(8, 13)], some [(9, 14)], some [(10, 15)], some [], some [(12, 17)], some [(13, 18)], some [(14, 19)], some [], some [(16, 21)], some [(17, 22)], some [(18, 23)], some [], some [(20, 25)], some [(21, 26)], some [(22, 27)], some [], some [(24, 29)], some [(25, 30)], some [(26, 31)], some [], some [(28, 33)], some [(29, 34)], some [(30, 35)], some [], some [(32, 37)], some [(33, 38)], some [(34, 39)], some [(3, 8), (7, 12), (11, 16), (15, 20), (19, 24), (23, 28), (27, 32), (31, 36), (35, 40)], some [(0, 5), (36, 41)], some [(37, 42)]] [(0, 5), (1, 6), (2, 7), (3, 8), (4, 9), (5, 10), (6, 11), (7, 12), (8, 13), (9, 14), (10, 15), (11, 16), (12, 17), (13, 18), (14, 19), (15, 20), (16, 21), (17, 22), (18, 23), (19, 24), (20, 25), (21, 26), (22, 27), (23, 28), (24, 29), (25, 30), (26, 31), (27, 32), (28, 33), (29, 34), (30, 35), (31, 36), (32, 37), (33, 38), (34, 39), (35, 40), (36, 41), (37, 42), (38, 4)]
    (fun w' => Keep p w w' ∧ Cur w' p a len cap ∧ Bx 50 w' (w.heap.size) #[.int .i64 s, .slice A n c] ∧ True)
    (reg.rl [reg.is (.pointer (some ⟨p, 0, none⟩)), reg.is (.pointer (some ⟨w.heap.size, 0, none⟩)), reg.is (.int .i64 s), reg.is (.int .i64 q0), reg.is (.pointer (some ⟨w.heap.size, 0, none⟩)), reg.is (.int .i64 s), reg.is (.int .i64 ((s + 1))), reg.is (.int .i64 q1), reg.is (.pointer (some ⟨w.heap.size, 0, none⟩)), reg.is (.int .i64 s), reg.is (.int .i64 ((s + 2))), reg.is (.int .i64 q2), reg.is (.pointer (some ⟨w.heap.size, 0, none⟩)), reg.is (.int .i64 s), reg.is (.int .i64 ((s + 15))), reg.is (.int .i64 q3), reg.is (.pointer (some ⟨w.heap.size, 0, none⟩)), reg.is (.int .i64 s), reg.is (.int .i64 ((s + 16))), reg.is (.int .i64 q4), reg.is (.pointer (some ⟨w.heap.size, 0, none⟩)), reg.is (.int .i64 s), reg.is (.int .i64 ((s + 18))), reg.is (.int .i64 q5), reg.is (.pointer (some ⟨w.heap.size, 0, none⟩)), reg.is (.int .i64 s), reg.is (.int .i64 ((s + 2047))), reg.is (.int .i64 q6), reg.is (.pointer (some ⟨w.heap.size, 0, none⟩)), reg.is (.int .i64 s), reg.is (.int .i64 ((s + 2048))), reg.is (.int .i64 q7), reg.is (.pointer (some ⟨w.heap.size, 0, none⟩)), reg.is (.int .i64 s), reg.is (.int .i64 ((s - 1))), reg.is (.int .i64 q8), bkD p a len cap (fun N => .slice (some ⟨N, 0, none⟩) 11 11) 3 #[.int .i64 q0, .int .i64 q1, .int .i64 q2, .int .i64 q3, .int .i64 q4, .int .i64 q5, .int .i64 q6, .int .i64 q7, .int .i64 q8, .int .i64 (-1), .int .i64 4096], reg.val (fun v => ∃ y : Int, v = .int .i64 y ∧ -1 ≤ y ∧ y ≤ 4096), reg.val (fun v => ∃ y : Int, v = .int .i64 y ∧ -1 ≤ y ∧ y ≤ 4096)])
    (by kernel_rfl) (by kernel_rfl) rfl
    (fun w1 w2 hc hb => ⟨hc.1.trans hb.1, hb.2, drk.bx_keep hc.2.2.1 hb.1 (by have h0 := P0.out; have hs0 := LTX.out; first | omega | (simp <;> omega)), trivial⟩) (reg.rl_keep _) (⟨Keep.drew K0.out, show Cur w0.drew p a len cap from C0.out, X0.out.same rfl, trivial⟩) (by kernel_rfl) ⟨?_, ?_, ?_, ?_, ?_, ?_, ?_, ?_, ?_, ?_, ?_, ?_, ?_, ?_, ?_, ?_, ?_, ?_, ?_, ?_, ?_, ?_, ?_, ?_, ?_, ?_, ?_, ?_, ?_, ?_, ?_, ?_, ?_, ?_, ?_, ?_, ?_, ?_, ?_, trivial⟩ ?_
  · refine fun w8 hc  K hK => ?_
    (try simp only [Act.put, List.setIfInBounds_toArray, List.set_cons_zero, List.set_cons_succ])
    go_simp
    exact hK (.pointer (some ⟨p, 0, none⟩)) _ rfl ⟨Keep.refl _ _, hc.2.1⟩
  · refine fun w8 hc  K hK => ?_
    (try simp only [Act.put, List.setIfInBounds_toArray, List.set_cons_zero, List.set_cons_succ])
    go_simp
    exact hK (.pointer (some ⟨w.heap.size, 0, none⟩)) _ rfl ⟨Keep.refl _ _, hc.2.1⟩
  · refine fun w8 hc v1 h1 K hK => ?_
    obtain rfl : v1 = .pointer (some ⟨w.heap.size, 0, none⟩) := h1
    (try simp only [Act.put, List.setIfInBounds_toArray, List.set_cons_zero, List.set_cons_succ])
    have c0 : w8.cell? ⟨w.heap.size, 0, none⟩ = some (.int .i64 s) := hc.2.2.1.cell 0
    go_simp
    exact hK (.int .i64 s) _ rfl ⟨Keep.refl _ _, hc.2.1⟩
  · refine fun w8 hc v2 h2 K hK => ?_
    obtain rfl : v2 = .int .i64 s := h2
    (try simp only [Act.put, List.setIfInBounds_toArray, List.set_cons_zero, List.set_cons_succ])
    have hs1 := HSB.out
    go_simp
    (with_reducible refine (hsh.specMod s 4096 (by omega) _).mono ?_)
    rintro e w3 ⟨rfl, rfl⟩
    rw [HQ0.out]
    exact hK (.int .i64 q0) _ rfl ⟨Keep.refl _ _, hc.2.1⟩
  · refine fun w8 hc  K hK => ?_
    (try simp only [Act.put, List.setIfInBounds_toArray, List.set_cons_zero, List.set_cons_succ])
    go_simp
    exact hK (.pointer (some ⟨w.heap.size, 0, none⟩)) _ rfl ⟨Keep.refl _ _, hc.2.1⟩
  · refine fun w8 hc v4 h4 K hK => ?_
    obtain rfl : v4 = .pointer (some ⟨w.heap.size, 0, none⟩) := h4
    (try simp only [Act.put, List.setIfInBounds_toArray, List.set_cons_zero, List.set_cons_succ])
    have c0 : w8.cell? ⟨w.heap.size, 0, none⟩ = some (.int .i64 s) := hc.2.2.1.cell 0
    go_simp
    exact hK (.int .i64 s) _ rfl ⟨Keep.refl _ _, hc.2.1⟩
  · refine fun w8 hc v5 h5 K hK => ?_
    obtain rfl : v5 = .int .i64 s := h5
    (try simp only [Act.put, List.setIfInBounds_toArray, List.set_cons_zero, List.set_cons_succ])
    have hs1 := HSB.out
    have m1 : IntKind.i64.wrap (s + 1) = (s + 1) := IntWalk.i64_in _ (by omega)
    go_simp
    (try simp only [m1])
    exact hK (.int .i64 ((s + 1))) _ rfl ⟨Keep.refl _ _, hc.2.1⟩
  · refine fun w8 hc v6 h6 K hK => ?_
    obtain rfl : v6 = .int .i64 ((s + 1)) := h6
    (try simp only [Act.put, List.setIfInBounds_toArray, List.set_cons_zero, List.set_cons_succ])
    have hs1 := HSB.out
    go_simp
    (with_reducible refine (hsh.specMod (s + 1) 4096 (by omega) _).mono ?_)
    rintro e w3 ⟨rfl, rfl⟩
    rw [HQ1.out]
    exact hK (.int .i64 q1) _ rfl ⟨Keep.refl _ _, hc.2.1⟩
  · refine fun w8 hc  K hK => ?_
    (try simp only [Act.put, List.setIfInBounds_toArray, List.set_cons_zero, List.set_cons_succ])
    go_simp
    exact hK (.pointer (some ⟨w.heap.size, 0, none⟩)) _ rfl ⟨Keep.refl _ _, hc.2.1⟩
  · refine fun w8 hc v8 h8 K hK => ?_
    obtain rfl : v8 = .pointer (some ⟨w.heap.size, 0, none⟩) := h8
    (try simp only [Act.put, List.setIfInBounds_toArray, List.set_cons_zero, List.set_cons_succ])
    have c0 : w8.cell? ⟨w.heap.size, 0, none⟩ = some (.int .i64 s) := hc.2.2.1.cell 0
    go_simp
    exact hK (.int .i64 s) _ rfl ⟨Keep.refl _ _, hc.2.1⟩
  · refine fun w8 hc v9 h9 K hK => ?_
    obtain rfl : v9 = .int .i64 s := h9
    (try simp only [Act.put, List.setIfInBounds_toArray, List.set_cons_zero, List.set_cons_succ])
    have hs1 := HSB.out
    have m1 : IntKind.i64.wrap (s + 2) = (s + 2) := IntWalk.i64_in _ (by omega)
    go_simp
    (try simp only [m1])
    exact hK (.int .i64 ((s + 2))) _ rfl ⟨Keep.refl _ _, hc.2.1⟩
  · refine fun w8 hc v10 h10 K hK => ?_
    obtain rfl : v10 = .int .i64 ((s + 2)) := h10
    (try simp only [Act.put, List.setIfInBounds_toArray, List.set_cons_zero, List.set_cons_succ])
    have hs1 := HSB.out
    go_simp
    (with_reducible refine (hsh.specMod (s + 2) 4096 (by omega) _).mono ?_)
    rintro e w3 ⟨rfl, rfl⟩
    rw [HQ2.out]
    exact hK (.int .i64 q2) _ rfl ⟨Keep.refl _ _, hc.2.1⟩
  · refine fun w8 hc  K hK => ?_
    (try simp only [Act.put, List.setIfInBounds_toArray, List.set_cons_zero, List.set_cons_succ])
    go_simp
    exact hK (.pointer (some ⟨w.heap.size, 0, none⟩)) _ rfl ⟨Keep.refl _ _, hc.2.1⟩
  · refine fun w8 hc v12 h12 K hK => ?_
    obtain rfl : v12 = .pointer (some ⟨w.heap.size, 0, none⟩) := h12
    (try simp only [Act.put, List.setIfInBounds_toArray, List.set_cons_zero, List.set_cons_succ])
    have c0 : w8.cell? ⟨w.heap.size, 0, none⟩ = some (.int .i64 s) := hc.2.2.1.cell 0
    go_simp
    exact hK (.int .i64 s) _ rfl ⟨Keep.refl _ _, hc.2.1⟩
  · refine fun w8 hc v13 h13 K hK => ?_
    obtain rfl : v13 = .int .i64 s := h13
    (try simp only [Act.put, List.setIfInBounds_toArray, List.set_cons_zero, List.set_cons_succ])
    have hs1 := HSB.out
    have m1 : IntKind.i64.wrap (s + 15) = (s + 15) := IntWalk.i64_in _ (by omega)
    go_simp
    (try simp only [m1])
    exact hK (.int .i64 ((s + 15))) _ rfl ⟨Keep.refl _ _, hc.2.1⟩
  · refine fun w8 hc v14 h14 K hK => ?_
    obtain rfl : v14 = .int .i64 ((s + 15)) := h14
    (try simp only [Act.put, List.setIfInBounds_toArray, List.set_cons_zero, List.set_cons_succ])
    have hs1 := HSB.out
    go_simp
    (with_reducible refine (hsh.specMod (s + 15) 4096 (by omega) _).mono ?_)
    rintro e w3 ⟨rfl, rfl⟩
    rw [HQ3.out]
    exact hK (.int .i64 q3) _ rfl ⟨Keep.refl _ _, hc.2.1⟩
  · refine fun w8 hc  K hK => ?_
    (try simp only [Act.put, List.setIfInBounds_toArray, List.set_cons_zero, List.set_cons_succ])
    go_simp
    exact hK (.pointer (some ⟨w.heap.size, 0, none⟩)) _ rfl ⟨Keep.refl _ _, hc.2.1⟩
  · refine fun w8 hc v16 h16 K hK => ?_
    obtain rfl : v16 = .pointer (some ⟨w.heap.size, 0, none⟩) := h16
    (try simp only [Act.put, List.setIfInBounds_toArray, List.set_cons_zero, List.set_cons_succ])
    have c0 : w8.cell? ⟨w.heap.size, 0, none⟩ = some (.int .i64 s) := hc.2.2.1.cell 0
    go_simp
    exact hK (.int .i64 s) _ rfl ⟨Keep.refl _ _, hc.2.1⟩
  · refine fun w8 hc v17 h17 K hK => ?_
    obtain rfl : v17 = .int .i64 s := h17
    (try simp only [Act.put, List.setIfInBounds_toArray, List.set_cons_zero, List.set_cons_succ])
    have hs1 := HSB.out
    have m1 : IntKind.i64.wrap (s + 16) = (s + 16) := IntWalk.i64_in _ (by omega)
    go_simp
    (try simp only [m1])
    exact hK (.int .i64 ((s + 16))) _ rfl ⟨Keep.refl _ _, hc.2.1⟩
  · refine fun w8 hc v18 h18 K hK => ?_
    obtain rfl : v18 = .int .i64 ((s + 16)) := h18
    (try simp only [Act.put, List.setIfInBounds_toArray, List.set_cons_zero, List.set_cons_succ])
    have hs1 := HSB.out
    go_simp
    (with_reducible refine (hsh.specMod (s + 16) 4096 (by omega) _).mono ?_)
    rintro e w3 ⟨rfl, rfl⟩
    rw [HQ4.out]
    exact hK (.int .i64 q4) _ rfl ⟨Keep.refl _ _, hc.2.1⟩
  · refine fun w8 hc  K hK => ?_
    (try simp only [Act.put, List.setIfInBounds_toArray, List.set_cons_zero, List.set_cons_succ])
    go_simp
    exact hK (.pointer (some ⟨w.heap.size, 0, none⟩)) _ rfl ⟨Keep.refl _ _, hc.2.1⟩
  · refine fun w8 hc v20 h20 K hK => ?_
    obtain rfl : v20 = .pointer (some ⟨w.heap.size, 0, none⟩) := h20
    (try simp only [Act.put, List.setIfInBounds_toArray, List.set_cons_zero, List.set_cons_succ])
    have c0 : w8.cell? ⟨w.heap.size, 0, none⟩ = some (.int .i64 s) := hc.2.2.1.cell 0
    go_simp
    exact hK (.int .i64 s) _ rfl ⟨Keep.refl _ _, hc.2.1⟩
  · refine fun w8 hc v21 h21 K hK => ?_
    obtain rfl : v21 = .int .i64 s := h21
    (try simp only [Act.put, List.setIfInBounds_toArray, List.set_cons_zero, List.set_cons_succ])
    have hs1 := HSB.out
    have m1 : IntKind.i64.wrap (s + 18) = (s + 18) := IntWalk.i64_in _ (by omega)
    go_simp
    (try simp only [m1])
    exact hK (.int .i64 ((s + 18))) _ rfl ⟨Keep.refl _ _, hc.2.1⟩
  · refine fun w8 hc v22 h22 K hK => ?_
    obtain rfl : v22 = .int .i64 ((s + 18)) := h22
    (try simp only [Act.put, List.setIfInBounds_toArray, List.set_cons_zero, List.set_cons_succ])
    have hs1 := HSB.out
    go_simp
    (with_reducible refine (hsh.specMod (s + 18) 4096 (by omega) _).mono ?_)
    rintro e w3 ⟨rfl, rfl⟩
    rw [HQ5.out]
    exact hK (.int .i64 q5) _ rfl ⟨Keep.refl _ _, hc.2.1⟩
  · refine fun w8 hc  K hK => ?_
    (try simp only [Act.put, List.setIfInBounds_toArray, List.set_cons_zero, List.set_cons_succ])
    go_simp
    exact hK (.pointer (some ⟨w.heap.size, 0, none⟩)) _ rfl ⟨Keep.refl _ _, hc.2.1⟩
  · refine fun w8 hc v24 h24 K hK => ?_
    obtain rfl : v24 = .pointer (some ⟨w.heap.size, 0, none⟩) := h24
    (try simp only [Act.put, List.setIfInBounds_toArray, List.set_cons_zero, List.set_cons_succ])
    have c0 : w8.cell? ⟨w.heap.size, 0, none⟩ = some (.int .i64 s) := hc.2.2.1.cell 0
    go_simp
    exact hK (.int .i64 s) _ rfl ⟨Keep.refl _ _, hc.2.1⟩
  · refine fun w8 hc v25 h25 K hK => ?_
    obtain rfl : v25 = .int .i64 s := h25
    (try simp only [Act.put, List.setIfInBounds_toArray, List.set_cons_zero, List.set_cons_succ])
    have hs1 := HSB.out
    have m1 : IntKind.i64.wrap (s + 2047) = (s + 2047) := IntWalk.i64_in _ (by omega)
    go_simp
    (try simp only [m1])
    exact hK (.int .i64 ((s + 2047))) _ rfl ⟨Keep.refl _ _, hc.2.1⟩
  · refine fun w8 hc v26 h26 K hK => ?_
    obtain rfl : v26 = .int .i64 ((s + 2047)) := h26
    (try simp only [Act.put, List.setIfInBounds_toArray, List.set_cons_zero, List.set_cons_succ])
    have hs1 := HSB.out
    go_simp
    (with_reducible refine (hsh.specMod (s + 2047) 4096 (by omega) _).mono ?_)
    rintro e w3 ⟨rfl, rfl⟩
    rw [HQ6.out]
    exact hK (.int .i64 q6) _ rfl ⟨Keep.refl _ _, hc.2.1⟩
  · refine fun w8 hc  K hK => ?_
    (try simp only [Act.put, List.setIfInBounds_toArray, List.set_cons_zero, List.set_cons_succ])
    go_simp
    exact hK (.pointer (some ⟨w.heap.size, 0, none⟩)) _ rfl ⟨Keep.refl _ _, hc.2.1⟩
  · refine fun w8 hc v28 h28 K hK => ?_
    obtain rfl : v28 = .pointer (some ⟨w.heap.size, 0, none⟩) := h28
    (try simp only [Act.put, List.setIfInBounds_toArray, List.set_cons_zero, List.set_cons_succ])
    have c0 : w8.cell? ⟨w.heap.size, 0, none⟩ = some (.int .i64 s) := hc.2.2.1.cell 0
    go_simp
    exact hK (.int .i64 s) _ rfl ⟨Keep.refl _ _, hc.2.1⟩
  · refine fun w8 hc v29 h29 K hK => ?_
    obtain rfl : v29 = .int .i64 s := h29
    (try simp only [Act.put, List.setIfInBounds_toArray, List.set_cons_zero, List.set_cons_succ])
    have hs1 := HSB.out
    have m1 : IntKind.i64.wrap (s + 2048) = (s + 2048) := IntWalk.i64_in _ (by omega)
    go_simp
    (try simp only [m1])
    exact hK (.int .i64 ((s + 2048))) _ rfl ⟨Keep.refl _ _, hc.2.1⟩
  · refine fun w8 hc v30 h30 K hK => ?_
    obtain rfl : v30 = .int .i64 ((s + 2048)) := h30
    (try simp only [Act.put, List.setIfInBounds_toArray, List.set_cons_zero, List.set_cons_succ])
    have hs1 := HSB.out
    go_simp
    (with_reducible refine (hsh.specMod (s + 2048) 4096 (by omega) _).mono ?_)
    rintro e w3 ⟨rfl, rfl⟩
    rw [HQ7.out]
    exact hK (.int .i64 q7) _ rfl ⟨Keep.refl _ _, hc.2.1⟩
  · refine fun w8 hc  K hK => ?_
    (try simp only [Act.put, List.setIfInBounds_toArray, List.set_cons_zero, List.set_cons_succ])
    go_simp
    exact hK (.pointer (some ⟨w.heap.size, 0, none⟩)) _ rfl ⟨Keep.refl _ _, hc.2.1⟩
  · refine fun w8 hc v32 h32 K hK => ?_
    obtain rfl : v32 = .pointer (some ⟨w.heap.size, 0, none⟩) := h32
    (try simp only [Act.put, List.setIfInBounds_toArray, List.set_cons_zero, List.set_cons_succ])
    have c0 : w8.cell? ⟨w.heap.size, 0, none⟩ = some (.int .i64 s) := hc.2.2.1.cell 0
    go_simp
    exact hK (.int .i64 s) _ rfl ⟨Keep.refl _ _, hc.2.1⟩
  · refine fun w8 hc v33 h33 K hK => ?_
    obtain rfl : v33 = .int .i64 s := h33
    (try simp only [Act.put, List.setIfInBounds_toArray, List.set_cons_zero, List.set_cons_succ])
    have hs1 := HSB.out
    have m1 : IntKind.i64.wrap (s - 1) = (s - 1) := IntWalk.i64_in _ (by omega)
    go_simp
    (try simp only [m1])
    exact hK (.int .i64 ((s - 1))) _ rfl ⟨Keep.refl _ _, hc.2.1⟩
  · refine fun w8 hc v34 h34 K hK => ?_
    obtain rfl : v34 = .int .i64 ((s - 1)) := h34
    (try simp only [Act.put, List.setIfInBounds_toArray, List.set_cons_zero, List.set_cons_succ])
    have hs1 := HSB.out
    go_simp
    (with_reducible refine (hsh.specMod (s - 1) 4096 (by omega) _).mono ?_)
    rintro e w3 ⟨rfl, rfl⟩
    rw [HQ8.out]
    exact hK (.int .i64 q8) _ rfl ⟨Keep.refl _ _, hc.2.1⟩
  · refine fun w8 hc v3 h3 v7 h7 v11 h11 v15 h15 v19 h19 v23 h23 v27 h27 v31 h31 v35 h35 K hK => ?_
    obtain rfl : v3 = .int .i64 q0 := h3
    obtain rfl : v7 = .int .i64 q1 := h7
    obtain rfl : v11 = .int .i64 q2 := h11
    obtain rfl : v15 = .int .i64 q3 := h15
    obtain rfl : v19 = .int .i64 q4 := h19
    obtain rfl : v23 = .int .i64 q5 := h23
    obtain rfl : v27 = .int .i64 q6 := h27
    obtain rfl : v31 = .int .i64 q7 := h31
    obtain rfl : v35 = .int .i64 q8 := h35
    (try simp only [Act.put, List.setIfInBounds_toArray, List.set_cons_zero, List.set_cons_succ])
    have hpl := hc.2.1.lt
    have hR : (bkD p a len cap (fun N => .slice (some ⟨N, 0, none⟩) 11 11) 3 #[.int .i64 q0, .int .i64 q1, .int .i64 q2, .int .i64 q3, .int .i64 q4, .int .i64 q5, .int .i64 q6, .int .i64 q7, .int .i64 q8, .int .i64 (-1), .int .i64 4096]).1 (.slice (some ⟨w8.heap.size, 0, none⟩) 11 11) (w8.alloc (.cells #[.int .i64 q0, .int .i64 q1, .int .i64 q2, .int .i64 q3, .int .i64 q4, .int .i64 q5, .int .i64 q6, .int .i64 q7, .int .i64 q8, .int .i64 (-1), .int .i64 4096] 3)) := ⟨w8.heap.size, rfl, by omega, Bx.made _ w8 _⟩
    have h9 := hK (.slice (some ⟨w8.heap.size, 0, none⟩) 11 11) (w8.alloc (.cells #[.int .i64 q0, .int .i64 q1, .int .i64 q2, .int .i64 q3, .int .i64 q4, .int .i64 q5, .int .i64 q6, .int .i64 q7, .int .i64 q8, .int .i64 (-1), .int .i64 4096] 3)) hR ⟨drk.later (Keep.refl _ w8) (Nat.le_refl _) (bx.below_box _ _), drk.cur_below hc.2.1 (bx.below_box _ _)⟩
    clear hK
    go_simp
    simp only [Act.put, List.setIfInBounds_toArray, List.set_cons_zero, List.set_cons_succ] at h9
    exact h9
  · refine fun w8 hc v0 h0 v36 h36 K hK => ?_
    obtain rfl : v0 = .pointer (some ⟨p, 0, none⟩) := h0
    obtain ⟨N, rfl, hN, hXN⟩ := h36
    (try simp only [Act.put, List.setIfInBounds_toArray, List.set_cons_zero, List.set_cons_succ])
    have hs1 := HQB.out
    go_simp
    (with_reducible refine (stw.pickAt (-1) 4096 11 (by omega) (by omega) _ p N a len cap #[.int .i64 q0, .int .i64 q1, .int .i64 q2, .int .i64 q3, .int .i64 q4, .int .i64 q5, .int .i64 q6, .int .i64 q7, .int .i64 q8, .int .i64 (-1), .int .i64 4096] 3 hXN hN rfl (by simp [okInt]; omega) hc.2.1).mono ?_)
    rintro e w3 ⟨y, rfl, h1, h2, hk, hcc⟩
    exact hK (.int .i64 y) _ ⟨y, rfl, h1, h2⟩ ⟨hk, hcc⟩
  · refine fun w8 hc v37 h37 K hK => ?_
    obtain ⟨m, rfl, hm0, hm1⟩ : ∃ y : Int, v37 = .int .i64 y ∧ -1 ≤ y ∧ y ≤ 4096 := h37
    (try simp only [Act.put, List.setIfInBounds_toArray, List.set_cons_zero, List.set_cons_succ])
    go_simp
    exact hK (.int .i64 m) _ ⟨_, rfl, hm0, hm1⟩ ⟨Keep.refl _ _, hc.2.1⟩
  refine fun wg1 hc v0 h0 v1 h1 v2 h2 v3 h3 v4 h4 v5 h5 v6 h6 v7 h7 v8 h8 v9 h9 v10 h10 v11 h11 v12 h12 v13 h13 v14 h14 v15 h15 v16 h16 v17 h17 v18 h18 v19 h19 v20 h20 v21 h21 v22 h22 v23 h23 v24 h24 v25 h25 v26 h26 v27 h27 v28 h28 v29 h29 v30 h30 v31 h31 v32 h32 v33 h33 v34 h34 v35 h35 v36 h36 v37 h37 v38 h38 => ?_
  obtain rfl : v0 = .pointer (some ⟨p, 0, none⟩) := h0
  obtain rfl : v1 = .pointer (some ⟨w.heap.size, 0, none⟩) := h1
  obtain rfl : v2 = .int .i64 s := h2
  obtain rfl : v3 = .int .i64 q0 := h3
  obtain rfl : v4 = .pointer (some ⟨w.heap.size, 0, none⟩) := h4
  obtain rfl : v5 = .int .i64 s := h5
  obtain rfl : v6 = .int .i64 ((s + 1)) := h6
  obtain rfl : v7 = .int .i64 q1 := h7
  obtain rfl : v8 = .pointer (some ⟨w.heap.size, 0, none⟩) := h8
  obtain rfl : v9 = .int .i64 s := h9
  obtain rfl : v10 = .int .i64 ((s + 2)) := h10
  obtain rfl : v11 = .int .i64 q2 := h11
  obtain rfl : v12 = .pointer (some ⟨w.heap.size, 0, none⟩) := h12
  obtain rfl : v13 = .int .i64 s := h13
  obtain rfl : v14 = .int .i64 ((s + 15)) := h14
  obtain rfl : v15 = .int .i64 q3 := h15
  obtain rfl : v16 = .pointer (some ⟨w.heap.size, 0, none⟩) := h16
  obtain rfl : v17 = .int .i64 s := h17
  obtain rfl : v18 = .int .i64 ((s + 16)) := h18
  obtain rfl : v19 = .int .i64 q4 := h19
  obtain rfl : v20 = .pointer (some ⟨w.heap.size, 0, none⟩) := h20
  obtain rfl : v21 = .int .i64 s := h21
  obtain rfl : v22 = .int .i64 ((s + 18)) := h22
  obtain rfl : v23 = .int .i64 q5 := h23
  obtain rfl : v24 = .pointer (some ⟨w.heap.size, 0, none⟩) := h24
  obtain rfl : v25 = .int .i64 s := h25
  obtain rfl : v26 = .int .i64 ((s + 2047)) := h26
  obtain rfl : v27 = .int .i64 q6 := h27
  obtain rfl : v28 = .pointer (some ⟨w.heap.size, 0, none⟩) := h28
  obtain rfl : v29 = .int .i64 s := h29
  obtain rfl : v30 = .int .i64 ((s + 2048)) := h30
  obtain rfl : v31 = .int .i64 q7 := h31
  obtain rfl : v32 = .pointer (some ⟨w.heap.size, 0, none⟩) := h32
  obtain rfl : v33 = .int .i64 s := h33
  obtain rfl : v34 = .int .i64 ((s - 1)) := h34
  obtain rfl : v35 = .int .i64 q8 := h35
  obtain ⟨N, rfl, hN, hXN⟩ := h36
  obtain ⟨m, rfl, hm0, hm1⟩ : ∃ y : Int, v37 = .int .i64 y ∧ -1 ≤ y ∧ y ≤ 4096 := h37
  obtain ⟨m2, rfl, hm20, hm21⟩ : ∃ y : Int, v38 = .int .i64 y ∧ -1 ≤ y ∧ y ≤ 4096 := h38
  (try simp only [reg.Obs])
  (try simp only [Act.put, List.setIfInBounds_toArray, List.set_cons_zero, List.set_cons_succ])
  have K1 := Lib.hid hc.1
  have C1 := Lib.hid hc.2.1
  have X1 := Lib.hid hc.2.2.1
  clear hc K0 C0 X0
  have HM2 := Lib.hid (show -1 ≤ m2 ∧ m2 ≤ 4096 from ⟨hm20, hm21⟩)
  go_wp2_with fail
  go_ret
  exact ⟨m2, rfl, HM2.out.1, HM2.out.2, K1.out, C1.out⟩
set_option maxRecDepth 100000 in
set_option maxHeartbeats 4000000 in
theorem dRn (w : World) (a : Option Addr) (len cap : Nat) (hc : draw.Code w w.heap.size a len) :
    Calls Try.prog 37 #[.slice a len cap] w (DrPost w) := by
  have HC := Lib.hid hc
  clear hc
  go_enter Try.func37, Try.ntmps37
  go_upto_region 1 with fail
  obtain ⟨w0, hW⟩ : ∃ w0, w.alloc (.cells #[.int .i64 0, .slice none 0 0] 50) = w0 := ⟨_, rfl⟩
  rw [hW]
  have B0 := Lib.hid (show Below w.heap.size w w0 by rw [← hW]; exact (Below.refl _ _).alloc (by simp <;> omega) _)
  have Z0 := Lib.hid (show Bx 50 w0 (w.heap.size) #[.int .i64 0, .slice none 0 0] by
      rw [← hW]
      have hh := Bx.made 50 w #[.int .i64 0, .slice none 0 0]
      exact hh)
  clear hW
  have LTZ := Lib.hid Z0.out.lt
  go_wp2_with fail
  (with_reducible refine (draw.new _ a len cap (code_later HC.out B0.out)).mono ?_)
  rintro e wb ⟨rfl, hk, hs, hc⟩
  have HB := Lib.hid (keep_bel B0.out B0.out.size hk)
  obtain ⟨p, hp⟩ : ∃ p, w0.heap.size = p := ⟨_, rfl⟩
  have LP := Lib.hid (show w.heap.size ≤ p ∧ p < wb.heap.size ∧ w.heap.size < p by have h0 := B0.out.size; have hZ := Z0.out.lt; first | omega | (simp at hs ⊢ <;> omega))
  rw [hp] at hk hs hc ⊢
  have Z1 := Lib.hid (drk.bx_keep Z0.out hk (by have h1 := LP.out; omega))
  have P0 := Lib.hid hs
  have C1 := Lib.hid hc
  have CW := Lib.hid hc
  have K1 := Lib.hid (Keep.refl p wb)
  clear hk hs hc hp B0 Z0
  go_wp2_with fail
  have HPL := Lib.hid C1.out.lt
  (with_reducible refine (dAn _ p a len cap C1.out).mono ?_)
  rintro e w2 ⟨s, xs, A, n, c, rfl, hs, hn, hr, hk, hc⟩
  have HS := Lib.hid hs
  have HN := Lib.hid hn
  have HRR := Lib.hid hr
  have SS2 := Lib.hid hk.size
  have K2 := Lib.hid (K1.out.trans hk)
  have C2 := Lib.hid (hc)
  have Z2 := Lib.hid (drk.bx_keep Z1.out hk (by have hlP := LP.out; have h0 := P0.out; have hs0 := LTZ.out; have hs1 := LP.out; have hs2 := HPL.out; have hs3 := SS2.out; first | omega | (simp <;> omega)))
  clear hk hc hs hn hr K1 C1 Z1
  have R2 := Lib.hid HRR.out
  have HLO := Lib.hid (show p < wb.heap.size from HPL.out)
  clear HRR
  obtain ⟨bt, hbb⟩ : ∃ b, w2.heap.size = b := ⟨_, rfl⟩
  go_upto_region 3 with fail
  generalize hW : w2.alloc (.cells #[.int .i64 s, .slice A n c] 50) = w3
  have LT := Lib.hid (show wb.heap.size ≤ bt ∧ w.heap.size < bt ∧ w2.heap.size ≤ bt by have h1 := K2.out.size; have h2Z := Z2.out.lt; have h2R := R2.out.hi_; have h3 := hbb; omega)
  have T3 := Lib.hid (show Bx 50 w3 bt #[.int .i64 s, .slice A n c] by rw [← hW, ← hbb]; exact Bx.made _ _ _)
  have hb : Below w2.heap.size w2 w3 := by rw [← hW]; exact below_box _ _
  (try rw [hbb])
  clear hW hbb
  have SS3 := Lib.hid hb.size
  have K3 := Lib.hid (drk.later K2.out K2.out.size hb)
  have C3 := Lib.hid (drk.cur_below C2.out hb)
  have Z3 := Lib.hid (Z2.out.below hb)
  have R3 := Lib.hid (R2.out.below hb)
  clear hb K2 C2 Z2 R2
  have LWT := Lib.hid T3.out.lt
  go_wp2_with (refine stw.list_load rfl 50 _ rfl (bt) rfl 50 _ T3.out Try.underlying50 rfl ux.szRob ?_)
  (with_reducible refine (dNu s HS.out A n c _ p a len cap C3.out).mono ?_)
  rintro e w4 ⟨m, rfl, hm0, hm1, hk, hc⟩
  have HM := Lib.hid (show -1 ≤ m ∧ m ≤ 4096 from ⟨hm0, hm1⟩)
  have SS4 := Lib.hid hk.size
  have K4 := Lib.hid (K3.out.trans hk)
  have C4 := Lib.hid (hc)
  have Z4 := Lib.hid (drk.bx_keep Z3.out hk (by have hlP := LP.out; have hlT := LT.out; have h0 := P0.out; have hs0 := LTZ.out; have hs1 := LP.out; have hs2 := HPL.out; have hs3 := SS2.out; have hs4 := SS3.out; have hs5 := LWT.out; have hs6 := SS4.out; first | omega | (simp <;> omega)))
  have T4 := Lib.hid (drk.bx_keep T3.out hk (by have hlP := LP.out; have hlT := LT.out; have h0 := P0.out; have hs0 := LTZ.out; have hs1 := LP.out; have hs2 := HPL.out; have hs3 := SS2.out; have hs4 := SS3.out; have hs5 := LWT.out; have hs6 := SS4.out; first | omega | (simp <;> omega)))
  have R4 := Lib.hid (ro.rr_keep R3.out hk (by have hlP := LP.out; have hlT := LT.out; have h0 := P0.out; have hs0 := LTZ.out; have hs1 := LP.out; have hs2 := HPL.out; have hs3 := SS2.out; have hs4 := SS3.out; have hs5 := LWT.out; have hs6 := SS4.out; first | omega | (simp <;> omega)))
  clear hk hc hm0 hm1 K3 C3 Z3 T3 R3
  go_upto_region 4 with fail
  obtain ⟨H4, hH4⟩ : ∃ h, w4.heap.size = h := ⟨_, rfl⟩
  have HH4 := Lib.hid (show p < H4 ∧ bt < H4 ∧ w2.heap.size ≤ H4 by have h1 := C4.out.lt; have h2 := T4.out.lt; have h3 := R4.out.hi_; omega)
  have HBT := Lib.hid (show w.heap.size < bt ∧ p < bt ∧ p < wb.heap.size ∧ w.heap.size < wb.heap.size by have h1 := LT.out; have h2 := LP.out; have h3 := HLO.out; omega)
  have hRh := R4.out.hi_
  refine reg.region_tailY (Ve4 p a len cap w.heap.size) (Vu4 w.heap.size #[.int .i64 0, .slice none 0 0]) 9 22 [(7, 15)] [some [], some [], some [], some [], some [], some [(3, 18), (4, 19)], some [(2, 17), (5, 20)], some [(0, 15)], some [(1, 16)], none] [(0, 15), (1, 16), (2, 17), (3, 18), (4, 19), (5, 20), (6, 21), (8, 3)]
    (fun w' => (stw.KS [p, w.heap.size] wb w' ∧ Cur w' p a len cap ∧ H4 ≤ w'.heap.size) ∧ Bx 50 w' bt #[.int .i64 s, .slice A n c] ∧ RR rowNf w' wb.heap.size w2.heap.size (.slice A n c) xs)
    (Vr4 w.heap.size H4 #[.int .i64 s, .slice A n c] [(0, .agg #[.int .i64 s, .slice A n c]), (1, .int .i64 m), (2, .pointer (some ⟨p, 0, none⟩)), (3, .pointer (some ⟨p, 0, none⟩)), (8, .int .i64 m)])
    (by kernel_rfl) rfl (by kernel_rfl) (by kernel_rfl) rfl
    (fun i w1 w2 hc he => by unfold Ve4 at he; by_cases i9 : i = 7; (rw [if_pos i9] at he; obtain ⟨cs, he⟩ := he; exact ⟨⟨hc.1.1.trans (stw.KS.put he (by simp)), stw.cur_put HC.out hc.1.2.1 he (Nat.le_refl _) (by have := LP.out; omega), by have h1 := hc.1.2.2; have h2 := he.below.size; omega⟩, he.keep hc.2.1 (by have := HBT.out; omega), hc.2.2.same he.below.size fun b h1 h2 => he.other b (by have := HBT.out; omega)⟩); (rw [if_neg i9] at he; exact ⟨⟨hc.1.1.trans (stw.KS.keep he.1 (by simp)), he.2, by have h1 := hc.1.2.2; have h2 := he.1.size; omega⟩, drk.bx_keep hc.2.1 he.1 (by have := HBT.out; omega), rr_keep hc.2.2 he.1 (by have := HBT.out; omega)⟩))
    (r4_keep (by have h1 := LP.out; have h2 := HH4.out; omega)) (u4_keep (by have := LP.out; omega)) ⟨⟨(stw.KS.keep K4.out (by simp)).trans (stw.KS.keep (Keep.drew (Keep.refl p _)) (by simp)), show Cur w4.drew p a len cap from C4.out, (by rw [← hH4]; exact Nat.le_refl _)⟩, T4.out.same rfl, R4.out.same (Nat.le_refl _) fun _ _ _ => rfl⟩ (fun j _ => Z4.out.same rfl) (by kernel_rfl) ⟨?_, ?_, ?_, ?_, ?_, ?_, ?_, ?_, ?_, trivial⟩ ?_
  · refine fun w8 hc hu  K hK => ?_
    (try simp only [Act.put, List.setIfInBounds_toArray, List.set_cons_zero, List.set_cons_succ])
    rw [if_pos (by rfl)]
    refine stw.wp_load_bx 50 _ rfl (bt) rfl 50 _ hc.2.1 Try.underlying50 rfl ux.szRob ?_
    exact hK _ _ rfl ⟨Keep.refl _ _, hc.1.2.1⟩
  · refine fun w8 hc hu  K hK => ?_
    (try simp only [Act.put, List.setIfInBounds_toArray, List.set_cons_zero, List.set_cons_succ])
    go_simp
    exact hK (.int .i64 m) _ rfl ⟨Keep.refl _ _, hc.1.2.1⟩
  · refine fun w8 hc hu  K hK => ?_
    (try simp only [Act.put, List.setIfInBounds_toArray, List.set_cons_zero, List.set_cons_succ])
    go_simp
    exact hK (.pointer (some ⟨p, 0, none⟩)) _ rfl ⟨Keep.refl _ _, hc.1.2.1⟩
  · refine fun w8 hc hu  K hK => ?_
    (try simp only [Act.put, List.setIfInBounds_toArray, List.set_cons_zero, List.set_cons_succ])
    go_simp
    exact hK (.pointer (some ⟨p, 0, none⟩)) _ rfl ⟨Keep.refl _ _, hc.1.2.1⟩
  · refine fun w8 hc hu  K hK => ?_
    (try simp only [Act.put, List.setIfInBounds_toArray, List.set_cons_zero, List.set_cons_succ])
    have hql := hc.1.2.2
    go_simp
    exact hK (.slice (some ⟨w8.heap.size, 0, none⟩) 5 5) _ ⟨w8.heap.size, rfl, hql, Bx.made _ _ _⟩ ⟨drk.later (Keep.refl _ w8) (Nat.le_refl _) (bx.below_box _ _), drk.cur_below hc.1.2.1 (bx.below_box _ _)⟩
  · refine fun w8 hc hu v3 h3 v4 h4 K hK => ?_
    obtain rfl : v3 = .pointer (some ⟨p, 0, none⟩) := h3
    obtain ⟨N, rfl, hN, hXN⟩ : ∃ N, v4 = .slice (some ⟨N, 0, none⟩) 5 5 ∧ H4 ≤ N ∧ Bx 3 w8 N #[.int .i64 0, .int .i64 1, .int .i64 2, .int .i64 100, .int .i64 101] := h4
    (try simp only [Act.put, List.setIfInBounds_toArray, List.set_cons_zero, List.set_cons_succ])
    go_simp
    (with_reducible refine (stw.pickAt 0 101 5 (by omega) (by omega) _ p N a len cap #[.int .i64 0, .int .i64 1, .int .i64 2, .int .i64 100, .int .i64 101] 3 hXN (by have := HH4.out; omega) rfl (by decide) hc.1.2.1).mono ?_)
    rintro e w3 ⟨y, rfl, h1, h2, hk, hcc⟩
    exact hK (.int .i64 y) _ ⟨y, rfl, h1, h2⟩ ⟨hk, hcc⟩
  · refine fun w8 hc hu v2 h2 v5 h5 K hK => ?_
    obtain rfl : v2 = .pointer (some ⟨p, 0, none⟩) := h2
    obtain ⟨y5, rfl, ha5, hb5⟩ : ∃ y : Int, v5 = .int .i64 y ∧ 0 ≤ y ∧ y ≤ 101 := h5
    (try simp only [Act.put, List.setIfInBounds_toArray, List.set_cons_zero, List.set_cons_succ])
    have hql := hc.1.2.2
    go_simp
    (with_reducible refine (draw.bytes y5 ha5 (by omega) _ p a len cap hc.1.2.1).mono ?_)
    rintro e w3 ⟨A2, n2, c2, f, rfl, hn2, ho, hk, hcc⟩
    exact hK (.slice A2 n2 c2) _ ⟨A2, n2, c2, _, f, rfl, by omega, ho.down hql⟩ ⟨hk, hcc⟩
  · refine fun w8 hc hu v0 h0 K hK => ?_
    obtain rfl : v0 = .agg #[.int .i64 s, .slice A n c] := h0
    (try simp only [Act.put, List.setIfInBounds_toArray, List.set_cons_zero, List.set_cons_succ])
    refine stw.step_store rfl 50 _ _ rfl (w.heap.size) #[.int .i64 s, .slice A n c] rfl rfl 50 _ (hu rfl) rfl ux.szRob (ux.oneRob _ _ _ _) ?_
    intro wz hz
    exact hK undef _ hz.box ⟨_, hz⟩
  · refine fun w8 hc hu v1 h1 K hK => ?_
    obtain rfl : v1 = .int .i64 m := h1
    (try simp only [Act.put, List.setIfInBounds_toArray, List.set_cons_zero, List.set_cons_succ])
    go_simp
    exact hK (.int .i64 m) _ rfl ⟨Keep.refl _ _, hc.1.2.1⟩
  refine fun wx9 hc v0 h0 v1 h1 v2 h2 v3 h3 v4 h4 v5 h5 v6 h6 v8 h8 => ?_
  obtain rfl : v0 = .agg #[.int .i64 s, .slice A n c] := h0
  obtain rfl : v1 = .int .i64 m := h1
  obtain rfl : v2 = .pointer (some ⟨p, 0, none⟩) := h2
  obtain rfl : v3 = .pointer (some ⟨p, 0, none⟩) := h3
  obtain ⟨N, rfl, hN, hXN⟩ : ∃ N, v4 = .slice (some ⟨N, 0, none⟩) 5 5 ∧ H4 ≤ N ∧ Bx 3 wx9 N #[.int .i64 0, .int .i64 1, .int .i64 2, .int .i64 100, .int .i64 101] := h4
  obtain ⟨y5, rfl, ha5, hb5⟩ : ∃ y : Int, v5 = .int .i64 y ∧ 0 ≤ y ∧ y ≤ 101 := h5
  obtain ⟨Ab, nb, cb, h6i, zl, rfl, hnb, hOb⟩ : ∃ (A : Option Addr) (n c hi : Nat) (l : List Int), v6 = .slice A n c ∧ n ≤ 101 ∧ Ow 5 .u8 wx9 H4 hi A n c l := h6
  obtain rfl : v8 = .int .i64 m := h8
  (try simp only [reg.Obs])
  intro hrf
  have hZ9 := hrf (7, 15) (by simp) rfl
  clear hrf
  (try simp only [Act.put, List.setIfInBounds_toArray, List.set_cons_zero, List.set_cons_succ])
  simp only [List.drop_succ_cons, List.drop_zero]
  have HK9 := Lib.hid hc.1.1
  have R9 := Lib.hid hc.2.2
  have OB := Lib.hid hOb
  have Z9 := Lib.hid (show Bx 50 wx9 w.heap.size #[.int .i64 s, .slice A n c] from hZ9)
  have HNB := Lib.hid hnb
  clear hc hZ9 hOb hnb hRh hXN hN ha5 hb5 K4 C4 T4 Z4 R4
  go_wp2_with fail
  have hB := HB.out.trans (HK9.out.below (B := w.heap.size) (by have h1 := LP.out; intro x hx; simp only [List.mem_cons, List.not_mem_nil, or_false] at hx; rcases hx with rfl | rfl <;> omega) HB.out.size)
  (try simp only [Exit.inBlock, Exit.then])
  refine bodyPost_ret (v := .tuple #[.agg #[.int .i64 s, .slice A n c], .int .i64 m, .slice Ab nb cb]) ?_ rfl ?_
  · rw [results_cell2R rfl]
    exact back3R Z9.out Try.underlying50 rfl ux.szRob _ _
  · exact ⟨s, xs, A, n, c, m, zl, Ab, nb, cb, _, _, _, _, rfl, ⟨HS.out, HN.out, HM.out, HNB.out⟩, R9.out, OB.out.rd, ⟨by have := HBT.out; omega, by have h1 := HH4.out; have h2 := LP.out; omega⟩, hB⟩
end Go.Proofs.Ytejjafmppihneaa.ro

/- The law function of the reorder buffers (FnReorderBuffers) returns true and leaves what was there. Condition: the argument is a slice of bytes that came in. -/
namespace Go.Proofs.Ytejjafmppihneaa.ro
open Go.RowKit sl harn rng bx stw
set_option linter.unusedVariables false
open ux (Nf Rob RR OO row rowB rowNf nf rob own_more)
open mrw (blkOf grown_below)
set_option linter.unusedSimpArgs false

theorem rb_len {w : World} {lo hi n c : Nat} {A : Option Addr} {l : List (List Int)} (h : RR rowB w lo hi (.slice A n c) l) : l.length = n ∧ n ≤ c ∧ c ≤ 9223372036854775807 := by
  obtain ⟨A', n', c', e, h1, h2, h3, _⟩ := h
  injection e with e1 e2 e3
  subst e1 e2 e3
  exact ⟨h1, h2, by unfold maxLen at h3; omega⟩
/-- What the operations of the region that moves the start may change, and their values. -/
def Ve7 (H i : Nat) (w w' : World) : Prop := if i = 10 then ∃ q cs, H ≤ q ∧ cs.size = 2 ∧ Put 50 w q cs w' else Below w.heap.size w w'
def Vr7 (H n : Nat) (t : Int) (is : List (Nat × Value)) (j : Nat) (v : Value) (w : World) : Prop :=
  if j = 5 ∨ j = 6 then (∃ (A : Option Addr) (c : Nat) (A2 : Option Addr) (c2 : Nat), v = .tuple #[.agg #[.int .i64 t, .slice A 0 c], .slice A2 n c2]) else
  if j = 7 then (∃ (A : Option Addr) (c : Nat), v = .agg #[.int .i64 t, .slice A 0 c]) else
  if j = 8 then (∃ (A2 : Option Addr) (c2 : Nat), v = .slice A2 n c2) else
  if j = 9 then (∃ (q : Nat) (cs : Array Value), v = .pointer (some ⟨q, 0, none⟩) ∧ H ≤ q ∧ cs.size = 2 ∧ Bx 50 w q cs) else
  if j = 10 then (∃ (q : Nat) (A : Option Addr) (c : Nat), v = .pointer (some ⟨q, 0, none⟩) ∧ H ≤ q ∧ Bx 50 w q #[.int .i64 t, .slice A 0 c]) else match is.lookup j with | some u => v = u | none => True
theorem v7_keep {H n : Nat} {t : Int} {is : List (Nat × Value)} {ops : Array Oper} : ∀ i j v w w', i ≠ j → reg.waits ops j i = false → Vr7 H n t is j v w → Ve7 H i w w' → Vr7 H n t is j v w' := by
  intro i j v w w' hij _ h hg
  unfold Vr7 at h ⊢
  by_cases j5 : j = 5 ∨ j = 6
  · rw [if_pos j5] at h ⊢; exact h
  rw [if_neg j5] at h ⊢
  by_cases j7 : j = 7
  · rw [if_pos j7] at h ⊢; exact h
  rw [if_neg j7] at h ⊢
  by_cases j8 : j = 8
  · rw [if_pos j8] at h ⊢; exact h
  rw [if_neg j8] at h ⊢
  by_cases j9 : j = 9
  · rw [if_pos j9] at h ⊢
    obtain ⟨q, cs, e, h1, h2, h3⟩ := h
    unfold Ve7 at hg
    by_cases i10 : i = 10
    · rw [if_pos i10] at hg
      obtain ⟨q', cs', k1, k2, hp⟩ := hg
      by_cases e2 : q = q'
      · subst e2; exact ⟨q, cs', e, h1, k2, hp.box⟩
      · exact ⟨q, cs, e, h1, h2, hp.keep h3 e2⟩
    · rw [if_neg i10] at hg
      exact ⟨q, cs, e, h1, h2, h3.below hg⟩
  rw [if_neg j9] at h ⊢
  by_cases j10 : j = 10
  · rw [if_pos j10] at h ⊢
    obtain ⟨q, A, c, e, h1, h3⟩ := h
    unfold Ve7 at hg
    rw [if_neg (by omega)] at hg
    exact ⟨q, A, c, e, h1, h3.below hg⟩
  rw [if_neg j10] at h ⊢
  exact h
theorem rgaf {w : World} {ad : Addr} {v : Value} (h : w.cell? ad = some v) : ∀ m : bx.Af w, m.w.cell? ad = some v := fun m => by rw [m.below.cell (World.block_lt_of_cell? _ _ h)]; exact h
theorem implEqS (s : Int) (ms : List Nf) (A : Option Addr) (n cap lo hi : Nat) (A2 : Option Addr) (n2 cap2 lo2 hi2 : Nat) (w : World) (h : RR rowNf w lo hi (.slice A n cap) ms) (h2 : RR rowNf w lo2 hi2 (.slice A2 n2 cap2) ms) :
    Calls Try.prog 40 #[.agg #[.int .i64 s, .slice A n cap], .agg #[.int .i64 s, .slice A2 n2 cap2]] w (BPost true w) :=
  (implEq s s ms ms A n cap lo hi A2 n2 cap2 lo2 hi2 w h h2).mono fun e w' hp => by
    have e1 := decide_eq_true (rfl : (⟨s, ms⟩ : Rob) = ⟨s, ms⟩)
    unfold BPost at hp ⊢
    rw [e1] at hp
    exact hp
theorem rd_get {w : World} {lo hi n cap b off i : Nat} {zs : List Int} {y : Int} (h : Rd .i64 w lo hi (some ⟨b, off, none⟩) n cap zs) (hi' : i < n) (hy : zs.getD i 0 = y) : w.cell? ⟨b, off + i, none⟩ = some (.int .i64 y) := by
  obtain ⟨b9, o9, e9, _, _, h9⟩ := h.at_ hi'
  injection e9 with e9
  injection e9 with e1 e2
  subst e1 e2
  rw [hy] at h9
  exact h9
set_option maxRecDepth 100000 in
set_option maxHeartbeats 16000000 in
theorem rbLaw (a : Option Addr) (len cap : Nat) (zz : List Int) (w : World) (r0 : kit.IsRow .u8 w a len cap zz) :
    Calls Try.prog 11 #[.slice a len cap] w (fun e w' => e = .returned (.bool true) ∧ Below w.heap.size w w') := by
  have HC := Lib.hid (draw.code_of_row r0)
  have hlen : (len : Int) ≤ 9223372036854775807 := by have := HC.out.1; omega
  clear r0
  by_cases hbig : 1048576 < (len : Int)
  · go_enter Try.func11, Try.ntmps11
    go_wp2
    go_ret
    exact ⟨rfl, Below.refl _ _⟩
  go_enter Try.func11, Try.ntmps11
  go_wp2_with (go_at_call 12; go_in)
  clear hbig
  go_wp2_with fail
  (with_reducible refine (dRn _ a len cap HC.out).mono ?_)
  rintro e w1 ⟨s, xs, A, n, c, m, zb, Ab, nb, cb, lo, hi, lo2, hi2, rfl, hb4, hr, hq, hl, hb⟩
  have HB4 := Lib.hid hb4
  have R1 := Lib.hid hr
  have Q1 := Lib.hid (ux.num_rd hq : RR ux.bytes _ _ _ _ _)
  have B1 := Lib.hid hb
  have HLR := Lib.hid (nf_len hr)
  have HLH := Lib.hid (show hi ≤ w1.heap.size ∧ hi2 ≤ w1.heap.size from ⟨hr.hi_, hq.hi_⟩)
  clear hb hb4 hr hq hl HC hlen
  obtain ⟨bX, hbb⟩ : ∃ b, w1.heap.size = b := ⟨_, rfl⟩
  go_upto_region 4 with fail
  generalize hW : w1.alloc (.cells #[.int .i64 s, .slice A n c] 50) = wa2
  have LX := Lib.hid (show w.heap.size ≤ bX ∧ hi ≤ bX ∧ hi2 ≤ bX by have h1 := B1.out.size; have h2R := R1.out.hi_; have h2Q := Q1.out.hi_; have h3 := hbb; omega)
  have X2 := Lib.hid (show Bx 50 wa2 bX #[.int .i64 s, .slice A n c] by rw [← hW, ← hbb]; exact Bx.made _ _ _)
  have hb : Below w1.heap.size w1 wa2 := by rw [← hW]; exact below_box _ _
  (try rw [hbb])
  clear hW hbb
  have SS2 := Lib.hid hb.size
  have B2 := Lib.hid (B1.out.trans (hb.mono B1.out.size))
  have R2 := Lib.hid (R1.out.below hb)
  have Q2 := Lib.hid (Q1.out.below hb)
  clear hb B1 R1 Q1
  have LWX := Lib.hid X2.out.lt
  obtain ⟨⟨⟨s1, xs1⟩, l1⟩, hx⟩ : ∃ x, recv ⟨s, xs⟩ m zb = x := ⟨_, rfl⟩
  have HX := Lib.hid hx
  clear hx
  go_wp2_with (refine stw.list_load rfl 50 _ rfl (bX) rfl 50 _ X2.out Try.underlying50 rfl ux.szRob ?_)
  (with_reducible refine (implRc s xs lo hi A n c m zb lo2 hi2 Ab nb cb _ R2.out (by have := HB4.out.2.1.1; omega) (fun x hx => by have := HB4.out.2.1.2 x hx; omega) Q2.out).mono ?_)
  rintro e wa3 hp
  rw [HX.out] at hp
  obtain ⟨A1, n1, c1, f_Y, A2, n2, c2, g_Y, rfl, ho, ho2, _, hb⟩ := r2_parts hp
  clear hp
  have HLA2 := Lib.hid (rb_len ho2.rd)
  have HNA1 := Lib.hid (nf_len ho.rd)
  clear ho2
  have SS3 := Lib.hid hb.size
  have B3 := Lib.hid (B2.out.trans (hb.mono B2.out.size))
  have X3 := Lib.hid (X2.out.below hb)
  have R3 := Lib.hid (R2.out.below hb)
  have Q3 := Lib.hid (Q2.out.below hb)
  clear hb B2 X2 R2 Q2
  have P3 := Lib.hid ho.rd
  clear ho
  obtain ⟨bY, hbb⟩ : ∃ b, wa3.heap.size = b := ⟨_, rfl⟩
  go_upto_region 5 with fail
  generalize hW : wa3.alloc (.cells #[.int .i64 s1, .slice A1 n1 c1] 50) = wa4
  have LY := Lib.hid (show w.heap.size ≤ bY ∧ bX < bY ∧ hi ≤ bY ∧ hi2 ≤ bY ∧ wa3.heap.size ≤ bY by have h1 := B3.out.size; have h2X := X3.out.lt; have h2R := R3.out.hi_; have h2Q := Q3.out.hi_; have h2P := P3.out.hi_; have h3 := hbb; omega)
  have Y4 := Lib.hid (show Bx 50 wa4 bY #[.int .i64 s1, .slice A1 n1 c1] by rw [← hW, ← hbb]; exact Bx.made _ _ _)
  have hb : Below wa3.heap.size wa3 wa4 := by rw [← hW]; exact below_box _ _
  (try rw [hbb])
  clear hW hbb
  have SS4 := Lib.hid hb.size
  have B4 := Lib.hid (B3.out.trans (hb.mono B3.out.size))
  have X4 := Lib.hid (X3.out.below hb)
  have R4 := Lib.hid (R3.out.below hb)
  have Q4 := Lib.hid (Q3.out.below hb)
  have P4 := Lib.hid (P3.out.below hb)
  clear hb B3 X3 R3 Q3 P3
  have LWY := Lib.hid Y4.out.lt
  obtain ⟨v, hv⟩ : ∃ v, vr ⟨s, xs⟩ = v := ⟨_, rfl⟩
  have HV := Lib.hid hv
  clear hv
  go_wp2_with (refine stw.list_load rfl 50 _ rfl (bX) rfl 50 _ X4.out Try.underlying50 rfl ux.szRob ?_)
  (with_reducible refine (specVr s xs lo hi A n c _ R4.out).mono ?_)
  rintro e wa5 hp
  obtain ⟨rfl, hb⟩ := b_parts HV.out hp
  clear hp
  have SS5 := Lib.hid hb.size
  have B5 := Lib.hid (B4.out.trans (hb.mono B4.out.size))
  have X5 := Lib.hid (X4.out.below hb)
  have Y5 := Lib.hid (Y4.out.below hb)
  have R5 := Lib.hid (R4.out.below hb)
  have Q5 := Lib.hid (Q4.out.below hb)
  have P5 := Lib.hid (P4.out.below hb)
  clear hb  B4 X4 Y4 R4 Q4 P4
  cases v with
  | true =>
    have HVX := Lib.hid (show vr ⟨s1, xs1⟩ = true by have h := recv_vr (n := m) (b := zb) HV.out; rw [HX.out] at h; exact h)
    have HTW := Lib.hid (show recv ⟨s1, xs1⟩ m zb = (⟨s1, xs1⟩, []) by have h := recv_twice (n := m) (b := zb) HV.out; rw [HX.out] at h; exact h)
    have HFW := Lib.hid (show l1.length ≤ 16 by have h := recv_few (n := m) (b := zb) HV.out; rw [HX.out] at h; exact h)
    have HSM := Lib.hid (vr_small HVX.out)
    have HSR := Lib.hid (vr_small HV.out)
    go_wp2_with (refine stw.list_load rfl 50 _ rfl (bY) rfl 50 _ Y5.out Try.underlying50 rfl ux.szRob ?_)
    (with_reducible refine (implRc s1 xs1 _ _ A1 n1 c1 m zb lo2 hi2 Ab nb cb _ P5.out (by have h1 := HSM.out.1; have h2 := HNA1.out.1; (try dsimp only at h1); omega) (fun x hx => by have := HSM.out.2.1 x hx; omega) Q5.out).mono ?_)
    rintro e wa6 hp
    rw [HTW.out] at hp
    obtain ⟨A3, n3, c3, f_W, A4, n4, c4, g_W, rfl, ho, ho2, _, hb⟩ := r2_parts hp
    clear hp
    have HLA4 := Lib.hid (rb_len ho2.rd)
    have HNA3 := Lib.hid (nf_len ho.rd)
    clear ho2
    have SS6 := Lib.hid hb.size
    have B6 := Lib.hid (B5.out.trans (hb.mono B5.out.size))
    have X6 := Lib.hid (X5.out.below hb)
    have Y6 := Lib.hid (Y5.out.below hb)
    have R6 := Lib.hid (R5.out.below hb)
    have Q6 := Lib.hid (Q5.out.below hb)
    have P6 := Lib.hid (P5.out.below hb)
    clear hb B5 X5 Y5 R5 Q5 P5
    have T6 := Lib.hid ho.rd
    clear ho
    obtain ⟨bW, hbb⟩ : ∃ b, wa6.heap.size = b := ⟨_, rfl⟩
    go_upto_region 8 with fail
    generalize hW : wa6.alloc (.cells #[.int .i64 s1, .slice A3 n3 c3] 50) = wa7
    have LW := Lib.hid (show w.heap.size ≤ bW ∧ bX < bW ∧ bY < bW ∧ hi ≤ bW ∧ hi2 ≤ bW ∧ wa3.heap.size ≤ bW ∧ wa6.heap.size ≤ bW by have h1 := B6.out.size; have h2X := X6.out.lt; have h2Y := Y6.out.lt; have h2R := R6.out.hi_; have h2Q := Q6.out.hi_; have h2P := P6.out.hi_; have h2T := T6.out.hi_; have h3 := hbb; omega)
    have W7 := Lib.hid (show Bx 50 wa7 bW #[.int .i64 s1, .slice A3 n3 c3] by rw [← hW, ← hbb]; exact Bx.made _ _ _)
    have hb : Below wa6.heap.size wa6 wa7 := by rw [← hW]; exact below_box _ _
    (try rw [hbb])
    clear hW hbb
    have SS7 := Lib.hid hb.size
    have B7 := Lib.hid (B6.out.trans (hb.mono B6.out.size))
    have X7 := Lib.hid (X6.out.below hb)
    have Y7 := Lib.hid (Y6.out.below hb)
    have R7 := Lib.hid (R6.out.below hb)
    have Q7 := Lib.hid (Q6.out.below hb)
    have P7 := Lib.hid (P6.out.below hb)
    have T7 := Lib.hid (T6.out.below hb)
    clear hb B6 X6 Y6 R6 Q6 P6 T6
    have LWW := Lib.hid W7.out.lt
    obtain rfl : n4 = 0 := by have := HLA4.out.1; simpa using this.symm
    have hn2 : ¬ (16 : Int) < (n2 : Int) := by have h1 := HFW.out; have h2 := HLA2.out.1; omega
    go_wp2_with (refine stw.list_load rfl 50 _ rfl (bY) rfl 50 _ Y7.out Try.underlying50 rfl ux.szRob ?_)
    (with_reducible refine (implVr s1 xs1 _ _ A1 n1 c1 _ P7.out).mono ?_)
    rintro e wa8 hp
    obtain ⟨rfl, hb⟩ := b_parts HVX.out hp
    clear hp
    have SS8 := Lib.hid hb.size
    have B8 := Lib.hid (B7.out.trans (hb.mono B7.out.size))
    have X8 := Lib.hid (X7.out.below hb)
    have Y8 := Lib.hid (Y7.out.below hb)
    have W8 := Lib.hid (W7.out.below hb)
    have R8 := Lib.hid (R7.out.below hb)
    have Q8 := Lib.hid (Q7.out.below hb)
    have P8 := Lib.hid (P7.out.below hb)
    have T8 := Lib.hid (T7.out.below hb)
    clear hb  B7 X7 Y7 W7 R7 Q7 P7 T7
    have cY0 : wa8.cell? ⟨bY, 0, none⟩ = some (.int .i64 s1) := Y8.out.cell 0
    have cY1 : wa8.cell? ⟨bY, 1, none⟩ = some (.slice A1 n1 c1) := Y8.out.cell 1
    have cW0 : wa8.cell? ⟨bW, 0, none⟩ = some (.int .i64 s1) := W8.out.cell 0
    have cW1 : wa8.cell? ⟨bW, 1, none⟩ = some (.slice A3 n3 c3) := W8.out.cell 1
    go_wp2_with fail
    clear cY0 cY1 cW0 cW1
    (with_reducible refine (implEqS s1 xs1 A3 n3 c3 _ _ A1 n1 c1 _ _ _ T8.out P8.out).mono ?_)
    rintro e wa9 hp
    obtain ⟨rfl, hb⟩ := b_parts rfl hp
    clear hp
    have SS9 := Lib.hid hb.size
    have B9 := Lib.hid (B8.out.trans (hb.mono B8.out.size))
    have X9 := Lib.hid (X8.out.below hb)
    have Y9 := Lib.hid (Y8.out.below hb)
    have W9 := Lib.hid (W8.out.below hb)
    have R9 := Lib.hid (R8.out.below hb)
    have Q9 := Lib.hid (Q8.out.below hb)
    have P9 := Lib.hid (P8.out.below hb)
    have T9 := Lib.hid (T8.out.below hb)
    clear hb  B8 X8 Y8 W8 R8 Q8 P8 T8
    go_wp2_with (refine stw.list_load rfl 50 _ rfl (bY) rfl 50 _ Y9.out Try.underlying50 rfl ux.szRob ?_)
    clear hn2
    (with_reducible refine (implMs s1 xs1 _ _ A1 n1 c1 _ P9.out).mono ?_)
    rintro e wa10 ⟨Am, nm, cm, rfl, ho, hb⟩
    have HLM := Lib.hid ho.len
    have HCM := Lib.hid ho.rd.cap_
    have SS10 := Lib.hid hb.size
    have B10 := Lib.hid (B9.out.trans (hb.mono B9.out.size))
    have X10 := Lib.hid (X9.out.below hb)
    have Y10 := Lib.hid (Y9.out.below hb)
    have W10 := Lib.hid (W9.out.below hb)
    have R10 := Lib.hid (R9.out.below hb)
    have Q10 := Lib.hid (Q9.out.below hb)
    have P10 := Lib.hid (P9.out.below hb)
    have T10 := Lib.hid (T9.out.below hb)
    clear hb B9 X9 Y9 W9 R9 Q9 P9 T9
    have M10 := Lib.hid ho.rd
    clear ho
    go_wp2_with fail
    go_loopw [11] (fun v0 wr => ∃ (i : Nat), v0 = .int .i64 ((i : Int)) ∧ (i ≤ nm) ∧ Below w.heap.size w wr ∧ Bx 50 wr bX #[.int .i64 s, .slice A n c] ∧ Bx 50 wr bY #[.int .i64 s1, .slice A1 n1 c1] ∧ Bx 50 wr bW #[.int .i64 s1, .slice A3 n3 c3] ∧ RR rowNf wr lo hi (.slice A n c) xs ∧ RR ux.bytes wr lo2 hi2 (.slice Ab nb cb) zb ∧ RR rowNf wr wa2.heap.size wa3.heap.size (.slice A1 n1 c1) xs1 ∧ RR rowNf wr wa5.heap.size wa6.heap.size (.slice A3 n3 c3) xs1 ∧ Rd .i64 wr (wa9.heap.size) (wa10.heap.size) Am nm cm (msn ⟨s1, xs1⟩)) ((fun v _ => nm - (intOf v).toNat))
    case atStart => exact ⟨0, rfl, by omega, B10.out, X10.out, Y10.out, W10.out, R10.out, Q10.out, P10.out, T10.out, M10.out⟩
    case round =>
      obtain ⟨i, rfl, ghi9, gB11, gX11, gY11, gW11, gR11, gQ11, gP11, gT11, gM11⟩ := hrel
      have B11 := Lib.hid gB11
      have X11 := Lib.hid gX11
      have Y11 := Lib.hid gY11
      have W11 := Lib.hid gW11
      have R11 := Lib.hid gR11
      have Q11 := Lib.hid gQ11
      have P11 := Lib.hid gP11
      have T11 := Lib.hid gT11
      have M11 := Lib.hid gM11
      have hi9 := Lib.hid ghi9
      clear gB11 gX11 gY11 gW11 gR11 gQ11 gP11 gT11 gM11 ghi9
      have LUX11 := Lib.hid X11.out.lt
      have LUY11 := Lib.hid Y11.out.lt
      have LUW11 := Lib.hid W11.out.lt
      have SBR11 := Lib.hid B11.out.size
      have hi9 := hi9.out
      have hcm := HCM.out
      by_cases hlt : i < nm
      · have hlt2 : (i : Int) < nm := by omega
        obtain ⟨y, hy⟩ : ∃ y, (msn ⟨s1, xs1⟩).getD i 0 = y := ⟨_, rfl⟩
        have hym : y ∈ msn ⟨s1, xs1⟩ := by rw [← hy, List.getD_eq_getElem?_getD, List.getElem?_eq_getElem (by rw [HLM.out]; exact hlt)]; exact List.getElem_mem _
        obtain ⟨d, hd16, hsd, hbt⟩ := msn_bit HVX.out hym
        have HSD := Lib.hid hsd
        obtain ⟨bmv, hbm⟩ : ∃ x, bm s1 xs1 = x := ⟨_, rfl⟩
        have HBT := Lib.hid (show bmv.testBit d = false by rw [← hbm]; exact hbt)
        have HAK := Lib.hid (show ack ⟨s1, xs1⟩ = (s1, (bmv : Int)) by unfold ack; rw [HVX.out, if_pos rfl, ← hbm])
        have HHD := Lib.hid (show i = 0 → y = s1 by intro e; subst e; rcases msn_head HVX.out with ⟨_, h⟩ | ⟨_, l, h⟩; (rw [h] at hym; cases hym); (rw [h] at hy; simpa using hy.symm))
        obtain ⟨bq, offq, rfl, g1, g2, hcq⟩ := M11.out.at_ hlt
        rw [hy] at hcq
        have HGY := Lib.hid hy
        clear hym hsd hbt hbm hy g1 g2
        have mY0 : ∀ m : bx.Af wr, m.w.cell? ⟨bY, 0, none⟩ = some (.int .i64 s1) := fun m => (bx.Af.cells Y11.out m).cell 0
        have mq := rgaf hcq
        have q1 := Lib.hid (fun m => ((bs.specSd s1 y m.w).mono fun _ _ h => ⟨by rw [h.1, HSD.out], h.2 ▸ Below.refl _ _⟩) : ∀ m : bx.Af wr, Calls Try.prog 43 #[.int .i64 s1, .int .i64 y] m.w fun e w' => e = .returned (.int .i64 (d : Int)) ∧ Below m.w.heap.size m.w w')
        go_upto_region 14 with fail
        refine bx.region_after (by kernel_rfl) (by kernel_rfl) ?_
        repeat (go_big_quiet_step ((go_at_call 43; with_reducible exact bx.Af.call (q1.out _))))
        refine wpQuiet_nil ?_
        intro _ hw'
        obtain ⟨nq9, hw''⟩ := hw'
        subst hw''
        clear mY0 q1 mq hcq
        obtain ⟨wa12, hw5⟩ : ∃ w5, nq9.w = w5 := ⟨_, rfl⟩
        have hb := nq9.below
        rw [hw5] at hb
        (try rw [hw5])
        clear hw5
        have SS12 := Lib.hid hb.size
        have B12 := Lib.hid (B11.out.trans (hb.mono B11.out.size))
        have X12 := Lib.hid (X11.out.below hb)
        have Y12 := Lib.hid (Y11.out.below hb)
        have W12 := Lib.hid (W11.out.below hb)
        have R12 := Lib.hid (R11.out.below hb)
        have Q12 := Lib.hid (Q11.out.below hb)
        have P12 := Lib.hid (P11.out.below hb)
        have T12 := Lib.hid (T11.out.below hb)
        have M12 := Lib.hid (M11.out.below hb)
        clear hb nq9 B11 X11 Y11 W11 R11 Q11 P11 T11 M11
        obtain ⟨z0, hz0⟩ : ∃ x, (bmv : Int) / 2 ^ d = x := ⟨_, rfl⟩
        have hl := bs.low1 z0
        have HZ0 := Lib.hid (show z0 % 2 = 0 by have h1 := HBT.out; rw [← bs.bit_test bmv d _ rfl] at h1; unfold bs.bit at h1; rw [Int.toNat_natCast, hz0] at h1; have h2 : ¬ z0 % 2 = 1 := (by simpa using h1); omega)
        rw [HZ0.out] at hl
        have hk64 : (d : Int) ≤ 64 := by omega
        by_cases hi0 : i = 0
        · subst hi0
          obtain rfl : s1 = y := (HHD.out rfl).symm
          go_upto_region 15 with fail
          refine reg.region_plain reg.Bel 154 [some [], some [(0, 87)], some [(1, 88)], some [], some [(2, 89), (3, 90)], some [(4, 91)], some [(5, 92)], some [(6, 93)], some [(7, 94)], some [(8, 95), (7, 94)], some [(9, 96), (7, 94)], some [(10, 97)], some [(10, 97)], some [(11, 98), (12, 99), (10, 97)], some [(13, 100), (10, 97)], some [(10, 97)], some [(15, 102), (10, 97)], some [(14, 101), (16, 103), (10, 97)], some [(10, 97), (17, 104), (7, 94)], some [(7, 94), (18, 105)]] [(0, 87), (1, 88), (2, 89), (3, 90), (4, 91), (5, 92), (6, 93), (7, 94), (8, 95), (9, 96), (10, 97), (11, 98), (12, 99), (13, 100), (14, 101), (15, 102), (16, 103), (17, 104), (18, 105), (19, 106)]
            (fun w' => Below w.heap.size w w' ∧ Bx 50 w' (bX) #[.int .i64 s, .slice A n c] ∧ Bx 50 w' (bY) #[.int .i64 s1, .slice A1 n1 c1] ∧ Bx 50 w' (bW) #[.int .i64 s1, .slice A3 n3 c3] ∧ RR rowNf w' lo hi (.slice A n c) xs ∧ RR ux.bytes w' lo2 hi2 (.slice Ab nb cb) zb ∧ RR rowNf w' wa2.heap.size wa3.heap.size (.slice A1 n1 c1) xs1 ∧ RR rowNf w' wa5.heap.size wa6.heap.size (.slice A3 n3 c3) xs1 ∧ Rd .i64 w' (wa9.heap.size) (wa10.heap.size) (some ⟨bq, offq, none⟩) nm cm (msn ⟨s1, xs1⟩) ∧ True)
            (reg.rl [reg.is (.agg #[.int .i64 s1, .slice A1 n1 c1]), reg.is (.agg #[.int .i64 s1, .int .i64 (bmv : Int)]), reg.is (.int .i64 ((bmv : Int))), reg.is (.int .i64 ((d : Int))), reg.is (.int .i64 z0), reg.is (.int .i64 0), reg.is (.bool false), reg.is (.bool false), reg.is (.int .i64 (((0 : Nat) : Int))), reg.is (.bool true), reg.is (.bool true), reg.is (.slice (some ⟨bq, offq, none⟩) nm cm), reg.is (.int .i64 (((0 : Nat) : Int))), reg.is (.pointer (some ⟨bq, offq + 0, none⟩)), reg.is (.int .i64 s1), reg.is (.pointer (some ⟨bY, 0, none⟩)), reg.is (.int .i64 s1), reg.is (.bool false), reg.is (.bool false), reg.is (.bool false)])
            (by kernel_rfl) (by kernel_rfl) rfl
            (fun w1 w2 hc hb => ⟨hc.1.trans (hb.mono hc.1.size), hc.2.1.below hb, hc.2.2.1.below hb, hc.2.2.2.1.below hb, hc.2.2.2.2.1.below hb, hc.2.2.2.2.2.1.below hb, hc.2.2.2.2.2.2.1.below hb, hc.2.2.2.2.2.2.2.1.below hb, hc.2.2.2.2.2.2.2.2.1.below hb, trivial⟩) (reg.rl_keep _) (⟨own.below_drew B12.out, X12.out.same rfl, Y12.out.same rfl, W12.out.same rfl, R12.out.same (Nat.le_refl _) (fun _ _ _ => rfl), Q12.out.same (Nat.le_refl _) (fun _ _ _ => rfl), P12.out.same (Nat.le_refl _) (fun _ _ _ => rfl), T12.out.same (Nat.le_refl _) (fun _ _ _ => rfl), own.rd_drew M12.out, trivial⟩) (by kernel_rfl) ⟨?_, ?_, ?_, ?_, ?_, ?_, ?_, ?_, ?_, ?_, ?_, ?_, ?_, ?_, ?_, ?_, ?_, ?_, ?_, ?_, trivial⟩ ?_
          · refine fun w8 hc  K hK => ?_
            (try simp only [Act.put, List.setIfInBounds_toArray, List.set_cons_zero, List.set_cons_succ])
            rw [if_pos (by rfl)]
            refine stw.wp_load_bx 50 _ rfl (bY) rfl 50 _ hc.2.2.1 Try.underlying50 rfl ux.szRob ?_
            exact hK _ _ rfl (Below.refl _ _)
          · refine fun w8 hc v0 h0 K hK => ?_
            obtain rfl : v0 = .agg #[.int .i64 s1, .slice A1 n1 c1] := h0
            (try simp only [Act.put, List.setIfInBounds_toArray, List.set_cons_zero, List.set_cons_succ])
            go_simp
            (with_reducible refine (implAck s1 xs1 _ _ A1 n1 c1 w8 hc.2.2.2.2.2.2.1).mono ?_)
            rintro e w3 hp
            obtain ⟨rfl, hb⟩ := ak_parts HAK.out hp
            exact hK _ _ rfl hb
          · refine fun w8 hc v1 h1 K hK => ?_
            obtain rfl : v1 = .agg #[.int .i64 s1, .int .i64 (bmv : Int)] := h1
            (try simp only [Act.put, List.setIfInBounds_toArray, List.set_cons_zero, List.set_cons_succ])
            go_simp
            exact hK (.int .i64 ((bmv : Int))) _ rfl (Below.refl _ _)
          · refine fun w8 hc  K hK => ?_
            (try simp only [Act.put, List.setIfInBounds_toArray, List.set_cons_zero, List.set_cons_succ])
            go_simp
            exact hK (.int .i64 ((d : Int))) _ rfl (Below.refl _ _)
          · refine fun w8 hc v2 h2 v3 h3 K hK => ?_
            obtain rfl : v2 = .int .i64 ((bmv : Int)) := h2
            obtain rfl : v3 = .int .i64 ((d : Int)) := h3
            (try simp only [Act.put, List.setIfInBounds_toArray, List.set_cons_zero, List.set_cons_succ])
            go_simp
            exact hK (.int .i64 z0) _ rfl (Below.refl _ _)
          · refine fun w8 hc v4 h4 K hK => ?_
            obtain rfl : v4 = .int .i64 z0 := h4
            (try simp only [Act.put, List.setIfInBounds_toArray, List.set_cons_zero, List.set_cons_succ])
            go_simp
            exact hK (.int .i64 0) _ rfl (Below.refl _ _)
          · refine fun w8 hc v5 h5 K hK => ?_
            obtain rfl : v5 = .int .i64 0 := h5
            (try simp only [Act.put, List.setIfInBounds_toArray, List.set_cons_zero, List.set_cons_succ])
            go_simp
            exact hK (.bool false) _ rfl (Below.refl _ _)
          · refine fun w8 hc v6 h6 K hK => ?_
            obtain rfl : v6 = .bool false := h6
            (try simp only [Act.put, List.setIfInBounds_toArray, List.set_cons_zero, List.set_cons_succ])
            go_simp
            exact hK (.bool false) _ rfl (Below.refl _ _)
          · refine fun w8 hc v7 h7 K hK => ?_
            obtain rfl : v7 = .bool false := h7
            (try simp only [Act.put, List.setIfInBounds_toArray, List.set_cons_zero, List.set_cons_succ])
            rw [if_pos (by rfl)]
            go_simp
            exact hK (.int .i64 (((0 : Nat) : Int))) _ rfl (Below.refl _ _)
          · refine fun w8 hc v8 h8 v7 h7 K hK => ?_
            obtain rfl : v8 = .int .i64 (((0 : Nat) : Int)) := h8
            obtain rfl : v7 = .bool false := h7
            (try simp only [Act.put, List.setIfInBounds_toArray, List.set_cons_zero, List.set_cons_succ])
            rw [if_pos (by rfl)]
            go_simp
            exact hK (.bool true) _ rfl (Below.refl _ _)
          · refine fun w8 hc v9 h9 v7 h7 K hK => ?_
            obtain rfl : v9 = .bool true := h9
            obtain rfl : v7 = .bool false := h7
            (try simp only [Act.put, List.setIfInBounds_toArray, List.set_cons_zero, List.set_cons_succ])
            rw [if_pos (by rfl)]
            go_simp
            exact hK (.bool true) _ rfl (Below.refl _ _)
          · refine fun w8 hc v10 h10 K hK => ?_
            obtain rfl : v10 = .bool true := h10
            (try simp only [Act.put, List.setIfInBounds_toArray, List.set_cons_zero, List.set_cons_succ])
            rw [if_pos (by rfl)]
            go_simp
            exact hK (.slice (some ⟨bq, offq, none⟩) nm cm) _ rfl (Below.refl _ _)
          · refine fun w8 hc v10 h10 K hK => ?_
            obtain rfl : v10 = .bool true := h10
            (try simp only [Act.put, List.setIfInBounds_toArray, List.set_cons_zero, List.set_cons_succ])
            rw [if_pos (by rfl)]
            go_simp
            exact hK (.int .i64 (((0 : Nat) : Int))) _ rfl (Below.refl _ _)
          · refine fun w8 hc v11 h11 v12 h12 v10 h10 K hK => ?_
            obtain rfl : v11 = .slice (some ⟨bq, offq, none⟩) nm cm := h11
            obtain rfl : v12 = .int .i64 (((0 : Nat) : Int)) := h12
            obtain rfl : v10 = .bool true := h10
            (try simp only [Act.put, List.setIfInBounds_toArray, List.set_cons_zero, List.set_cons_succ])
            rw [if_pos (by rfl)]
            go_simp
            exact hK (.pointer (some ⟨bq, offq + 0, none⟩)) _ rfl (Below.refl _ _)
          · refine fun w8 hc v13 h13 v10 h10 K hK => ?_
            obtain rfl : v13 = .pointer (some ⟨bq, offq + 0, none⟩) := h13
            obtain rfl : v10 = .bool true := h10
            (try simp only [Act.put, List.setIfInBounds_toArray, List.set_cons_zero, List.set_cons_succ])
            rw [if_pos (by rfl)]
            have c0 : w8.cell? ⟨bq, offq, none⟩ = some (.int .i64 s1) := by have h := rd_get hc.2.2.2.2.2.2.2.2.1 hlt HGY.out; simpa using h
            go_simp
            exact hK (.int .i64 s1) _ rfl (Below.refl _ _)
          · refine fun w8 hc v10 h10 K hK => ?_
            obtain rfl : v10 = .bool true := h10
            (try simp only [Act.put, List.setIfInBounds_toArray, List.set_cons_zero, List.set_cons_succ])
            rw [if_pos (by rfl)]
            go_simp
            exact hK (.pointer (some ⟨bY, 0, none⟩)) _ rfl (Below.refl _ _)
          · refine fun w8 hc v15 h15 v10 h10 K hK => ?_
            obtain rfl : v15 = .pointer (some ⟨bY, 0, none⟩) := h15
            obtain rfl : v10 = .bool true := h10
            (try simp only [Act.put, List.setIfInBounds_toArray, List.set_cons_zero, List.set_cons_succ])
            rw [if_pos (by rfl)]
            have c0 : w8.cell? ⟨bY, 0, none⟩ = some (.int .i64 s1) := hc.2.2.1.cell 0
            go_simp
            exact hK (.int .i64 s1) _ rfl (Below.refl _ _)
          · refine fun w8 hc v14 h14 v16 h16 v10 h10 K hK => ?_
            obtain rfl : v14 = .int .i64 s1 := h14
            obtain rfl : v16 = .int .i64 s1 := h16
            obtain rfl : v10 = .bool true := h10
            (try simp only [Act.put, List.setIfInBounds_toArray, List.set_cons_zero, List.set_cons_succ])
            rw [if_pos (by rfl)]
            go_simp
            exact hK (.bool false) _ rfl (Below.refl _ _)
          · refine fun w8 hc v10 h10 v17 h17 v7 h7 K hK => ?_
            obtain rfl : v10 = .bool true := h10
            obtain rfl : v17 = .bool false := h17
            obtain rfl : v7 = .bool false := h7
            (try simp only [Act.put, List.setIfInBounds_toArray, List.set_cons_zero, List.set_cons_succ])
            rw [if_pos (by rfl)]
            go_simp
            exact hK (.bool false) _ rfl (Below.refl _ _)
          · refine fun w8 hc v7 h7 v18 h18 K hK => ?_
            obtain rfl : v7 = .bool false := h7
            obtain rfl : v18 = .bool false := h18
            (try simp only [Act.put, List.setIfInBounds_toArray, List.set_cons_zero, List.set_cons_succ])
            go_simp
            exact hK (.bool false) _ rfl (Below.refl _ _)
          refine fun wg13 hc v0 h0 v1 h1 v2 h2 v3 h3 v4 h4 v5 h5 v6 h6 v7 h7 v8 h8 v9 h9 v10 h10 v11 h11 v12 h12 v13 h13 v14 h14 v15 h15 v16 h16 v17 h17 v18 h18 v19 h19 => ?_
          obtain rfl : v0 = .agg #[.int .i64 s1, .slice A1 n1 c1] := h0
          obtain rfl : v1 = .agg #[.int .i64 s1, .int .i64 (bmv : Int)] := h1
          obtain rfl : v2 = .int .i64 ((bmv : Int)) := h2
          obtain rfl : v3 = .int .i64 ((d : Int)) := h3
          obtain rfl : v4 = .int .i64 z0 := h4
          obtain rfl : v5 = .int .i64 0 := h5
          obtain rfl : v6 = .bool false := h6
          obtain rfl : v7 = .bool false := h7
          obtain rfl : v8 = .int .i64 (((0 : Nat) : Int)) := h8
          obtain rfl : v9 = .bool true := h9
          obtain rfl : v10 = .bool true := h10
          obtain rfl : v11 = .slice (some ⟨bq, offq, none⟩) nm cm := h11
          obtain rfl : v12 = .int .i64 (((0 : Nat) : Int)) := h12
          obtain rfl : v13 = .pointer (some ⟨bq, offq + 0, none⟩) := h13
          obtain rfl : v14 = .int .i64 s1 := h14
          obtain rfl : v15 = .pointer (some ⟨bY, 0, none⟩) := h15
          obtain rfl : v16 = .int .i64 s1 := h16
          obtain rfl : v17 = .bool false := h17
          obtain rfl : v18 = .bool false := h18
          obtain rfl : v19 = .bool false := h19
          (try simp only [reg.Obs])
          (try simp only [Act.put, List.setIfInBounds_toArray, List.set_cons_zero, List.set_cons_succ])
          have B13 := Lib.hid hc.1
          have X13 := Lib.hid hc.2.1
          have Y13 := Lib.hid hc.2.2.1
          have W13 := Lib.hid hc.2.2.2.1
          have R13 := Lib.hid hc.2.2.2.2.1
          have Q13 := Lib.hid hc.2.2.2.2.2.1
          have P13 := Lib.hid hc.2.2.2.2.2.2.1
          have T13 := Lib.hid hc.2.2.2.2.2.2.2.1
          have M13 := Lib.hid hc.2.2.2.2.2.2.2.2.1
          clear hc B12 X12 Y12 W12 R12 Q12 P12 T12 M12
          clear hl hz0 hk64
          go_wp2_with fail
          go_roundw
          case rel => exact ⟨0 + 1, by go_num, by omega, B13.out, X13.out, Y13.out, W13.out, R13.out, Q13.out, P13.out, T13.out, M13.out⟩
          case measure => simp [intOf]; omega
        · have hi1 : ¬ (i : Int) = 0 := by omega
          go_upto_region 15 with fail
          refine reg.region_plain reg.Bel 154 [some [], some [(0, 87)], some [(1, 88)], some [], some [(2, 89), (3, 90)], some [(4, 91)], some [(5, 92)], some [(6, 93)], some [(7, 94)], some [(8, 95), (7, 94)], some [(9, 96), (7, 94)], some [(10, 97)], some [(10, 97)], some [(11, 98), (12, 99), (10, 97)], some [(13, 100), (10, 97)], some [(10, 97)], some [(15, 102), (10, 97)], some [(14, 101), (16, 103), (10, 97)], some [(10, 97), (17, 104), (7, 94)], some [(7, 94), (18, 105)]] [(0, 87), (1, 88), (2, 89), (3, 90), (4, 91), (5, 92), (6, 93), (7, 94), (8, 95), (9, 96), (10, 97), (11, 98), (12, 99), (13, 100), (14, 101), (15, 102), (16, 103), (17, 104), (18, 105), (19, 106)]
            (fun w' => Below w.heap.size w w' ∧ Bx 50 w' (bX) #[.int .i64 s, .slice A n c] ∧ Bx 50 w' (bY) #[.int .i64 s1, .slice A1 n1 c1] ∧ Bx 50 w' (bW) #[.int .i64 s1, .slice A3 n3 c3] ∧ RR rowNf w' lo hi (.slice A n c) xs ∧ RR ux.bytes w' lo2 hi2 (.slice Ab nb cb) zb ∧ RR rowNf w' wa2.heap.size wa3.heap.size (.slice A1 n1 c1) xs1 ∧ RR rowNf w' wa5.heap.size wa6.heap.size (.slice A3 n3 c3) xs1 ∧ Rd .i64 w' (wa9.heap.size) (wa10.heap.size) (some ⟨bq, offq, none⟩) nm cm (msn ⟨s1, xs1⟩) ∧ True)
            (reg.rl [reg.is (.agg #[.int .i64 s1, .slice A1 n1 c1]), reg.is (.agg #[.int .i64 s1, .int .i64 (bmv : Int)]), reg.is (.int .i64 ((bmv : Int))), reg.is (.int .i64 ((d : Int))), reg.is (.int .i64 z0), reg.is (.int .i64 0), reg.is (.bool false), reg.is (.bool false), reg.is (.int .i64 ((i : Int))), reg.is (.bool false), reg.is (.bool false), reg.is (undef), reg.is (undef), reg.is (undef), reg.is (undef), reg.is (undef), reg.is (undef), reg.is (undef), reg.is (.bool false), reg.is (.bool false)])
            (by kernel_rfl) (by kernel_rfl) rfl
            (fun w1 w2 hc hb => ⟨hc.1.trans (hb.mono hc.1.size), hc.2.1.below hb, hc.2.2.1.below hb, hc.2.2.2.1.below hb, hc.2.2.2.2.1.below hb, hc.2.2.2.2.2.1.below hb, hc.2.2.2.2.2.2.1.below hb, hc.2.2.2.2.2.2.2.1.below hb, hc.2.2.2.2.2.2.2.2.1.below hb, trivial⟩) (reg.rl_keep _) (⟨own.below_drew B12.out, X12.out.same rfl, Y12.out.same rfl, W12.out.same rfl, R12.out.same (Nat.le_refl _) (fun _ _ _ => rfl), Q12.out.same (Nat.le_refl _) (fun _ _ _ => rfl), P12.out.same (Nat.le_refl _) (fun _ _ _ => rfl), T12.out.same (Nat.le_refl _) (fun _ _ _ => rfl), own.rd_drew M12.out, trivial⟩) (by kernel_rfl) ⟨?_, ?_, ?_, ?_, ?_, ?_, ?_, ?_, ?_, ?_, ?_, ?_, ?_, ?_, ?_, ?_, ?_, ?_, ?_, ?_, trivial⟩ ?_
          · refine fun w8 hc  K hK => ?_
            (try simp only [Act.put, List.setIfInBounds_toArray, List.set_cons_zero, List.set_cons_succ])
            rw [if_pos (by rfl)]
            refine stw.wp_load_bx 50 _ rfl (bY) rfl 50 _ hc.2.2.1 Try.underlying50 rfl ux.szRob ?_
            exact hK _ _ rfl (Below.refl _ _)
          · refine fun w8 hc v0 h0 K hK => ?_
            obtain rfl : v0 = .agg #[.int .i64 s1, .slice A1 n1 c1] := h0
            (try simp only [Act.put, List.setIfInBounds_toArray, List.set_cons_zero, List.set_cons_succ])
            go_simp
            (with_reducible refine (implAck s1 xs1 _ _ A1 n1 c1 w8 hc.2.2.2.2.2.2.1).mono ?_)
            rintro e w3 hp
            obtain ⟨rfl, hb⟩ := ak_parts HAK.out hp
            exact hK _ _ rfl hb
          · refine fun w8 hc v1 h1 K hK => ?_
            obtain rfl : v1 = .agg #[.int .i64 s1, .int .i64 (bmv : Int)] := h1
            (try simp only [Act.put, List.setIfInBounds_toArray, List.set_cons_zero, List.set_cons_succ])
            go_simp
            exact hK (.int .i64 ((bmv : Int))) _ rfl (Below.refl _ _)
          · refine fun w8 hc  K hK => ?_
            (try simp only [Act.put, List.setIfInBounds_toArray, List.set_cons_zero, List.set_cons_succ])
            go_simp
            exact hK (.int .i64 ((d : Int))) _ rfl (Below.refl _ _)
          · refine fun w8 hc v2 h2 v3 h3 K hK => ?_
            obtain rfl : v2 = .int .i64 ((bmv : Int)) := h2
            obtain rfl : v3 = .int .i64 ((d : Int)) := h3
            (try simp only [Act.put, List.setIfInBounds_toArray, List.set_cons_zero, List.set_cons_succ])
            go_simp
            exact hK (.int .i64 z0) _ rfl (Below.refl _ _)
          · refine fun w8 hc v4 h4 K hK => ?_
            obtain rfl : v4 = .int .i64 z0 := h4
            (try simp only [Act.put, List.setIfInBounds_toArray, List.set_cons_zero, List.set_cons_succ])
            go_simp
            exact hK (.int .i64 0) _ rfl (Below.refl _ _)
          · refine fun w8 hc v5 h5 K hK => ?_
            obtain rfl : v5 = .int .i64 0 := h5
            (try simp only [Act.put, List.setIfInBounds_toArray, List.set_cons_zero, List.set_cons_succ])
            go_simp
            exact hK (.bool false) _ rfl (Below.refl _ _)
          · refine fun w8 hc v6 h6 K hK => ?_
            obtain rfl : v6 = .bool false := h6
            (try simp only [Act.put, List.setIfInBounds_toArray, List.set_cons_zero, List.set_cons_succ])
            go_simp
            exact hK (.bool false) _ rfl (Below.refl _ _)
          · refine fun w8 hc v7 h7 K hK => ?_
            obtain rfl : v7 = .bool false := h7
            (try simp only [Act.put, List.setIfInBounds_toArray, List.set_cons_zero, List.set_cons_succ])
            rw [if_pos (by rfl)]
            go_simp
            exact hK (.int .i64 ((i : Int))) _ rfl (Below.refl _ _)
          · refine fun w8 hc v8 h8 v7 h7 K hK => ?_
            obtain rfl : v8 = .int .i64 ((i : Int)) := h8
            obtain rfl : v7 = .bool false := h7
            (try simp only [Act.put, List.setIfInBounds_toArray, List.set_cons_zero, List.set_cons_succ])
            rw [if_pos (by rfl)]
            have z1 : ((i : Int) == 0) = false := by simp; omega
            have z2 : (i == 0) = false := by simp; omega
            go_simp
            exact hK (.bool false) _ rfl (Below.refl _ _)
          · refine fun w8 hc v9 h9 v7 h7 K hK => ?_
            obtain rfl : v9 = .bool false := h9
            obtain rfl : v7 = .bool false := h7
            (try simp only [Act.put, List.setIfInBounds_toArray, List.set_cons_zero, List.set_cons_succ])
            rw [if_pos (by rfl)]
            go_simp
            exact hK (.bool false) _ rfl (Below.refl _ _)
          · refine fun w8 hc v10 h10 K hK => ?_
            obtain rfl : v10 = .bool false := h10
            (try simp only [Act.put, List.setIfInBounds_toArray, List.set_cons_zero, List.set_cons_succ])
            rw [if_neg (by intro h; exact absurd (show false = true from h) (by decide))]
            exact hK undef _ rfl (Below.refl _ _)
          · refine fun w8 hc v10 h10 K hK => ?_
            obtain rfl : v10 = .bool false := h10
            (try simp only [Act.put, List.setIfInBounds_toArray, List.set_cons_zero, List.set_cons_succ])
            rw [if_neg (by intro h; exact absurd (show false = true from h) (by decide))]
            exact hK undef _ rfl (Below.refl _ _)
          · refine fun w8 hc v11 h11 v12 h12 v10 h10 K hK => ?_
            obtain rfl : v11 = undef := h11
            obtain rfl : v12 = undef := h12
            obtain rfl : v10 = .bool false := h10
            (try simp only [Act.put, List.setIfInBounds_toArray, List.set_cons_zero, List.set_cons_succ])
            rw [if_neg (by intro h; exact absurd (show false = true from h) (by decide))]
            exact hK undef _ rfl (Below.refl _ _)
          · refine fun w8 hc v13 h13 v10 h10 K hK => ?_
            obtain rfl : v13 = undef := h13
            obtain rfl : v10 = .bool false := h10
            (try simp only [Act.put, List.setIfInBounds_toArray, List.set_cons_zero, List.set_cons_succ])
            rw [if_neg (by intro h; exact absurd (show false = true from h) (by decide))]
            exact hK undef _ rfl (Below.refl _ _)
          · refine fun w8 hc v10 h10 K hK => ?_
            obtain rfl : v10 = .bool false := h10
            (try simp only [Act.put, List.setIfInBounds_toArray, List.set_cons_zero, List.set_cons_succ])
            rw [if_neg (by intro h; exact absurd (show false = true from h) (by decide))]
            exact hK undef _ rfl (Below.refl _ _)
          · refine fun w8 hc v15 h15 v10 h10 K hK => ?_
            obtain rfl : v15 = undef := h15
            obtain rfl : v10 = .bool false := h10
            (try simp only [Act.put, List.setIfInBounds_toArray, List.set_cons_zero, List.set_cons_succ])
            rw [if_neg (by intro h; exact absurd (show false = true from h) (by decide))]
            exact hK undef _ rfl (Below.refl _ _)
          · refine fun w8 hc v14 h14 v16 h16 v10 h10 K hK => ?_
            obtain rfl : v14 = undef := h14
            obtain rfl : v16 = undef := h16
            obtain rfl : v10 = .bool false := h10
            (try simp only [Act.put, List.setIfInBounds_toArray, List.set_cons_zero, List.set_cons_succ])
            rw [if_neg (by intro h; exact absurd (show false = true from h) (by decide))]
            exact hK undef _ rfl (Below.refl _ _)
          · refine fun w8 hc v10 h10 v17 h17 v7 h7 K hK => ?_
            obtain rfl : v10 = .bool false := h10
            obtain rfl : v17 = undef := h17
            obtain rfl : v7 = .bool false := h7
            (try simp only [Act.put, List.setIfInBounds_toArray, List.set_cons_zero, List.set_cons_succ])
            rw [if_pos (by rfl)]
            go_simp
            exact hK (.bool false) _ rfl (Below.refl _ _)
          · refine fun w8 hc v7 h7 v18 h18 K hK => ?_
            obtain rfl : v7 = .bool false := h7
            obtain rfl : v18 = .bool false := h18
            (try simp only [Act.put, List.setIfInBounds_toArray, List.set_cons_zero, List.set_cons_succ])
            go_simp
            exact hK (.bool false) _ rfl (Below.refl _ _)
          refine fun wg13 hc v0 h0 v1 h1 v2 h2 v3 h3 v4 h4 v5 h5 v6 h6 v7 h7 v8 h8 v9 h9 v10 h10 v11 h11 v12 h12 v13 h13 v14 h14 v15 h15 v16 h16 v17 h17 v18 h18 v19 h19 => ?_
          obtain rfl : v0 = .agg #[.int .i64 s1, .slice A1 n1 c1] := h0
          obtain rfl : v1 = .agg #[.int .i64 s1, .int .i64 (bmv : Int)] := h1
          obtain rfl : v2 = .int .i64 ((bmv : Int)) := h2
          obtain rfl : v3 = .int .i64 ((d : Int)) := h3
          obtain rfl : v4 = .int .i64 z0 := h4
          obtain rfl : v5 = .int .i64 0 := h5
          obtain rfl : v6 = .bool false := h6
          obtain rfl : v7 = .bool false := h7
          obtain rfl : v8 = .int .i64 ((i : Int)) := h8
          obtain rfl : v9 = .bool false := h9
          obtain rfl : v10 = .bool false := h10
          obtain rfl : v11 = undef := h11
          obtain rfl : v12 = undef := h12
          obtain rfl : v13 = undef := h13
          obtain rfl : v14 = undef := h14
          obtain rfl : v15 = undef := h15
          obtain rfl : v16 = undef := h16
          obtain rfl : v17 = undef := h17
          obtain rfl : v18 = .bool false := h18
          obtain rfl : v19 = .bool false := h19
          (try simp only [reg.Obs])
          (try simp only [Act.put, List.setIfInBounds_toArray, List.set_cons_zero, List.set_cons_succ])
          have B13 := Lib.hid hc.1
          have X13 := Lib.hid hc.2.1
          have Y13 := Lib.hid hc.2.2.1
          have W13 := Lib.hid hc.2.2.2.1
          have R13 := Lib.hid hc.2.2.2.2.1
          have Q13 := Lib.hid hc.2.2.2.2.2.1
          have P13 := Lib.hid hc.2.2.2.2.2.2.1
          have T13 := Lib.hid hc.2.2.2.2.2.2.2.1
          have M13 := Lib.hid hc.2.2.2.2.2.2.2.2.1
          clear hc B12 X12 Y12 W12 R12 Q12 P12 T12 M12
          clear hl hz0 hk64
          go_wp2_with fail
          go_roundw
          case rel => exact ⟨i + 1, by go_num, by omega, B13.out, X13.out, Y13.out, W13.out, R13.out, Q13.out, P13.out, T13.out, M13.out⟩
          case measure => simp [intOf]; omega
      · have hlt2 : ¬ (i : Int) < nm := by omega
        obtain ⟨q0, hq0⟩ : ∃ y, (s + 16) % 4096 = y := ⟨_, rfl⟩
        obtain ⟨⟨⟨t9, xs9⟩, l9⟩, hmv⟩ : ∃ x, mvs ⟨s, xs⟩ q0 = x := ⟨_, rfl⟩
        have hal := mvs_all HV.out
        dsimp only at hal
        rw [hq0, hmv] at hal
        dsimp only at hal
        have HAL := Lib.hid hal
        have HMV := Lib.hid hmv
        have HQ0 := Lib.hid hq0
        have HSB := Lib.hid (show 0 ≤ s ∧ s ≤ 4095 from HSR.out.2.2)
        clear hal hmv hq0
        obtain rfl : i = nm := by omega
        clear hlt hi9
        go_upto_region 17 with fail
        clear hlt2 hcm
        obtain ⟨H7, hH7⟩ : ∃ h, wr.heap.size = h := ⟨_, rfl⟩
        have HH7 := Lib.hid (show bX < H7 ∧ bY < H7 ∧ hi ≤ H7 ∧ wa3.heap.size ≤ H7 ∧ w.heap.size ≤ H7 by have h1 := X11.out.lt; have h2 := Y11.out.lt; have h3 := R11.out.hi_; have h4 := P11.out.hi_; have h5 := B11.out.size; omega)
        refine reg.region_tailY (Ve7 H7) (fun _ _ => True) 11 154 [(10, 13)] [some [], some [], some [(1, 109)], some [(2, 110)], some [(3, 111)], some [(0, 108), (4, 112)], some [(5, 113)], some [(6, 107)], some [(6, 107)], some [], some [(9, 13), (7, 114)], none] [(0, 108), (1, 109), (2, 110), (3, 111), (4, 112), (5, 113), (6, 107), (7, 114), (8, 115), (9, 13)]
          (fun w' => (Below w.heap.size w w' ∧ H7 ≤ w'.heap.size) ∧ Bx 50 w' bX #[.int .i64 s, .slice A n c] ∧ Bx 50 w' bY #[.int .i64 s1, .slice A1 n1 c1] ∧ RR rowNf w' lo hi (.slice A n c) xs ∧ RR rowNf w' wa2.heap.size wa3.heap.size (.slice A1 n1 c1) xs1)
          (Vr7 H7 n t9 [(0, .agg #[.int .i64 s, .slice A n c]), (1, .pointer (some ⟨bX, 0, none⟩)), (2, .int .i64 s), (3, .int .i64 ((s + 16))), (4, .int .i64 q0)])
          (by kernel_rfl) rfl (by kernel_rfl) (by kernel_rfl) rfl
          (fun i w1 w2 hc he => by unfold Ve7 at he; by_cases i9 : i = 10; (rw [if_pos i9] at he; obtain ⟨q, cs, hq, _, hp⟩ := he; exact ⟨⟨hp.on hc.1.1 (by have := HH7.out; omega), by have h1 := hc.1.2; have h2 := hp.below.size; omega⟩, hp.keep hc.2.1 (by have := HH7.out; omega), hp.keep hc.2.2.1 (by have := HH7.out; omega), hc.2.2.2.1.same hp.below.size fun b h1 h2 => hp.other b (by have := HH7.out; omega), hc.2.2.2.2.same hp.below.size fun b h1 h2 => hp.other b (by have := HH7.out; omega)⟩); (rw [if_neg i9] at he; exact ⟨⟨hc.1.1.trans (he.mono hc.1.1.size), by have h1 := hc.1.2; have h2 := he.size; omega⟩, hc.2.1.below he, hc.2.2.1.below he, hc.2.2.2.1.below he, hc.2.2.2.2.below he⟩))
          v7_keep (fun _ _ _ _ _ _ _ _ => trivial) ⟨⟨own.below_drew B11.out, (by rw [← hH7]; exact Nat.le_refl _)⟩, X11.out.same rfl, Y11.out.same rfl, R11.out.same (Nat.le_refl _) (fun _ _ _ => rfl), P11.out.same (Nat.le_refl _) fun _ _ _ => rfl⟩ (fun _ => trivial) (by kernel_rfl) ⟨?_, ?_, ?_, ?_, ?_, ?_, ?_, ?_, ?_, ?_, ?_, trivial⟩ ?_
        · refine fun w8 hc hu  K hK => ?_
          (try simp only [Act.put, List.setIfInBounds_toArray, List.set_cons_zero, List.set_cons_succ])
          rw [if_pos (by rfl)]
          refine stw.wp_load_bx 50 _ rfl (bX) rfl 50 _ hc.2.1 Try.underlying50 rfl ux.szRob ?_
          exact hK _ _ rfl (Below.refl _ _)
        · refine fun w8 hc hu  K hK => ?_
          (try simp only [Act.put, List.setIfInBounds_toArray, List.set_cons_zero, List.set_cons_succ])
          go_simp
          exact hK (.pointer (some ⟨bX, 0, none⟩)) _ rfl (Below.refl _ _)
        · refine fun w8 hc hu v1 h1 K hK => ?_
          obtain rfl : v1 = .pointer (some ⟨bX, 0, none⟩) := h1
          (try simp only [Act.put, List.setIfInBounds_toArray, List.set_cons_zero, List.set_cons_succ])
          have c0 : w8.cell? ⟨bX, 0, none⟩ = some (.int .i64 s) := hc.2.1.cell 0
          go_simp
          exact hK (.int .i64 s) _ rfl (Below.refl _ _)
        · refine fun w8 hc hu v2 h2 K hK => ?_
          obtain rfl : v2 = .int .i64 s := h2
          (try simp only [Act.put, List.setIfInBounds_toArray, List.set_cons_zero, List.set_cons_succ])
          have hs1 := HSB.out
          have m1 : IntKind.i64.wrap (s + 16) = s + 16 := IntWalk.i64_in _ (by omega)
          go_simp
          (try simp only [m1])
          exact hK (.int .i64 (s + 16)) _ rfl (Below.refl _ _)
        · refine fun w8 hc hu v3 h3 K hK => ?_
          obtain rfl : v3 = .int .i64 ((s + 16)) := h3
          (try simp only [Act.put, List.setIfInBounds_toArray, List.set_cons_zero, List.set_cons_succ])
          have hs1 := HSB.out
          go_simp
          (with_reducible refine (hsh.specMod (s + 16) 4096 (by omega) _).mono ?_)
          rintro e w3 ⟨rfl, rfl⟩
          rw [HQ0.out]
          exact hK (.int .i64 q0) _ rfl (Below.refl _ _)
        · refine fun w8 hc hu v0 h0 v4 h4 K hK => ?_
          obtain rfl : v0 = .agg #[.int .i64 s, .slice A n c] := h0
          obtain rfl : v4 = .int .i64 q0 := h4
          (try simp only [Act.put, List.setIfInBounds_toArray, List.set_cons_zero, List.set_cons_succ])
          go_simp
          (with_reducible refine (implMv s xs lo hi A n c q0 _ hc.2.2.2.1 (by have := HB4.out.2.1.1; omega) (fun x hx => by have := HB4.out.2.1.2 x hx; omega)).mono ?_)
          rintro e w3 hp
          rw [HMV.out] at hp
          obtain ⟨A5, n5, c5, f5, A6, n6, c6, f6, rfl, ho, ho2, _, hb⟩ := r2_parts hp
          have e1 := (nf_len ho.rd).1
          have e2 := (rb_len ho2.rd).1
          dsimp only at e1 e2
          have e3 := HAL.out
          rw [e3.2.1] at e1
          rw [e3.1, HLR.out.1] at e2
          have e4 : n5 = 0 := by simpa using e1.symm
          subst e4 e2
          exact hK _ _ ⟨A5, c5, A6, c6, rfl⟩ hb
        · refine fun w8 hc hu v5 h5 K hK => ?_
          obtain ⟨A5, c5, A6, c6, rfl⟩ : ∃ (A : Option Addr) (c : Nat) (A2 : Option Addr) (c2 : Nat), v5 = .tuple #[.agg #[.int .i64 t9, .slice A 0 c], .slice A2 n c2] := h5
          (try simp only [Act.put, List.setIfInBounds_toArray, List.set_cons_zero, List.set_cons_succ])
          go_simp
          exact hK _ _ ⟨A5, c5, A6, c6, rfl⟩ (Below.refl _ _)
        · refine fun w8 hc hu v6 h6 K hK => ?_
          obtain ⟨A5, c5, A6, c6, rfl⟩ : ∃ (A : Option Addr) (c : Nat) (A2 : Option Addr) (c2 : Nat), v6 = .tuple #[.agg #[.int .i64 t9, .slice A 0 c], .slice A2 n c2] := h6
          (try simp only [Act.put, List.setIfInBounds_toArray, List.set_cons_zero, List.set_cons_succ])
          go_simp
          exact hK _ _ ⟨A5, c5, rfl⟩ (Below.refl _ _)
        · refine fun w8 hc hu v6 h6 K hK => ?_
          obtain ⟨A5, c5, A6, c6, rfl⟩ : ∃ (A : Option Addr) (c : Nat) (A2 : Option Addr) (c2 : Nat), v6 = .tuple #[.agg #[.int .i64 t9, .slice A 0 c], .slice A2 n c2] := h6
          (try simp only [Act.put, List.setIfInBounds_toArray, List.set_cons_zero, List.set_cons_succ])
          go_simp
          exact hK _ _ ⟨A6, c6, rfl⟩ (Below.refl _ _)
        · refine fun w8 hc hu  K hK => ?_
          (try simp only [Act.put, List.setIfInBounds_toArray, List.set_cons_zero, List.set_cons_succ])
          have hql := hc.1.2
          go_simp
          exact hK (.pointer (some ⟨w8.heap.size, 0, none⟩)) _ ⟨w8.heap.size, #[.int .i64 0, .slice none 0 0], rfl, hql, rfl, Bx.made _ w8 _⟩ (bx.below_box _ _)
        · refine fun w8 hc hu v9 h9 v7 h7 K hK => ?_
          obtain ⟨qv, cs9, rfl, hqv, hcs, hX9⟩ : ∃ (q : Nat) (cs : Array Value), v9 = .pointer (some ⟨q, 0, none⟩) ∧ H7 ≤ q ∧ cs.size = 2 ∧ Bx 50 w8 q cs := h9
          obtain ⟨A7, c7, rfl⟩ : ∃ (A : Option Addr) (c : Nat), v7 = .agg #[.int .i64 t9, .slice A 0 c] := h7
          (try simp only [Act.put, List.setIfInBounds_toArray, List.set_cons_zero, List.set_cons_succ])
          refine stw.step_store rfl 50 _ _ rfl (qv) #[.int .i64 t9, .slice A7 0 c7] rfl rfl 50 _ hX9 (by rw [hcs]; rfl) ux.szRob (ux.oneRob _ _ _ _) ?_
          intro wz hz
          exact hK undef _ ⟨qv, A7, c7, rfl, hqv, hz.box⟩ ⟨qv, _, hqv, rfl, hz⟩
        refine fun wx9 hc v0 h0 v1 h1 v2 h2 v3 h3 v4 h4 v5 h5 v6 h6 v7 h7 v8 h8 v9 h9 => ?_
        obtain rfl : v0 = .agg #[.int .i64 s, .slice A n c] := h0
        obtain rfl : v1 = .pointer (some ⟨bX, 0, none⟩) := h1
        obtain rfl : v2 = .int .i64 s := h2
        obtain rfl : v3 = .int .i64 ((s + 16)) := h3
        obtain rfl : v4 = .int .i64 q0 := h4
        obtain ⟨A5, c5, A6, c6, rfl⟩ : ∃ (A : Option Addr) (c : Nat) (A2 : Option Addr) (c2 : Nat), v5 = .tuple #[.agg #[.int .i64 t9, .slice A 0 c], .slice A2 n c2] := h5
        obtain ⟨A5, c5, A6, c6, rfl⟩ : ∃ (A : Option Addr) (c : Nat) (A2 : Option Addr) (c2 : Nat), v6 = .tuple #[.agg #[.int .i64 t9, .slice A 0 c], .slice A2 n c2] := h6
        obtain ⟨A7, c7, rfl⟩ : ∃ (A : Option Addr) (c : Nat), v7 = .agg #[.int .i64 t9, .slice A 0 c] := h7
        obtain ⟨A8, c8, rfl⟩ : ∃ (A2 : Option Addr) (c2 : Nat), v8 = .slice A2 n c2 := h8
        obtain ⟨qv, cs9, rfl, hqv, hcs, hX9⟩ : ∃ (q : Nat) (cs : Array Value), v9 = .pointer (some ⟨q, 0, none⟩) ∧ H7 ≤ q ∧ cs.size = 2 ∧ Bx 50 wx9 q cs := h9
        (try simp only [reg.Obs])
        intro hrf
        have g10 := hrf (10, 13) (by simp) rfl
        clear hrf
        (try simp only [Act.put, List.setIfInBounds_toArray, List.set_cons_zero, List.set_cons_succ])
        simp only [List.drop_succ_cons, List.drop_zero]
        simp only [Act.put, List.setIfInBounds_toArray, List.set_cons_zero, List.set_cons_succ] at g10
        obtain ⟨qw, A9, c9, eqw, hqw, hV⟩ : ∃ (q : Nat) (A : Option Addr) (c : Nat), Value.pointer (some ⟨qv, 0, none⟩) = .pointer (some ⟨q, 0, none⟩) ∧ H7 ≤ q ∧ Bx 50 wx9 q #[.int .i64 t9, .slice A 0 c] := g10
        obtain rfl : qv = qw := by injection eqw with e1; injection e1 with e1; injection e1
        have B12 := Lib.hid hc.1.1
        have X12 := Lib.hid hc.2.1
        have Y12 := Lib.hid hc.2.2.1
        have R12 := Lib.hid hc.2.2.2.1
        have P12 := Lib.hid hc.2.2.2.2
        have V12 := Lib.hid hV
        clear hc hV hX9 hcs eqw hqw B11 X11 Y11 R11 P11
        obtain ⟨bmv, hbm⟩ : ∃ x, bm s1 xs1 = x := ⟨_, rfl⟩
        have HAK := Lib.hid (show ack ⟨s1, xs1⟩ = (s1, (bmv : Int)) by unfold ack; rw [HVX.out, if_pos rfl, ← hbm])
        clear hbm
        have HEM := Lib.hid (show (n1 = 0 ∧ i = 0) ∨ (n1 ≠ 0 ∧ i ≠ 0) by have h1 := HLM.out; have h2 := HNA1.out.1; rcases msn_head HVX.out with ⟨h3, h4⟩ | ⟨h3, l, h4⟩; (left; rw [h4] at h1; dsimp only at h3; rw [h3] at h2; exact ⟨by simpa using h2.symm, by simpa using h1.symm⟩); (right; rw [h4] at h1; refine ⟨fun h => h3 (List.eq_nil_of_length_eq_zero (by rw [h2]; exact h)), fun h => by rw [h] at h1; simp at h1⟩))
        go_upto_region 18 with fail
        rcases HEM.out with ⟨h1, h2⟩ | ⟨h1, h2⟩
        · subst h1 h2
          refine reg.region_plain reg.Bel 154 [some [], some [(0, 116)], some [], some [(2, 118)], some [(3, 119)], some [(1, 117), (4, 120)], some [(5, 121)], some [(6, 122)], some [(7, 123), (6, 122)], some [(8, 124), (6, 122)], some [(9, 125), (6, 122)], some [(6, 122), (10, 126)], some [(11, 127)], some [(12, 128)], some [(13, 129), (12, 128)], some [(12, 128)], some [(15, 131), (12, 128)], some [(14, 130), (16, 132), (12, 128)], some [(17, 133), (12, 128)], some [(12, 128), (18, 134)], some [(19, 135)], some [(20, 136)], some [(21, 137), (20, 136)], some [(22, 138), (20, 136)], some [(20, 136)], some [(24, 140), (20, 136)], some [(23, 139), (25, 141), (20, 136)], some [(20, 136), (26, 142)], some [(27, 143)], some [(28, 144)], some [(29, 145), (28, 144)], some [(30, 146), (28, 144)], some [(31, 147), (28, 144)], some [(28, 144)], some [(33, 149), (28, 144)], some [(34, 150), (28, 144)], some [(32, 148), (35, 151), (28, 144)], some [(28, 144), (36, 152)], some [(37, 153)]] [(0, 116), (1, 117), (2, 118), (3, 119), (4, 120), (5, 121), (6, 122), (7, 123), (8, 124), (9, 125), (10, 126), (11, 127), (12, 128), (13, 129), (14, 130), (15, 131), (16, 132), (17, 133), (18, 134), (19, 135), (20, 136), (21, 137), (22, 138), (23, 139), (24, 140), (25, 141), (26, 142), (27, 143), (28, 144), (29, 145), (30, 146), (31, 147), (32, 148), (33, 149), (34, 150), (35, 151), (36, 152), (37, 153), (38, 2)]
            (fun w' => Below w.heap.size w w' ∧ Bx 50 w' (bX) #[.int .i64 s, .slice A n c] ∧ Bx 50 w' (bY) #[.int .i64 s1, .slice A1 0 c1] ∧ Bx 50 w' (qv) #[.int .i64 t9, .slice A9 0 c9] ∧ RR rowNf w' lo hi (.slice A n c) xs ∧ RR rowNf w' wa2.heap.size wa3.heap.size (.slice A1 0 c1) xs1 ∧ True)
            (reg.rl [reg.is (.slice A8 n c8), reg.is (.int .i64 ((n : Int))), reg.is (.pointer (some ⟨bX, 1, none⟩)), reg.is (.slice A n c), reg.is (.int .i64 ((n : Int))), reg.is (.bool true), reg.is (.bool true), reg.is (.pointer (some ⟨qv, 1, none⟩)), reg.is (.slice A9 0 c9), reg.is (.int .i64 0), reg.is (.bool true), reg.is (.bool true), reg.is (.bool true), reg.is (.pointer (some ⟨bX, 0, none⟩)), reg.is (.int .i64 s), reg.is (.pointer (some ⟨qv, 0, none⟩)), reg.is (.int .i64 t9), reg.is (.int .i64 16), reg.is (.bool true), reg.is (.bool true), reg.is (.bool true), reg.is (.agg #[.int .i64 s1, .slice A1 0 c1]), reg.is (.agg #[.int .i64 s1, .int .i64 (bmv : Int)]), reg.is (.int .i64 s1), reg.is (.pointer (some ⟨bY, 0, none⟩)), reg.is (.int .i64 s1), reg.is (.bool true), reg.is (.bool true), reg.is (.bool true), reg.is (.pointer (some ⟨bY, 1, none⟩)), reg.is (.slice A1 0 c1), reg.is (.int .i64 (((0 : Nat) : Int))), reg.is (.bool true), reg.is (.slice Am 0 cm), reg.is (.int .i64 (((0 : Nat) : Int))), reg.is (.bool true), reg.is (.bool true), reg.is (.bool true), reg.is (.bool true)])
            (by kernel_rfl) (by kernel_rfl) rfl
            (fun w1 w2 hc hb => ⟨hc.1.trans (hb.mono hc.1.size), hc.2.1.below hb, hc.2.2.1.below hb, hc.2.2.2.1.below hb, hc.2.2.2.2.1.below hb, hc.2.2.2.2.2.1.below hb, trivial⟩) (reg.rl_keep _) (⟨own.below_drew B12.out, X12.out.same rfl, Y12.out.same rfl, V12.out.same rfl, R12.out.same (Nat.le_refl _) (fun _ _ _ => rfl), P12.out.same (Nat.le_refl _) (fun _ _ _ => rfl), trivial⟩) (by kernel_rfl) ⟨?_, ?_, ?_, ?_, ?_, ?_, ?_, ?_, ?_, ?_, ?_, ?_, ?_, ?_, ?_, ?_, ?_, ?_, ?_, ?_, ?_, ?_, ?_, ?_, ?_, ?_, ?_, ?_, ?_, ?_, ?_, ?_, ?_, ?_, ?_, ?_, ?_, ?_, ?_, trivial⟩ ?_
          · refine fun w8 hc  K hK => ?_
            (try simp only [Act.put, List.setIfInBounds_toArray, List.set_cons_zero, List.set_cons_succ])
            go_simp
            exact hK (.slice A8 n c8) _ rfl (Below.refl _ _)
          · refine fun w8 hc v0 h0 K hK => ?_
            obtain rfl : v0 = .slice A8 n c8 := h0
            (try simp only [Act.put, List.setIfInBounds_toArray, List.set_cons_zero, List.set_cons_succ])
            go_simp
            exact hK (.int .i64 ((n : Int))) _ rfl (Below.refl _ _)
          · refine fun w8 hc  K hK => ?_
            (try simp only [Act.put, List.setIfInBounds_toArray, List.set_cons_zero, List.set_cons_succ])
            go_simp
            exact hK (.pointer (some ⟨bX, 1, none⟩)) _ rfl (Below.refl _ _)
          · refine fun w8 hc v2 h2 K hK => ?_
            obtain rfl : v2 = .pointer (some ⟨bX, 1, none⟩) := h2
            (try simp only [Act.put, List.setIfInBounds_toArray, List.set_cons_zero, List.set_cons_succ])
            have c0 : w8.cell? ⟨bX, 1, none⟩ = some (.slice A n c) := hc.2.1.cell 1
            go_simp
            exact hK (.slice A n c) _ rfl (Below.refl _ _)
          · refine fun w8 hc v3 h3 K hK => ?_
            obtain rfl : v3 = .slice A n c := h3
            (try simp only [Act.put, List.setIfInBounds_toArray, List.set_cons_zero, List.set_cons_succ])
            go_simp
            exact hK (.int .i64 ((n : Int))) _ rfl (Below.refl _ _)
          · refine fun w8 hc v1 h1 v4 h4 K hK => ?_
            obtain rfl : v1 = .int .i64 ((n : Int)) := h1
            obtain rfl : v4 = .int .i64 ((n : Int)) := h4
            (try simp only [Act.put, List.setIfInBounds_toArray, List.set_cons_zero, List.set_cons_succ])
            go_simp
            exact hK (.bool true) _ rfl (Below.refl _ _)
          · refine fun w8 hc v5 h5 K hK => ?_
            obtain rfl : v5 = .bool true := h5
            (try simp only [Act.put, List.setIfInBounds_toArray, List.set_cons_zero, List.set_cons_succ])
            go_simp
            exact hK (.bool true) _ rfl (Below.refl _ _)
          · refine fun w8 hc v6 h6 K hK => ?_
            obtain rfl : v6 = .bool true := h6
            (try simp only [Act.put, List.setIfInBounds_toArray, List.set_cons_zero, List.set_cons_succ])
            rw [if_pos (by rfl)]
            go_simp
            exact hK (.pointer (some ⟨qv, 1, none⟩)) _ rfl (Below.refl _ _)
          · refine fun w8 hc v7 h7 v6 h6 K hK => ?_
            obtain rfl : v7 = .pointer (some ⟨qv, 1, none⟩) := h7
            obtain rfl : v6 = .bool true := h6
            (try simp only [Act.put, List.setIfInBounds_toArray, List.set_cons_zero, List.set_cons_succ])
            rw [if_pos (by rfl)]
            have c0 : w8.cell? ⟨qv, 1, none⟩ = some (.slice A9 0 c9) := hc.2.2.2.1.cell 1
            go_simp
            exact hK (.slice A9 0 c9) _ rfl (Below.refl _ _)
          · refine fun w8 hc v8 h8 v6 h6 K hK => ?_
            obtain rfl : v8 = .slice A9 0 c9 := h8
            obtain rfl : v6 = .bool true := h6
            (try simp only [Act.put, List.setIfInBounds_toArray, List.set_cons_zero, List.set_cons_succ])
            rw [if_pos (by rfl)]
            go_simp
            exact hK (.int .i64 0) _ rfl (Below.refl _ _)
          · refine fun w8 hc v9 h9 v6 h6 K hK => ?_
            obtain rfl : v9 = .int .i64 0 := h9
            obtain rfl : v6 = .bool true := h6
            (try simp only [Act.put, List.setIfInBounds_toArray, List.set_cons_zero, List.set_cons_succ])
            rw [if_pos (by rfl)]
            go_simp
            exact hK (.bool true) _ rfl (Below.refl _ _)
          · refine fun w8 hc v6 h6 v10 h10 K hK => ?_
            obtain rfl : v6 = .bool true := h6
            obtain rfl : v10 = .bool true := h10
            (try simp only [Act.put, List.setIfInBounds_toArray, List.set_cons_zero, List.set_cons_succ])
            go_simp
            exact hK (.bool true) _ rfl (Below.refl _ _)
          · refine fun w8 hc v11 h11 K hK => ?_
            obtain rfl : v11 = .bool true := h11
            (try simp only [Act.put, List.setIfInBounds_toArray, List.set_cons_zero, List.set_cons_succ])
            go_simp
            exact hK (.bool true) _ rfl (Below.refl _ _)
          · refine fun w8 hc v12 h12 K hK => ?_
            obtain rfl : v12 = .bool true := h12
            (try simp only [Act.put, List.setIfInBounds_toArray, List.set_cons_zero, List.set_cons_succ])
            rw [if_pos (by rfl)]
            go_simp
            exact hK (.pointer (some ⟨bX, 0, none⟩)) _ rfl (Below.refl _ _)
          · refine fun w8 hc v13 h13 v12 h12 K hK => ?_
            obtain rfl : v13 = .pointer (some ⟨bX, 0, none⟩) := h13
            obtain rfl : v12 = .bool true := h12
            (try simp only [Act.put, List.setIfInBounds_toArray, List.set_cons_zero, List.set_cons_succ])
            rw [if_pos (by rfl)]
            have c0 : w8.cell? ⟨bX, 0, none⟩ = some (.int .i64 s) := hc.2.1.cell 0
            go_simp
            exact hK (.int .i64 s) _ rfl (Below.refl _ _)
          · refine fun w8 hc v12 h12 K hK => ?_
            obtain rfl : v12 = .bool true := h12
            (try simp only [Act.put, List.setIfInBounds_toArray, List.set_cons_zero, List.set_cons_succ])
            rw [if_pos (by rfl)]
            go_simp
            exact hK (.pointer (some ⟨qv, 0, none⟩)) _ rfl (Below.refl _ _)
          · refine fun w8 hc v15 h15 v12 h12 K hK => ?_
            obtain rfl : v15 = .pointer (some ⟨qv, 0, none⟩) := h15
            obtain rfl : v12 = .bool true := h12
            (try simp only [Act.put, List.setIfInBounds_toArray, List.set_cons_zero, List.set_cons_succ])
            rw [if_pos (by rfl)]
            have c0 : w8.cell? ⟨qv, 0, none⟩ = some (.int .i64 t9) := hc.2.2.2.1.cell 0
            go_simp
            exact hK (.int .i64 t9) _ rfl (Below.refl _ _)
          · refine fun w8 hc v14 h14 v16 h16 v12 h12 K hK => ?_
            obtain rfl : v14 = .int .i64 s := h14
            obtain rfl : v16 = .int .i64 t9 := h16
            obtain rfl : v12 = .bool true := h12
            (try simp only [Act.put, List.setIfInBounds_toArray, List.set_cons_zero, List.set_cons_succ])
            rw [if_pos (by rfl)]
            go_simp
            (with_reducible refine (bs.specSd s t9 _).mono ?_)
            rw [show bs.sqd s t9 = 16 from HAL.out.2.2]
            rintro e w3 ⟨rfl, rfl⟩
            exact hK (.int .i64 16) _ rfl (Below.refl _ _)
          · refine fun w8 hc v17 h17 v12 h12 K hK => ?_
            obtain rfl : v17 = .int .i64 16 := h17
            obtain rfl : v12 = .bool true := h12
            (try simp only [Act.put, List.setIfInBounds_toArray, List.set_cons_zero, List.set_cons_succ])
            rw [if_pos (by rfl)]
            go_simp
            exact hK (.bool true) _ rfl (Below.refl _ _)
          · refine fun w8 hc v12 h12 v18 h18 K hK => ?_
            obtain rfl : v12 = .bool true := h12
            obtain rfl : v18 = .bool true := h18
            (try simp only [Act.put, List.setIfInBounds_toArray, List.set_cons_zero, List.set_cons_succ])
            go_simp
            exact hK (.bool true) _ rfl (Below.refl _ _)
          · refine fun w8 hc v19 h19 K hK => ?_
            obtain rfl : v19 = .bool true := h19
            (try simp only [Act.put, List.setIfInBounds_toArray, List.set_cons_zero, List.set_cons_succ])
            go_simp
            exact hK (.bool true) _ rfl (Below.refl _ _)
          · refine fun w8 hc v20 h20 K hK => ?_
            obtain rfl : v20 = .bool true := h20
            (try simp only [Act.put, List.setIfInBounds_toArray, List.set_cons_zero, List.set_cons_succ])
            rw [if_pos (by rfl)]
            refine stw.wp_load_bx 50 _ rfl (bY) rfl 50 _ hc.2.2.1 Try.underlying50 rfl ux.szRob ?_
            exact hK _ _ rfl (Below.refl _ _)
          · refine fun w8 hc v21 h21 v20 h20 K hK => ?_
            obtain rfl : v21 = .agg #[.int .i64 s1, .slice A1 0 c1] := h21
            obtain rfl : v20 = .bool true := h20
            (try simp only [Act.put, List.setIfInBounds_toArray, List.set_cons_zero, List.set_cons_succ])
            rw [if_pos (by rfl)]
            go_simp
            (with_reducible refine (implAck s1 xs1 _ _ A1 0 c1 w8 hc.2.2.2.2.2.1).mono ?_)
            rintro e w3 hp
            obtain ⟨rfl, hb⟩ := ak_parts HAK.out hp
            exact hK _ _ rfl hb
          · refine fun w8 hc v22 h22 v20 h20 K hK => ?_
            obtain rfl : v22 = .agg #[.int .i64 s1, .int .i64 (bmv : Int)] := h22
            obtain rfl : v20 = .bool true := h20
            (try simp only [Act.put, List.setIfInBounds_toArray, List.set_cons_zero, List.set_cons_succ])
            rw [if_pos (by rfl)]
            go_simp
            exact hK (.int .i64 s1) _ rfl (Below.refl _ _)
          · refine fun w8 hc v20 h20 K hK => ?_
            obtain rfl : v20 = .bool true := h20
            (try simp only [Act.put, List.setIfInBounds_toArray, List.set_cons_zero, List.set_cons_succ])
            rw [if_pos (by rfl)]
            go_simp
            exact hK (.pointer (some ⟨bY, 0, none⟩)) _ rfl (Below.refl _ _)
          · refine fun w8 hc v24 h24 v20 h20 K hK => ?_
            obtain rfl : v24 = .pointer (some ⟨bY, 0, none⟩) := h24
            obtain rfl : v20 = .bool true := h20
            (try simp only [Act.put, List.setIfInBounds_toArray, List.set_cons_zero, List.set_cons_succ])
            rw [if_pos (by rfl)]
            have c0 : w8.cell? ⟨bY, 0, none⟩ = some (.int .i64 s1) := hc.2.2.1.cell 0
            go_simp
            exact hK (.int .i64 s1) _ rfl (Below.refl _ _)
          · refine fun w8 hc v23 h23 v25 h25 v20 h20 K hK => ?_
            obtain rfl : v23 = .int .i64 s1 := h23
            obtain rfl : v25 = .int .i64 s1 := h25
            obtain rfl : v20 = .bool true := h20
            (try simp only [Act.put, List.setIfInBounds_toArray, List.set_cons_zero, List.set_cons_succ])
            rw [if_pos (by rfl)]
            go_simp
            exact hK (.bool true) _ rfl (Below.refl _ _)
          · refine fun w8 hc v20 h20 v26 h26 K hK => ?_
            obtain rfl : v20 = .bool true := h20
            obtain rfl : v26 = .bool true := h26
            (try simp only [Act.put, List.setIfInBounds_toArray, List.set_cons_zero, List.set_cons_succ])
            go_simp
            exact hK (.bool true) _ rfl (Below.refl _ _)
          · refine fun w8 hc v27 h27 K hK => ?_
            obtain rfl : v27 = .bool true := h27
            (try simp only [Act.put, List.setIfInBounds_toArray, List.set_cons_zero, List.set_cons_succ])
            go_simp
            exact hK (.bool true) _ rfl (Below.refl _ _)
          · refine fun w8 hc v28 h28 K hK => ?_
            obtain rfl : v28 = .bool true := h28
            (try simp only [Act.put, List.setIfInBounds_toArray, List.set_cons_zero, List.set_cons_succ])
            rw [if_pos (by rfl)]
            go_simp
            exact hK (.pointer (some ⟨bY, 1, none⟩)) _ rfl (Below.refl _ _)
          · refine fun w8 hc v29 h29 v28 h28 K hK => ?_
            obtain rfl : v29 = .pointer (some ⟨bY, 1, none⟩) := h29
            obtain rfl : v28 = .bool true := h28
            (try simp only [Act.put, List.setIfInBounds_toArray, List.set_cons_zero, List.set_cons_succ])
            rw [if_pos (by rfl)]
            have c0 : w8.cell? ⟨bY, 1, none⟩ = some (.slice A1 0 c1) := hc.2.2.1.cell 1
            go_simp
            exact hK (.slice A1 0 c1) _ rfl (Below.refl _ _)
          · refine fun w8 hc v30 h30 v28 h28 K hK => ?_
            obtain rfl : v30 = .slice A1 0 c1 := h30
            obtain rfl : v28 = .bool true := h28
            (try simp only [Act.put, List.setIfInBounds_toArray, List.set_cons_zero, List.set_cons_succ])
            rw [if_pos (by rfl)]
            go_simp
            exact hK (.int .i64 (((0 : Nat) : Int))) _ rfl (Below.refl _ _)
          · refine fun w8 hc v31 h31 v28 h28 K hK => ?_
            obtain rfl : v31 = .int .i64 (((0 : Nat) : Int)) := h31
            obtain rfl : v28 = .bool true := h28
            (try simp only [Act.put, List.setIfInBounds_toArray, List.set_cons_zero, List.set_cons_succ])
            rw [if_pos (by rfl)]
            go_simp
            exact hK (.bool true) _ rfl (Below.refl _ _)
          · refine fun w8 hc v28 h28 K hK => ?_
            obtain rfl : v28 = .bool true := h28
            (try simp only [Act.put, List.setIfInBounds_toArray, List.set_cons_zero, List.set_cons_succ])
            rw [if_pos (by rfl)]
            go_simp
            exact hK (.slice Am 0 cm) _ rfl (Below.refl _ _)
          · refine fun w8 hc v33 h33 v28 h28 K hK => ?_
            obtain rfl : v33 = .slice Am 0 cm := h33
            obtain rfl : v28 = .bool true := h28
            (try simp only [Act.put, List.setIfInBounds_toArray, List.set_cons_zero, List.set_cons_succ])
            rw [if_pos (by rfl)]
            go_simp
            exact hK (.int .i64 (((0 : Nat) : Int))) _ rfl (Below.refl _ _)
          · refine fun w8 hc v34 h34 v28 h28 K hK => ?_
            obtain rfl : v34 = .int .i64 (((0 : Nat) : Int)) := h34
            obtain rfl : v28 = .bool true := h28
            (try simp only [Act.put, List.setIfInBounds_toArray, List.set_cons_zero, List.set_cons_succ])
            rw [if_pos (by rfl)]
            go_simp
            exact hK (.bool true) _ rfl (Below.refl _ _)
          · refine fun w8 hc v32 h32 v35 h35 v28 h28 K hK => ?_
            obtain rfl : v32 = .bool true := h32
            obtain rfl : v35 = .bool true := h35
            obtain rfl : v28 = .bool true := h28
            (try simp only [Act.put, List.setIfInBounds_toArray, List.set_cons_zero, List.set_cons_succ])
            rw [if_pos (by rfl)]
            go_simp
            exact hK (.bool true) _ rfl (Below.refl _ _)
          · refine fun w8 hc v28 h28 v36 h36 K hK => ?_
            obtain rfl : v28 = .bool true := h28
            obtain rfl : v36 = .bool true := h36
            (try simp only [Act.put, List.setIfInBounds_toArray, List.set_cons_zero, List.set_cons_succ])
            go_simp
            exact hK (.bool true) _ rfl (Below.refl _ _)
          · refine fun w8 hc v37 h37 K hK => ?_
            obtain rfl : v37 = .bool true := h37
            (try simp only [Act.put, List.setIfInBounds_toArray, List.set_cons_zero, List.set_cons_succ])
            go_simp
            exact hK (.bool true) _ rfl (Below.refl _ _)
          refine fun wg13 hc v0 h0 v1 h1 v2 h2 v3 h3 v4 h4 v5 h5 v6 h6 v7 h7 v8 h8 v9 h9 v10 h10 v11 h11 v12 h12 v13 h13 v14 h14 v15 h15 v16 h16 v17 h17 v18 h18 v19 h19 v20 h20 v21 h21 v22 h22 v23 h23 v24 h24 v25 h25 v26 h26 v27 h27 v28 h28 v29 h29 v30 h30 v31 h31 v32 h32 v33 h33 v34 h34 v35 h35 v36 h36 v37 h37 v38 h38 => ?_
          obtain rfl : v0 = .slice A8 n c8 := h0
          obtain rfl : v1 = .int .i64 ((n : Int)) := h1
          obtain rfl : v2 = .pointer (some ⟨bX, 1, none⟩) := h2
          obtain rfl : v3 = .slice A n c := h3
          obtain rfl : v4 = .int .i64 ((n : Int)) := h4
          obtain rfl : v5 = .bool true := h5
          obtain rfl : v6 = .bool true := h6
          obtain rfl : v7 = .pointer (some ⟨qv, 1, none⟩) := h7
          obtain rfl : v8 = .slice A9 0 c9 := h8
          obtain rfl : v9 = .int .i64 0 := h9
          obtain rfl : v10 = .bool true := h10
          obtain rfl : v11 = .bool true := h11
          obtain rfl : v12 = .bool true := h12
          obtain rfl : v13 = .pointer (some ⟨bX, 0, none⟩) := h13
          obtain rfl : v14 = .int .i64 s := h14
          obtain rfl : v15 = .pointer (some ⟨qv, 0, none⟩) := h15
          obtain rfl : v16 = .int .i64 t9 := h16
          obtain rfl : v17 = .int .i64 16 := h17
          obtain rfl : v18 = .bool true := h18
          obtain rfl : v19 = .bool true := h19
          obtain rfl : v20 = .bool true := h20
          obtain rfl : v21 = .agg #[.int .i64 s1, .slice A1 0 c1] := h21
          obtain rfl : v22 = .agg #[.int .i64 s1, .int .i64 (bmv : Int)] := h22
          obtain rfl : v23 = .int .i64 s1 := h23
          obtain rfl : v24 = .pointer (some ⟨bY, 0, none⟩) := h24
          obtain rfl : v25 = .int .i64 s1 := h25
          obtain rfl : v26 = .bool true := h26
          obtain rfl : v27 = .bool true := h27
          obtain rfl : v28 = .bool true := h28
          obtain rfl : v29 = .pointer (some ⟨bY, 1, none⟩) := h29
          obtain rfl : v30 = .slice A1 0 c1 := h30
          obtain rfl : v31 = .int .i64 (((0 : Nat) : Int)) := h31
          obtain rfl : v32 = .bool true := h32
          obtain rfl : v33 = .slice Am 0 cm := h33
          obtain rfl : v34 = .int .i64 (((0 : Nat) : Int)) := h34
          obtain rfl : v35 = .bool true := h35
          obtain rfl : v36 = .bool true := h36
          obtain rfl : v37 = .bool true := h37
          obtain rfl : v38 = .bool true := h38
          (try simp only [reg.Obs])
          (try simp only [Act.put, List.setIfInBounds_toArray, List.set_cons_zero, List.set_cons_succ])
          have B13 := Lib.hid hc.1
          have X13 := Lib.hid hc.2.1
          have Y13 := Lib.hid hc.2.2.1
          have V13 := Lib.hid hc.2.2.2.1
          have R13 := Lib.hid hc.2.2.2.2.1
          have P13 := Lib.hid hc.2.2.2.2.2.1
          clear hc B12 X12 Y12 V12 R12 P12
          go_wp2_with fail
          go_ret
          exact ⟨rfl, B13.out⟩
        · refine reg.region_plain reg.Bel 154 [some [], some [(0, 116)], some [], some [(2, 118)], some [(3, 119)], some [(1, 117), (4, 120)], some [(5, 121)], some [(6, 122)], some [(7, 123), (6, 122)], some [(8, 124), (6, 122)], some [(9, 125), (6, 122)], some [(6, 122), (10, 126)], some [(11, 127)], some [(12, 128)], some [(13, 129), (12, 128)], some [(12, 128)], some [(15, 131), (12, 128)], some [(14, 130), (16, 132), (12, 128)], some [(17, 133), (12, 128)], some [(12, 128), (18, 134)], some [(19, 135)], some [(20, 136)], some [(21, 137), (20, 136)], some [(22, 138), (20, 136)], some [(20, 136)], some [(24, 140), (20, 136)], some [(23, 139), (25, 141), (20, 136)], some [(20, 136), (26, 142)], some [(27, 143)], some [(28, 144)], some [(29, 145), (28, 144)], some [(30, 146), (28, 144)], some [(31, 147), (28, 144)], some [(28, 144)], some [(33, 149), (28, 144)], some [(34, 150), (28, 144)], some [(32, 148), (35, 151), (28, 144)], some [(28, 144), (36, 152)], some [(37, 153)]] [(0, 116), (1, 117), (2, 118), (3, 119), (4, 120), (5, 121), (6, 122), (7, 123), (8, 124), (9, 125), (10, 126), (11, 127), (12, 128), (13, 129), (14, 130), (15, 131), (16, 132), (17, 133), (18, 134), (19, 135), (20, 136), (21, 137), (22, 138), (23, 139), (24, 140), (25, 141), (26, 142), (27, 143), (28, 144), (29, 145), (30, 146), (31, 147), (32, 148), (33, 149), (34, 150), (35, 151), (36, 152), (37, 153), (38, 2)]
            (fun w' => Below w.heap.size w w' ∧ Bx 50 w' (bX) #[.int .i64 s, .slice A n c] ∧ Bx 50 w' (bY) #[.int .i64 s1, .slice A1 n1 c1] ∧ Bx 50 w' (qv) #[.int .i64 t9, .slice A9 0 c9] ∧ RR rowNf w' lo hi (.slice A n c) xs ∧ RR rowNf w' wa2.heap.size wa3.heap.size (.slice A1 n1 c1) xs1 ∧ True)
            (reg.rl [reg.is (.slice A8 n c8), reg.is (.int .i64 ((n : Int))), reg.is (.pointer (some ⟨bX, 1, none⟩)), reg.is (.slice A n c), reg.is (.int .i64 ((n : Int))), reg.is (.bool true), reg.is (.bool true), reg.is (.pointer (some ⟨qv, 1, none⟩)), reg.is (.slice A9 0 c9), reg.is (.int .i64 0), reg.is (.bool true), reg.is (.bool true), reg.is (.bool true), reg.is (.pointer (some ⟨bX, 0, none⟩)), reg.is (.int .i64 s), reg.is (.pointer (some ⟨qv, 0, none⟩)), reg.is (.int .i64 t9), reg.is (.int .i64 16), reg.is (.bool true), reg.is (.bool true), reg.is (.bool true), reg.is (.agg #[.int .i64 s1, .slice A1 n1 c1]), reg.is (.agg #[.int .i64 s1, .int .i64 (bmv : Int)]), reg.is (.int .i64 s1), reg.is (.pointer (some ⟨bY, 0, none⟩)), reg.is (.int .i64 s1), reg.is (.bool true), reg.is (.bool true), reg.is (.bool true), reg.is (.pointer (some ⟨bY, 1, none⟩)), reg.is (.slice A1 n1 c1), reg.is (.int .i64 ((n1 : Int))), reg.is (.bool false), reg.is (.slice Am i cm), reg.is (.int .i64 ((i : Int))), reg.is (.bool false), reg.is (.bool true), reg.is (.bool true), reg.is (.bool true)])
            (by kernel_rfl) (by kernel_rfl) rfl
            (fun w1 w2 hc hb => ⟨hc.1.trans (hb.mono hc.1.size), hc.2.1.below hb, hc.2.2.1.below hb, hc.2.2.2.1.below hb, hc.2.2.2.2.1.below hb, hc.2.2.2.2.2.1.below hb, trivial⟩) (reg.rl_keep _) (⟨own.below_drew B12.out, X12.out.same rfl, Y12.out.same rfl, V12.out.same rfl, R12.out.same (Nat.le_refl _) (fun _ _ _ => rfl), P12.out.same (Nat.le_refl _) (fun _ _ _ => rfl), trivial⟩) (by kernel_rfl) ⟨?_, ?_, ?_, ?_, ?_, ?_, ?_, ?_, ?_, ?_, ?_, ?_, ?_, ?_, ?_, ?_, ?_, ?_, ?_, ?_, ?_, ?_, ?_, ?_, ?_, ?_, ?_, ?_, ?_, ?_, ?_, ?_, ?_, ?_, ?_, ?_, ?_, ?_, ?_, trivial⟩ ?_
          · refine fun w8 hc  K hK => ?_
            (try simp only [Act.put, List.setIfInBounds_toArray, List.set_cons_zero, List.set_cons_succ])
            go_simp
            exact hK (.slice A8 n c8) _ rfl (Below.refl _ _)
          · refine fun w8 hc v0 h0 K hK => ?_
            obtain rfl : v0 = .slice A8 n c8 := h0
            (try simp only [Act.put, List.setIfInBounds_toArray, List.set_cons_zero, List.set_cons_succ])
            go_simp
            exact hK (.int .i64 ((n : Int))) _ rfl (Below.refl _ _)
          · refine fun w8 hc  K hK => ?_
            (try simp only [Act.put, List.setIfInBounds_toArray, List.set_cons_zero, List.set_cons_succ])
            go_simp
            exact hK (.pointer (some ⟨bX, 1, none⟩)) _ rfl (Below.refl _ _)
          · refine fun w8 hc v2 h2 K hK => ?_
            obtain rfl : v2 = .pointer (some ⟨bX, 1, none⟩) := h2
            (try simp only [Act.put, List.setIfInBounds_toArray, List.set_cons_zero, List.set_cons_succ])
            have c0 : w8.cell? ⟨bX, 1, none⟩ = some (.slice A n c) := hc.2.1.cell 1
            go_simp
            exact hK (.slice A n c) _ rfl (Below.refl _ _)
          · refine fun w8 hc v3 h3 K hK => ?_
            obtain rfl : v3 = .slice A n c := h3
            (try simp only [Act.put, List.setIfInBounds_toArray, List.set_cons_zero, List.set_cons_succ])
            go_simp
            exact hK (.int .i64 ((n : Int))) _ rfl (Below.refl _ _)
          · refine fun w8 hc v1 h1 v4 h4 K hK => ?_
            obtain rfl : v1 = .int .i64 ((n : Int)) := h1
            obtain rfl : v4 = .int .i64 ((n : Int)) := h4
            (try simp only [Act.put, List.setIfInBounds_toArray, List.set_cons_zero, List.set_cons_succ])
            go_simp
            exact hK (.bool true) _ rfl (Below.refl _ _)
          · refine fun w8 hc v5 h5 K hK => ?_
            obtain rfl : v5 = .bool true := h5
            (try simp only [Act.put, List.setIfInBounds_toArray, List.set_cons_zero, List.set_cons_succ])
            go_simp
            exact hK (.bool true) _ rfl (Below.refl _ _)
          · refine fun w8 hc v6 h6 K hK => ?_
            obtain rfl : v6 = .bool true := h6
            (try simp only [Act.put, List.setIfInBounds_toArray, List.set_cons_zero, List.set_cons_succ])
            rw [if_pos (by rfl)]
            go_simp
            exact hK (.pointer (some ⟨qv, 1, none⟩)) _ rfl (Below.refl _ _)
          · refine fun w8 hc v7 h7 v6 h6 K hK => ?_
            obtain rfl : v7 = .pointer (some ⟨qv, 1, none⟩) := h7
            obtain rfl : v6 = .bool true := h6
            (try simp only [Act.put, List.setIfInBounds_toArray, List.set_cons_zero, List.set_cons_succ])
            rw [if_pos (by rfl)]
            have c0 : w8.cell? ⟨qv, 1, none⟩ = some (.slice A9 0 c9) := hc.2.2.2.1.cell 1
            go_simp
            exact hK (.slice A9 0 c9) _ rfl (Below.refl _ _)
          · refine fun w8 hc v8 h8 v6 h6 K hK => ?_
            obtain rfl : v8 = .slice A9 0 c9 := h8
            obtain rfl : v6 = .bool true := h6
            (try simp only [Act.put, List.setIfInBounds_toArray, List.set_cons_zero, List.set_cons_succ])
            rw [if_pos (by rfl)]
            go_simp
            exact hK (.int .i64 0) _ rfl (Below.refl _ _)
          · refine fun w8 hc v9 h9 v6 h6 K hK => ?_
            obtain rfl : v9 = .int .i64 0 := h9
            obtain rfl : v6 = .bool true := h6
            (try simp only [Act.put, List.setIfInBounds_toArray, List.set_cons_zero, List.set_cons_succ])
            rw [if_pos (by rfl)]
            go_simp
            exact hK (.bool true) _ rfl (Below.refl _ _)
          · refine fun w8 hc v6 h6 v10 h10 K hK => ?_
            obtain rfl : v6 = .bool true := h6
            obtain rfl : v10 = .bool true := h10
            (try simp only [Act.put, List.setIfInBounds_toArray, List.set_cons_zero, List.set_cons_succ])
            go_simp
            exact hK (.bool true) _ rfl (Below.refl _ _)
          · refine fun w8 hc v11 h11 K hK => ?_
            obtain rfl : v11 = .bool true := h11
            (try simp only [Act.put, List.setIfInBounds_toArray, List.set_cons_zero, List.set_cons_succ])
            go_simp
            exact hK (.bool true) _ rfl (Below.refl _ _)
          · refine fun w8 hc v12 h12 K hK => ?_
            obtain rfl : v12 = .bool true := h12
            (try simp only [Act.put, List.setIfInBounds_toArray, List.set_cons_zero, List.set_cons_succ])
            rw [if_pos (by rfl)]
            go_simp
            exact hK (.pointer (some ⟨bX, 0, none⟩)) _ rfl (Below.refl _ _)
          · refine fun w8 hc v13 h13 v12 h12 K hK => ?_
            obtain rfl : v13 = .pointer (some ⟨bX, 0, none⟩) := h13
            obtain rfl : v12 = .bool true := h12
            (try simp only [Act.put, List.setIfInBounds_toArray, List.set_cons_zero, List.set_cons_succ])
            rw [if_pos (by rfl)]
            have c0 : w8.cell? ⟨bX, 0, none⟩ = some (.int .i64 s) := hc.2.1.cell 0
            go_simp
            exact hK (.int .i64 s) _ rfl (Below.refl _ _)
          · refine fun w8 hc v12 h12 K hK => ?_
            obtain rfl : v12 = .bool true := h12
            (try simp only [Act.put, List.setIfInBounds_toArray, List.set_cons_zero, List.set_cons_succ])
            rw [if_pos (by rfl)]
            go_simp
            exact hK (.pointer (some ⟨qv, 0, none⟩)) _ rfl (Below.refl _ _)
          · refine fun w8 hc v15 h15 v12 h12 K hK => ?_
            obtain rfl : v15 = .pointer (some ⟨qv, 0, none⟩) := h15
            obtain rfl : v12 = .bool true := h12
            (try simp only [Act.put, List.setIfInBounds_toArray, List.set_cons_zero, List.set_cons_succ])
            rw [if_pos (by rfl)]
            have c0 : w8.cell? ⟨qv, 0, none⟩ = some (.int .i64 t9) := hc.2.2.2.1.cell 0
            go_simp
            exact hK (.int .i64 t9) _ rfl (Below.refl _ _)
          · refine fun w8 hc v14 h14 v16 h16 v12 h12 K hK => ?_
            obtain rfl : v14 = .int .i64 s := h14
            obtain rfl : v16 = .int .i64 t9 := h16
            obtain rfl : v12 = .bool true := h12
            (try simp only [Act.put, List.setIfInBounds_toArray, List.set_cons_zero, List.set_cons_succ])
            rw [if_pos (by rfl)]
            go_simp
            (with_reducible refine (bs.specSd s t9 _).mono ?_)
            rw [show bs.sqd s t9 = 16 from HAL.out.2.2]
            rintro e w3 ⟨rfl, rfl⟩
            exact hK (.int .i64 16) _ rfl (Below.refl _ _)
          · refine fun w8 hc v17 h17 v12 h12 K hK => ?_
            obtain rfl : v17 = .int .i64 16 := h17
            obtain rfl : v12 = .bool true := h12
            (try simp only [Act.put, List.setIfInBounds_toArray, List.set_cons_zero, List.set_cons_succ])
            rw [if_pos (by rfl)]
            go_simp
            exact hK (.bool true) _ rfl (Below.refl _ _)
          · refine fun w8 hc v12 h12 v18 h18 K hK => ?_
            obtain rfl : v12 = .bool true := h12
            obtain rfl : v18 = .bool true := h18
            (try simp only [Act.put, List.setIfInBounds_toArray, List.set_cons_zero, List.set_cons_succ])
            go_simp
            exact hK (.bool true) _ rfl (Below.refl _ _)
          · refine fun w8 hc v19 h19 K hK => ?_
            obtain rfl : v19 = .bool true := h19
            (try simp only [Act.put, List.setIfInBounds_toArray, List.set_cons_zero, List.set_cons_succ])
            go_simp
            exact hK (.bool true) _ rfl (Below.refl _ _)
          · refine fun w8 hc v20 h20 K hK => ?_
            obtain rfl : v20 = .bool true := h20
            (try simp only [Act.put, List.setIfInBounds_toArray, List.set_cons_zero, List.set_cons_succ])
            rw [if_pos (by rfl)]
            refine stw.wp_load_bx 50 _ rfl (bY) rfl 50 _ hc.2.2.1 Try.underlying50 rfl ux.szRob ?_
            exact hK _ _ rfl (Below.refl _ _)
          · refine fun w8 hc v21 h21 v20 h20 K hK => ?_
            obtain rfl : v21 = .agg #[.int .i64 s1, .slice A1 n1 c1] := h21
            obtain rfl : v20 = .bool true := h20
            (try simp only [Act.put, List.setIfInBounds_toArray, List.set_cons_zero, List.set_cons_succ])
            rw [if_pos (by rfl)]
            go_simp
            (with_reducible refine (implAck s1 xs1 _ _ A1 n1 c1 w8 hc.2.2.2.2.2.1).mono ?_)
            rintro e w3 hp
            obtain ⟨rfl, hb⟩ := ak_parts HAK.out hp
            exact hK _ _ rfl hb
          · refine fun w8 hc v22 h22 v20 h20 K hK => ?_
            obtain rfl : v22 = .agg #[.int .i64 s1, .int .i64 (bmv : Int)] := h22
            obtain rfl : v20 = .bool true := h20
            (try simp only [Act.put, List.setIfInBounds_toArray, List.set_cons_zero, List.set_cons_succ])
            rw [if_pos (by rfl)]
            go_simp
            exact hK (.int .i64 s1) _ rfl (Below.refl _ _)
          · refine fun w8 hc v20 h20 K hK => ?_
            obtain rfl : v20 = .bool true := h20
            (try simp only [Act.put, List.setIfInBounds_toArray, List.set_cons_zero, List.set_cons_succ])
            rw [if_pos (by rfl)]
            go_simp
            exact hK (.pointer (some ⟨bY, 0, none⟩)) _ rfl (Below.refl _ _)
          · refine fun w8 hc v24 h24 v20 h20 K hK => ?_
            obtain rfl : v24 = .pointer (some ⟨bY, 0, none⟩) := h24
            obtain rfl : v20 = .bool true := h20
            (try simp only [Act.put, List.setIfInBounds_toArray, List.set_cons_zero, List.set_cons_succ])
            rw [if_pos (by rfl)]
            have c0 : w8.cell? ⟨bY, 0, none⟩ = some (.int .i64 s1) := hc.2.2.1.cell 0
            go_simp
            exact hK (.int .i64 s1) _ rfl (Below.refl _ _)
          · refine fun w8 hc v23 h23 v25 h25 v20 h20 K hK => ?_
            obtain rfl : v23 = .int .i64 s1 := h23
            obtain rfl : v25 = .int .i64 s1 := h25
            obtain rfl : v20 = .bool true := h20
            (try simp only [Act.put, List.setIfInBounds_toArray, List.set_cons_zero, List.set_cons_succ])
            rw [if_pos (by rfl)]
            go_simp
            exact hK (.bool true) _ rfl (Below.refl _ _)
          · refine fun w8 hc v20 h20 v26 h26 K hK => ?_
            obtain rfl : v20 = .bool true := h20
            obtain rfl : v26 = .bool true := h26
            (try simp only [Act.put, List.setIfInBounds_toArray, List.set_cons_zero, List.set_cons_succ])
            go_simp
            exact hK (.bool true) _ rfl (Below.refl _ _)
          · refine fun w8 hc v27 h27 K hK => ?_
            obtain rfl : v27 = .bool true := h27
            (try simp only [Act.put, List.setIfInBounds_toArray, List.set_cons_zero, List.set_cons_succ])
            go_simp
            exact hK (.bool true) _ rfl (Below.refl _ _)
          · refine fun w8 hc v28 h28 K hK => ?_
            obtain rfl : v28 = .bool true := h28
            (try simp only [Act.put, List.setIfInBounds_toArray, List.set_cons_zero, List.set_cons_succ])
            rw [if_pos (by rfl)]
            go_simp
            exact hK (.pointer (some ⟨bY, 1, none⟩)) _ rfl (Below.refl _ _)
          · refine fun w8 hc v29 h29 v28 h28 K hK => ?_
            obtain rfl : v29 = .pointer (some ⟨bY, 1, none⟩) := h29
            obtain rfl : v28 = .bool true := h28
            (try simp only [Act.put, List.setIfInBounds_toArray, List.set_cons_zero, List.set_cons_succ])
            rw [if_pos (by rfl)]
            have c0 : w8.cell? ⟨bY, 1, none⟩ = some (.slice A1 n1 c1) := hc.2.2.1.cell 1
            go_simp
            exact hK (.slice A1 n1 c1) _ rfl (Below.refl _ _)
          · refine fun w8 hc v30 h30 v28 h28 K hK => ?_
            obtain rfl : v30 = .slice A1 n1 c1 := h30
            obtain rfl : v28 = .bool true := h28
            (try simp only [Act.put, List.setIfInBounds_toArray, List.set_cons_zero, List.set_cons_succ])
            rw [if_pos (by rfl)]
            go_simp
            exact hK (.int .i64 ((n1 : Int))) _ rfl (Below.refl _ _)
          · refine fun w8 hc v31 h31 v28 h28 K hK => ?_
            obtain rfl : v31 = .int .i64 ((n1 : Int)) := h31
            obtain rfl : v28 = .bool true := h28
            (try simp only [Act.put, List.setIfInBounds_toArray, List.set_cons_zero, List.set_cons_succ])
            rw [if_pos (by rfl)]
            have z1 : ((n1 : Int) == 0) = false := by simp; omega
            have z2 : (n1 == 0) = false := by simp; omega
            go_simp
            exact hK (.bool false) _ rfl (Below.refl _ _)
          · refine fun w8 hc v28 h28 K hK => ?_
            obtain rfl : v28 = .bool true := h28
            (try simp only [Act.put, List.setIfInBounds_toArray, List.set_cons_zero, List.set_cons_succ])
            rw [if_pos (by rfl)]
            go_simp
            exact hK (.slice Am i cm) _ rfl (Below.refl _ _)
          · refine fun w8 hc v33 h33 v28 h28 K hK => ?_
            obtain rfl : v33 = .slice Am i cm := h33
            obtain rfl : v28 = .bool true := h28
            (try simp only [Act.put, List.setIfInBounds_toArray, List.set_cons_zero, List.set_cons_succ])
            rw [if_pos (by rfl)]
            go_simp
            exact hK (.int .i64 ((i : Int))) _ rfl (Below.refl _ _)
          · refine fun w8 hc v34 h34 v28 h28 K hK => ?_
            obtain rfl : v34 = .int .i64 ((i : Int)) := h34
            obtain rfl : v28 = .bool true := h28
            (try simp only [Act.put, List.setIfInBounds_toArray, List.set_cons_zero, List.set_cons_succ])
            rw [if_pos (by rfl)]
            have z1 : ((i : Int) == 0) = false := by simp; omega
            have z2 : (i == 0) = false := by simp; omega
            go_simp
            exact hK (.bool false) _ rfl (Below.refl _ _)
          · refine fun w8 hc v32 h32 v35 h35 v28 h28 K hK => ?_
            obtain rfl : v32 = .bool false := h32
            obtain rfl : v35 = .bool false := h35
            obtain rfl : v28 = .bool true := h28
            (try simp only [Act.put, List.setIfInBounds_toArray, List.set_cons_zero, List.set_cons_succ])
            rw [if_pos (by rfl)]
            go_simp
            exact hK (.bool true) _ rfl (Below.refl _ _)
          · refine fun w8 hc v28 h28 v36 h36 K hK => ?_
            obtain rfl : v28 = .bool true := h28
            obtain rfl : v36 = .bool true := h36
            (try simp only [Act.put, List.setIfInBounds_toArray, List.set_cons_zero, List.set_cons_succ])
            go_simp
            exact hK (.bool true) _ rfl (Below.refl _ _)
          · refine fun w8 hc v37 h37 K hK => ?_
            obtain rfl : v37 = .bool true := h37
            (try simp only [Act.put, List.setIfInBounds_toArray, List.set_cons_zero, List.set_cons_succ])
            go_simp
            exact hK (.bool true) _ rfl (Below.refl _ _)
          refine fun wg13 hc v0 h0 v1 h1 v2 h2 v3 h3 v4 h4 v5 h5 v6 h6 v7 h7 v8 h8 v9 h9 v10 h10 v11 h11 v12 h12 v13 h13 v14 h14 v15 h15 v16 h16 v17 h17 v18 h18 v19 h19 v20 h20 v21 h21 v22 h22 v23 h23 v24 h24 v25 h25 v26 h26 v27 h27 v28 h28 v29 h29 v30 h30 v31 h31 v32 h32 v33 h33 v34 h34 v35 h35 v36 h36 v37 h37 v38 h38 => ?_
          obtain rfl : v0 = .slice A8 n c8 := h0
          obtain rfl : v1 = .int .i64 ((n : Int)) := h1
          obtain rfl : v2 = .pointer (some ⟨bX, 1, none⟩) := h2
          obtain rfl : v3 = .slice A n c := h3
          obtain rfl : v4 = .int .i64 ((n : Int)) := h4
          obtain rfl : v5 = .bool true := h5
          obtain rfl : v6 = .bool true := h6
          obtain rfl : v7 = .pointer (some ⟨qv, 1, none⟩) := h7
          obtain rfl : v8 = .slice A9 0 c9 := h8
          obtain rfl : v9 = .int .i64 0 := h9
          obtain rfl : v10 = .bool true := h10
          obtain rfl : v11 = .bool true := h11
          obtain rfl : v12 = .bool true := h12
          obtain rfl : v13 = .pointer (some ⟨bX, 0, none⟩) := h13
          obtain rfl : v14 = .int .i64 s := h14
          obtain rfl : v15 = .pointer (some ⟨qv, 0, none⟩) := h15
          obtain rfl : v16 = .int .i64 t9 := h16
          obtain rfl : v17 = .int .i64 16 := h17
          obtain rfl : v18 = .bool true := h18
          obtain rfl : v19 = .bool true := h19
          obtain rfl : v20 = .bool true := h20
          obtain rfl : v21 = .agg #[.int .i64 s1, .slice A1 n1 c1] := h21
          obtain rfl : v22 = .agg #[.int .i64 s1, .int .i64 (bmv : Int)] := h22
          obtain rfl : v23 = .int .i64 s1 := h23
          obtain rfl : v24 = .pointer (some ⟨bY, 0, none⟩) := h24
          obtain rfl : v25 = .int .i64 s1 := h25
          obtain rfl : v26 = .bool true := h26
          obtain rfl : v27 = .bool true := h27
          obtain rfl : v28 = .bool true := h28
          obtain rfl : v29 = .pointer (some ⟨bY, 1, none⟩) := h29
          obtain rfl : v30 = .slice A1 n1 c1 := h30
          obtain rfl : v31 = .int .i64 ((n1 : Int)) := h31
          obtain rfl : v32 = .bool false := h32
          obtain rfl : v33 = .slice Am i cm := h33
          obtain rfl : v34 = .int .i64 ((i : Int)) := h34
          obtain rfl : v35 = .bool false := h35
          obtain rfl : v36 = .bool true := h36
          obtain rfl : v37 = .bool true := h37
          obtain rfl : v38 = .bool true := h38
          (try simp only [reg.Obs])
          (try simp only [Act.put, List.setIfInBounds_toArray, List.set_cons_zero, List.set_cons_succ])
          have B13 := Lib.hid hc.1
          have X13 := Lib.hid hc.2.1
          have Y13 := Lib.hid hc.2.2.1
          have V13 := Lib.hid hc.2.2.2.1
          have R13 := Lib.hid hc.2.2.2.2.1
          have P13 := Lib.hid hc.2.2.2.2.2.1
          clear hc B12 X12 Y12 V12 R12 P12
          go_wp2_with fail
          go_ret
          exact ⟨rfl, B13.out⟩
  | false =>
    have hno : recv ⟨s, xs⟩ m zb = (⟨s, xs⟩, []) := rd_no (by unfold may; rw [HV.out]; rfl)
    rw [HX.out] at hno
    injection hno with e1 e2
    injection e1 with e3 e4
    subst e2 e3 e4
    obtain rfl : n2 = 0 := by have := HLA2.out.1; simpa using this.symm
    have cX0 : wa5.cell? ⟨bX, 0, none⟩ = some (.int .i64 s1) := X5.out.cell 0
    have cX1 : wa5.cell? ⟨bX, 1, none⟩ = some (.slice A n c) := X5.out.cell 1
    have cY0 : wa5.cell? ⟨bY, 0, none⟩ = some (.int .i64 s1) := Y5.out.cell 0
    have cY1 : wa5.cell? ⟨bY, 1, none⟩ = some (.slice A1 n1 c1) := Y5.out.cell 1
    go_wp2_with fail
    clear cX0 cX1 cY0 cY1
    (with_reducible refine (implEqS s1 xs1 A1 n1 c1 _ _ A n c _ _ _ P5.out R5.out).mono ?_)
    rintro e wa6 hp
    obtain ⟨rfl, hb⟩ := b_parts rfl hp
    clear hp
    have SS6 := Lib.hid hb.size
    have B6 := Lib.hid (B5.out.trans (hb.mono B5.out.size))
    have X6 := Lib.hid (X5.out.below hb)
    have Y6 := Lib.hid (Y5.out.below hb)
    have R6 := Lib.hid (R5.out.below hb)
    have Q6 := Lib.hid (Q5.out.below hb)
    have P6 := Lib.hid (P5.out.below hb)
    clear hb  B5 X5 Y5 R5 Q5 P5
    have cX0 : wa6.cell? ⟨bX, 0, none⟩ = some (.int .i64 s1) := X6.out.cell 0
    have cX1 : wa6.cell? ⟨bX, 1, none⟩ = some (.slice A n c) := X6.out.cell 1
    go_wp2_with fail
    clear cX0 cX1
    (with_reducible refine (implVr s1 xs1 lo hi A n c _ R6.out).mono ?_)
    rintro e wa7 hp
    obtain ⟨rfl, hb⟩ := b_parts HV.out hp
    clear hp
    have SS7 := Lib.hid hb.size
    have B7 := Lib.hid (B6.out.trans (hb.mono B6.out.size))
    have X7 := Lib.hid (X6.out.below hb)
    have Y7 := Lib.hid (Y6.out.below hb)
    have R7 := Lib.hid (R6.out.below hb)
    have Q7 := Lib.hid (Q6.out.below hb)
    have P7 := Lib.hid (P6.out.below hb)
    clear hb  B6 X6 Y6 R6 Q6 P6
    go_wp2_with fail
    go_ret
    exact ⟨by first | rfl | simp, B7.out⟩
end Go.Proofs.Ytejjafmppihneaa.ro
