import Derived.Test.YtmmhleobgpgliaaRgs
import Derived.Test.YtmmhleobgpgliaaRg3
import Derived.Test.YtmmhleobgpgliaaRsz
import Derived.Test.YtmmhleobgpgliaaRo6
/- MoveStart of the specification. Condition: sizes up to 2^26. -/
namespace Go.Proofs.Ytmmhleobgpgliaa.ro
open Go.RowKit sl harn bx stw
set_option linter.unusedVariables false
open ux (Nf Rob RR OO row rowB rowNf nf rob)
open mrw (blkOf)
open bs (nsq sqd)
set_option linter.unusedSimpArgs false
open mrw (blkOf)
open bx hiding below_box

/-- What is handed back: a buffer and bodies that are read, in memory that the call has made. -/
def Rr2 (p : Rob × List (List Int)) (w : World) (e : Ending) (w' : World) : Prop := ∃ A n c A2 n2 c2, e = .returned (.tuple #[.agg #[.int .i64 p.1.Start, .slice A n c], .slice A2 n2 c2]) ∧ RR rowNf w' w.heap.size w'.heap.size (.slice A n c) p.1.Pending ∧ RR rowB w' w.heap.size w'.heap.size (.slice A2 n2 c2) p.2 ∧ Below w.heap.size w w'
theorem rr2_parts {p : Rob × List (List Int)} {w : World} {e : Ending} {w' : World} (h : Rr2 p w e w') : ∃ A n c A2 n2 c2, e = .returned (.tuple #[.agg #[.int .i64 p.1.Start, .slice A n c], .slice A2 n2 c2]) ∧ RR rowNf w' w.heap.size w'.heap.size (.slice A n c) p.1.Pending ∧ RR rowB w' w.heap.size w'.heap.size (.slice A2 n2 c2) p.2 ∧ Below w.heap.size w w' := h
/-- The blocks from L up to H. -/
def In (L H : Nat) (b : Nat) : Prop := L ≤ b ∧ b < H
theorem rr_widen {w : World} {L H lo n c : Nat} {A : Option Addr} {xs : List Nf} (h : RR rowNf w L H (.slice A n c) xs) (hl : lo ≤ L) (hh : H ≤ w.heap.size) : RR rowNf w lo w.heap.size (.slice A n c) xs :=
  (NF.of_rr (F := In L H) h fun b h1 h2 => ⟨h1, h2⟩).rr (fun b hb => ⟨by have := hb.1; omega, by have := hb.2; omega⟩) (Nat.le_refl _)
theorem OF.lower {F : Nat → Prop} {w : World} {lo lo2 n c : Nat} {A : Option Addr} {l : List (List Int)} (h : OF F w lo A n c l) (hl : lo2 ≤ lo) : OF F w lo2 A n c l := by
  obtain ⟨vs, ⟨h1, h2⟩, h3, h4⟩ := h
  refine ⟨vs, ⟨h1, ?_⟩, h3, h4⟩
  rcases h2 with h2 | ⟨g, c', cur, e, g1, g2⟩
  · exact .inl h2
  · exact .inr ⟨g, c', cur, e, by omega, g2⟩
theorem OF.len {F : Nat → Prop} {w : World} {lo n c : Nat} {A : Option Addr} {l : List (List Int)} (h : OF F w lo A n c l) : l.length = n := by
  obtain ⟨vs, _, h3, _⟩ := h
  exact h3
theorem in_blk {A : Option Addr} {q : Nat} (hm : q ∈ ux.blks A) : blkOf A = some q := blks_of hm
theorem mvs_no' {r : Rob} {n : Int} (h : may r n = false) : mvs r n = (r, []) := by unfold mvs; rw [if_neg (by simp [h])]
theorem mvs_yes' {r : Rob} {n : Int} (h : may r n = true) {k : Nat} (hk : sqd r.Start n = k) : mvs r n = (buf (mvT (start r) k), (mvT (start r) k).out) := by unfold mvs; rw [if_pos h, hk, Int.toNat_natCast]
set_option maxRecDepth 100000 in
set_option maxHeartbeats 4000000 in
theorem specMv (s : Int) (xs : List Nf) (lo hi : Nat) (A : Option Addr) (n c : Nat) (m : Int) (w : World) (h : RR rowNf w lo hi (.slice A n c) xs) (hn : n ≤ 67108864) (hbd : ∀ x ∈ xs, x.Body.length ≤ 67108864) :
    Calls Try.prog 44 #[.agg #[.int .i64 s, .slice A n c], .int .i64 m] w (Rr2 (mvs ⟨s, xs⟩ m) w) := by
  have RW := Lib.hid h
  obtain ⟨hlR, hncR, hcmR⟩ := nf_len h
  have HL := Lib.hid hlR
  have LHR := Lib.hid (show hi ≤ w.heap.size from h.hi_)
  clear hlR h
  have HN := Lib.hid hn
  have HBD := Lib.hid hbd
  clear hn hbd
  obtain ⟨v, hv⟩ : ∃ v, vr ⟨s, xs⟩ = v := ⟨_, rfl⟩
  have HV := Lib.hid hv
  clear hv
  obtain ⟨d, hd⟩ : ∃ v, sqd s m = v := ⟨_, rfl⟩
  have HD := Lib.hid hd
  clear hd
  obtain ⟨v2, hv2⟩ : ∃ v, decide (0 ≤ d ∧ d ≤ 2047) = v := ⟨_, rfl⟩
  have HV2 := Lib.hid hv2
  clear hv2
  obtain ⟨r2, hr2⟩ : ∃ v, mvs ⟨s, xs⟩ m = v := ⟨_, rfl⟩
  have HR2 := Lib.hid hr2
  clear hr2
  rw [HR2.out]
  go_enter Try.func44, Try.ntmps44
  go_upto_region 1 with fail
  obtain ⟨w0, hW⟩ : ∃ w0, (w.alloc (.cells #[.int .i64 s, .slice A n c] 31)).alloc (.cells #[.int .i64 0, .slice none 0 0] 31) = w0 := ⟨_, rfl⟩
  rw [hW]
  have B0 := Lib.hid (show Below w.heap.size w w0 by rw [← hW]; exact ((Below.refl _ _).alloc (by simp <;> omega) _).alloc (by simp <;> omega) _)
  have X0 := Lib.hid (show Bx 31 w0 (w.heap.size) #[.int .i64 s, .slice A n c] by
      rw [← hW]
      have hh := Bx.made 31 w #[.int .i64 s, .slice A n c]
      exact (hh.below (below_box _ _)))
  have Z0 := Lib.hid (show Bx 31 w0 (w.heap.size + 1) #[.int .i64 0, .slice none 0 0] by
      rw [← hW]
      have hh : Bx 31 ((w.alloc (.cells #[.int .i64 s, .slice A n c] 31)).alloc (.cells #[.int .i64 0, .slice none 0 0] 31)) (w.heap.size + 1) #[.int .i64 0, .slice none 0 0] := by have hh := Bx.made 31 (w.alloc (.cells #[.int .i64 s, .slice A n c] 31)) #[.int .i64 0, .slice none 0 0]; simpa using hh
      exact hh)
  have R0 := Lib.hid (show RR rowNf w0 lo hi (.slice A n c) xs by rw [← hW]; exact ((RW.out.below (below_box _ _)).below (below_box _ _)))
  clear hW
  have LTX := Lib.hid X0.out.lt
  have LTZ := Lib.hid Z0.out.lt
  go_wp2_with (refine stw.list_load rfl 31 _ rfl (w.heap.size) rfl 31 _ X0.out Try.underlying31 rfl ux.szRob ?_)
  (with_reducible refine (specCp s xs lo hi A n c _ R0.out HN.out HBD.out).mono ?_)
  rintro e w1 hp
  obtain ⟨A3, n3, c3, f3, rfl, ho, hb⟩ := ro_parts hp
  clear hp
  have SS1 := Lib.hid hb.size
  have B1 := Lib.hid (B0.out.trans (hb.mono B0.out.size))
  have X1 := Lib.hid (X0.out.below hb)
  have Z1 := Lib.hid (Z0.out.below hb)
  have R1 := Lib.hid (R0.out.below hb)
  clear hb B0 X0 Z0 R0
  have C1 := Lib.hid ho.rd
  clear ho
  have HCI := Lib.hid (show w.heap.size + 1 < w0.heap.size ∧ w0.heap.size ≤ w1.heap.size by have h1 := Z1.out.lt; have h2 := SS1.out; have h3 := LTZ.out; omega)
  obtain ⟨bc, hbb⟩ : ∃ b, w1.heap.size = b := ⟨_, rfl⟩
  go_upto_region 2 with fail
  generalize hW : w1.alloc (.cells #[.int .i64 s, .slice A3 n3 c3] 31) = w2
  have LD := Lib.hid (show w.heap.size ≤ bc ∧ w.heap.size < bc ∧ w.heap.size + 1 < bc ∧ hi ≤ bc ∧ w1.heap.size ≤ bc by have h1 := B1.out.size; have h2X := X1.out.lt; have h2Z := Z1.out.lt; have h2R := R1.out.hi_; have h2C := C1.out.hi_; have h3 := hbb; omega)
  have D2 := Lib.hid (show Bx 31 w2 bc #[.int .i64 s, .slice A3 n3 c3] by rw [← hW, ← hbb]; exact Bx.made _ _ _)
  have hb : Below w1.heap.size w1 w2 := by rw [← hW]; exact below_box _ _
  (try rw [hbb])
  clear hW hbb
  have SS2 := Lib.hid hb.size
  have B2 := Lib.hid (B1.out.trans (hb.mono B1.out.size))
  have X2 := Lib.hid (X1.out.below hb)
  have Z2 := Lib.hid (Z1.out.below hb)
  have R2 := Lib.hid (R1.out.below hb)
  have C2 := Lib.hid (C1.out.below hb)
  clear hb B1 X1 Z1 R1 C1
  have LWD := Lib.hid D2.out.lt
  go_wp2_with (refine stw.list_load rfl 31 _ rfl (w.heap.size) rfl 31 _ X2.out Try.underlying31 rfl ux.szRob ?_)
  (with_reducible refine (specVr s xs lo hi A n c _ R2.out).mono ?_)
  rintro e w3 hp
  obtain ⟨rfl, hb⟩ := b_parts HV.out hp
  clear hp
  have SS3 := Lib.hid hb.size
  have B3 := Lib.hid (B2.out.trans (hb.mono B2.out.size))
  have X3 := Lib.hid (X2.out.below hb)
  have Z3 := Lib.hid (Z2.out.below hb)
  have D3 := Lib.hid (D2.out.below hb)
  have R3 := Lib.hid (R2.out.below hb)
  have C3 := Lib.hid (C2.out.below hb)
  clear hb  B2 X2 Z2 D2 R2 C2
  cases v with
  | true =>
    have cX0 : w3.cell? ⟨w.heap.size, 0, none⟩ = some (.int .i64 s) := X3.out.cell 0
    go_wp2_with fail
    clear cX0
    (with_reducible refine (bs.specSd s m _).mono ?_)
    rw [HD.out]
    rintro e wq ⟨rfl, rfl⟩
    go_wp2_with fail
    (with_reducible refine (l1R d 0 2047 v2 _ HV2.out).mono ?_)
    rintro e wq ⟨rfl, rfl⟩
    cases v2 with
    | true =>
      have hd9 := of_decide_eq_true HV2.out
      obtain ⟨dk, rfl⟩ : ∃ k : Nat, d = k := ⟨d.toNat, by omega⟩
      clear hd9
      obtain ⟨hok, hpe⟩ := vr_ok HV.out
      obtain ⟨ws, hws⟩ : ∃ ws, (start ⟨s, xs⟩).ws = ws := ⟨_, rfl⟩
      have HST := Lib.hid (show start ⟨s, xs⟩ = ⟨s, ws, []⟩ by rw [← hws]; rfl)
      rw [hws] at hok hpe
      have HOK := Lib.hid hok
      have HPE := Lib.hid (show pend s ws = xs from hpe)
      clear hok hpe hws
      obtain ⟨FF, hFF⟩ : ∃ F : Nat → Prop, In w0.heap.size w1.heap.size = F := ⟨_, rfl⟩
      have HFI := Lib.hid (show ∀ b, FF b → w0.heap.size ≤ b ∧ b < w1.heap.size by rw [← hFF]; exact fun b hb => hb)
      have HF0 := Lib.hid (show w.heap.size + 1 < w0.heap.size by have := HCI.out; omega)
      have NC := Lib.hid (show NF FF w3 A3 n3 c3 (pend s ws) by rw [HPE.out, ← hFF]; exact NF.of_rr C3.out fun b h1 h2 => ⟨h1, h2⟩)
      clear hFF
      have cD0 : w3.cell? ⟨bc, 0, none⟩ = some (.int .i64 s) := D3.out.cell 0
      have cD1 : w3.cell? ⟨bc, 1, none⟩ = some (.slice A3 n3 c3) := D3.out.cell 1
      go_wp2_with (refine stw.list_load rfl 31 _ rfl (bc) rfl 31 _ D3.out Try.underlying31 rfl ux.szRob ?_)
      clear cD0 cD1
      (with_reducible refine (specMvL FF s ws A3 n3 c3 m dk _ NC.out (fun b hb => by have h1 := HFI.out b hb; have hlD := LD.out; have hs0 := LTX.out; have hs1 := LTZ.out; have hs2 := LHR.out; have hs3 := SS1.out; have hs4 := HCI.out; have hs5 := SS2.out; have hs6 := LWD.out; have hs7 := SS3.out; omega) HOK.out.s HOK.out.len HD.out).mono ?_)
      rintro e w4 hp
      obtain ⟨Ay, ny, cy, Ao, no, co, rfl, hN, hO, hA, hb⟩ := mv_parts hp
      clear hp
      obtain ⟨L2, hL2⟩ : ∃ L, w3.heap.size = L := ⟨_, rfl⟩
      have HL2 := Lib.hid (show w.heap.size + 1 < L2 by have h1 := Z3.out.lt; omega)
      have HMS := Lib.hid (show L2 ≤ w4.heap.size by rw [← hL2]; exact hb.size)
      rw [hL2] at hO
      clear hL2 NC
      have hs1 := hb.size
      have HN1 := Lib.hid hN
      have HO1 := Lib.hid hO
      have AY := Lib.hid hA
      clear hN hO hA hs1
      have SS4 := Lib.hid hb.size
      have B4 := Lib.hid (B3.out.trans (hb.mono B3.out.size))
      have X4 := Lib.hid (X3.out.below hb)
      have Z4 := Lib.hid (Z3.out.below hb)
      have D4 := Lib.hid (D3.out.below hb)
      have R4 := Lib.hid (R3.out.below hb)
      have C4 := Lib.hid (C3.out.below hb)
      clear hb B3 X3 Z3 D3 R3 C3
      obtain ⟨bc9, hbb⟩ : ∃ b, w4.heap.size = b := ⟨_, rfl⟩
      go_upto_region 5 with fail
      generalize hW : w4.alloc (.cells #[.int .i64 ((advS ⟨s, ws, []⟩ dk).s), .slice Ay ny cy] 31) = w5
      have LY := Lib.hid (show w.heap.size ≤ bc9 ∧ w.heap.size < bc9 ∧ w.heap.size + 1 < bc9 ∧ bc < bc9 ∧ hi ≤ bc9 ∧ w1.heap.size ≤ bc9 by have h1 := B4.out.size; have h2X := X4.out.lt; have h2Z := Z4.out.lt; have h2D := D4.out.lt; have h2R := R4.out.hi_; have h2C := C4.out.hi_; have h3 := hbb; omega)
      have Y5 := Lib.hid (show Bx 31 w5 bc9 #[.int .i64 ((advS ⟨s, ws, []⟩ dk).s), .slice Ay ny cy] by rw [← hW, ← hbb]; exact Bx.made _ _ _)
      have hb : Below w4.heap.size w4 w5 := by rw [← hW]; exact below_box _ _
      have NY := Lib.hid (HN1.out.below hb)
      have OY := Lib.hid (HO1.out.below hb)
      have LOB := Lib.hid (show ∀ q, blkOf Ao = some q → L2 ≤ q ∧ q < bc9 from fun q hq => by have h1 := HO1.out.lt hq; have h2 := hbb; exact ⟨h1.1, by omega⟩)
      have LB9 := Lib.hid (show L2 ≤ bc9 by have h1 := HMS.out; have h2 := hbb; omega)
      (try rw [hbb])
      clear hW hbb
      have SS5 := Lib.hid hb.size
      have B5 := Lib.hid (B4.out.trans (hb.mono B4.out.size))
      have X5 := Lib.hid (X4.out.below hb)
      have Z5 := Lib.hid (Z4.out.below hb)
      have D5 := Lib.hid (D4.out.below hb)
      have R5 := Lib.hid (R4.out.below hb)
      have C5 := Lib.hid (C4.out.below hb)
      clear hb B4 X4 Z4 D4 R4 C4
      have LWY := Lib.hid Y5.out.lt
      clear HN1 HO1
      have LOY := Lib.hid (show L2 ≤ w5.heap.size by have h1 := LB9.out; have h2 := Y5.out.lt; omega)
      have HTL := Lib.hid (show (advS ⟨s, ws, []⟩ dk).ws.length = 16 by rw [adv_len]; exact HOK.out.len)
      have HTO := Lib.hid (show (advS ⟨s, ws, []⟩ dk).out.length ≤ 16 by have h1 := adv_out ⟨s, ws, []⟩ dk; have h2 := HOK.out.len; simp only [List.length_nil] at h1; omega)
      have HE := Lib.hid (show r2 = (buf (runS (advS ⟨s, ws, []⟩ dk)), (runS (advS ⟨s, ws, []⟩ dk)).out) by rw [← HR2.out, mvs_yes' (by unfold may; rw [HV.out, HD.out, HV2.out]; rfl) HD.out, HST.out]; rfl)
      have cY0 : w5.cell? ⟨bc9, 0, none⟩ = some (.int .i64 ((advS ⟨s, ws, []⟩ dk).s)) := Y5.out.cell 0
      have cY1 : w5.cell? ⟨bc9, 1, none⟩ = some (.slice Ay ny cy) := Y5.out.cell 1
      go_wp2_with (refine stw.list_load rfl 31 _ rfl (bc9) rfl 31 _ Y5.out Try.underlying31 rfl ux.szRob ?_)
      clear cY0 cY1
      (with_reducible refine (specRel FF (advS ⟨s, ws, []⟩ dk) L2 Ay ny cy Ao no co _ NY.out OY.out AY.out (fun b hb => by have h1 := HFI.out b hb; have hlD := LD.out; have hlY := LY.out; have hs0 := LTX.out; have hs1 := LTZ.out; have hs2 := LHR.out; have hs3 := SS1.out; have hs4 := HCI.out; have hs5 := SS2.out; have hs6 := LWD.out; have hs7 := SS3.out; have hs8 := SS4.out; have hs9 := SS5.out; have hs10 := LWY.out; omega) (adv_s _ _) (HTL.out) (by have h1 := OY.out.len; have h2 := HTO.out; omega) LOY.out).mono ?_)
      rintro e w6 hp
      obtain ⟨A5, n5, c5, A6, n6, c6, rfl, hN, hO, hA, hK⟩ := rl_parts hp
      clear hp
      have HBK := Lib.hid (show ∀ q, q ∈ ux.blks Ao → L2 ≤ q ∧ q < bc9 from fun q hq => LOB.out q (in_blk hq))
      have SSR := Lib.hid hK.size
      have BR := Lib.hid (B5.out.trans (ux.ks_bel hK (fun q hq => by have h1 := HBK.out q hq; have h2 := HL2.out; omega) B5.out.size))
      have ZR := Lib.hid (ux.bx_ks Z5.out hK (fun hm => by have h1 := HBK.out _ hm; have h2 := HL2.out; omega))
      have NR := Lib.hid hN
      have OR := Lib.hid hO
      clear hN hO hA hK
      obtain ⟨r5, hr5⟩ : ∃ r, runS (advS ⟨s, ws, []⟩ dk) = r := ⟨_, rfl⟩
      have HR5 := Lib.hid hr5
      rw [hr5] at NR OR ⊢
      clear hr5
      go_wp2_with (refine stw.list_store rfl 31 _ _ rfl (w.heap.size + 1) #[.int .i64 r5.s, .slice A5 n5 c5] rfl rfl 31 _ ZR.out rfl ux.szRob (ux.oneRob _ _ _ _) ?_; intro wz hz)
      have hB := hz.on BR.out (show w.heap.size ≤ w.heap.size + 1 by omega)
      have HKZ := Lib.hid (show KS [w.heap.size + 1] w6 wz from ⟨hz.below.os, hz.below.tape, hz.below.output, hz.below.size, fun q h1 h2 => hz.other q (fun e => h2 (List.mem_singleton.2 e))⟩)
      have hN := NR.out.ks HKZ.out (fun q hq hm => by have h1 := List.mem_singleton.1 hm; have h2 := HFI.out q hq; have h3 := HF0.out; omega)
      have hO := OR.out.ks HKZ.out (fun q hq hm => by have h1 := List.mem_singleton.1 hm; have h2 := HFI.out q hq; have h3 := HF0.out; omega) (fun q hq hm => by have h1 := List.mem_singleton.1 hm; have h2 := (OR.out.lt hq).1; have h3 := HL2.out; omega)
      have hsz := hz.below.size
      have hszr := SSR.out
      (try simp only [Exit.inBlock, Exit.then])
      refine bodyPost_ret (v := .tuple #[.agg #[.int .i64 r5.s, .slice A5 n5 c5], .slice A6 n6 c6]) ?_ rfl ?_
      · rw [results_cell_tmp1 rfl]
        exact stw.back2 hz.box Try.underlying31 rfl ux.szRob _
      · rw [HE.out, HR5.out]
        exact ⟨A5, n5, c5, A6, n6, c6, rfl, hN.rr (fun b hb => by have h1 := HFI.out b hb; have h2 := HF0.out; have hlD := LD.out; have hlY := LY.out; have hs0 := LTX.out; have hs1 := LTZ.out; have hs2 := LHR.out; have hs3 := SS1.out; have hs4 := HCI.out; have hs5 := SS2.out; have hs6 := LWD.out; have hs7 := SS3.out; have hs8 := SS4.out; have hs9 := SS5.out; have hs10 := LWY.out; omega) (Nat.le_refl _), (hO.lower (show w.heap.size ≤ L2 by have := HL2.out; omega)).rr (Nat.le_refl _) (fun b hb => by have h1 := HFI.out b hb; have h2 := HF0.out; have hlD := LD.out; have hlY := LY.out; have hs0 := LTX.out; have hs1 := LTZ.out; have hs2 := LHR.out; have hs3 := SS1.out; have hs4 := HCI.out; have hs5 := SS2.out; have hs6 := LWD.out; have hs7 := SS3.out; have hs8 := SS4.out; have hs9 := SS5.out; have hs10 := LWY.out; omega) (fun q hq => (hO.lt hq).2), hB⟩
    | false =>
      have HE := Lib.hid (show r2 = (⟨s, xs⟩, []) by rw [← HR2.out]; exact mvs_no' (by unfold may; rw [HV.out, HD.out, HV2.out]; rfl))
      have cD0 : w3.cell? ⟨bc, 0, none⟩ = some (.int .i64 s) := D3.out.cell 0
      have cD1 : w3.cell? ⟨bc, 1, none⟩ = some (.slice A3 n3 c3) := D3.out.cell 1
      obtain ⟨be, hbe⟩ : ∃ b, w3.heap.size = b := ⟨_, rfl⟩
      have hE := Bx.made 22 w3 #[]
      have hbE := bx.below_box w3 (.cells #[] 22)
      rw [hbe] at hE
      have HL9 := Lib.hid (show w.heap.size + 1 < be by have h1 := Z3.out.lt; omega)
      go_wp2_with (first | (refine stw.list_load rfl 31 _ rfl (bc) rfl 31 _ D3.out Try.underlying31 rfl ux.szRob ?_) | (refine stw.list_store rfl 31 _ _ rfl (w.heap.size + 1) #[.int .i64 s, .slice A3 n3 c3] rfl rfl 31 _ (Z3.out.below hbE) rfl ux.szRob (ux.oneRob _ _ _ _) ?_; intro wz hz))
      have hB := hz.on (B3.out.trans (hbE.mono B3.out.size)) (show w.heap.size ≤ w.heap.size + 1 by omega)
      have hE2 := hz.keep hE (by have := HL9.out; omega)
      have hC := (C3.out.below hbE).same hz.below.size fun b h1 h2 => hz.other b (by have h9 := HCI.out; have hlD := LD.out; have hs0 := LTX.out; have hs1 := LTZ.out; have hs2 := LHR.out; have hs3 := SS1.out; have hs4 := HCI.out; have hs5 := SS2.out; have hs6 := LWD.out; have hs7 := SS3.out; omega)
      have hsz := hz.below.size
      have hsz2 := hbE.size
      (try simp only [Exit.inBlock, Exit.then])
      refine bodyPost_ret (v := .tuple #[.agg #[.int .i64 s, .slice A3 n3 c3], .slice (some ⟨be, 0, none⟩) 0 0]) ?_ rfl ?_
      · rw [results_cell_tmp1 rfl]
        exact stw.back2 hz.box Try.underlying31 rfl ux.szRob _
      · rw [HE.out]; exact ⟨_, _, _, _, _, _, rfl, rr_widen hC (by have h9 := HCI.out; omega) (by have h9 := HCI.out; have hlD := LD.out; have hs0 := LTX.out; have hs1 := LTZ.out; have hs2 := LHR.out; have hs3 := SS1.out; have hs4 := HCI.out; have hs5 := SS2.out; have hs6 := LWD.out; have hs7 := SS3.out; omega), ((ux.row_empty 22 ux.bytes hE2).wide (by have := HL9.out; omega)).rd, hB⟩
  | false =>
    have HE := Lib.hid (show r2 = (⟨s, xs⟩, []) by rw [← HR2.out]; exact mvs_no' (by unfold may; rw [HV.out, HD.out, HV2.out]; rfl))
    have cD0 : w3.cell? ⟨bc, 0, none⟩ = some (.int .i64 s) := D3.out.cell 0
    have cD1 : w3.cell? ⟨bc, 1, none⟩ = some (.slice A3 n3 c3) := D3.out.cell 1
    obtain ⟨be, hbe⟩ : ∃ b, w3.heap.size = b := ⟨_, rfl⟩
    have hE := Bx.made 22 w3 #[]
    have hbE := bx.below_box w3 (.cells #[] 22)
    rw [hbe] at hE
    have HL9 := Lib.hid (show w.heap.size + 1 < be by have h1 := Z3.out.lt; omega)
    go_wp2_with (first | (refine stw.list_load rfl 31 _ rfl (bc) rfl 31 _ D3.out Try.underlying31 rfl ux.szRob ?_) | (refine stw.list_store rfl 31 _ _ rfl (w.heap.size + 1) #[.int .i64 s, .slice A3 n3 c3] rfl rfl 31 _ (Z3.out.below hbE) rfl ux.szRob (ux.oneRob _ _ _ _) ?_; intro wz hz))
    have hB := hz.on (B3.out.trans (hbE.mono B3.out.size)) (show w.heap.size ≤ w.heap.size + 1 by omega)
    have hE2 := hz.keep hE (by have := HL9.out; omega)
    have hC := (C3.out.below hbE).same hz.below.size fun b h1 h2 => hz.other b (by have h9 := HCI.out; have hlD := LD.out; have hs0 := LTX.out; have hs1 := LTZ.out; have hs2 := LHR.out; have hs3 := SS1.out; have hs4 := HCI.out; have hs5 := SS2.out; have hs6 := LWD.out; have hs7 := SS3.out; omega)
    have hsz := hz.below.size
    have hsz2 := hbE.size
    (try simp only [Exit.inBlock, Exit.then])
    refine bodyPost_ret (v := .tuple #[.agg #[.int .i64 s, .slice A3 n3 c3], .slice (some ⟨be, 0, none⟩) 0 0]) ?_ rfl ?_
    · rw [results_cell_tmp1 rfl]
      exact stw.back2 hz.box Try.underlying31 rfl ux.szRob _
    · rw [HE.out]; exact ⟨_, _, _, _, _, _, rfl, rr_widen hC (by have h9 := HCI.out; omega) (by have h9 := HCI.out; have hlD := LD.out; have hs0 := LTX.out; have hs1 := LTZ.out; have hs2 := LHR.out; have hs3 := SS1.out; have hs4 := HCI.out; have hs5 := SS2.out; have hs6 := LWD.out; have hs7 := SS3.out; omega), ((ux.row_empty 22 ux.bytes hE2).wide (by have := HL9.out; omega)).rd, hB⟩
end Go.Proofs.Ytmmhleobgpgliaa.ro

/- Sizes of what is moved and delivered. Condition: none. -/
namespace Go.Proofs.Ytmmhleobgpgliaa.ro
open ux (Nf Rob RR OO rowNf nf rob rowB)
set_option linter.unusedVariables false
theorem sum_le {α : Type} (f : α → Nat) (M : Nat) : ∀ l : List α, (∀ x ∈ l, f x ≤ M) → ux.sumT f l ≤ l.length * M
  | [], _ => by simp [ux.sumT]
  | x :: r, h => by
    have h1 := sum_le f M r fun y hy => h y (List.mem_cons_of_mem _ hy)
    have h2 := h x List.mem_cons_self
    rw [ux.sumT_cons, List.length_cons, Nat.add_mul]
    omega
/-- Short bodies, and few of them. -/
structure Okb (t : St) (N : Nat) : Prop where
  len : t.ws.length = 16
  b : ∀ x, some x ∈ t.ws → x.length ≤ 100
  o : ∀ x ∈ t.out, x.length ≤ 100
  n : t.out.length ≤ N
theorem mem_bods {ws : Win} {x : List Int} (h : x ∈ bods ws) : some x ∈ ws := by
  unfold bods at h
  obtain ⟨o, h1, h2⟩ := List.mem_filterMap.1 h
  have h3 : o = some x := h2
  rw [← h3]; exact h1
theorem okb_adv {t : St} {N : Nat} (h : Okb t N) (k : Nat) : Okb (advS t k) (N + 16) := by
  refine ⟨by rw [adv_len]; exact h.len, fun x hx => ?_, fun x hx => ?_, by have h1 := adv_out t k; have h2 := h.n; have h3 := h.len; omega⟩
  · rcases take_mem hx with h1 | h1
    · exact h.b x h1
    · cases h1
  · rcases List.mem_append.1 (show x ∈ t.out ++ bods (t.ws.take k) from hx) with h1 | h1
    · exact h.o x h1
    · exact h.b x (List.mem_of_mem_take (mem_bods h1))
theorem okb_run {t : St} {N : Nat} (h : Okb t N) : Okb (runS t) (N + 16) := okb_adv h _
theorem okb_kp {t : St} {N : Nat} (h : Okb t N) (d : Nat) {x : List Int} (hx : x.length ≤ 100) : Okb ⟨t.s, kp t.ws d x, t.out⟩ N := by
  refine ⟨by show (kp _ _ _).length = 16; rw [kp_len]; exact h.len, fun y hy => ?_, h.o, h.n⟩
  rcases kp_mem hy with h1 | h1
  · exact h.b y h1
  · rw [h1]; exact hx
theorem okb_start {r : Rob} (h : vr r = true) : Okb (start r) 0 := ⟨(vr_ok h).1.len, (vr_ok h).1.b, fun x hx => (by cases hx), Nat.le_refl _⟩
theorem okb_buf {t : St} {N : Nat} (h : Okb t N) : rob.sz (buf t) ≤ 2000 := by
  rw [rob_sz]
  show (pend t.s t.ws).length + ux.sumT (fun x : Nf => x.Body.length) (pend t.s t.ws) ≤ 2000
  have h1 := pend_len t.ws t.s
  have h2 := sum_le (fun x : Nf => x.Body.length) 100 (pend t.s t.ws) fun x hx => by
    obtain ⟨i, _, _, h3⟩ := mem_pend hx
    exact h.b _ (List.mem_of_getElem? h3)
  have h3 := h.len
  omega
theorem rowB_sz (l : List (List Int)) : rowB.sz l = l.length + ux.sumT (fun x : List Int => x.length) l := rfl
theorem okb_out {t : St} {N : Nat} (h : Okb t N) (hN : N ≤ 1000) : rowB.sz t.out ≤ 200000 := by
  rw [rowB_sz]
  have h2 := sum_le (fun x : List Int => x.length) 100 t.out h.o
  have h3 := h.n
  omega
theorem may_vr {r : Rob} {n : Int} (h : may r n = true) : vr r = true := by unfold may at h; rw [Bool.and_eq_true] at h; exact h.1
theorem mvs_sz {r : Rob} {n : Int} (h : rob.sz r ≤ 1048576) : rob.sz (mvs r n).1 ≤ 67108864 ∧ rowB.sz (mvs r n).2 ≤ 67108864 := by
  unfold mvs
  split
  · rename_i hm
    have h1 := okb_run (okb_adv (okb_start (may_vr hm)) (bs.sqd r.Start n).toNat)
    have h2 := okb_buf h1
    have h3 := okb_out h1 (by omega)
    exact ⟨by show rob.sz (buf (mvT _ _)) ≤ _; unfold mvT; omega, by show rowB.sz (mvT _ _).out ≤ _; unfold mvT; omega⟩
  · exact ⟨by show rob.sz r ≤ _; omega, by show rowB.sz [] ≤ _; rw [rowB_sz]; simp [ux.sumT]⟩
theorem recv_sz {r : Rob} {n : Int} {b : List Int} (h : rob.sz r ≤ 1048576) : rob.sz (recv r n b).1 ≤ 67108864 ∧ rowB.sz (recv r n b).2 ≤ 67108864 := by
  unfold recv
  split
  · rename_i hm
    rw [Bool.and_eq_true] at hm
    have hb := of_decide_eq_true hm.2
    have h0 := okb_adv (okb_start (may_vr hm.1)) ((bs.sqd r.Start n).toNat - 15)
    have h1 := okb_run (okb_kp h0 ((bs.sqd r.Start n).toNat - ((bs.sqd r.Start n).toNat - 15)) hb)
    have h2 := okb_buf h1
    have h3 := okb_out h1 (by omega)
    exact ⟨by show rob.sz (buf (rcvT _ _ _)) ≤ _; unfold rcvT; omega, by show rowB.sz (rcvT _ _ _).out ≤ _; unfold rcvT; omega⟩
  · exact ⟨by show rob.sz r ≤ _; omega, by show rowB.sz [] ≤ _; rw [rowB_sz]; simp [ux.sumT]⟩
end Go.Proofs.Ytmmhleobgpgliaa.ro
