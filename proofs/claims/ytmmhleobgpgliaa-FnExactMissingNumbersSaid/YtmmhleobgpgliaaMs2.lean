/- MissingNumbers of the specification. Condition: none. -/
import Derived.Test.YtmmhleobgpgliaaRo1
import Derived.Test.YtmmhleobgpgliaaMs0
namespace Go.Proofs.Ytmmhleobgpgliaa.ro
open Go.RowKit sl harn bx stw
set_option linter.unusedVariables false
open ux (Nf Rob RR OO row rowB rowNf nf rob)
open mrw (blkOf)
open bs (nsq sqd)
set_option linter.unusedSimpArgs false
open bx

theorem ow_bx1 {E : TypeId} {k : IntKind} {w : World} {b : Nat} (h : Bx E w b #[]) : Ow E k w b w.heap.size (some ⟨b, 0, none⟩) 0 0 [] :=
  ⟨⟨rfl, .inr ⟨b, 0, #[], rfl, Nat.le_refl _, h, Nat.le_refl _, by unfold maxLen; omega, rfl, rfl⟩⟩, Wf.nil k, Nat.le_refl _, fun g o e => by injection e with e; injection e with e _; subst e; exact h.lt⟩
/-- The next step of filling up. -/
theorem head_cases {s : Int} {p k : Nat} {ws : Win} {xs : List Nf} {y : Nf} (hl : ws.length = 16) (h : xs.drop k = pend (s + (p : Int)) (ws.drop p)) (hy : xs[k]? = some y) : p < 16 ∧ (((s + (p : Int)) % 4096 = y.Seq ∧ xs.drop (k + 1) = pend (s + ((p + 1 : Nat) : Int)) (ws.drop (p + 1)) ∧ miss (s + (p : Int)) (ws.drop p) = miss (s + ((p + 1 : Nat) : Int)) (ws.drop (p + 1))) ∨ (¬ (s + (p : Int)) % 4096 = y.Seq ∧ xs.drop k = pend (s + ((p + 1 : Nat) : Int)) (ws.drop (p + 1)) ∧ miss (s + (p : Int)) (ws.drop p) = (s + (p : Int)) % 4096 :: miss (s + ((p + 1 : Nat) : Int)) (ws.drop (p + 1)))) := by
  have hx := drop_at hy
  rw [h] at hx
  have hp : p < 16 := by
    rcases Nat.lt_or_ge p 16 with h1 | h1
    · exact h1
    · rw [List.drop_eq_nil_of_le (by omega)] at hx; simp [pend] at hx
  refine ⟨hp, ?_⟩
  obtain ⟨o, ho⟩ : ∃ o, ws[p]? = some o := ⟨_, List.getElem?_eq_getElem (by omega)⟩
  have hd := drop_at ho
  have e1 : s + ((p + 1 : Nat) : Int) = s + (p : Int) + 1 := by push_cast; omega
  rw [hd] at hx h ⊢
  rw [e1]
  cases o with
  | some b =>
    rw [pend] at hx
    injection hx with h1 h2
    exact .inl ⟨by rw [← h1], h2.symm, by rw [miss, if_neg (by simp)]; rfl⟩
  | none =>
    rw [pend] at hx h
    have hne : ¬ (none :: ws.drop (p + 1) : Win).all (·.isNone) = true := fun ha => by
      have := pend_none (ws.drop (p + 1)) (s + (p : Int) + 1) (fun o ho => by have := List.all_eq_true.1 ha o (List.mem_cons_of_mem _ ho); cases o with | none => rfl | some b => cases this)
      rw [this] at hx; cases hx
    refine .inr ⟨fun e => ?_, h, by rw [miss, if_neg hne]; rfl⟩
    obtain ⟨i, g1, g2, _⟩ := mem_pend (a := ws.drop (p + 1)) (s := s + (p : Int) + 1) (x := y) (by rw [hx]; exact List.mem_cons_self)
    rw [List.length_drop] at g1
    omega
theorem nsq_at (s : Int) (p : Nat) : nsq ((s + (p : Int)) % 4096) = (s + ((p + 1 : Nat) : Int)) % 4096 := by
  unfold nsq
  rw [if_pos (by omega)]
  push_cast
  omega
theorem miss_len : ∀ (ws : Win) (s : Int), (miss s ws).length ≤ ws.length
  | [], s => Nat.le_refl _
  | o :: r, s => by
    rw [miss]
    have := miss_len r (s + 1)
    split
    · simp
    · cases o <;> simp <;> omega
theorem msn_len (r : Rob) : (msn r).length ≤ 16 := by
  unfold msn
  split
  · rename_i h
    have h1 := miss_len (start r).ws r.Start
    rw [(vr_ok h).1.len] at h1
    exact h1
  · simp
theorem miss_all {s : Int} {ws : Win} (h : pend s ws = []) : miss s ws = [] := by
  refine miss_end (List.all_eq_true.2 fun o ho => ?_)
  rw [pend_none_of ws s h o ho]; rfl
set_option maxRecDepth 100000 in
set_option maxHeartbeats 4000000 in
theorem specMs (s : Int) (xs : List Nf) (lo hi : Nat) (A : Option Addr) (n c : Nat) (w : World) (h : RR rowNf w lo hi (.slice A n c) xs) :
    Calls Try.prog 47 #[.agg #[.int .i64 s, .slice A n c]] w (SlPost 3 .i64 w (msn ⟨s, xs⟩)) := by
  have RW := Lib.hid h
  obtain ⟨hlR, hncR, hcmR⟩ := nf_len h
  have HL := Lib.hid hlR
  have LHR := Lib.hid (show hi ≤ w.heap.size from h.hi_)
  clear hlR h
  obtain ⟨i0, hi0, hz0, hz1, hz2⟩ := info_parts intInfo
  have HZ := Lib.hid (And.intro hi0 (And.intro hz0 (And.intro hz1 hz2)))
  clear hi0 hz0 hz1 hz2
  obtain ⟨v, hv⟩ : ∃ v, vr ⟨s, xs⟩ = v := ⟨_, rfl⟩
  have HV := Lib.hid hv
  clear hv
  go_enter Try.func47, Try.ntmps47
  go_upto_region 1 with fail
  obtain ⟨w0, hW⟩ : ∃ w0, w.alloc (.cells #[.int .i64 s, .slice A n c] 31) = w0 := ⟨_, rfl⟩
  rw [hW]
  have B0 := Lib.hid (show Below w.heap.size w w0 by rw [← hW]; exact (Below.refl _ _).alloc (by simp <;> omega) _)
  have X0 := Lib.hid (show Bx 31 w0 (w.heap.size) #[.int .i64 s, .slice A n c] by
      rw [← hW]
      have hh := Bx.made 31 w #[.int .i64 s, .slice A n c]
      exact hh)
  have R0 := Lib.hid (show RR rowNf w0 lo hi (.slice A n c) xs by rw [← hW]; exact (RW.out.below (below_box _ _)))
  clear hW
  have LTX := Lib.hid X0.out.lt
  obtain ⟨b0, hbb⟩ : ∃ b, w0.heap.size = b := ⟨_, rfl⟩
  go_upto_region 2 with fail
  generalize hW : w0.alloc (.cells #[] 3) = w1
  have LE := Lib.hid (show w.heap.size ≤ b0 ∧ w.heap.size < b0 ∧ hi ≤ b0 by have h1 := B0.out.size; have h2X := X0.out.lt; have h2R := R0.out.hi_; have h3 := hbb; omega)
  have E1 := Lib.hid (show Bx 3 w1 b0 #[] by rw [← hW, ← hbb]; exact Bx.made _ _ _)
  have hb : Below w0.heap.size w0 w1 := by rw [← hW]; exact below_box _ _
  (try rw [hbb])
  clear hW hbb
  have SS1 := Lib.hid hb.size
  have B1 := Lib.hid (B0.out.trans (hb.mono B0.out.size))
  have X1 := Lib.hid (X0.out.below hb)
  have R1 := Lib.hid (R0.out.below hb)
  clear hb B0 X0 R0
  have LWE := Lib.hid E1.out.lt
  have HB0 := Lib.hid (show w.heap.size < b0 ∧ b0 < w1.heap.size from ⟨by have := LE.out; omega, E1.out.lt⟩)
  have O1 := Lib.hid (ow_bx1 (k := .i64) E1.out)
  clear E1
  go_wp2_with (refine stw.list_load rfl 31 _ rfl (w.heap.size) rfl 31 _ X1.out Try.underlying31 rfl ux.szRob ?_)
  (with_reducible refine (specVr s xs lo hi A n c _ R1.out).mono ?_)
  rintro e w2 hp
  obtain ⟨rfl, hb⟩ := b_parts HV.out hp
  clear hp
  have SS2 := Lib.hid hb.size
  have B2 := Lib.hid (B1.out.trans (hb.mono B1.out.size))
  have X2 := Lib.hid (X1.out.below hb)
  have R2 := Lib.hid (R1.out.below hb)
  have O2 := Lib.hid (O1.out.below hb)
  clear hb  B1 X1 R1 O1
  cases v with
  | true =>
    obtain ⟨hok, hpe⟩ := vr_ok HV.out
    obtain ⟨ws, hws⟩ : ∃ ws, (start ⟨s, xs⟩).ws = ws := ⟨_, rfl⟩
    have HMS := Lib.hid (show msn ⟨s, xs⟩ = miss s ws by unfold msn; rw [if_pos HV.out, hws])
    rw [hws] at hok hpe
    have HOK := Lib.hid hok
    have HPE := Lib.hid (show xs = pend s ws from hpe.symm)
    clear hok hpe hws
    have cX0 : w2.cell? ⟨w.heap.size, 0, none⟩ = some (.int .i64 s) := X2.out.cell 0
    go_wp2_with fail
    clear cX0
    go_loopw [3, 4, 5] (fun v0 v1 v2 wr => ∃ (p : Nat) (A1 : Option Addr) (n1 : Nat) (c1 : Nat) (acc : List Int) (k : Nat), v0 = .slice A1 n1 c1 ∧ v1 = .int .i64 (((s + (p : Int)) % 4096)) ∧ v2 = .int .i64 (k : Int) ∧ (k ≤ n) ∧ (p ≤ 16) ∧ (n1 ≤ p) ∧ (xs.drop k = pend (s + (p : Int)) (ws.drop p)) ∧ (miss s ws = acc ++ miss (s + (p : Int)) (ws.drop p)) ∧ (w.heap.size < b0 ∧ b0 < wr.heap.size) ∧ Below w.heap.size w wr ∧ Bx 31 wr w.heap.size #[.int .i64 s, .slice A n c] ∧ RR rowNf wr lo hi (.slice A n c) xs ∧ Ow 3 .i64 wr (b0) (wr.heap.size) A1 n1 c1 acc) (fun _ _ i _ => n - (intOf i).toNat)
    case atStart => exact ⟨0, _, 0, _, [], 0, rfl, (by have := HOK.out.s; congr 1; omega), rfl, by omega, by omega, Nat.le_refl _, by rw [List.drop_zero, List.drop_zero]; simpa using HPE.out, by simp, by have hlE := LE.out; have hs0 := LTX.out; have hs1 := LHR.out; have hs2 := SS1.out; have hs3 := LWE.out; have hs4 := HB0.out; have hs5 := SS2.out; omega, B2.out, X2.out, R2.out, O2.out.up⟩
    case round =>
      obtain ⟨p, A1, n1, c1, acc, k, rfl, rfl, rfl, ghk, ghp, ghn, ghd, ghm, ghbe, gB3, gX3, gR3, gO3⟩ := hrel
      have B3 := Lib.hid gB3
      have X3 := Lib.hid gX3
      have R3 := Lib.hid gR3
      have O3 := Lib.hid gO3
      have hk := Lib.hid ghk
      have hp := Lib.hid ghp
      have hn := Lib.hid ghn
      have hd := Lib.hid ghd
      have hm := Lib.hid ghm
      have hbe := Lib.hid ghbe
      clear gB3 gX3 gR3 gO3 ghk ghp ghn ghd ghm ghbe
      have LUX3 := Lib.hid X3.out.lt
      have SBR3 := Lib.hid B3.out.size
      have hk9 := hk.out
      by_cases hlt : k < n
      · have hlt2 : (k : Int) < n := by omega
        obtain ⟨y, hy⟩ : ∃ y, xs[k]? = some y := ⟨_, List.getElem?_eq_getElem (by have := HL.out; omega)⟩
        have HYY := Lib.hid hy
        clear hy
        have cX0 : wr.cell? ⟨w.heap.size, 0, none⟩ = some (.int .i64 s) := X3.out.cell 0
        have cX1 : wr.cell? ⟨w.heap.size, 1, none⟩ = some (.slice A n c) := X3.out.cell 1
        go_wp2_with fail
        clear cX0 cX1
        go_loopw [3, 4] (fun v0 v1 wr => ∃ (p2 : Nat) (A2 : Option Addr) (n2 : Nat) (c2 : Nat) (acc2 : List Int), v0 = .slice A2 n2 c2 ∧ v1 = .int .i64 (((s + (p2 : Int)) % 4096)) ∧ (p2 ≤ 16) ∧ (n2 ≤ p2) ∧ (xs.drop k = pend (s + (p2 : Int)) (ws.drop p2)) ∧ (miss s ws = acc2 ++ miss (s + (p2 : Int)) (ws.drop p2)) ∧ (w.heap.size < b0 ∧ b0 < wr.heap.size) ∧ Below w.heap.size w wr ∧ Bx 31 wr w.heap.size #[.int .i64 s, .slice A n c] ∧ RR rowNf wr lo hi (.slice A n c) xs ∧ Ow 3 .i64 wr (b0) (wr.heap.size) A2 n2 c2 acc2) (fun _ i _ => ((s + 20 - intOf i) % 4096).toNat)
        case atStart => exact ⟨p, A1, n1, c1, acc, rfl, rfl, hp.out, hn.out, hd.out, hm.out, by have hlE := LE.out; have hs0 := LTX.out; have hs1 := LHR.out; have hs2 := SS1.out; have hs3 := LWE.out; have hs4 := HB0.out; have hs5 := SS2.out; have hs6 := LUX3.out; have hs7 := SBR3.out; have hs8 := hbe.out; omega, B3.out, X3.out, R3.out, O3.out.up⟩
        case round =>
          obtain ⟨p2, A2, n2, c2, acc2, rfl, rfl, ghp2, ghn2, ghd2, ghm2, ghbe2, gB4, gX4, gR4, gO4⟩ := hrel
          have B4 := Lib.hid gB4
          have X4 := Lib.hid gX4
          have R4 := Lib.hid gR4
          have O4 := Lib.hid gO4
          have hp2 := Lib.hid ghp2
          have hn2 := Lib.hid ghn2
          have hd2 := Lib.hid ghd2
          have hm2 := Lib.hid ghm2
          have hbe2 := Lib.hid ghbe2
          clear gB4 gX4 gR4 gO4 ghp2 ghn2 ghd2 ghm2 ghbe2
          have LUX4 := Lib.hid X4.out.lt
          have SBR4 := Lib.hid B4.out.size
          have hlt9 := hlt
          obtain ⟨g, off, x, u, hA, hy, hg1, hg2, hru, hxu⟩ := ux.row_at (R4.out : RR (row 85 nf) _ _ _ _ _) hlt9
          obtain ⟨A0, n0, c0_, rfl, hb0⟩ := ux.nf_r hxu
          subst hA
          have k0 : wr.cell? ⟨g, off + k * 2, none⟩ = some (.int .i64 x.Seq) := hru 0 _ rfl
          have k1 : wr.cell? ⟨g, off + k * 2 + 1, none⟩ = some (.slice A0 n0 c0_) := hru 1 _ rfl
          have HY := Lib.hid hy
          have HN0 := Lib.hid (ux.rd_of hb0).len
          have hn0 := (ux.rd_of hb0).cap_
          have F4 := Lib.hid hb0
          clear hy hru hxu hb0 hg1 hg2
          obtain rfl : y = x := Option.some.inj (HYY.out.symm.trans HY.out)
          obtain ⟨hp16, hcs⟩ := head_cases HOK.out.len hd2.out HYY.out
          have HP16 := Lib.hid hp16
          have HNX := Lib.hid (nsq_at s p2)
          clear hp16
          rcases hcs with hcs | hcs
          · obtain ⟨he, hd3, hm3⟩ := hcs
            have HD3 := Lib.hid hd3
            have HM3 := Lib.hid hm3
            clear hd3 hm3
            rw [← he] at k0
            clear he
            have cX0 : wr.cell? ⟨w.heap.size, 0, none⟩ = some (.int .i64 s) := X4.out.cell 0
            have cX1 : wr.cell? ⟨w.heap.size, 1, none⟩ = some (.slice (some ⟨g, off, none⟩) n c) := X4.out.cell 1
            go_wp2_with fail
            clear k0 k1 cX0 cX1
            (with_reducible refine (bs.specNs ((s + (p2 : Int)) % 4096) _).mono ?_)
            rw [HNX.out]
            rintro e wq ⟨rfl, rfl⟩
            go_wp2_with fail
            go_roundw
            case rel => exact ⟨p2 + 1, _, _, _, acc2, k + 1, rfl, rfl, by go_num, by omega, by have := HP16.out; omega, by have := hn2.out; omega, HD3.out, by rw [hm2.out, HM3.out], by have hlE := LE.out; have hs0 := LTX.out; have hs1 := LHR.out; have hs2 := SS1.out; have hs3 := LWE.out; have hs4 := HB0.out; have hs5 := SS2.out; have hs6 := LUX3.out; have hs7 := SBR3.out; have hs8 := hbe.out; have hs9 := LUX4.out; have hs10 := SBR4.out; have hs11 := hbe2.out; omega, B4.out, X4.out, R4.out, O4.out.up⟩
            case measure => simp [intOf]; omega
          · obtain ⟨he, hd3, hm3⟩ := hcs
            have HD3 := Lib.hid hd3
            have HM3 := Lib.hid hm3
            clear hd3 hm3
            have cX0 : wr.cell? ⟨w.heap.size, 0, none⟩ = some (.int .i64 s) := X4.out.cell 0
            have cX1 : wr.cell? ⟨w.heap.size, 1, none⟩ = some (.slice (some ⟨g, off, none⟩) n c) := X4.out.cell 1
            go_wp2_with (at_builtin; refine wpList_app _ rfl _ _ 24 rfl 3 i0 _ .i64 Try.underlying24 HZ.out.1 HZ.out.2.1 HZ.out.2.2.1 (by rw [HZ.out.2.2.2]; omega) rfl rfl rfl (O4.out.alloc _) (Rd.one .i64 _ _ _ (WalkArith.wf_i64 (by omega))) (by have := hn2.out; have := HP16.out; omega) (by have hlE := LE.out; have hs0 := LTX.out; have hs1 := LHR.out; have hs2 := SS1.out; have hs3 := LWE.out; have hs4 := HB0.out; have hs5 := SS2.out; have hs6 := LUX3.out; have hs7 := SBR3.out; have hs8 := hbe.out; have hs9 := LUX4.out; have hs10 := SBR4.out; have hs11 := hbe2.out; first | omega | (simp <;> omega)) ?_; intro A3 c3 w5 ho hb1; have hb2 : Below b0 wr w5 := (((Below.refl _ _).alloc (by have hlE := LE.out; have hs0 := LTX.out; have hs1 := LHR.out; have hs2 := SS1.out; have hs3 := LWE.out; have hs4 := HB0.out; have hs5 := SS2.out; have hs6 := LUX3.out; have hs7 := SBR3.out; have hs8 := hbe.out; have hs9 := LUX4.out; have hs10 := SBR4.out; have hs11 := hbe2.out; first | omega | (simp <;> omega)) _).trans hb1); clear hb1; have B5 := Lib.hid (B4.out.trans (hb2.mono (by have hlE := LE.out; have hs0 := LTX.out; have hs1 := LHR.out; have hs2 := SS1.out; have hs3 := LWE.out; have hs4 := HB0.out; have hs5 := SS2.out; have hs6 := LUX3.out; have hs7 := SBR3.out; have hs8 := hbe.out; have hs9 := LUX4.out; have hs10 := SBR4.out; have hs11 := hbe2.out; first | omega | (simp <;> omega)))); have X5 := Lib.hid (X4.out.up hb2 (by have hlE := LE.out; have hs0 := LTX.out; have hs1 := LHR.out; have hs2 := SS1.out; have hs3 := LWE.out; have hs4 := HB0.out; have hs5 := SS2.out; have hs6 := LUX3.out; have hs7 := SBR3.out; have hs8 := hbe.out; have hs9 := LUX4.out; have hs10 := SBR4.out; have hs11 := hbe2.out; first | omega | (simp <;> omega))); have R5 := Lib.hid (R4.out.same hb2.size fun b h1 h2 => hb2.block b (by have hlE := LE.out; have hs0 := LTX.out; have hs1 := LHR.out; have hs2 := SS1.out; have hs3 := LWE.out; have hs4 := HB0.out; have hs5 := SS2.out; have hs6 := LUX3.out; have hs7 := SBR3.out; have hs8 := hbe.out; have hs9 := LUX4.out; have hs10 := SBR4.out; have hs11 := hbe2.out; first | omega | (simp <;> omega))); have F5 := Lib.hid (F4.out.same hb2.size fun b h1 h2 => hb2.block b (by have hlE := LE.out; have hs0 := LTX.out; have hs1 := LHR.out; have hs2 := SS1.out; have hs3 := LWE.out; have hs4 := HB0.out; have hs5 := SS2.out; have hs6 := LUX3.out; have hs7 := SBR3.out; have hs8 := hbe.out; have hs9 := LUX4.out; have hs10 := SBR4.out; have hs11 := hbe2.out; first | omega | (simp <;> omega))); have SS5 := Lib.hid hb2.size; have O5 := Lib.hid (show Ow 3 .i64 w5 (b0) (w5.heap.size) A3 (n2 + 1) c3 (acc2 ++ [(s + (p2 : Int)) % 4096]) from ho); clear ho hb2 B4 X4 R4 O4 F4)
            clear he k0 k1 cX0 cX1
            (with_reducible refine (bs.specNs ((s + (p2 : Int)) % 4096) _).mono ?_)
            rw [HNX.out]
            rintro e wq ⟨rfl, rfl⟩
            go_wp2_with fail
            go_roundw
            case rel => exact ⟨p2 + 1, A3, n2 + 1, c3, acc2 ++ [(s + (p2 : Int)) % 4096], rfl, rfl, by have := HP16.out; omega, by have := hn2.out; omega, HD3.out, by rw [hm2.out, HM3.out, List.append_assoc]; rfl, by have hlE := LE.out; have hs0 := LTX.out; have hs1 := LHR.out; have hs2 := SS1.out; have hs3 := LWE.out; have hs4 := HB0.out; have hs5 := SS2.out; have hs6 := LUX3.out; have hs7 := SBR3.out; have hs8 := hbe.out; have hs9 := LUX4.out; have hs10 := SBR4.out; have hs11 := hbe2.out; have hs12 := SS5.out; omega, B5.out, X5.out, R5.out, O5.out.up⟩
            case measure => (simp only [intOf]; have := HP16.out; have := HOK.out.s; push_cast; omega)
      · have hlt2 : ¬ (k : Int) < n := by omega
        obtain rfl : n = k := by omega
        have HE := Lib.hid (show msn ⟨s, xs⟩ = acc by rw [HMS.out, hm.out, miss_all (by rw [← hd.out]; exact List.drop_eq_nil_of_le (by rw [HL.out]; exact Nat.le_refl _)), List.append_nil])
        have cX0 : wr.cell? ⟨w.heap.size, 0, none⟩ = some (.int .i64 s) := X3.out.cell 0
        have cX1 : wr.cell? ⟨w.heap.size, 1, none⟩ = some (.slice A n c) := X3.out.cell 1
        go_wp2_with fail
        clear cX0 cX1
        go_ret
        rw [HE.out]
        exact ⟨_, _, _, rfl, O3.out.up.down (by have hlE := LE.out; have hs0 := LTX.out; have hs1 := LHR.out; have hs2 := SS1.out; have hs3 := LWE.out; have hs4 := HB0.out; have hs5 := SS2.out; have hs6 := LUX3.out; have hs7 := SBR3.out; have hs8 := hbe.out; first | omega | (simp <;> omega)), B3.out⟩
  | false =>
    go_wp2_with fail
    have HE := Lib.hid (show msn ⟨s, xs⟩ = [] by unfold msn; rw [HV.out]; rfl)
    rw [HE.out]
    go_ret
    exact ⟨_, _, _, rfl, ((O2.out).up.down (by have hlE := LE.out; have hs0 := LTX.out; have hs1 := LHR.out; have hs2 := SS1.out; have hs3 := LWE.out; have hs4 := HB0.out; have hs5 := SS2.out; first | omega | (simp <;> omega))), B2.out⟩
end Go.Proofs.Ytmmhleobgpgliaa.ro
