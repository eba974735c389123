/- SplitAggregate of both sides. Condition: up to 2^26 bytes. -/
import Derived.Test.YthgbmcdfbinpkaaAg5
namespace Go.Proofs.Ythgbmcdfbinpkaa.ag
open Go.RowKit sl harn bx rng mrw drk stw
set_option linter.unusedVariables false
set_option linter.unusedSimpArgs false

theorem infoBs : (Try.prog.info? 22).map (fun i => (i.zero, i.size, i.bytes)) = some (some (.slice none 0 0), 1, 24) := by kernel_rfl
theorem oe_boxB {w : World} {b : Nat} (h : Bx 22 w b #[]) : Oe bsS w b w.heap.size (some ⟨b, 0, none⟩) 0 0 [] :=
  ⟨⟨by simp [flat], .inr ⟨b, 0, #[], rfl, Nat.le_refl _, h, Nat.le_refl _, by unfold maxLen; omega, by simp, by simp [flat]⟩⟩, fun _ h => (by cases h), List.Pairwise.nil, Nat.le_refl _, fun g o e => by
    injection e with e; injection e with e _; subst e; exact h.lt⟩
/-- A frame of the call's own, and whether there is one. -/
def FaPost (r : Option (List Int)) (w : World) (e : Ending) (w' : World) : Prop := ∃ A n c, e = .returned (.tuple #[.slice A n c, .bool r.isSome]) ∧ Ow 5 .u8 w' w.heap.size w'.heap.size A n c (r.getD []) ∧ Below w.heap.size w w'
theorem fa_parts {r s : Option (List Int)} (hr : r = s) {w w' : World} {e : Ending} (h : FaPost r w e w') : ∃ A n c, e = .returned (.tuple #[.slice A n c, .bool s.isSome]) ∧ Ow 5 .u8 w' w.heap.size w'.heap.size A n c (s.getD []) ∧ Below w.heap.size w w' := by subst hr; exact h
theorem fa_none {r : Option (List Int)} (hr : r = none) {w w' : World} {A : Option Addr} {n c : Nat} (ho : Ow 5 .u8 w' w.heap.size w'.heap.size A n c []) (hb : Below w.heap.size w w') : FaPost r w (.returned (.tuple #[.slice A n c, .bool false])) w' := by subst hr; exact ⟨_, _, _, rfl, ho, hb⟩
theorem fa_some {r : Option (List Int)} {f : List Int} (hr : r = some f) {w w' : World} {A : Option Addr} {n c : Nat} (ho : Ow 5 .u8 w' w.heap.size w'.heap.size A n c f) (hb : Below w.heap.size w w') : FaPost r w (.returned (.tuple #[.slice A n c, .bool true])) w' := by subst hr; exact ⟨_, _, _, rfl, ho, hb⟩
/-- A slice of slices of bytes, all of the call's own. -/
def BlPost (l : List (List Int)) (w : World) (e : Ending) (w' : World) : Prop := ∃ A n c es, e = .returned (.slice A n c) ∧ es.map (fun e : El (List Int) => e.x) = l ∧ Oe bsS w' w.heap.size w'.heap.size A n c es ∧ Below w.heap.size w w'
theorem bl_parts {l : List (List Int)} {w w' : World} {e : Ending} (h : BlPost l w e w') : ∃ A n c es, e = .returned (.slice A n c) ∧ es.map (fun e : El (List Int) => e.x) = l ∧ Oe bsS w' w.heap.size w'.heap.size A n c es ∧ Below w.heap.size w w' := h
theorem sp_some {zs f : List Int} {o m : Nat} {l R : List (List Int)} (hm : m < 8) (ho : o < zs.length) (hf : fa zs o = some f) (h : l ++ split (8 - m) (zs.drop o) = R) : (l ++ [f]) ++ split (8 - (m + 1)) (zs.drop (o + (sub f.length).toNat)) = R := by
  rw [← h, at_some ho (by omega) hf, List.append_assoc, Nat.sub_sub]; rfl
theorem sp_none {zs : List Int} {o m : Nat} {l R : List (List Int)} (hm : m < 8) (ho : o < zs.length) (hf : fa zs o = none) (h : l ++ split (8 - m) (zs.drop o) = R) : l ++ split (8 - m) (zs.drop (o + 4)) = R := by
  rw [← h, at_none ho (by omega) hf]
theorem sp_end {zs : List Int} {o m : Nat} {l R : List (List Int)} (hd : zs.length ≤ o ∨ 8 ≤ m) (h : l ++ split (8 - m) (zs.drop o) = R) : l = R := by
  rw [at_end (hd.imp id (by omega)), List.append_nil] at h; exact h
set_option maxRecDepth 100000 in
set_option maxHeartbeats 4000000 in
theorem implFra (zs : List Int) (lo hi : Nat) (A : Option Addr) (n cap : Nat) (o : Nat) (w : World) (h : Rd .u8 w lo hi A n cap zs) (hn : n ≤ 67108864) (hon : o < n) :
    Calls Try.prog 53 #[.slice A n cap, .int .i64 (o : Int)] w (FaPost (fa zs o) w) := by
  have RW := Lib.hid h
  have LHR := Lib.hid h.hi_
  have HLN := Lib.hid h.len
  have HCA := Lib.hid h.cap_
  clear h
  have HN := Lib.hid hn
  clear hn
  have hca := HCA.out
  obtain ⟨s, hs⟩ : ∃ s : Nat, o + 4 = s := ⟨_, rfl⟩
  have hws : IntKind.i64.wrap ((o : Int) + 4) = (s : Int) := by rw [show (o : Int) + 4 = (s : Int) by omega]; exact IntWalk.i64_in _ (by have := HN.out; omega)
  have hwd : IntKind.i64.wrap ((n : Int) - (s : Int)) = (n : Int) - (s : Int) := IntWalk.i64_in _ (by have := HN.out; omega)
  have HS := Lib.hid hs
  clear hs
  obtain ⟨v, t, hv⟩ : ∃ v t, pd zs (o : Int) = (v, t) := ⟨_, _, rfl⟩
  have HV := Lib.hid hv
  clear hv
  go_enter Try.func53, Try.ntmps53
  have B0 := Lib.hid (Below.refl w.heap.size w)
  have R0 := RW
  go_wp2_with fail
  (with_reducible refine (implPd zs lo hi A n cap (o : Int) _ R0.out HN.out).mono ?_)
  rintro e w1 hp
  obtain ⟨rfl, hb⟩ := pd_parts HV.out hp
  clear hp
  have SS1 := Lib.hid hb.size
  have B1 := Lib.hid (B0.out.trans (hb.mono B0.out.size))
  have R1 := Lib.hid (R0.out.below hb)
  clear hb  B0 R0
  cases t with
  | true =>
    have hr := pd_rng HV.out
    obtain ⟨m, rfl⟩ : ∃ m : Nat, v = m := ⟨v.toNat, by omega⟩
    obtain ⟨q, hq⟩ : ∃ q : Nat, s + m = q := ⟨_, rfl⟩
    have hwq : IntKind.i64.wrap ((s : Int) + (m : Int)) = (q : Int) := by rw [show (s : Int) + (m : Int) = (q : Int) by omega]; exact IntWalk.i64_in _ (by have := HN.out; have := HS.out; omega)
    have HQ := Lib.hid hq
    clear hr hq
    by_cases hl : (n : Int) - (s : Int) < (m : Int)
    · have HE := Lib.hid (show fa zs o = none from fa_long (by rw [HV.out, HLN.out]; have := HS.out; show ¬ (m : Int) ≤ _; omega))
      go_wp2_with fail
      go_ret2
      exact fa_none HE.out ((Ow.empty 5 .u8 w1).down B1.out.size).up (B1.out.alloc B1.out.size _)
    · have HE := Lib.hid (show fa zs o = some ((zs.drop s).take m) by rw [fa_yes HV.out (by rw [HLN.out]; have := HS.out; omega), HS.out])
      have hqn : q ≤ n := by have := HQ.out; omega
      have HQN := Lib.hid hqn
      clear hqn
      go_wp2_with fail
      (with_reducible refine (uvs.copyPart lo hi A n cap zs s q _ R1.out (by have := HQ.out; omega) HQN.out (by have := HN.out; omega)).mono ?_)
      rintro e w2 ⟨C, m3, c3, rfl, ho, hb⟩
      have SS2 := Lib.hid hb.size
      have B2 := Lib.hid (B1.out.trans (hb.mono B1.out.size))
      have R2 := Lib.hid (R1.out.below hb)
      clear hb  B1 R1
      have C2 := Lib.hid ho
      clear ho
      have HQS := Lib.hid (show q - s = m by have := HQ.out; omega)
      go_wp2_with fail
      go_ret2
      exact fa_some HE.out (by have hh := C2.out; rw [HQS.out] at hh; exact (hh.up).down (by have hs0 := LHR.out; have hs1 := SS1.out; have hs2 := SS2.out; first | omega | (simp <;> omega))) B2.out
  | false =>
    have HE := Lib.hid (show fa zs o = none from fa_no (by rw [HV.out]))
    go_wp2_with fail
    go_ret2
    exact fa_none HE.out ((Ow.empty 5 .u8 w1).down B1.out.size).up (B1.out.alloc B1.out.size _)
set_option maxRecDepth 100000 in
set_option maxHeartbeats 4000000 in
theorem implSp (zs : List Int) (lo hi : Nat) (A : Option Addr) (n cap : Nat) (w : World) (h : Rd .u8 w lo hi A n cap zs) (hn : n ≤ 67108864) :
    Calls Try.prog 22 #[.slice A n cap] w (BlPost (split 8 zs) w) := by
  have RW := Lib.hid h
  have LHR := Lib.hid h.hi_
  have HLN := Lib.hid h.len
  have HCA := Lib.hid h.cap_
  clear h
  obtain ⟨i0, hi0, hz0, hz1, hz2⟩ := info_parts infoBs
  have HZ := Lib.hid (And.intro hi0 (And.intro hz0 (And.intro hz1 hz2)))
  clear hi0 hz0 hz1 hz2
  obtain ⟨j0, hj0, hy0, hy1, hy2⟩ := info_parts u8Info
  have HY8 := Lib.hid (And.intro hj0 (And.intro hy0 (And.intro hy1 hy2)))
  clear hj0 hy0 hy1 hy2
  have HN := Lib.hid hn
  clear hn
  have hca := HCA.out
  obtain ⟨RR, hRR⟩ : ∃ R, split 8 zs = R := ⟨_, rfl⟩
  have HRR := Lib.hid hRR
  rw [hRR]
  clear hRR
  go_enter Try.func22, Try.ntmps22
  have B0 := Lib.hid (Below.refl w.heap.size w)
  have R0 := RW
  go_upto_region 2 with fail
  obtain ⟨be, hbb⟩ : ∃ b, w.heap.size = b := ⟨_, rfl⟩
  generalize hW : w.alloc (.cells #[] 22) = w1
  have LE := Lib.hid (show w.heap.size ≤ be ∧ hi ≤ be by have h1 := B0.out.size; have h2R := R0.out.hi_; have h3 := hbb; omega)
  have E1 := Lib.hid (show Bx 22 w1 be #[] by rw [← hW, ← hbb]; exact Bx.made _ _ _)
  have hb : Below w.heap.size w w1 := by rw [← hW]; exact below_box _ _
  (try rw [hbb])
  clear hW hbb
  have SS1 := Lib.hid hb.size
  have B1 := Lib.hid (B0.out.trans (hb.mono B0.out.size))
  have R1 := Lib.hid (R0.out.below hb)
  clear hb B0 R0
  have LWE := Lib.hid E1.out.lt
  have O1 := Lib.hid (show Oe bsS w1 be w1.heap.size (some ⟨be, 0, none⟩) 0 0 [] from oe_boxB E1.out)
  have HBE := Lib.hid (show w.heap.size ≤ be ∧ be < w1.heap.size by have h1 := LE.out; have h2 := E1.out.lt; omega)
  clear E1
  go_wp2_with fail
  go_loopw [3, 4] (fun v0 v1 wr => ∃ (o : Nat) (m : Nat) (A1 : Option Addr) (c1 : Nat) (es : List (El (List Int))), v0 = .slice A1 m c1 ∧ v1 = .int .i64 ((o : Int)) ∧ (m ≤ 8) ∧ (o ≤ n + 204) ∧ (es.map (fun e : El (List Int) => e.x) ++ split (8 - m) (zs.drop o) = RR) ∧ (w.heap.size ≤ be ∧ be < wr.heap.size) ∧ Below w.heap.size w wr ∧ Rd .u8 wr (lo) (hi) A n cap zs ∧ Oe bsS wr be wr.heap.size A1 m c1 es) (fun _ i _ => n + 300 - (intOf i).toNat)
  case atStart => exact ⟨0, 0, (some ⟨be, 0, none⟩), 0, [], rfl, rfl, by omega, by omega, by simpa using HRR.out, HBE.out, B1.out, R1.out, O1.out⟩
  case round =>
    obtain ⟨o, m, A1, c1, es, rfl, rfl, ghm, gho, ghe, ghbe, gB2, gR2, gO2⟩ := hrel
    have B2 := Lib.hid gB2
    have R2 := Lib.hid gR2
    have O2 := Lib.hid gO2
    have hm := Lib.hid ghm
    have ho := Lib.hid gho
    have he := Lib.hid ghe
    have hbe := Lib.hid ghbe
    clear gB2 gR2 gO2 ghm gho ghe ghbe
    have SBR2 := Lib.hid B2.out.size
    have hm9 := hm.out
    have ho9 := ho.out
    have hnn := HN.out
    by_cases hlt : o < n
    · have hlt2 : (o : Int) < n := by omega
      by_cases h8 : m < 8
      · have h82 : (m : Int) < 8 := by omega
        have hw4 : IntKind.i64.wrap ((o : Int) + 4) = (o : Int) + 4 := IntWalk.i64_in _ (by omega)
        obtain ⟨r, hr⟩ : ∃ r, fa zs o = r := ⟨_, rfl⟩
        have HF := Lib.hid hr
        clear hr
        go_wp2_with fail
        (with_reducible refine (implFra zs lo hi A n cap o _ R2.out HN.out hlt).mono ?_)
        rintro e w3 hp
        obtain ⟨A2, n2, c2, rfl, ho2, hb⟩ := fa_parts HF.out hp
        clear hp
        have SS3 := Lib.hid hb.size
        have B3 := Lib.hid (B2.out.trans (hb.mono B2.out.size))
        have R3 := Lib.hid (R2.out.below hb)
        have O3 := Lib.hid (O2.out.below hb)
        clear hb B2 R2 O2
        have F3 := Lib.hid ho2
        clear ho2
        cases r with
        | none =>
          have HE := Lib.hid (sp_none h8 (by rw [HLN.out]; exact hlt) HF.out he.out)
          go_wp2_with fail
          go_roundw
          case rel => exact ⟨o + 4, m, A1, c1, es, rfl, by go_num, by omega, by omega, HE.out, by have hs0 := LHR.out; have hs1 := SS1.out; have hs2 := LWE.out; have hs3 := HBE.out; have hs4 := SBR2.out; have hs5 := hbe.out; have hs6 := SS3.out; omega, B3.out, R3.out, O3.out.up⟩
          case measure => simp [intOf]; omega
        | some f =>
          have F3 := Lib.hid (show Ow 5 .u8 w3 wr.heap.size w3.heap.size A2 n2 c2 f from F3.out)
          have HFB := Lib.hid (fa_bd HF.out).1
          have HFL := Lib.hid (show f.length = n2 from F3.out.len)
          rw [HFL.out] at HFB
          go_upto_region 7 with fail
          go_upto_region 8 with (at_builtin; refine list_push (S := bsS) w3 rfl _ _ 24 rfl Try.underlying24 HZ.out.1 HZ.out.2.1 HZ.out.2.2.1 (by rw [HZ.out.2.2.2]; omega) rfl rfl rfl O3.out ⟨f, A2, n2, c2⟩ F3.out (by have hs0 := LHR.out; have hs1 := SS1.out; have hs2 := LWE.out; have hs3 := HBE.out; have hs4 := SBR2.out; have hs5 := hbe.out; have hs6 := SS3.out; first | omega | (simp <;> omega)) (by have hs0 := LHR.out; have hs1 := SS1.out; have hs2 := LWE.out; have hs3 := HBE.out; have hs4 := SBR2.out; have hs5 := hbe.out; have hs6 := SS3.out; first | omega | (simp <;> omega)) (by omega) (by have hs0 := LHR.out; have hs1 := SS1.out; have hs2 := LWE.out; have hs3 := HBE.out; have hs4 := SBR2.out; have hs5 := hbe.out; have hs6 := SS3.out; first | omega | (simp <;> omega)) ?_; intro A3 c3 w4 ho hg; have B4 := Lib.hid (below_grown B3.out hg (fun q hq => by have hs0 := LHR.out; have hs1 := SS1.out; have hs2 := LWE.out; have hs3 := HBE.out; have hs4 := SBR2.out; have hs5 := hbe.out; have hs6 := SS3.out; have := (O3.out.lo_ hq).1; omega) B3.out.size); have R4 := Lib.hid (rd_grown O3.out hg R3.out (by have hs0 := LHR.out; have hs1 := SS1.out; have hs2 := LWE.out; have hs3 := HBE.out; have hs4 := SBR2.out; have hs5 := hbe.out; have hs6 := SS3.out; first | omega | (simp <;> omega))); have F4 := Lib.hid (ow_grown O3.out hg F3.out); have SS4 := Lib.hid hg.size; clear B3 R3 O3 F3; have O4 := Lib.hid ho; clear ho hg)
          obtain ⟨s, hs⟩ : ∃ s : Nat, sub (n2 : Int) = s := ⟨(sub (n2 : Int)).toNat, by have := sub_rng (n2 : Int); omega⟩
          have HSS := Lib.hid hs
          have hsr : s ≤ 204 := by have := sub_rng (n2 : Int); omega
          have hws : IntKind.i64.wrap ((o : Int) + (s : Int)) = ((o + s : Nat) : Int) := by rw [show (o : Int) + (s : Int) = ((o + s : Nat) : Int) by omega]; exact IntWalk.i64_in _ (by omega)
          have hsp : 4 ≤ s := by have := sub_in (n := (n2 : Int)) (by have := HFB.out; omega); omega
          clear hs
          go_wp2_with fail
          (with_reducible refine (implSs (n2 : Int) _).mono ?_)
          rw [HSS.out]
          rintro e wq ⟨rfl, rfl⟩
          go_wp2_with fail
          have HE := Lib.hid (show _ = RR from sp_some h8 (by rw [HLN.out]; exact hlt) HF.out he.out)
          have HST := Lib.hid (show (sub (f.length : Int)).toNat = s by rw [HFL.out, HSS.out, Int.toNat_natCast])
          go_roundw
          case rel => exact ⟨o + s, m + 1, A3, c3, _, rfl, rfl, by omega, by omega, by have hh := HE.out; rw [HST.out] at hh; rw [List.map_append]; exact hh, by have hs0 := LHR.out; have hs1 := SS1.out; have hs2 := LWE.out; have hs3 := HBE.out; have hs4 := SBR2.out; have hs5 := hbe.out; have hs6 := SS3.out; have hs7 := SS4.out; first | omega | (simp <;> omega), B4.out, R4.out, O4.out.up⟩
          case measure => simp [intOf]; omega
      · have h82 : ¬ (m : Int) < 8 := by omega
        have HE := Lib.hid (sp_end (.inr (by omega)) he.out)
        go_wp2_with fail
        go_ret
        exact ⟨_, _, _, es, rfl, HE.out, (O2.out.up).down (by have hs0 := LHR.out; have hs1 := SS1.out; have hs2 := LWE.out; have hs3 := HBE.out; have hs4 := SBR2.out; have hs5 := hbe.out; first | omega | (simp <;> omega)), B2.out⟩
    · have hlt2 : ¬ (o : Int) < n := by omega
      have HE := Lib.hid (sp_end (.inl (by rw [HLN.out]; omega)) he.out)
      go_wp2_with fail
      go_ret
      exact ⟨_, _, _, es, rfl, HE.out, (O2.out.up).down (by have hs0 := LHR.out; have hs1 := SS1.out; have hs2 := LWE.out; have hs3 := HBE.out; have hs4 := SBR2.out; have hs5 := hbe.out; first | omega | (simp <;> omega)), B2.out⟩
set_option maxRecDepth 100000 in
set_option maxHeartbeats 4000000 in
theorem specSp (zs : List Int) (lo hi : Nat) (A : Option Addr) (n cap : Nat) (w : World) (h : Rd .u8 w lo hi A n cap zs) (hn : n ≤ 67108864) :
    Calls Try.prog 34 #[.slice A n cap] w (BlPost (split 8 zs) w) := by
  have RW := Lib.hid h
  have LHR := Lib.hid h.hi_
  have HLN := Lib.hid h.len
  have HCA := Lib.hid h.cap_
  clear h
  obtain ⟨i0, hi0, hz0, hz1, hz2⟩ := info_parts infoBs
  have HZ := Lib.hid (And.intro hi0 (And.intro hz0 (And.intro hz1 hz2)))
  clear hi0 hz0 hz1 hz2
  obtain ⟨j0, hj0, hy0, hy1, hy2⟩ := info_parts u8Info
  have HY8 := Lib.hid (And.intro hj0 (And.intro hy0 (And.intro hy1 hy2)))
  clear hj0 hy0 hy1 hy2
  have HN := Lib.hid hn
  clear hn
  have hca := HCA.out
  obtain ⟨RR, hRR⟩ : ∃ R, split 8 zs = R := ⟨_, rfl⟩
  have HRR := Lib.hid hRR
  rw [hRR]
  clear hRR
  go_enter Try.func34, Try.ntmps34
  have B0 := Lib.hid (Below.refl w.heap.size w)
  have R0 := RW
  go_upto_region 2 with fail
  obtain ⟨be, hbb⟩ : ∃ b, w.heap.size = b := ⟨_, rfl⟩
  generalize hW : w.alloc (.cells #[] 22) = w1
  have LE := Lib.hid (show w.heap.size ≤ be ∧ hi ≤ be by have h1 := B0.out.size; have h2R := R0.out.hi_; have h3 := hbb; omega)
  have E1 := Lib.hid (show Bx 22 w1 be #[] by rw [← hW, ← hbb]; exact Bx.made _ _ _)
  have hb : Below w.heap.size w w1 := by rw [← hW]; exact below_box _ _
  (try rw [hbb])
  clear hW hbb
  have SS1 := Lib.hid hb.size
  have B1 := Lib.hid (B0.out.trans (hb.mono B0.out.size))
  have R1 := Lib.hid (R0.out.below hb)
  clear hb B0 R0
  have LWE := Lib.hid E1.out.lt
  have O1 := Lib.hid (show Oe bsS w1 be w1.heap.size (some ⟨be, 0, none⟩) 0 0 [] from oe_boxB E1.out)
  have HBE := Lib.hid (show w.heap.size ≤ be ∧ be < w1.heap.size by have h1 := LE.out; have h2 := E1.out.lt; omega)
  clear E1
  go_wp2_with fail
  go_loopw [3, 4] (fun v0 v1 wr => ∃ (o : Nat) (m : Nat) (A1 : Option Addr) (c1 : Nat) (es : List (El (List Int))), v0 = .slice A1 m c1 ∧ v1 = .int .i64 ((o : Int)) ∧ (m ≤ 8) ∧ (o ≤ n + 204) ∧ (es.map (fun e : El (List Int) => e.x) ++ split (8 - m) (zs.drop o) = RR) ∧ (w.heap.size ≤ be ∧ be < wr.heap.size) ∧ Below w.heap.size w wr ∧ Rd .u8 wr (lo) (hi) A n cap zs ∧ Oe bsS wr be wr.heap.size A1 m c1 es) (fun _ i _ => n + 300 - (intOf i).toNat)
  case atStart => exact ⟨0, 0, (some ⟨be, 0, none⟩), 0, [], rfl, rfl, by omega, by omega, by simpa using HRR.out, HBE.out, B1.out, R1.out, O1.out⟩
  case round =>
    obtain ⟨o, m, A1, c1, es, rfl, rfl, ghm, gho, ghe, ghbe, gB2, gR2, gO2⟩ := hrel
    have B2 := Lib.hid gB2
    have R2 := Lib.hid gR2
    have O2 := Lib.hid gO2
    have hm := Lib.hid ghm
    have ho := Lib.hid gho
    have he := Lib.hid ghe
    have hbe := Lib.hid ghbe
    clear gB2 gR2 gO2 ghm gho ghe ghbe
    have SBR2 := Lib.hid B2.out.size
    have hm9 := hm.out
    have ho9 := ho.out
    have hnn := HN.out
    by_cases hlt : o < n
    · have hlt2 : (o : Int) < n := by omega
      by_cases h8 : m < 8
      · have h82 : (m : Int) < 8 := by omega
        have hw4 : IntKind.i64.wrap ((o : Int) + 4) = (o : Int) + 4 := IntWalk.i64_in _ (by omega)
        obtain ⟨v, t, hv⟩ : ∃ v t, pd zs (o : Int) = (v, t) := ⟨_, _, rfl⟩
        have HV := Lib.hid hv
        clear hv
        go_wp2_with fail
        (with_reducible refine (specPd zs lo hi A n cap (o : Int) _ R2.out HN.out).mono ?_)
        rintro e w3 hp
        obtain ⟨rfl, hb⟩ := pd_parts HV.out hp
        clear hp
        have SS3 := Lib.hid hb.size
        have B3 := Lib.hid (B2.out.trans (hb.mono B2.out.size))
        have R3 := Lib.hid (R2.out.below hb)
        have O3 := Lib.hid (O2.out.below hb)
        clear hb  B2 R2 O2
        cases t with
        | true =>
          have hr := pd_rng HV.out
          obtain ⟨q, rfl⟩ : ∃ q : Nat, v = q := ⟨v.toNat, by omega⟩
          obtain ⟨s1, hs1⟩ : ∃ s1 : Nat, o + 4 = s1 := ⟨_, rfl⟩
          have hw41 : IntKind.i64.wrap ((o : Int) + 4) = (s1 : Int) := by rw [hw4]; omega
          have hw42 : (o : Int) + 4 = (s1 : Int) := by omega
          obtain ⟨j, hj⟩ : ∃ j : Nat, s1 + q = j := ⟨_, rfl⟩
          have hwj : IntKind.i64.wrap ((s1 : Int) + (q : Int)) = (j : Int) := by rw [show (s1 : Int) + (q : Int) = (j : Int) by omega]; exact IntWalk.i64_in _ (by omega)
          have HS1 := Lib.hid hs1
          have HJ := Lib.hid hj
          have hq200 : q ≤ 200 := by omega
          clear hr hs1 hj
          by_cases hl : (n : Int) < (j : Int)
          · have HF := Lib.hid (show fa zs o = none from fa_long (by rw [HV.out, HLN.out]; have := HS1.out; have := HJ.out; show ¬ (q : Int) ≤ _; omega))
            clear hw4
            go_upto_region 6 with fail
            have hw4 : IntKind.i64.wrap ((o : Int) + 4) = (o : Int) + 4 := IntWalk.i64_in _ (by omega)
            clear hw41 hw42
            have HE := Lib.hid (sp_none h8 (by rw [HLN.out]; exact hlt) HF.out he.out)
            go_wp2_with fail
            go_roundw
            case rel => exact ⟨o + 4, m, A1, c1, es, rfl, by go_num, by omega, by omega, HE.out, by have hs0 := LHR.out; have hs1 := SS1.out; have hs2 := LWE.out; have hs3 := HBE.out; have hs4 := SBR2.out; have hs5 := hbe.out; have hs6 := SS3.out; omega, B3.out, R3.out, O3.out.up⟩
            case measure => simp [intOf]; omega
          · clear hw4
            obtain ⟨f, hf9⟩ : ∃ f, (zs.drop s1).take q = f := ⟨_, rfl⟩
            have HF := Lib.hid (show fa zs o = some f by rw [fa_yes HV.out (by rw [HLN.out]; have := HS1.out; have := HJ.out; omega), HS1.out, hf9])
            have HFB := Lib.hid (fa_bd HF.out).1
            have hjn : j ≤ n := by omega
            have HJN := Lib.hid hjn
            have HFL := Lib.hid (show f.length = q by rw [← hf9, List.length_take, List.length_drop, HLN.out]; have := HJ.out; omega)
            rw [HFL.out] at HFB
            have hsj : s1 ≤ j := by have := HJ.out; omega
            have HSL := Lib.hid (slice_mid (P := Try.prog) 22 5 j0 Try.underlying22 HY8.out.1 HY8.out.2.2.1 A n cap s1 j hsj (by have := HCA.out; omega))
            obtain ⟨A9, hA9, hsl9⟩ := HSL.out
            have HQJ := Lib.hid (show j - s1 = q by have := HJ.out; omega)
            rw [HQJ.out] at hsl9
            have HA9 := Lib.hid hA9
            have HF9 := Lib.hid hf9
            clear hA9 HSL hf9
            have hslr : ∀ W, (Instr.sliceAt 22 (.slice A n cap) (some (.int .i64 (s1 : Int))) (some (.int .i64 (j : Int))) none).run Try.prog W = .ok (.slice A9 q (cap - s1)) W := fun W => by rw [at_slice _ _ Try.underlying22]; exact hsl9 W
            have HSLR := Lib.hid hslr
            clear hsl9
            go_upto_region 7 with fail
            go_upto_region 8 with (first
              | (at_builtin; refine wpList_app _ rfl _ _ 22 rfl 5 j0 _ .u8 Try.underlying22 HY8.out.1 HY8.out.2.1 HY8.out.2.2.1 (by rw [HY8.out.2.2.2]; omega) rfl rfl rfl (Ow.empty 5 .u8 w3) (show Rd .u8 _ lo hi A9 q (cap - s1) f by have hh := (R3.out.below (below_box w3 (.cells #[] 5))).cut s1 j (cap - s1) A9 HA9.out hsj HJN.out (by have h1 := HJN.out; have h2 := HCA.out.1; omega) (by have h2 := HCA.out.2; unfold maxLen; omega); rw [HQJ.out, HF9.out] at hh; exact hh) (by omega) (by simp) ?_; intro A2 c2 w5 ho5 hb5; have HO5 := Lib.hid (show Ow 5 .u8 w5 w3.heap.size w5.heap.size A2 q c2 f by have hh := ho5; rw [Nat.zero_add, List.nil_append] at hh; exact hh); have hb := (below_box w3 (.cells #[] 5)).trans (hb5.mono (by simp)); rw [Nat.zero_add]; clear ho5 hb5; have SS4 := Lib.hid hb.size; have B4 := Lib.hid (B3.out.trans (hb.mono B3.out.size)); have R4 := Lib.hid (R3.out.below hb); have O4 := Lib.hid (O3.out.below hb); clear hb B3 R3 O3; have F4 := Lib.hid HO5.out; clear HO5)
              | (at_builtin; refine list_push (S := bsS) w5 rfl _ _ 24 rfl Try.underlying24 HZ.out.1 HZ.out.2.1 HZ.out.2.2.1 (by rw [HZ.out.2.2.2]; omega) rfl rfl rfl O4.out ⟨f, A2, q, c2⟩ F4.out (by have hs0 := LHR.out; have hs1 := SS1.out; have hs2 := LWE.out; have hs3 := HBE.out; have hs4 := SBR2.out; have hs5 := hbe.out; have hs6 := SS3.out; have hs7 := SS4.out; first | omega | (simp <;> omega)) (by have hs0 := LHR.out; have hs1 := SS1.out; have hs2 := LWE.out; have hs3 := HBE.out; have hs4 := SBR2.out; have hs5 := hbe.out; have hs6 := SS3.out; have hs7 := SS4.out; first | omega | (simp <;> omega)) (by omega) (by have hs0 := LHR.out; have hs1 := SS1.out; have hs2 := LWE.out; have hs3 := HBE.out; have hs4 := SBR2.out; have hs5 := hbe.out; have hs6 := SS3.out; have hs7 := SS4.out; first | omega | (simp <;> omega)) ?_; intro A3 c3 w5 ho hg; have B5 := Lib.hid (below_grown B4.out hg (fun q hq => by have hs0 := LHR.out; have hs1 := SS1.out; have hs2 := LWE.out; have hs3 := HBE.out; have hs4 := SBR2.out; have hs5 := hbe.out; have hs6 := SS3.out; have hs7 := SS4.out; have := (O4.out.lo_ hq).1; omega) B4.out.size); have R5 := Lib.hid (rd_grown O4.out hg R4.out (by have hs0 := LHR.out; have hs1 := SS1.out; have hs2 := LWE.out; have hs3 := HBE.out; have hs4 := SBR2.out; have hs5 := hbe.out; have hs6 := SS3.out; have hs7 := SS4.out; first | omega | (simp <;> omega))); have F5 := Lib.hid (ow_grown O4.out hg F4.out); have SS5 := Lib.hid hg.size; clear B4 R4 O4 F4; have O5 := Lib.hid ho; clear ho hg))
            clear hw41 hw42 hslr
            obtain ⟨s, hs⟩ : ∃ s : Nat, sub (q : Int) = s := ⟨(sub (q : Int)).toNat, by have := sub_rng (q : Int); omega⟩
            have HSS := Lib.hid hs
            have hsr : s ≤ 204 := by have := sub_rng (q : Int); omega
            have hws : IntKind.i64.wrap ((o : Int) + (s : Int)) = ((o + s : Nat) : Int) := by rw [show (o : Int) + (s : Int) = ((o + s : Nat) : Int) by omega]; exact IntWalk.i64_in _ (by omega)
            have hsp : 4 ≤ s := by have := sub_in (n := (q : Int)) (by have := HFB.out; omega); omega
            clear hs
            go_wp2_with fail
            (with_reducible refine (specSs (q : Int) _).mono ?_)
            rw [HSS.out]
            rintro e wq ⟨rfl, rfl⟩
            go_wp2_with fail
            have HE := Lib.hid (show _ = RR from sp_some h8 (by rw [HLN.out]; exact hlt) HF.out he.out)
            have HST := Lib.hid (show (sub (f.length : Int)).toNat = s by rw [HFL.out, HSS.out, Int.toNat_natCast])
            go_roundw
            case rel => exact ⟨o + s, m + 1, A3, c3, _, rfl, rfl, by omega, by omega, by have hh := HE.out; rw [HST.out] at hh; rw [List.map_append]; exact hh, by have hs0 := LHR.out; have hs1 := SS1.out; have hs2 := LWE.out; have hs3 := HBE.out; have hs4 := SBR2.out; have hs5 := hbe.out; have hs6 := SS3.out; have hs7 := SS4.out; have hs8 := SS5.out; first | omega | (simp <;> omega), B5.out, R5.out, O5.out.up⟩
            case measure => simp [intOf]; omega
        | false =>
          have HF := Lib.hid (show fa zs o = none from fa_no (by rw [HV.out]))
          have HE := Lib.hid (sp_none h8 (by rw [HLN.out]; exact hlt) HF.out he.out)
          go_wp2_with fail
          go_roundw
          case rel => exact ⟨o + 4, m, A1, c1, es, rfl, by go_num, by omega, by omega, HE.out, by have hs0 := LHR.out; have hs1 := SS1.out; have hs2 := LWE.out; have hs3 := HBE.out; have hs4 := SBR2.out; have hs5 := hbe.out; have hs6 := SS3.out; omega, B3.out, R3.out, O3.out.up⟩
          case measure => simp [intOf]; omega
      · have h82 : ¬ (m : Int) < 8 := by omega
        have HE := Lib.hid (sp_end (.inr (by omega)) he.out)
        go_wp2_with fail
        go_ret
        exact ⟨_, _, _, es, rfl, HE.out, (O2.out.up).down (by have hs0 := LHR.out; have hs1 := SS1.out; have hs2 := LWE.out; have hs3 := HBE.out; have hs4 := SBR2.out; have hs5 := hbe.out; first | omega | (simp <;> omega)), B2.out⟩
    · have hlt2 : ¬ (o : Int) < n := by omega
      have HE := Lib.hid (sp_end (.inl (by rw [HLN.out]; omega)) he.out)
      go_wp2_with fail
      go_ret
      exact ⟨_, _, _, es, rfl, HE.out, (O2.out.up).down (by have hs0 := LHR.out; have hs1 := SS1.out; have hs2 := LWE.out; have hs3 := HBE.out; have hs4 := SBR2.out; have hs5 := hbe.out; first | omega | (simp <;> omega)), B2.out⟩
end Go.Proofs.Ythgbmcdfbinpkaa.ag
