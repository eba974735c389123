/- New buffers and copies, program and specification. Condition: sizes up to 2^26. -/
import Derived.Test.YtejjafmppihneaaRo1
import Derived.Test.YtejjafmppihneaaUv
namespace Go.Proofs.Ytejjafmppihneaa.ro
open Go.RowKit sl harn bx stw
set_option linter.unusedVariables false
open ux (Nf Rob RR OO row rowB rowNf nf rob)
open mrw (blkOf)
open bs (nsq sqd)
set_option linter.unusedSimpArgs false

theorem infoNF : (Try.prog.info? 90).map (fun i => (i.zero, i.size, i.bytes)) = some (some (.agg #[.int .i64 0, .slice none 0 0]), 2, 32) := by kernel_rfl
theorem oo_narrow {α : Type} {S : ux.Rep α} {w : World} {lo lo2 hi : Nat} {fp : List Nat} {v : Value} {x : α} (h : OO S w lo hi fp v x) (hf : ∀ b, b ∈ fp → lo2 ≤ b) : OO S w lo2 hi fp v x := ⟨h.1, fun b hb => ⟨hf b hb, (h.2.1 b hb).2⟩, h.2.2⟩
theorem part_all {zs : List Int} {n : Nat} (h : zs.length = n) : (zs.drop 0).take (n - 0) = zs := by rw [List.drop_zero, Nat.sub_zero, List.take_of_length_le (by omega)]
/-- What a function hands back that is a buffer of the call's own. -/
def RoPost (r : Rob) (w : World) (e : Ending) (w' : World) : Prop := ∃ A n c fp, e = .returned (.agg #[.int .i64 r.Start, .slice A n c]) ∧ OO rowNf w' w.heap.size w'.heap.size fp (.slice A n c) r.Pending ∧ Below w.heap.size w w'
theorem ro_parts {r : Rob} {w : World} {e : Ending} {w' : World} (h : RoPost r w e w') : ∃ A n c fp, e = .returned (.agg #[.int .i64 r.Start, .slice A n c]) ∧ OO rowNf w' w.heap.size w'.heap.size fp (.slice A n c) r.Pending ∧ Below w.heap.size w w' := h
/-- .. that is read. -/
def RrPost (r : Rob) (w : World) (e : Ending) (w' : World) : Prop := ∃ A n c, e = .returned (.agg #[.int .i64 r.Start, .slice A n c]) ∧ RR rowNf w' w.heap.size w'.heap.size (.slice A n c) r.Pending ∧ Below w.heap.size w w'
theorem rr_parts {r : Rob} {w : World} {e : Ending} {w' : World} (h : RrPost r w e w') : ∃ A n c, e = .returned (.agg #[.int .i64 r.Start, .slice A n c]) ∧ RR rowNf w' w.heap.size w'.heap.size (.slice A n c) r.Pending ∧ Below w.heap.size w w' := h
theorem up {α : Type} {S : ux.Rep α} {w : World} {lo lo2 hi : Nat} {fp : List Nat} {v : Value} {x : α} (h : OO S w lo hi fp v x) (hl : lo2 ≤ lo) : OO S w lo2 w.heap.size fp v x := h.wide hl
set_option maxRecDepth 100000 in
set_option maxHeartbeats 4000000 in
theorem implNew (m : Int) (w : World) :
    Calls Try.prog 98 #[.int .i64 m] w (RoPost (new m) w) := by
  by_cases hm : 0 ≤ m ∧ m ≤ 4095
  · have H1 := Lib.hid (show decide (0 ≤ m ∧ m ≤ 4095) = true from decide_eq_true hm)
    have HE := Lib.hid (show new m = ⟨m, []⟩ by unfold new; rw [if_pos hm])
    clear hm
    go_enter Try.func98, Try.ntmps98
    go_wp2_with fail
    obtain ⟨w0, hW⟩ : ∃ w0, w.alloc (.cells #[.int .i64 0, .slice none 0 0] 50) = w0 := ⟨_, rfl⟩
    rw [hW]
    have B0 := Lib.hid (show Below w.heap.size w w0 by rw [← hW]; exact (Below.refl _ _).alloc (by simp <;> omega) _)
    have Z0 := Lib.hid (show Bx 50 w0 (w.heap.size) #[.int .i64 0, .slice none 0 0] by
        rw [← hW]
        have hh := Bx.made 50 w #[.int .i64 0, .slice none 0 0]
        exact hh)
    clear hW
    have LTZ := Lib.hid Z0.out.lt
    (with_reducible refine (bs.isSq m true _ H1.out).mono ?_)
    rintro e wq ⟨rfl, rfl⟩
    go_upto_region 3 with fail
    obtain ⟨be, hbb⟩ : ∃ b, w0.heap.size = b := ⟨_, rfl⟩
    have hX := Bx.made 90 w0 #[]
    have hb := bx.below_box w0 (.cells #[] 90)
    rw [hbb] at hX
    go_wp2_with (refine stw.list_store rfl 50 _ _ rfl (w.heap.size) #[.int .i64 m, .slice (some ⟨be, 0, none⟩) 0 0] rfl rfl 50 _ (Z0.out.below hb) rfl ux.szRob (ux.oneRob _ _ _ _) ?_; intro wz hz)
    have HB := Lib.hid (hz.on (B0.out.trans (hb.mono B0.out.size)) (Nat.le_refl _))
    have HO := Lib.hid (show OO rowNf wz w.heap.size wz.heap.size [be] (.slice (some ⟨be, 0, none⟩) 0 0) [] from ((ux.row_empty 90 nf (hz.keep hX (by have := Z0.out.lt; omega))).wide (by have := B0.out.size; omega)))
    (try simp only [Exit.inBlock, Exit.then])
    refine bodyPost_ret (v := .agg #[.int .i64 m, .slice (some ⟨be, 0, none⟩) 0 0]) ?_ rfl ?_
    · rw [results_cell1 rfl]
      exact stw.back hz.box Try.underlying50 rfl ux.szRob
    · rw [HE.out]; exact ⟨_, _, _, _, rfl, HO.out, HB.out⟩
  · have H1 := Lib.hid (show decide (0 ≤ m ∧ m ≤ 4095) = false from decide_eq_false hm)
    have HE := Lib.hid (show new m = ⟨0, []⟩ by unfold new; rw [if_neg hm])
    clear hm
    go_enter Try.func98, Try.ntmps98
    go_wp2_with fail
    obtain ⟨w0, hW⟩ : ∃ w0, w.alloc (.cells #[.int .i64 0, .slice none 0 0] 50) = w0 := ⟨_, rfl⟩
    rw [hW]
    have B0 := Lib.hid (show Below w.heap.size w w0 by rw [← hW]; exact (Below.refl _ _).alloc (by simp <;> omega) _)
    have Z0 := Lib.hid (show Bx 50 w0 (w.heap.size) #[.int .i64 0, .slice none 0 0] by
        rw [← hW]
        have hh := Bx.made 50 w #[.int .i64 0, .slice none 0 0]
        exact hh)
    clear hW
    have LTZ := Lib.hid Z0.out.lt
    (with_reducible refine (bs.isSq m false _ H1.out).mono ?_)
    rintro e wq ⟨rfl, rfl⟩
    go_upto_region 3 with fail
    obtain ⟨be, hbb⟩ : ∃ b, w0.heap.size = b := ⟨_, rfl⟩
    have hX := Bx.made 90 w0 #[]
    have hb := bx.below_box w0 (.cells #[] 90)
    rw [hbb] at hX
    go_wp2_with (refine stw.list_store rfl 50 _ _ rfl (w.heap.size) #[.int .i64 0, .slice (some ⟨be, 0, none⟩) 0 0] rfl rfl 50 _ (Z0.out.below hb) rfl ux.szRob (ux.oneRob _ _ _ _) ?_; intro wz hz)
    have HB := Lib.hid (hz.on (B0.out.trans (hb.mono B0.out.size)) (Nat.le_refl _))
    have HO := Lib.hid (show OO rowNf wz w.heap.size wz.heap.size [be] (.slice (some ⟨be, 0, none⟩) 0 0) [] from ((ux.row_empty 90 nf (hz.keep hX (by have := Z0.out.lt; omega))).wide (by have := B0.out.size; omega)))
    (try simp only [Exit.inBlock, Exit.then])
    refine bodyPost_ret (v := .agg #[.int .i64 0, .slice (some ⟨be, 0, none⟩) 0 0]) ?_ rfl ?_
    · rw [results_cell1 rfl]
      exact stw.back hz.box Try.underlying50 rfl ux.szRob
    · rw [HE.out]; exact ⟨_, _, _, _, rfl, HO.out, HB.out⟩
set_option maxRecDepth 100000 in
set_option maxHeartbeats 4000000 in
theorem specNew (m : Int) (w : World) :
    Calls Try.prog 106 #[.int .i64 m] w (RrPost (new m) w) := by
  by_cases hm : 0 ≤ m ∧ m ≤ 4095
  · have H1 := Lib.hid (show decide (0 ≤ m ∧ m ≤ 4095) = true from decide_eq_true hm)
    have HE := Lib.hid (show new m = ⟨m, []⟩ by unfold new; rw [if_pos hm])
    clear hm
    go_enter Try.func106, Try.ntmps106
    go_wp2_with fail
    obtain ⟨w0, hW⟩ : ∃ w0, w.alloc (.cells #[.int .i64 0, .slice none 0 0] 50) = w0 := ⟨_, rfl⟩
    rw [hW]
    have B0 := Lib.hid (show Below w.heap.size w w0 by rw [← hW]; exact (Below.refl _ _).alloc (by simp <;> omega) _)
    have Z0 := Lib.hid (show Bx 50 w0 (w.heap.size) #[.int .i64 0, .slice none 0 0] by
        rw [← hW]
        have hh := Bx.made 50 w #[.int .i64 0, .slice none 0 0]
        exact hh)
    clear hW
    have LTZ := Lib.hid Z0.out.lt
    (with_reducible refine (l1R m 0 4095 true _ H1.out).mono ?_)
    rintro e wq ⟨rfl, rfl⟩
    go_wp2_with (first | (refine stw.list_store rfl 50 _ _ rfl (w.heap.size) #[.int .i64 m, .slice none 0 0] rfl rfl 50 _ Z0.out rfl ux.szRob (ux.oneRob _ _ _ _) ?_; intro wz1 hz))
    have B1 := Lib.hid (hz.on B0.out (by have hs0 := LTZ.out; first | omega | (simp <;> omega)))
    have Z1 := Lib.hid (hz.box)
    clear hz B0 Z0
    (try simp only [Exit.inBlock, Exit.then])
    refine bodyPost_ret (v := .agg #[.int .i64 m, .slice none 0 0]) ?_ rfl ?_
    · rw [results_cell1 rfl]
      exact stw.back Z1.out Try.underlying50 rfl ux.szRob
    · exact by rw [HE.out]; exact ⟨_, _, _, rfl, (ux.row_nil 90 nf _ (Nat.le_refl _)).rd, B1.out⟩
  · have H1 := Lib.hid (show decide (0 ≤ m ∧ m ≤ 4095) = false from decide_eq_false hm)
    have HE := Lib.hid (show new m = ⟨0, []⟩ by unfold new; rw [if_neg hm])
    clear hm
    go_enter Try.func106, Try.ntmps106
    go_wp2_with fail
    obtain ⟨w0, hW⟩ : ∃ w0, w.alloc (.cells #[.int .i64 0, .slice none 0 0] 50) = w0 := ⟨_, rfl⟩
    rw [hW]
    have B0 := Lib.hid (show Below w.heap.size w w0 by rw [← hW]; exact (Below.refl _ _).alloc (by simp <;> omega) _)
    have Z0 := Lib.hid (show Bx 50 w0 (w.heap.size) #[.int .i64 0, .slice none 0 0] by
        rw [← hW]
        have hh := Bx.made 50 w #[.int .i64 0, .slice none 0 0]
        exact hh)
    clear hW
    have LTZ := Lib.hid Z0.out.lt
    (with_reducible refine (l1R m 0 4095 false _ H1.out).mono ?_)
    rintro e wq ⟨rfl, rfl⟩
    go_wp2_with (first | (refine stw.list_store rfl 50 _ _ rfl (w.heap.size) #[.int .i64 0, .slice none 0 0] rfl rfl 50 _ Z0.out rfl ux.szRob (ux.oneRob _ _ _ _) ?_; intro wz1 hz))
    have B1 := Lib.hid (hz.on B0.out (by have hs0 := LTZ.out; first | omega | (simp <;> omega)))
    have Z1 := Lib.hid (hz.box)
    clear hz B0 Z0
    (try simp only [Exit.inBlock, Exit.then])
    refine bodyPost_ret (v := .agg #[.int .i64 0, .slice none 0 0]) ?_ rfl ?_
    · rw [results_cell1 rfl]
      exact stw.back Z1.out Try.underlying50 rfl ux.szRob
    · exact by rw [HE.out]; exact ⟨_, _, _, rfl, (ux.row_nil 90 nf _ (Nat.le_refl _)).rd, B1.out⟩
set_option maxRecDepth 100000 in
set_option maxHeartbeats 4000000 in
theorem implCp (s : Int) (xs : List Nf) (lo hi : Nat) (A : Option Addr) (n c : Nat) (w : World) (h : RR rowNf w lo hi (.slice A n c) xs) (hn : n ≤ 67108864) (hbd : ∀ x ∈ xs, x.Body.length ≤ 67108864) :
    Calls Try.prog 72 #[.agg #[.int .i64 s, .slice A n c]] w (RoPost ⟨s, xs⟩ w) := by
  have RW := Lib.hid h
  obtain ⟨hlR, hncR, hcmR⟩ := nf_len h
  have HL := Lib.hid hlR
  have LHR := Lib.hid (show hi ≤ w.heap.size from h.hi_)
  clear hlR h
  have HN := Lib.hid hn
  have HBD := Lib.hid hbd
  clear hn hbd
  obtain ⟨i0, hi0, hz0, hz1, hz2⟩ := info_parts infoNF
  have HZ := Lib.hid (And.intro hi0 (And.intro hz0 (And.intro hz1 hz2)))
  clear hi0 hz0 hz1 hz2
  go_enter Try.func72, Try.ntmps72
  go_upto_region 1 with fail
  obtain ⟨w0, hW⟩ : ∃ w0, (w.alloc (.cells #[.int .i64 s, .slice A n c] 50)).alloc (.cells #[.int .i64 0, .slice none 0 0] 50) = w0 := ⟨_, rfl⟩
  rw [hW]
  have B0 := Lib.hid (show Below w.heap.size w w0 by rw [← hW]; exact ((Below.refl _ _).alloc (by simp <;> omega) _).alloc (by simp <;> omega) _)
  have X0 := Lib.hid (show Bx 50 w0 (w.heap.size) #[.int .i64 s, .slice A n c] by
      rw [← hW]
      have hh := Bx.made 50 w #[.int .i64 s, .slice A n c]
      exact (hh.below (below_box _ _)))
  have Z0 := Lib.hid (show Bx 50 w0 (w.heap.size + 1) #[.int .i64 0, .slice none 0 0] by
      rw [← hW]
      have hh : Bx 50 ((w.alloc (.cells #[.int .i64 s, .slice A n c] 50)).alloc (.cells #[.int .i64 0, .slice none 0 0] 50)) (w.heap.size + 1) #[.int .i64 0, .slice none 0 0] := by have hh := Bx.made 50 (w.alloc (.cells #[.int .i64 s, .slice A n c] 50)) #[.int .i64 0, .slice none 0 0]; simpa using hh
      exact hh)
  have R0 := Lib.hid (show RR rowNf w0 lo hi (.slice A n c) xs by rw [← hW]; exact ((RW.out.below (below_box _ _)).below (below_box _ _)))
  clear hW
  have LTX := Lib.hid X0.out.lt
  have LTZ := Lib.hid Z0.out.lt
  obtain ⟨be, hbb⟩ : ∃ b, w0.heap.size = b := ⟨_, rfl⟩
  go_upto_region 2 with fail
  generalize hW : w0.alloc (.cells #[] 90) = w1
  have LE := Lib.hid (show w.heap.size ≤ be ∧ w.heap.size < be ∧ w.heap.size + 1 < be ∧ hi ≤ be by have h1 := B0.out.size; have h2X := X0.out.lt; have h2Z := Z0.out.lt; have h2R := R0.out.hi_; have h3 := hbb; omega)
  have E1 := Lib.hid (show Bx 90 w1 be #[] by rw [← hW, ← hbb]; exact Bx.made _ _ _)
  have hb : Below w0.heap.size w0 w1 := by rw [← hW]; exact below_box _ _
  (try rw [hbb])
  clear hW hbb
  have SS1 := Lib.hid hb.size
  have B1 := Lib.hid (B0.out.trans (hb.mono B0.out.size))
  have X1 := Lib.hid (X0.out.below hb)
  have Z1 := Lib.hid (Z0.out.below hb)
  have R1 := Lib.hid (R0.out.below hb)
  clear hb B0 X0 Z0 R0
  have LWE := Lib.hid E1.out.lt
  have HBE := Lib.hid (show be < w1.heap.size from E1.out.lt)
  have O1 := Lib.hid (show OO rowNf w1 be w1.heap.size [be] (.slice (some ⟨be, 0, none⟩) 0 0) [] from (ux.row_empty 90 nf E1.out).wide (Nat.le_refl _))
  clear E1
  have cX0 : w1.cell? ⟨w.heap.size, 0, none⟩ = some (.int .i64 s) := X1.out.cell 0
  have cX1 : w1.cell? ⟨w.heap.size, 1, none⟩ = some (.slice A n c) := X1.out.cell 1
  go_wp2_with fail
  clear cX0 cX1
  go_loopw [3, 10] (fun v0 v1 wr => ∃ (A1 : Option Addr) (k : Nat) (c1 : Nat) (f : List Nat), v0 = .slice A1 k c1 ∧ v1 = .int .i64 ((k : Int)) ∧ (k ≤ n) ∧ (w.heap.size + 1 < be ∧ be < wr.heap.size) ∧ Below w.heap.size w wr ∧ Bx 50 wr w.heap.size #[.int .i64 s, .slice A n c] ∧ Bx 50 wr (w.heap.size + 1) #[.int .i64 0, .slice none 0 0] ∧ RR rowNf wr lo hi (.slice A n c) xs ∧ OO rowNf wr be wr.heap.size f (.slice A1 k c1) (xs.take k)) (fun _ i _ => n - (intOf i).toNat)
  case atStart => exact ⟨(some ⟨be, 0, none⟩), 0, 0, [be], rfl, rfl, by omega, by have h1 := LE.out; have h2 := HBE.out; omega, B1.out, X1.out, Z1.out, R1.out, O1.out⟩
  case round =>
    obtain ⟨A1, k, c1, f, rfl, rfl, ghk, ghbe, gB2, gX2, gZ2, gR2, gO2⟩ := hrel
    have B2 := Lib.hid gB2
    have X2 := Lib.hid gX2
    have Z2 := Lib.hid gZ2
    have R2 := Lib.hid gR2
    have O2 := Lib.hid gO2
    have hk := Lib.hid ghk
    have hbe := Lib.hid ghbe
    clear gB2 gX2 gZ2 gR2 gO2 ghk ghbe
    have LUX2 := Lib.hid X2.out.lt
    have LUZ2 := Lib.hid Z2.out.lt
    have SBR2 := Lib.hid B2.out.size
    have hk9 := hk.out
    have hkN := HN.out
    by_cases hlt : k < n
    · have hlt2 : (k : Int) < n := by omega
      obtain ⟨g, off, x, u, hA, hy, hg1, hg2, hru, hxu⟩ := ux.row_at (R2.out : RR (row 90 nf) _ _ _ _ _) hlt
      obtain ⟨A0, n0, c0_, rfl, hb0⟩ := ux.nf_r hxu
      subst hA
      have k0 : wr.cell? ⟨g, off + k * 2, none⟩ = some (.int .i64 x.Seq) := hru 0 _ rfl
      have k1 : wr.cell? ⟨g, off + k * 2 + 1, none⟩ = some (.slice A0 n0 c0_) := hru 1 _ rfl
      have HY := Lib.hid hy
      have HN0 := Lib.hid (ux.rd_of hb0).len
      have hn0 := (ux.rd_of hb0).cap_
      have F2 := Lib.hid hb0
      clear hy hru hxu hb0 hg1 hg2
      have HBX := Lib.hid (HBD.out x (List.mem_of_getElem? HY.out))
      have cX0 : wr.cell? ⟨w.heap.size, 0, none⟩ = some (.int .i64 s) := X2.out.cell 0
      have cX1 : wr.cell? ⟨w.heap.size, 1, none⟩ = some (.slice (some ⟨g, off, none⟩) n c) := X2.out.cell 1
      obtain ⟨b3, hbb⟩ : ∃ b, wr.heap.size = b := ⟨_, rfl⟩
      go_upto_region 5 with fail
      generalize hW : wr.alloc (.cells #[.int .i64 x.Seq, .slice A0 n0 c0_] 90) = w3
      have LV := Lib.hid (show w.heap.size ≤ b3 ∧ w.heap.size < b3 ∧ w.heap.size + 1 < b3 ∧ hi ≤ b3 ∧ wr.heap.size ≤ b3 ∧ hi ≤ b3 by have h1 := B2.out.size; have h2X := X2.out.lt; have h2Z := Z2.out.lt; have h2R := R2.out.hi_; have h2O := O2.out.hi_; have h2F := F2.out.hi_; have h3 := hbb; omega)
      have V3 := Lib.hid (show Bx 90 w3 b3 #[.int .i64 x.Seq, .slice A0 n0 c0_] by rw [← hW, ← hbb]; exact Bx.made _ _ _)
      have hb : Below wr.heap.size wr w3 := by rw [← hW]; exact below_box _ _
      (try rw [hbb])
      clear hW hbb
      have SS3 := Lib.hid hb.size
      have B3 := Lib.hid (B2.out.trans (hb.mono B2.out.size))
      have X3 := Lib.hid (X2.out.below hb)
      have Z3 := Lib.hid (Z2.out.below hb)
      have R3 := Lib.hid (R2.out.below hb)
      have O3 := Lib.hid (O2.out.below hb)
      have F3 := Lib.hid (F2.out.below hb)
      clear hb B2 X2 Z2 R2 O2 F2
      have LWV := Lib.hid V3.out.lt
      clear k0 k1 cX0 cX1
      have HO0 := Lib.hid (show OO (row 90 nf) w3 0 w3.heap.size f (.slice A1 k c1) (xs.take k) from O3.out.wide (Nat.zero_le _))
      refine rgp.region_tailE (rgp.EA 11 reg.Bel (ux.ApU nf 90 w3.heap.size f A1 k c1 (xs.take k))) 12 31 [some [], some [], some [(1, 15)], some [], some [(3, 17)], some [], some [(5, 19)], some [(6, 20)], some [(4, 18), (7, 21)], some [(2, 16), (8, 22)], some [(9, 23)], some [(0, 14), (10, 24)], none] [(0, 14), (1, 15), (2, 16), (3, 17), (4, 18), (5, 19), (6, 20), (7, 21), (8, 22), (9, 23), (10, 24), (11, 25)]
        (ux.CU nf 90 w3.heap.size f A1 k c1 (xs.take k) w3)
        (rgp.RA 11 [rgp.is (.slice A1 k c1), rgp.is (.pointer (some ⟨b3, 0, none⟩)), rgp.is (.int .i64 x.Seq), rgp.is (.pointer (some ⟨b3, 1, none⟩)), rgp.is (.slice A0 n0 c0_), rgp.is (.pointer (some ⟨b3, 1, none⟩)), rgp.is (.slice A0 n0 c0_), rgp.is (.int .i64 ((n0 : Int))), ux.elU nf 90 w3.heap.size f A1 k c1 (xs.take k) ux.bytes (x.Body), ux.elU nf 90 w3.heap.size f A1 k c1 (xs.take k) nf (x), ux.oneU nf 90 w3.heap.size f A1 k c1 (xs.take k) (x), rgp.val fun _ => True] (ux.newU nf 90 w3.heap.size f k (xs.take k) (x)))
        (by kernel_rfl) rfl (by kernel_rfl) (by kernel_rfl) rfl
        (ux.cu_keep nf 90 w3.heap.size f A1 k c1 (xs.take k) 11 w3)
        (rgp.ra_keep (ux.newU_keep nf 90 w3.heap.size f k (xs.take k) (x))) (ux.cu_start nf 90 w3.heap.size f A1 k c1 (xs.take k) HO0.out) (by kernel_rfl) ⟨?_, ?_, ?_, ?_, ?_, ?_, ?_, ?_, ?_, ?_, ?_, ?_, trivial⟩ ?_
      · refine fun w8 hc  K hK => ?_
        (try simp only [Act.put, List.setIfInBounds_toArray, List.set_cons_zero, List.set_cons_succ])
        go_simp
        exact hK (.slice A1 k c1) _ (rgp.ra1 rfl rfl) (rgp.ea1 rfl (Below.refl _ _))
      · refine fun w8 hc  K hK => ?_
        (try simp only [Act.put, List.setIfInBounds_toArray, List.set_cons_zero, List.set_cons_succ])
        go_simp
        exact hK (.pointer (some ⟨b3, 0, none⟩)) _ (rgp.ra1 rfl rfl) (rgp.ea1 rfl (Below.refl _ _))
      · refine fun w8 hc v1 h1 K hK => ?_
        have h1 := rgp.ra1_out rfl h1
        obtain rfl : v1 = .pointer (some ⟨b3, 0, none⟩) := h1
        (try simp only [Act.put, List.setIfInBounds_toArray, List.set_cons_zero, List.set_cons_succ])
        have c0 := (ux.bx_ks V3.out hc.1 (fun hm => by have hlE := LE.out; have hlV := LV.out; have hs0 := LTX.out; have hs1 := LTZ.out; have hs2 := LHR.out; have hs3 := SS1.out; have hs4 := LWE.out; have hs5 := HBE.out; have hs6 := LUX2.out; have hs7 := LUZ2.out; have hs8 := SBR2.out; have hs9 := hbe.out; have hs10 := SS3.out; have hs11 := LWV.out; have h9 := O3.out.inn _ hm; omega)).cell 0
        go_simp
        exact hK (.int .i64 x.Seq) _ (rgp.ra1 rfl rfl) (rgp.ea1 rfl (Below.refl _ _))
      · refine fun w8 hc  K hK => ?_
        (try simp only [Act.put, List.setIfInBounds_toArray, List.set_cons_zero, List.set_cons_succ])
        go_simp
        exact hK (.pointer (some ⟨b3, 1, none⟩)) _ (rgp.ra1 rfl rfl) (rgp.ea1 rfl (Below.refl _ _))
      · refine fun w8 hc v3 h3 K hK => ?_
        have h3 := rgp.ra1_out rfl h3
        obtain rfl : v3 = .pointer (some ⟨b3, 1, none⟩) := h3
        (try simp only [Act.put, List.setIfInBounds_toArray, List.set_cons_zero, List.set_cons_succ])
        have c0 := (ux.bx_ks V3.out hc.1 (fun hm => by have hlE := LE.out; have hlV := LV.out; have hs0 := LTX.out; have hs1 := LTZ.out; have hs2 := LHR.out; have hs3 := SS1.out; have hs4 := LWE.out; have hs5 := HBE.out; have hs6 := LUX2.out; have hs7 := LUZ2.out; have hs8 := SBR2.out; have hs9 := hbe.out; have hs10 := SS3.out; have hs11 := LWV.out; have h9 := O3.out.inn _ hm; omega)).cell 1
        go_simp
        exact hK (.slice A0 n0 c0_) _ (rgp.ra1 rfl rfl) (rgp.ea1 rfl (Below.refl _ _))
      · refine fun w8 hc  K hK => ?_
        (try simp only [Act.put, List.setIfInBounds_toArray, List.set_cons_zero, List.set_cons_succ])
        go_simp
        exact hK (.pointer (some ⟨b3, 1, none⟩)) _ (rgp.ra1 rfl rfl) (rgp.ea1 rfl (Below.refl _ _))
      · refine fun w8 hc v5 h5 K hK => ?_
        have h5 := rgp.ra1_out rfl h5
        obtain rfl : v5 = .pointer (some ⟨b3, 1, none⟩) := h5
        (try simp only [Act.put, List.setIfInBounds_toArray, List.set_cons_zero, List.set_cons_succ])
        have c0 := (ux.bx_ks V3.out hc.1 (fun hm => by have hlE := LE.out; have hlV := LV.out; have hs0 := LTX.out; have hs1 := LTZ.out; have hs2 := LHR.out; have hs3 := SS1.out; have hs4 := LWE.out; have hs5 := HBE.out; have hs6 := LUX2.out; have hs7 := LUZ2.out; have hs8 := SBR2.out; have hs9 := hbe.out; have hs10 := SS3.out; have hs11 := LWV.out; have h9 := O3.out.inn _ hm; omega)).cell 1
        go_simp
        exact hK (.slice A0 n0 c0_) _ (rgp.ra1 rfl rfl) (rgp.ea1 rfl (Below.refl _ _))
      · refine fun w8 hc v6 h6 K hK => ?_
        have h6 := rgp.ra1_out rfl h6
        obtain rfl : v6 = .slice A0 n0 c0_ := h6
        (try simp only [Act.put, List.setIfInBounds_toArray, List.set_cons_zero, List.set_cons_succ])
        go_simp
        exact hK (.int .i64 ((n0 : Int))) _ (rgp.ra1 rfl rfl) (rgp.ea1 rfl (Below.refl _ _))
      · refine fun w8 hc v4 h4 v7 h7 K hK => ?_
        have h4 := rgp.ra1_out rfl h4
        obtain rfl : v4 = .slice A0 n0 c0_ := h4
        have h7 := rgp.ra1_out rfl h7
        obtain rfl : v7 = .int .i64 ((n0 : Int)) := h7
        (try simp only [Act.put, List.setIfInBounds_toArray, List.set_cons_zero, List.set_cons_succ])
        have hr8 := ux.rd_of (F3.out.ks hc.1 (fun b h1 h2 h3 => by have hlE := LE.out; have hlV := LV.out; have hs0 := LTX.out; have hs1 := LTZ.out; have hs2 := LHR.out; have hs3 := SS1.out; have hs4 := LWE.out; have hs5 := HBE.out; have hs6 := LUX2.out; have hs7 := LUZ2.out; have hs8 := SBR2.out; have hs9 := hbe.out; have hs10 := SS3.out; have hs11 := LWV.out; have h9 := O3.out.inn b h3; omega))
        have hcp8 := uvs.copyPart _ _ _ _ _ _ 0 n0 w8 hr8 (Nat.zero_le _) (Nat.le_refl _) (by have h1 := HBX.out; rw [HN0.out] at h1; omega)
        go_simp
        (with_reducible refine (show Calls Try.prog 96 #[.slice A0 n0 c0_, .int .i64 0, .int .i64 (n0 : Int)] w8 _ from hcp8).mono ?_)
        rintro e w3 ⟨C, m3, c3_, rfl, ho, hb⟩
        exact hK _ _ (rgp.ra1 rfl ⟨_, _, _, hc.2.hi_, by have hh := ux.num_of ho; rw [part_all HN0.out] at hh; exact hh⟩) (rgp.ea1 rfl hb)
      · refine fun w8 hc v2 h2 v8 h8 K hK => ?_
        have h2 := rgp.ra1_out rfl h2
        obtain rfl : v2 = .int .i64 x.Seq := h2
        have h8 := rgp.ra1_out rfl h8
        obtain ⟨fe8, lo8, hi8, hl8, ho8⟩ := h8
        obtain ⟨Ae8, ne8, ce8, rfl⟩ := ux.bytes_slo ho8.1
        (try simp only [Act.put, List.setIfInBounds_toArray, List.set_cons_zero, List.set_cons_succ])
        go_simp
        exact hK (ux.nfV x (.slice Ae8 ne8 ce8)) _ (rgp.ra1 rfl ⟨fe8, lo8, hi8, hl8, ux.nf_mk (x := x) ho8 (ux.bytes.nd ho8.1)⟩) (rgp.ea1 rfl (Below.refl _ _))
      · refine fun w8 hc v9 h9 K hK => ?_
        have h9 := rgp.ra1_out rfl h9
        obtain ⟨fe9, lo9, hi9, hl9, ho9⟩ := h9
        obtain ⟨Ae9, ne9, ce9, fz9, rfl, _, _, _⟩ := ux.nf_o ho9
        (try simp only [Act.put, List.setIfInBounds_toArray, List.set_cons_zero, List.set_cons_succ])
        go_simp
        exact hK (.slice (some ⟨w8.heap.size, 0, none⟩) 1 1) _ (rgp.ra1 rfl ⟨w8.heap.size, 1, ux.nfV x (.slice Ae9 ne9 ce9), fe9, lo9, hi9, rfl, hc.2.hi_, Bx.made _ _ _, hl9, ho9.below (bx.below_box _ _)⟩) (rgp.ea1 rfl (bx.below_box _ _))
      · refine fun w8 hc v0 h0 v10 h10 K hK => ?_
        have h0 := rgp.ra1_out rfl h0
        obtain rfl : v0 = .slice A1 k c1 := h0
        have h10 := rgp.ra1_out rfl h10
        obtain ⟨q10, cq10, u10, fe10, lo10, hi10, rfl, hq10, hX10, hl10, ho10⟩ := h10
        (try simp only [Act.put, List.setIfInBounds_toArray, List.set_cons_zero, List.set_cons_succ])
        rw [if_pos (by rfl)]
        refine ux.wp_push (S := nf) (T := 90) _ _ 48 rfl Try.underlying48 HZ.out.1 HZ.out.2.1 HZ.out.2.2.1 (by rw [HZ.out.2.2.2]; omega) rfl rfl rfl hc.2 (x) ho10 hl10 hX10 (by omega) ?_
        intro A4 c4 w4 hn4 hp4
        exact hK _ _ (rgp.ra2 hn4) (rgp.ea2 hp4)
      refine fun wg4 hc v0 h0 v1 h1 v2 h2 v3 h3 v4 h4 v5 h5 v6 h6 v7 h7 v8 h8 v9 h9 v10 h10 v11 h11 => ?_
      have h0 := rgp.ra1_out rfl h0
      obtain rfl : v0 = .slice A1 k c1 := h0
      have h1 := rgp.ra1_out rfl h1
      obtain rfl : v1 = .pointer (some ⟨b3, 0, none⟩) := h1
      have h2 := rgp.ra1_out rfl h2
      obtain rfl : v2 = .int .i64 x.Seq := h2
      have h3 := rgp.ra1_out rfl h3
      obtain rfl : v3 = .pointer (some ⟨b3, 1, none⟩) := h3
      have h4 := rgp.ra1_out rfl h4
      obtain rfl : v4 = .slice A0 n0 c0_ := h4
      have h5 := rgp.ra1_out rfl h5
      obtain rfl : v5 = .pointer (some ⟨b3, 1, none⟩) := h5
      have h6 := rgp.ra1_out rfl h6
      obtain rfl : v6 = .slice A0 n0 c0_ := h6
      have h7 := rgp.ra1_out rfl h7
      obtain rfl : v7 = .int .i64 ((n0 : Int)) := h7
      have h8 := rgp.ra1_out rfl h8
      obtain ⟨fe8, lo8, hi8, hl8, ho8⟩ := h8
      obtain ⟨Ae8, ne8, ce8, rfl⟩ := ux.bytes_slo ho8.1
      have h9 := rgp.ra1_out rfl h9
      obtain ⟨fe9, lo9, hi9, hl9, ho9⟩ := h9
      obtain ⟨Ae9, ne9, ce9, fz9, rfl, _, _, _⟩ := ux.nf_o ho9
      have h10 := rgp.ra1_out rfl h10
      obtain ⟨q10, cq10, u10, fe10, lo10, hi10, rfl, hq10, hX10, hl10, ho10⟩ := h10
      have h11 := rgp.ra2_out h11
      obtain ⟨A3, c3, f3, hi3, rfl, hO3, hf3⟩ := h11
      (try simp only [reg.Obs])
      (try simp only [Act.put, List.setIfInBounds_toArray, List.set_cons_zero, List.set_cons_succ])
      simp only [List.drop_succ_cons, List.drop_zero]
      have SS4 := Lib.hid hc.1.size
      have B4 := Lib.hid (B3.out.trans (ux.ks_bel hc.1 (fun b hb => by have hlE := LE.out; have hlV := LV.out; have hs0 := LTX.out; have hs1 := LTZ.out; have hs2 := LHR.out; have hs3 := SS1.out; have hs4 := LWE.out; have hs5 := HBE.out; have hs6 := LUX2.out; have hs7 := LUZ2.out; have hs8 := SBR2.out; have hs9 := hbe.out; have hs10 := SS3.out; have hs11 := LWV.out; have h9 := O3.out.inn b hb; omega) B3.out.size))
      have X4 := Lib.hid (ux.bx_ks X3.out hc.1 (fun hm => by have hlE := LE.out; have hlV := LV.out; have hs0 := LTX.out; have hs1 := LTZ.out; have hs2 := LHR.out; have hs3 := SS1.out; have hs4 := LWE.out; have hs5 := HBE.out; have hs6 := LUX2.out; have hs7 := LUZ2.out; have hs8 := SBR2.out; have hs9 := hbe.out; have hs10 := SS3.out; have hs11 := LWV.out; have h9 := O3.out.inn _ hm; omega))
      have Z4 := Lib.hid (ux.bx_ks Z3.out hc.1 (fun hm => by have hlE := LE.out; have hlV := LV.out; have hs0 := LTX.out; have hs1 := LTZ.out; have hs2 := LHR.out; have hs3 := SS1.out; have hs4 := LWE.out; have hs5 := HBE.out; have hs6 := LUX2.out; have hs7 := LUZ2.out; have hs8 := SBR2.out; have hs9 := hbe.out; have hs10 := SS3.out; have hs11 := LWV.out; have h9 := O3.out.inn _ hm; omega))
      have V4 := Lib.hid (ux.bx_ks V3.out hc.1 (fun hm => by have hlE := LE.out; have hlV := LV.out; have hs0 := LTX.out; have hs1 := LTZ.out; have hs2 := LHR.out; have hs3 := SS1.out; have hs4 := LWE.out; have hs5 := HBE.out; have hs6 := LUX2.out; have hs7 := LUZ2.out; have hs8 := SBR2.out; have hs9 := hbe.out; have hs10 := SS3.out; have hs11 := LWV.out; have h9 := O3.out.inn _ hm; omega))
      have R4 := Lib.hid (R3.out.ks hc.1 (fun b h1 h2 h3 => by have hlE := LE.out; have hlV := LV.out; have hs0 := LTX.out; have hs1 := LTZ.out; have hs2 := LHR.out; have hs3 := SS1.out; have hs4 := LWE.out; have hs5 := HBE.out; have hs6 := LUX2.out; have hs7 := LUZ2.out; have hs8 := SBR2.out; have hs9 := hbe.out; have hs10 := SS3.out; have hs11 := LWV.out; have h9 := O3.out.inn b h3; omega))
      have F4 := Lib.hid (F3.out.ks hc.1 (fun b h1 h2 h3 => by have hlE := LE.out; have hlV := LV.out; have hs0 := LTX.out; have hs1 := LTZ.out; have hs2 := LHR.out; have hs3 := SS1.out; have hs4 := LWE.out; have hs5 := HBE.out; have hs6 := LUX2.out; have hs7 := LUZ2.out; have hs8 := SBR2.out; have hs9 := hbe.out; have hs10 := SS3.out; have hs11 := LWV.out; have h9 := O3.out.inn b h3; omega))
      have HF3 := Lib.hid hf3
      have O4 := Lib.hid (show OO rowNf wg4 be wg4.heap.size f3 (.slice A3 (k + 1) c3) ((xs.take k) ++ [x]) from oo_narrow (hO3.wide (Nat.zero_le _)) (fun b hb => by have hlE := LE.out; have hlV := LV.out; have hs0 := LTX.out; have hs1 := LTZ.out; have hs2 := LHR.out; have hs3 := SS1.out; have hs4 := LWE.out; have hs5 := HBE.out; have hs6 := LUX2.out; have hs7 := LUZ2.out; have hs8 := SBR2.out; have hs9 := hbe.out; have hs10 := SS3.out; have hs11 := LWV.out; have h7 := hf3 b hb; rcases h7 with h7 | h7; exact (O3.out.inn b h7).1; omega))
      clear hO3 hf3 hc HO0 B3 X3 Z3 V3 R3 O3 F3
      have HT := Lib.hid (ux.take_snoc HY.out)
      go_wp2_with fail
      go_roundw
      case rel => exact ⟨A3, k + 1, c3, f3, rfl, by go_num, by omega, by have hlE := LE.out; have hlV := LV.out; have hs0 := LTX.out; have hs1 := LTZ.out; have hs2 := LHR.out; have hs3 := SS1.out; have hs4 := LWE.out; have hs5 := HBE.out; have hs6 := LUX2.out; have hs7 := LUZ2.out; have hs8 := SBR2.out; have hs9 := hbe.out; have hs10 := SS3.out; have hs11 := LWV.out; have hs12 := SS4.out; omega, B4.out, X4.out, Z4.out, R4.out, (by rw [HT.out]; exact O4.out)⟩
      case measure => simp [intOf]; omega
    · have hlt2 : ¬ (k : Int) < n := by omega
      obtain rfl : n = k := by omega
      have HF := Lib.hid (show xs.take n = xs from List.take_of_length_le (by rw [HL.out]; exact Nat.le_refl _))
      have cX0 : wr.cell? ⟨w.heap.size, 0, none⟩ = some (.int .i64 s) := X2.out.cell 0
      have cX1 : wr.cell? ⟨w.heap.size, 1, none⟩ = some (.slice A n c) := X2.out.cell 1
      go_wp2_with (first | (refine stw.list_store rfl 50 _ _ rfl (w.heap.size + 1) #[.int .i64 s, .slice A1 n c1] rfl rfl 50 _ Z2.out rfl ux.szRob (ux.oneRob _ _ _ _) ?_; intro wz3 hz))
      clear cX0 cX1
      have B3 := Lib.hid (hz.on B2.out (by have hlE := LE.out; have hs0 := LTX.out; have hs1 := LTZ.out; have hs2 := LHR.out; have hs3 := SS1.out; have hs4 := LWE.out; have hs5 := HBE.out; have hs6 := LUX2.out; have hs7 := LUZ2.out; have hs8 := SBR2.out; have hs9 := hbe.out; first | omega | (simp <;> omega)))
      have X3 := Lib.hid (hz.keep X2.out (by have hlE := LE.out; have hs0 := LTX.out; have hs1 := LTZ.out; have hs2 := LHR.out; have hs3 := SS1.out; have hs4 := LWE.out; have hs5 := HBE.out; have hs6 := LUX2.out; have hs7 := LUZ2.out; have hs8 := SBR2.out; have hs9 := hbe.out; first | omega | (simp <;> omega)))
      have Z3 := Lib.hid (hz.box)
      have R3 := Lib.hid (R2.out.same hz.below.size fun b h1 h2 => hz.other b (by have hlE := LE.out; have hs0 := LTX.out; have hs1 := LTZ.out; have hs2 := LHR.out; have hs3 := SS1.out; have hs4 := LWE.out; have hs5 := HBE.out; have hs6 := LUX2.out; have hs7 := LUZ2.out; have hs8 := SBR2.out; have hs9 := hbe.out; first | omega | (simp <;> omega)))
      have O3 := Lib.hid (O2.out.same hz.below.size fun b h1 h2 => hz.other b (by have hlE := LE.out; have hs0 := LTX.out; have hs1 := LTZ.out; have hs2 := LHR.out; have hs3 := SS1.out; have hs4 := LWE.out; have hs5 := HBE.out; have hs6 := LUX2.out; have hs7 := LUZ2.out; have hs8 := SBR2.out; have hs9 := hbe.out; first | omega | (simp <;> omega)))
      clear hz B2 X2 Z2 R2 O2
      (try simp only [Exit.inBlock, Exit.then])
      refine bodyPost_ret (v := .agg #[.int .i64 s, .slice A1 n c1]) ?_ rfl ?_
      · rw [results_cell1 rfl]
        exact stw.back Z3.out Try.underlying50 rfl ux.szRob
      · exact ⟨_, _, _, _, rfl, by rw [← HF.out]; exact O3.out.wide (by have hlE := LE.out; have hs0 := LTX.out; have hs1 := LTZ.out; have hs2 := LHR.out; have hs3 := SS1.out; have hs4 := LWE.out; have hs5 := HBE.out; have hs6 := LUX2.out; have hs7 := LUZ2.out; have hs8 := SBR2.out; have hs9 := hbe.out; omega), B3.out⟩
end Go.Proofs.Ytejjafmppihneaa.ro
