/- Merged texts of this seat. Uw19: The harness over remembered frames and slices of them. Condition: sizes up to 2^26. | Opn: A struct of one-cell fields that came in, opened field by field, whatever their number. Condition: none. | Ops: A slice of remembered frames that came in. Condition: none. -/
import Derived.Deep.QuietTactic
import Derived.Lib.SmallJoins
import Derived.ChangeOld
import Derived.Lib.LaidU8
import Derived.Test.YtbkdbdhbmabgcaaG1
import Derived.Test.YtbkdbdhbmabgcaaG4
import Derived.Test.YtbkdbdhbmabgcaaG7
import Derived.Test.YtbkdbdhbmabgcaaG8
section
namespace Go.Proofs.Ytbkdbdhbmabgcaa.ux
open Go.RowKit sl harn bx stw
set_option linter.unusedVariables false
set_option linter.unusedSimpArgs false

theorem infoSen : (Try.prog.info? 84).map (fun i => (i.zero, i.size, i.bytes)) = some (some (.agg #[.int .i64 0, .int .i64 0, .int .i64 0, .int .i64 0]), 4, 32) := by kernel_rfl
theorem szLSen : (Try.prog.info? 94).map (·.size) = some 4 := by kernel_rfl
set_option maxRecDepth 100000 in
set_option maxHeartbeats 4000000 in
theorem toSeenFrame {w : World} {lo hi : Nat} {v : Value} {x : Sen} (h : RR sen w lo hi v x) (hs : sen.sz x ≤ 67108864) :
    Calls Try.prog 79 #[v] w (ToPost sen x w) := by
  have LH := Lib.hid h.hi_
  have hh0 := h.hi_
  obtain rfl := sen_r h
  clear h hs
  go_enter Try.func79, Try.ntmps79
  go_upto_region 2 with fail
  obtain ⟨w0, hW⟩ : ∃ w0, ((w.alloc (.cells #[.int .i64 x.From, .int .i64 x.Category, .int .i64 x.Seq, .int .i64 x.Fragment] 94)).alloc (.cells #[.int .i64 0, .int .i64 0, .int .i64 0, .int .i64 0] 84)).alloc (.cells #[.int .i64 0, .int .i64 0, .int .i64 0, .int .i64 0] 84) = w0 := ⟨_, rfl⟩
  rw [hW]
  have B0 := Lib.hid (show Below w.heap.size w w0 by rw [← hW]; exact (((Below.refl _ _).alloc (by simp <;> omega) _).alloc (by simp <;> omega) _).alloc (by simp <;> omega) _)
  have X0 := Lib.hid (show Bx 94 w0 (w.heap.size) #[.int .i64 x.From, .int .i64 x.Category, .int .i64 x.Seq, .int .i64 x.Fragment] by
      rw [← hW]
      have hh := Bx.made 94 w #[.int .i64 x.From, .int .i64 x.Category, .int .i64 x.Seq, .int .i64 x.Fragment]
      exact ((hh.below (below_box _ _)).below (below_box _ _)))
  have Z0 := Lib.hid (show Bx 84 w0 (w.heap.size + 1) #[.int .i64 0, .int .i64 0, .int .i64 0, .int .i64 0] by
      rw [← hW]
      have hh : Bx 84 ((w.alloc (.cells #[.int .i64 x.From, .int .i64 x.Category, .int .i64 x.Seq, .int .i64 x.Fragment] 94)).alloc (.cells #[.int .i64 0, .int .i64 0, .int .i64 0, .int .i64 0] 84)) (w.heap.size + 1) #[.int .i64 0, .int .i64 0, .int .i64 0, .int .i64 0] := by have hh := Bx.made 84 (w.alloc (.cells #[.int .i64 x.From, .int .i64 x.Category, .int .i64 x.Seq, .int .i64 x.Fragment] 94)) #[.int .i64 0, .int .i64 0, .int .i64 0, .int .i64 0]; simpa using hh
      exact (hh.below (below_box _ _)))
  have O0 := Lib.hid (show Bx 84 w0 (w.heap.size + 1 + 1) #[.int .i64 0, .int .i64 0, .int .i64 0, .int .i64 0] by
      rw [← hW]
      have hh : Bx 84 (((w.alloc (.cells #[.int .i64 x.From, .int .i64 x.Category, .int .i64 x.Seq, .int .i64 x.Fragment] 94)).alloc (.cells #[.int .i64 0, .int .i64 0, .int .i64 0, .int .i64 0] 84)).alloc (.cells #[.int .i64 0, .int .i64 0, .int .i64 0, .int .i64 0] 84)) (w.heap.size + 1 + 1) #[.int .i64 0, .int .i64 0, .int .i64 0, .int .i64 0] := by have hh := Bx.made 84 ((w.alloc (.cells #[.int .i64 x.From, .int .i64 x.Category, .int .i64 x.Seq, .int .i64 x.Fragment] 94)).alloc (.cells #[.int .i64 0, .int .i64 0, .int .i64 0, .int .i64 0] 84)) #[.int .i64 0, .int .i64 0, .int .i64 0, .int .i64 0]; simpa using hh
      exact hh)
  clear hW
  have LTX := Lib.hid X0.out.lt
  have LTZ := Lib.hid Z0.out.lt
  have LTO := Lib.hid O0.out.lt
  have cX0 : w0.cell? ⟨w.heap.size, 0, none⟩ = some (.int .i64 x.From) := X0.out.cell 0
  have cX1 : w0.cell? ⟨w.heap.size, 1, none⟩ = some (.int .i64 x.Category) := X0.out.cell 1
  have cX2 : w0.cell? ⟨w.heap.size, 2, none⟩ = some (.int .i64 x.Seq) := X0.out.cell 2
  have cX3 : w0.cell? ⟨w.heap.size, 3, none⟩ = some (.int .i64 x.Fragment) := X0.out.cell 3
  have cO0 : w0.cell? ⟨w.heap.size + 1 + 1, 0, none⟩ = some (.int .i64 0) := O0.out.cell 0
  have cO1 : w0.cell? ⟨w.heap.size + 1 + 1, 1, none⟩ = some (.int .i64 0) := O0.out.cell 1
  have cO2 : w0.cell? ⟨w.heap.size + 1 + 1, 2, none⟩ = some (.int .i64 0) := O0.out.cell 2
  have cO3 : w0.cell? ⟨w.heap.size + 1 + 1, 3, none⟩ = some (.int .i64 0) := O0.out.cell 3
  have fO0 : w0.frozen? ⟨w.heap.size + 1 + 1, 0, none⟩ = false := O0.out.free 0
  have fO1 : w0.frozen? ⟨w.heap.size + 1 + 1, 1, none⟩ = false := O0.out.free 1
  have fO2 : w0.frozen? ⟨w.heap.size + 1 + 1, 2, none⟩ = false := O0.out.free 2
  have fO3 : w0.frozen? ⟨w.heap.size + 1 + 1, 3, none⟩ = false := O0.out.free 3
  go_upto_region 6 with fail
  clear cX0 cX1 cX2 cX3 cO0 cO1 cO2 cO3 fO0 fO1 fO2 fO3
  have hWW : ((((w0.setCell ⟨w.heap.size + 1 + 1, 0, none⟩ (.int .i64 x.From)).setCell ⟨w.heap.size + 1 + 1, 1, none⟩ (.int .i64 x.Category)).setCell ⟨w.heap.size + 1 + 1, 2, none⟩ (.int .i64 x.Seq)).setCell ⟨w.heap.size + 1 + 1, 3, none⟩ (.int .i64 x.Fragment)) = ((((w0.setCell ⟨w.heap.size + 1 + 1, 0, none⟩ (.int .i64 x.From)).setCell ⟨w.heap.size + 1 + 1, 1, none⟩ (.int .i64 x.Category)).setCell ⟨w.heap.size + 1 + 1, 2, none⟩ (.int .i64 x.Seq)).setCell ⟨w.heap.size + 1 + 1, 3, none⟩ (.int .i64 x.Fragment)) := rfl
  obtain ⟨w1, hW⟩ : ∃ wy, ((((w0.setCell ⟨w.heap.size + 1 + 1, 0, none⟩ (.int .i64 x.From)).setCell ⟨w.heap.size + 1 + 1, 1, none⟩ (.int .i64 x.Category)).setCell ⟨w.heap.size + 1 + 1, 2, none⟩ (.int .i64 x.Seq)).setCell ⟨w.heap.size + 1 + 1, 3, none⟩ (.int .i64 x.Fragment)) = wy := ⟨_, rfl⟩
  rw [hW]
  clear hWW
  have B1 := Lib.hid (show Below w.heap.size w w1 by rw [← hW]; exact ((((B0.out.setCell (p := ⟨w.heap.size + 1 + 1, 0, none⟩) (by have hs0 := LTX.out; have hs1 := LTZ.out; have hs2 := LTO.out; have hs3 := LH.out; first | omega | (simp <;> omega)) _).setCell (p := ⟨w.heap.size + 1 + 1, 1, none⟩) (by have hs0 := LTX.out; have hs1 := LTZ.out; have hs2 := LTO.out; have hs3 := LH.out; first | omega | (simp <;> omega)) _).setCell (p := ⟨w.heap.size + 1 + 1, 2, none⟩) (by have hs0 := LTX.out; have hs1 := LTZ.out; have hs2 := LTO.out; have hs3 := LH.out; first | omega | (simp <;> omega)) _).setCell (p := ⟨w.heap.size + 1 + 1, 3, none⟩) (by have hs0 := LTX.out; have hs1 := LTZ.out; have hs2 := LTO.out; have hs3 := LH.out; first | omega | (simp <;> omega)) _))
  have X1 := Lib.hid (show Bx 94 w1 (w.heap.size) #[.int .i64 x.From, .int .i64 x.Category, .int .i64 x.Seq, .int .i64 x.Fragment] by rw [← hW]; exact ((((X0.out.other (by have hs0 := LTX.out; have hs1 := LTZ.out; have hs2 := LTO.out; have hs3 := LH.out; first | omega | (simp <;> omega)) _ _).other (by have hs0 := LTX.out; have hs1 := LTZ.out; have hs2 := LTO.out; have hs3 := LH.out; first | omega | (simp <;> omega)) _ _).other (by have hs0 := LTX.out; have hs1 := LTZ.out; have hs2 := LTO.out; have hs3 := LH.out; first | omega | (simp <;> omega)) _ _).other (by have hs0 := LTX.out; have hs1 := LTZ.out; have hs2 := LTO.out; have hs3 := LH.out; first | omega | (simp <;> omega)) _ _))
  have Z1 := Lib.hid (show Bx 84 w1 (w.heap.size + 1) #[.int .i64 0, .int .i64 0, .int .i64 0, .int .i64 0] by rw [← hW]; exact ((((Z0.out.other (by have hs0 := LTX.out; have hs1 := LTZ.out; have hs2 := LTO.out; have hs3 := LH.out; first | omega | (simp <;> omega)) _ _).other (by have hs0 := LTX.out; have hs1 := LTZ.out; have hs2 := LTO.out; have hs3 := LH.out; first | omega | (simp <;> omega)) _ _).other (by have hs0 := LTX.out; have hs1 := LTZ.out; have hs2 := LTO.out; have hs3 := LH.out; first | omega | (simp <;> omega)) _ _).other (by have hs0 := LTX.out; have hs1 := LTZ.out; have hs2 := LTO.out; have hs3 := LH.out; first | omega | (simp <;> omega)) _ _))
  have O1 := Lib.hid (show Bx 84 w1 (w.heap.size + 1 + 1) #[.int .i64 x.From, .int .i64 x.Category, .int .i64 x.Seq, .int .i64 x.Fragment] by rw [← hW]; exact ((((O0.out.set 0 _).set 1 _).set 2 _).set 3 _))
  clear hW B0 X0 Z0 O0
  go_wp2_with (first | (refine stw.list_load rfl 84 _ rfl (w.heap.size + 1 + 1) rfl 84 _ O1.out Try.underlying84 rfl szSen ?_) | (refine stw.list_store rfl 84 _ _ rfl (w.heap.size + 1) #[.int .i64 x.From, .int .i64 x.Category, .int .i64 x.Seq, .int .i64 x.Fragment] rfl rfl 84 _ Z1.out rfl szSen (oneSen _ _ _ _) ?_; intro wz2 hz))
  have B2 := Lib.hid (hz.on B1.out (by have hs0 := LTX.out; have hs1 := LTZ.out; have hs2 := LTO.out; have hs3 := LH.out; first | omega | (simp <;> omega)))
  have X2 := Lib.hid (hz.keep X1.out (by have hs0 := LTX.out; have hs1 := LTZ.out; have hs2 := LTO.out; have hs3 := LH.out; first | omega | (simp <;> omega)))
  have Z2 := Lib.hid (hz.box)
  have O2 := Lib.hid (hz.keep O1.out (by have hs0 := LTX.out; have hs1 := LTZ.out; have hs2 := LTO.out; have hs3 := LH.out; first | omega | (simp <;> omega)))
  clear hz B1 X1 Z1 O1
  (try simp only [Exit.inBlock, Exit.then])
  refine bodyPost_ret (v := .agg #[.int .i64 x.From, .int .i64 x.Category, .int .i64 x.Seq, .int .i64 x.Fragment]) ?_ rfl ?_
  · rw [results_cell1 rfl]
    exact stw.back Z2.out Try.underlying84 rfl szSen
  · exact ⟨_, [], rfl, ⟨⟨rfl, rfl, List.nodup_nil⟩, (fun b hb => by cases hb), Nat.le_refl _⟩, B2.out⟩
set_option maxRecDepth 100000 in
set_option maxHeartbeats 4000000 in
theorem eqSeenFrame {w : World} {lo hi lo2 hi2 : Nat} {v u : Value} {x : Sen} (h : RR sen w lo hi v x) (h2 : RR sen w lo2 hi2 u x) :
    Calls Try.prog 80 #[v, u] w (BPost true w) := by
  have LH := Lib.hid h.hi_
  have LH2 := Lib.hid h2.hi_
  obtain rfl := sen_r h
  obtain rfl := sen_r h2
  clear h h2 
  go_enter Try.func80, Try.ntmps80
  go_wp2_with fail
  go_ret
  exact ⟨rfl, below_box2 _ _ _⟩
set_option maxRecDepth 100000 in
set_option maxHeartbeats 4000000 in
theorem szSeenFrameS {w : World} {lo hi : Nat} {v : Value} {xs : List Sen} (left : Int) (hleft : 0 ≤ left ∧ left ≤ 1048576) (h : RR rowSen w lo hi v xs) :
    Calls Try.prog 33 #[v, .int .i64 left] w (ZPost left (rowSen.sz xs) w) := by
  obtain ⟨A, n, c, rfl, hl, hnc, hcm⟩ := row_open h
  have HQ := Lib.hid h
  have HL := Lib.hid hl
  obtain ⟨h0, h1⟩ := hleft
  show Calls Try.prog 33 #[.slice A n c, .int .i64 left] w (ZPost left (xs.length + sumT sen.sz xs) w)
  rw [hl]
  obtain ⟨tt, htt⟩ : ∃ tt, sumT sen.sz xs = tt := ⟨_, rfl⟩
  rw [htt]
  have HTT := Lib.hid htt
  clear h hl htt
  have hd : IntKind.i64.wrap (left - n) = left - n := IntWalk.i64_in _ (by omega)
  obtain rfl : tt = 0 := by rw [← HTT.out]; exact sumT_zero (fun _ => rfl) xs
  by_cases hle : (n : Int) ≤ left
  · have hq : ¬ left - n < 0 := by omega
    have HE := Lib.hid hle
    go_enter Try.func33, Try.ntmps33
    go_wp2_with fail
    go_ret
    exact ⟨left - n, rfl, .inr ⟨by omega, by have := HE.out; omega⟩, Below.refl _ _⟩
  · have hq : left - n < 0 := by omega
    have HE := Lib.hid hle
    go_enter Try.func33, Try.ntmps33
    go_wp2_with fail
    go_ret
    exact ⟨-1, rfl, .inl ⟨rfl, by have := HE.out; omega⟩, Below.refl _ _⟩
set_option maxRecDepth 100000 in
set_option maxHeartbeats 4000000 in
theorem toSeenFrameS {w : World} {lo hi : Nat} {v : Value} {xs : List Sen} (h : RR rowSen w lo hi v xs) (hs : rowSen.sz xs ≤ 67108864) :
    Calls Try.prog 34 #[v] w (ToPost rowSen xs w) := by
  obtain ⟨i0, hi0, hz0, hz1, hz2⟩ := info_parts infoSen
  obtain ⟨A, n, c, rfl, hl, hnc, hcm⟩ := row_open h
  have hs9 : xs.length + sumT sen.sz xs ≤ 67108864 := hs
  have hmk := fun W => mq.run_makeS (P := Try.prog) 40 84 i0 _ 4 Try.underlying40 hi0 hz0 hz1 n (by rw [hz2]; omega) (by omega) W
  have HQ := Lib.hid h
  have HL := Lib.hid hl
  have HN := Lib.hid (show n ≤ 67108864 by omega)
  have HBD := Lib.hid (show ∀ y ∈ xs, sen.sz y ≤ 67108864 from fun y hy => by have := sumT_mem sen.sz hy; omega)
  clear h hz2 hz1 hz0 hi0 hs hs9 hl
  go_enter Try.func34, Try.ntmps34
  go_wp2_with fail
  go_loopw [4] (fun i wr => ∃ k : Nat, i = .int .i64 k ∧ k ≤ n ∧ Grow sen 84 wr w.heap.size n wr.heap.size (xs.take k) ∧ Below w.heap.size w wr) (fun i _ => n - (intOf i).toNat)
  case atStart => exact ⟨0, rfl, by omega, Grow.start _ _ _ (by have := HN.out; unfold maxLen; omega) (size_madeCells _ _), below_box _ _⟩
  case round =>
    obtain ⟨k, rfl, hk, hg, hb⟩ := hrel
    have HG := Lib.hid hg
    have HB := Lib.hid hb
    have HR := Lib.hid (HQ.out.below hb)
    clear hg hb
    by_cases hlt : k < n
    · obtain ⟨b, off, y, u, hA, hy, hb1, hb2, hr, hu⟩ := row_at HR.out hlt
      obtain rfl := sen_r hu
      subst hA
      have HT := Lib.hid (take_snoc hy)
      have HU := Lib.hid (show RR sen wr lo hi (senV y ) y from hu)
      have kc0 : wr.cell? ⟨b, off + k * 4, none⟩ = some (.int .i64 y.From) := hr 0 _ rfl
      have kc1 : wr.cell? ⟨b, off + k * 4 + 1, none⟩ = some (.int .i64 y.Category) := hr 1 _ rfl
      have kc2 : wr.cell? ⟨b, off + k * 4 + 2, none⟩ = some (.int .i64 y.Seq) := hr 2 _ rfl
      have kc3 : wr.cell? ⟨b, off + k * 4 + 3, none⟩ = some (.int .i64 y.Fragment) := hr 3 _ rfl
      have hlt2 : (k : Int) < n := by omega
      have HSY := Lib.hid (HBD.out y (List.mem_of_getElem? hy))
      clear hy hu hr 
      go_wp2_with fail
      (with_reducible refine (toSeenFrame HU.out HSY.out).mono ?_)
      rintro e w2 hp
      obtain ⟨u2, f2, rfl, ho, hb2⟩ := hp.parts
      clear hp
      obtain rfl := sen_r ho.rd
      have HO := Lib.hid ho
      have HG2 := Lib.hid (HG.out.below hb2)
      have HB2 := Lib.hid (HB.out.trans (hb2.mono HB.out.size))
      have TH := Lib.hid (show w2.there w.heap.size (k * 4) 4 from HG2.out.there (k := k) hlt)
      have HSZ := Lib.hid szSen
      have HON := Lib.hid (oneSen y.From y.Category y.Seq y.Fragment)
      have HSB := Lib.hid HB.out.size
      clear ho hb2  kc0 kc1 kc2 kc3
      go_wp2_with ((refine mrw.list_storeAt w.heap.size (k * 4) #[.int .i64 y.From, .int .i64 y.Category, .int .i64 y.Seq, .int .i64 y.Fragment] TH.out HSZ.out HON.out ?_ ?_ ?_; (· rfl); (· rfl)))
      go_roundw
      case rel => exact ⟨k + 1, by go_num, by omega, by rw [HT.out]; exact HG2.out.put (by rw [List.length_take, HL.out]; omega) hlt HO.out HON.out rfl rfl (Nat.le_refl _), mrw.below_setCells _ _ _ HB2.out (Nat.le_refl _)⟩
      case measure => simp [intOf]; omega
    · have hlt2 : ¬ (k : Int) < n := by omega
      obtain rfl : k = n := by omega
      have HF := Lib.hid (show xs.take k = xs from List.take_of_length_le (by rw [HL.out]; exact Nat.le_refl _))
      go_wp2_with fail
      go_ret
      obtain ⟨fp, hd⟩ := HG.out.done (by rw [HF.out]; exact HL.out)
      rw [HF.out] at hd
      exact ⟨_, fp, rfl, hd, HB.out⟩
set_option maxRecDepth 100000 in
set_option maxHeartbeats 4000000 in
theorem eqSeenFrameS {w : World} {lo hi lo2 hi2 : Nat} {v u : Value} {xs : List Sen} (h : RR rowSen w lo hi v xs) (h2 : RR rowSen w lo2 hi2 u xs) :
    Calls Try.prog 35 #[v, u] w (BPost true w) := by
  obtain ⟨A, n, c, rfl, hl, hnc, hcm⟩ := row_open h
  obtain ⟨A2, n2, c2, rfl, hl2, hnc2, hcm2⟩ := row_open h2
  obtain rfl : n = n2 := hl.symm.trans hl2
  have HQ := Lib.hid h
  have HP := Lib.hid h2
  clear h h2
  go_enter Try.func35, Try.ntmps35
  go_wp2_with fail
  go_loopw [5] (fun i wr => ∃ k : Nat, i = .int .i64 k ∧ k ≤ n ∧ Below w.heap.size w wr) (fun i _ => n - (intOf i).toNat)
  case atStart => exact ⟨0, rfl, by omega, Below.refl _ _⟩
  case round =>
    obtain ⟨k, rfl, hk, hb⟩ := hrel
    have HB := Lib.hid hb
    have HR := Lib.hid (HQ.out.below hb)
    have HS := Lib.hid (HP.out.below hb)
    clear hb
    by_cases hlt : k < n
    · obtain ⟨b, off, y, u, hA, hy, hb1, hb2, hr, hu⟩ := row_at HR.out hlt
      obtain rfl := sen_r hu
      obtain ⟨bb, offb, yb, ub, hAb, hyb, hb1b, hb2b, hrb, hub⟩ := row_at HS.out hlt
      obtain rfl := sen_r hub
      obtain rfl : y = yb := Option.some.inj (hy.symm.trans hyb)
      subst hA hAb
      have hlt2 : (k : Int) < n := by omega
      have kc0 : wr.cell? ⟨b, off + k * 4, none⟩ = some (.int .i64 y.From) := hr 0 _ rfl
      have kc1 : wr.cell? ⟨b, off + k * 4 + 1, none⟩ = some (.int .i64 y.Category) := hr 1 _ rfl
      have kc2 : wr.cell? ⟨b, off + k * 4 + 2, none⟩ = some (.int .i64 y.Seq) := hr 2 _ rfl
      have kc3 : wr.cell? ⟨b, off + k * 4 + 3, none⟩ = some (.int .i64 y.Fragment) := hr 3 _ rfl
      have kcb0 : wr.cell? ⟨bb, offb + k * 4, none⟩ = some (.int .i64 y.From) := hrb 0 _ rfl
      have kcb1 : wr.cell? ⟨bb, offb + k * 4 + 1, none⟩ = some (.int .i64 y.Category) := hrb 1 _ rfl
      have kcb2 : wr.cell? ⟨bb, offb + k * 4 + 2, none⟩ = some (.int .i64 y.Seq) := hrb 2 _ rfl
      have kcb3 : wr.cell? ⟨bb, offb + k * 4 + 3, none⟩ = some (.int .i64 y.Fragment) := hrb 3 _ rfl
      have HU := Lib.hid (show RR sen wr lo hi (senV y ) y from hu)
      have HUb := Lib.hid (show RR sen wr lo2 hi2 (senV y ) y from hub)
      clear hu hub hy hyb hr hrb 
      go_upto_region 6 with fail
      have d0 : ∀ m : Af wr, m.w.cell? ⟨b, off + k * 4, none⟩ = some (.int .i64 y.From) := fun m => by rw [m.below.cell (World.block_lt_of_cell? _ _ kc0)]; exact kc0
      have d1 : ∀ m : Af wr, m.w.cell? ⟨b, off + k * 4 + 1, none⟩ = some (.int .i64 y.Category) := fun m => by rw [m.below.cell (World.block_lt_of_cell? _ _ kc1)]; exact kc1
      have d2 : ∀ m : Af wr, m.w.cell? ⟨b, off + k * 4 + 2, none⟩ = some (.int .i64 y.Seq) := fun m => by rw [m.below.cell (World.block_lt_of_cell? _ _ kc2)]; exact kc2
      have d3 : ∀ m : Af wr, m.w.cell? ⟨b, off + k * 4 + 3, none⟩ = some (.int .i64 y.Fragment) := fun m => by rw [m.below.cell (World.block_lt_of_cell? _ _ kc3)]; exact kc3
      have db0 : ∀ m : Af wr, m.w.cell? ⟨bb, offb + k * 4, none⟩ = some (.int .i64 y.From) := fun m => by rw [m.below.cell (World.block_lt_of_cell? _ _ kcb0)]; exact kcb0
      have db1 : ∀ m : Af wr, m.w.cell? ⟨bb, offb + k * 4 + 1, none⟩ = some (.int .i64 y.Category) := fun m => by rw [m.below.cell (World.block_lt_of_cell? _ _ kcb1)]; exact kcb1
      have db2 : ∀ m : Af wr, m.w.cell? ⟨bb, offb + k * 4 + 2, none⟩ = some (.int .i64 y.Seq) := fun m => by rw [m.below.cell (World.block_lt_of_cell? _ _ kcb2)]; exact kcb2
      have db3 : ∀ m : Af wr, m.w.cell? ⟨bb, offb + k * 4 + 3, none⟩ = some (.int .i64 y.Fragment) := fun m => by rw [m.below.cell (World.block_lt_of_cell? _ _ kcb3)]; exact kcb3
      have q0 := Lib.hid (fun m => eqSeenFrame (HU.out.below m.below) (HUb.out.below m.below) : ∀ m : Af wr, Calls Try.prog 80 #[senV y , senV y ] m.w fun e w' => e = .returned (.bool true) ∧ Below m.w.heap.size m.w w')
      clear kc0 kc1 kc2 kc3 kcb0 kcb1 kcb2 kcb3
      refine region_after (by kernel_rfl) (by kernel_rfl) ?_
      repeat (go_big_quiet_step ((go_at_call 80; with_reducible exact Af.call (q0.out _))))
      refine wpQuiet_nil ?_
      intro _ hw'
      obtain ⟨nq, hw''⟩ := hw'
      subst hw''
      clear d0 d1 d2 d3 db0 db1 db2 db3 q0
      obtain ⟨w5, hw5⟩ : ∃ w5, nq.w = w5 := ⟨_, rfl⟩
      have NB := Lib.hid nq.below
      rw [hw5] at NB
      (try rw [hw5])
      clear hw5
      have HB5 := Lib.hid (HB.out.trans (NB.out.mono HB.out.size))
      clear NB nq HB
      go_wp2_with fail
      go_roundw
      case rel => exact ⟨k + 1, by go_num, by omega, HB5.out⟩
      case measure => simp [intOf]; omega
    · have hlt2 : ¬ (k : Int) < n := by omega
      go_wp2_with fail
      go_ret
      exact ⟨rfl, HB.out⟩
set_option maxRecDepth 100000 in
set_option maxHeartbeats 4000000 in
theorem markSeenFrameS {w : World} {lo hi : Nat} {fp : List Nat} {v : Value} {xs : List Sen} (q : Int) (h : OO rowSen w lo hi fp v xs) (hq : 0 ≤ q ∧ q + (rowSen.tot xs : Nat) ≤ 1099511627776) (hs : rowSen.sz xs ≤ 67108864) :
    Calls Try.prog 41 #[v, .int .i64 q] w (MkPost rowSen (rowSen.mkx q xs) (q + (rowSen.tot xs : Nat)) lo hi fp v w) := by
  obtain ⟨A, n, c, rfl, hl, hnc, hcm⟩ := row_open h.rd
  have HL := Lib.hid hl
  have hq9 : 0 ≤ q ∧ q + (sumT sen.tot xs : Nat) ≤ 1099511627776 := hq
  have HQ := Lib.hid hq9
  have hs9 : xs.length + sumT sen.sz xs ≤ 67108864 := hs
  have HBD := Lib.hid (show ∀ y ∈ xs, sen.sz y ≤ 67108864 from fun y hy => by have := sumT_mem sen.sz hy; omega)
  have KH := Lib.hid h.hi_
  have H0 := Lib.hid h
  show Calls Try.prog 41 #[.slice A n c, .int .i64 q] w (MkPost rowSen (mks sen.mkx sen.tot q xs) (q + (sumT sen.tot xs : Nat)) lo hi fp (.slice A n c) w)
  clear h hq hq9 hs hs9 hl
  go_enter Try.func41, Try.ntmps41
  go_wp2_with fail
  go_loopw [1, 5] (fun q2 i wr => ∃ j : Nat, i = .int .i64 j ∧ q2 = .int .i64 (q + (sumT sen.tot (xs.take j) : Nat)) ∧ j ≤ n ∧ OO rowSen wr lo hi fp (.slice A n c) (mks sen.mkx sen.tot q (xs.take j) ++ xs.drop j) ∧ KS fp w wr) (fun _ i _ => n - (intOf i).toNat)
  case atStart => exact ⟨0, rfl, by simp [sumT], by omega, by simpa [mks] using H0.out, KS.refl _ _⟩
  clear H0
  case round =>
    obtain ⟨j, rfl, rfl, hj, ho, hk⟩ := hrel
    obtain ⟨t, hq⟩ : ∃ t, q + (sumT sen.tot (xs.take j) : Nat) = t := ⟨_, rfl⟩
    have HTT := Lib.hid hq
    have HO := Lib.hid ho
    have K0 := Lib.hid hk
    have hb1 : 0 ≤ t ∧ t ≤ 1099511627776 := by have a1 := HQ.out; have a2 := sumT_take sen.tot xs j; omega
    rw [hq]
    clear ho hk hq
    by_cases hlt : j < n
    · have hlt2 : (j : Int) < n := by omega
      obtain ⟨x, hx⟩ : ∃ x, xs[j]? = some x := ⟨_, List.getElem?_eq_getElem (by rw [HL.out]; exact hlt)⟩
      have HX := Lib.hid hx
      have hx2 := at_mid (mk := sen.mkx) (tot := sen.tot) (q := q) hx
      have HSX := Lib.hid (HBD.out x (List.mem_of_getElem? hx))
      have hend : t + (sen.tot x : Nat) ≤ 1099511627776 := by have a1 := HQ.out; have a2 := sumT_take sen.tot xs (j + 1); rw [take_snoc hx, sumT_snoc] at a2; have a3 := HTT.out; omega
      have HND := Lib.hid hend
      obtain ⟨g, n1, cc1, l, r, u, f, e1, hlj, hsp, hole, hox, hfp, hnd, husz, huone⟩ := row_hole HO.out hx2
      injection e1 with e1 e2 e3
      subst e1 e2 e3
      have hf0 : f = [] ∧ f.Nodup := hox.1.2
      obtain rfl := sen_r hox.rd
      have HO0 := Lib.hid (show Hole sen 84 wr g n c l r [.int .i64 x.From, .int .i64 x.Category, .int .i64 x.Seq, .int .i64 x.Fragment] from hole)
      have HFP := Lib.hid hfp
      have HNF := Lib.hid hnd
      have AP := Lib.hid (hole_apart hfp hnd)
      have HIN := Lib.hid hox.inn
      have HALL := Lib.hid HO.out.inn
      have HHI := Lib.hid HO.out.hi_
      have HLJ := Lib.hid hlj
      have HSP := Lib.hid hsp
      have HF0 := Lib.hid hf0
      clear hole hox hx hx2 hfp hnd husz huone hlj hsp HO hf0
      have kc0 : wr.cell? ⟨g, j * 4, none⟩ = some (.int .i64 x.From) := HO0.out.cell HLJ.out (i := 0) rfl
      have kc1 : wr.cell? ⟨g, j * 4 + 1, none⟩ = some (.int .i64 x.Category) := HO0.out.cell HLJ.out (i := 1) rfl
      have kc2 : wr.cell? ⟨g, j * 4 + 2, none⟩ = some (.int .i64 x.Seq) := HO0.out.cell HLJ.out (i := 2) rfl
      have kc3 : wr.cell? ⟨g, j * 4 + 3, none⟩ = some (.int .i64 x.Fragment) := HO0.out.cell HLJ.out (i := 3) rfl
      have fz0 : wr.frozen? ⟨g, j * 4, none⟩ = false := HO0.out.free _
      have fz1 : wr.frozen? ⟨g, j * 4 + 1, none⟩ = false := HO0.out.free _
      have fz2 : wr.frozen? ⟨g, j * 4 + 2, none⟩ = false := HO0.out.free _
      have fz3 : wr.frozen? ⟨g, j * 4 + 3, none⟩ = false := HO0.out.free _
      have mt1 : IntKind.i64.wrap (t + 1) = t + 1 := IntWalk.i64_in _ (by omega)
      have mt2 : IntKind.i64.wrap (t + 2) = t + 2 := IntWalk.i64_in _ (by omega)
      have mt3 : IntKind.i64.wrap (t + 3) = t + 3 := IntWalk.i64_in _ (by omega)
      have mt4 : IntKind.i64.wrap (t + 4) = t + 4 := IntWalk.i64_in _ (by omega)
      have st1 : t + 1 + 1 = t + 2 := by omega
      have st2 : t + 2 + 1 = t + 3 := by omega
      have st3 : t + 3 + 1 = t + 4 := by omega
      go_wp2_with fail
      clear kc0 kc1 kc2 kc3 fz0 fz1 fz2 fz3 mt1 mt2 mt3 mt4 st1 st2 st3
      obtain ⟨wa0, hW⟩ : ∃ wy, (((wr.setCell ⟨g, j * 4, none⟩ (.int .i64 t)).setCell ⟨g, j * 4 + 1, none⟩ (.int .i64 (t + 1))).setCell ⟨g, j * 4 + 2, none⟩ (.int .i64 (t + 2))).setCell ⟨g, j * 4 + 3, none⟩ (.int .i64 (t + 3)) = wy := ⟨_, rfl⟩
      rw [hW]
      have HO1 := Lib.hid (show Hole sen 84 wa0 g n c l r [.int .i64 t, .int .i64 (t + 1), .int .i64 (t + 2), .int .i64 (t + 3)] by rw [← hW]; exact ((((HO0.out.set HLJ.out (i := 0) (by show 0 < 4; omega) (.int .i64 t)).set HLJ.out (i := 1) (by show 1 < 4; omega) (.int .i64 (t + 1))).set HLJ.out (i := 2) (by show 2 < 4; omega) (.int .i64 (t + 2))).set HLJ.out (i := 3) (by show 3 < 4; omega) (.int .i64 (t + 3))))
      have hks : KS [g] wr wa0 := by rw [← hW]; exact ((((KS.refl [g] wr).trans (ks_set (List.mem_singleton.2 rfl) _ _)).trans (ks_set (List.mem_singleton.2 rfl) _ _)).trans (ks_set (List.mem_singleton.2 rfl) _ _)).trans (ks_set (List.mem_singleton.2 rfl) _ _)
      have K1 := Lib.hid (K0.out.trans (ks_more hks (fun b hb => by rw [List.mem_singleton.1 hb]; exact AP.out.2.2.2.1)))
      clear hW hks HO0 K0 
      have HX1 := Lib.hid (take_snoc HX.out)
      have HEND := Lib.hid (show t + 4 = q + (sumT sen.tot (xs.take (j + 1)) : Nat) by rw [HX1.out, sumT_snoc]; have a1 := HTT.out; have a2 : sen.tot x = 4 := rfl; omega)
      have HCL := Lib.hid (show OO rowSen wa0 lo hi fp (.slice (some ⟨g, 0, none⟩) n c) (l.map (·.x) ++ sen.mkx t x :: r.map (·.x)) by
          have hm : sen.mkx t x = (⟨t, (t + 1), (t + 2), (t + 3)⟩ : Sen) := by rfl
          rw [hm]
          have ho : OO sen wa0 lo hi f (senV (⟨t, (t + 1), (t + 2), (t + 3)⟩ : Sen)) (⟨t, (t + 1), (t + 2), (t + 3)⟩ : Sen) := ⟨⟨rfl, HF0.out.1, HF0.out.2⟩, HIN.out, by have a1 := HHI.out; have a2 := K1.out.size; have a3 := KH.out; omega⟩
          exact Hole.close (u := senV (⟨t, (t + 1), (t + 2), (t + 3)⟩ : Sen) ) HO1.out ho.1 (oneSen _ _ _ _) HFP.out HNF.out HALL.out (by have a1 := HHI.out; have a2 := K1.out.size; have a3 := KH.out; omega))
      go_roundw
      case rel => exact ⟨j + 1, by go_num, by rw [HEND.out], by omega, by rw [← round_mk HX.out (show (l.map (·.x)).length = j by rw [List.length_map]; exact HLJ.out) HSP.out, HTT.out]; exact HCL.out, K1.out⟩
      case measure => simp [intOf]; omega
    · have hlt2 : ¬ (j : Int) < n := by omega
      obtain rfl : j = n := by omega
      have HF := Lib.hid (show xs.take j = xs from List.take_of_length_le (by rw [HL.out]; exact Nat.le_refl _))
      have HG := Lib.hid (show t = q + (sumT sen.tot xs : Nat) by rw [← HTT.out, HF.out])
      have HE := Lib.hid (show OO rowSen wr lo hi fp (.slice A j c) (mks sen.mkx sen.tot q xs) by have hh := HO.out; rw [HF.out, List.drop_of_length_le (by rw [HL.out]; exact Nat.le_refl _), List.append_nil] at hh; exact hh)
      clear HO
      go_wp2_with fail
      go_ret
      exact ⟨by rw [← HG.out]; rfl, HE.out, K0.out⟩
set_option maxRecDepth 100000 in
set_option maxHeartbeats 4000000 in
theorem heldSeenFrameS {w : World} {lo hi : Nat} {v : Value} {xs : List Sen} (q : Int) (h : RR rowSen w lo hi v (rowSen.mkx q xs)) (hq : 0 ≤ q ∧ q + (rowSen.tot xs : Nat) ≤ 1099511627776) (hs : rowSen.sz xs ≤ 67108864) :
    Calls Try.prog 43 #[v, .int .i64 q] w (NPost (q + (rowSen.tot xs : Nat)) w) := by
  obtain ⟨A, n, c, rfl, hl, hnc, hcm⟩ := row_open h
  have hl2 : xs.length = n := by rw [← hl]; exact (mks_len sen.mkx sen.tot xs q).symm
  have HL := Lib.hid hl2
  have hq9 : 0 ≤ q ∧ q + (sumT sen.tot xs : Nat) ≤ 1099511627776 := hq
  have HQ := Lib.hid hq9
  have hs9 : xs.length + sumT sen.sz xs ≤ 67108864 := hs
  have HBD := Lib.hid (show ∀ y ∈ xs, sen.sz y ≤ 67108864 from fun y hy => by have := sumT_mem sen.sz hy; omega)
  have H0 := Lib.hid h
  show Calls Try.prog 43 #[.slice A n c, .int .i64 q] w (NPost (q + (sumT sen.tot xs : Nat)) w)
  clear h hq hq9 hs hs9 hl hl2
  go_enter Try.func43, Try.ntmps43
  go_wp2_with fail
  go_loopw [1, 5] (fun q2 i wr => ∃ j : Nat, i = .int .i64 j ∧ q2 = .int .i64 (q + (sumT sen.tot (xs.take j) : Nat)) ∧ j ≤ n ∧ Below w.heap.size w wr) (fun _ i _ => n - (intOf i).toNat)
  case atStart => exact ⟨0, rfl, by simp [sumT], by omega, Below.refl _ _⟩
  case round =>
    obtain ⟨j, rfl, rfl, hj, hb⟩ := hrel
    obtain ⟨t, hq⟩ : ∃ t, q + (sumT sen.tot (xs.take j) : Nat) = t := ⟨_, rfl⟩
    have HTT := Lib.hid hq
    have HB := Lib.hid hb
    have HR := Lib.hid (H0.out.below hb)
    have hb1 : 0 ≤ t ∧ t ≤ 1099511627776 := by have a1 := HQ.out; have a2 := sumT_take sen.tot xs j; omega
    rw [hq]
    clear hb hq
    by_cases hlt : j < n
    · have hlt2 : (j : Int) < n := by omega
      obtain ⟨x, hx⟩ : ∃ x, xs[j]? = some x := ⟨_, List.getElem?_eq_getElem (by rw [HL.out]; exact hlt)⟩
      have HX := Lib.hid hx
      have HSX := Lib.hid (HBD.out x (List.mem_of_getElem? hx))
      have hend : t + (sen.tot x : Nat) ≤ 1099511627776 := by have a1 := HQ.out; have a2 := sumT_take sen.tot xs (j + 1); rw [take_snoc hx, sumT_snoc] at a2; have a3 := HTT.out; omega
      have HND := Lib.hid hend
      obtain ⟨b, off, y, u, hA, hy, hb1_, hb2_, hr, hu⟩ := row_at HR.out hlt
      obtain rfl : y = sen.mkx t x := by have hy : (mks sen.mkx sen.tot q xs)[j]? = some y := hy; rw [mks_at sen.mkx sen.tot hx, HTT.out] at hy; exact (Option.some.inj hy).symm
      obtain rfl := sen_r hu
      subst hA
      have kc0 : wr.cell? ⟨b, off + j * 4, none⟩ = some (.int .i64 t) := hr 0 _ rfl
      have kc1 : wr.cell? ⟨b, off + j * 4 + 1, none⟩ = some (.int .i64 (t + 1)) := hr 1 _ rfl
      have kc2 : wr.cell? ⟨b, off + j * 4 + 2, none⟩ = some (.int .i64 (t + 2)) := hr 2 _ rfl
      have kc3 : wr.cell? ⟨b, off + j * 4 + 3, none⟩ = some (.int .i64 (t + 3)) := hr 3 _ rfl
      clear hu hy hr  hx
      have mt1 : IntKind.i64.wrap (t + 1) = t + 1 := IntWalk.i64_in _ (by omega)
      have mt2 : IntKind.i64.wrap (t + 2) = t + 2 := IntWalk.i64_in _ (by omega)
      have mt3 : IntKind.i64.wrap (t + 3) = t + 3 := IntWalk.i64_in _ (by omega)
      have mt4 : IntKind.i64.wrap (t + 4) = t + 4 := IntWalk.i64_in _ (by omega)
      have st1 : t + 1 + 1 = t + 2 := by omega
      have st2 : t + 2 + 1 = t + 3 := by omega
      have st3 : t + 3 + 1 = t + 4 := by omega
      go_wp2_with fail
      have HEND := Lib.hid (show t + 4 = q + (sumT sen.tot (xs.take (j + 1)) : Nat) by rw [take_snoc HX.out, sumT_snoc]; have a1 := HTT.out; have a2 : sen.tot x = 4 := rfl; omega)
      go_roundw
      case rel => exact ⟨j + 1, by go_num, by rw [HEND.out], by omega, HB.out⟩
      case measure => simp [intOf]; omega
    · have hlt2 : ¬ (j : Int) < n := by omega
      obtain rfl : j = n := by omega
      have HF := Lib.hid (show xs.take j = xs from List.take_of_length_le (by rw [HL.out]; exact Nat.le_refl _))
      have HG := Lib.hid (show t = q + (sumT sen.tot xs : Nat) by rw [← HTT.out, HF.out])
      go_wp2_with fail
      go_ret
      exact ⟨by rw [← HG.out]; rfl, HB.out⟩
end Go.Proofs.Ytbkdbdhbmabgcaa.ux
end

section
namespace Go.Proofs.Ytbkdbdhbmabgcaa.opn
open Go.Joins Go.ChangeShapes Go.WideShapes Go.RowKit Go.Deep
theorem open_fields {H : Type} {enc : TypeId × Value → H} {P : Program} {w : World} {base : Nat} {spare : Nat → Bool} {held : Bool} {r : Reach} {b0 : Nat} {t : TypeId} {fs : Array Field} {v : Value} {d : DataW H} {p : List MemPlace}
    (hs : P.underlying t = some (.struct fs)) (hone : oneCellFields P fs = true) (hC : P.cellsOf t = fs.size) (hv : Value.okWide P w r b0 t v) (h : DataW.Trod enc P w base spare held t v d p) (N : Nat) (hN : fs.size = N) :
    ∃ (cs : List Value) (n : Nat), v = .agg cs.toArray ∧ cs.length = N ∧ ∀ (j : Nat) (f : Field), fs[j]? = some f → ∃ (c : Value) (y : DataW H × List MemPlace), cs[j]? = some c ∧ DataW.trod enc P w base spare held n f.type [c] = some y := by
  obtain ⟨cs, rfl, hsz⟩ := okWide_struct hs hv
  obtain ⟨l⟩ := cs
  obtain ⟨fuel, hf⟩ := h
  obtain ⟨xs, n, _, hx, _, hlen, hg⟩ := DataW.trod_struct hs hf
  have hl : l.length = fs.size := hsz.trans hC
  refine ⟨l, n, rfl, hl.trans hN, fun j f hj => ?_⟩
  obtain ⟨o, k⟩ := hone_of hone j f hj
  have hjl : j < fs.size := (Array.getElem?_eq_some_iff.1 hj).1
  have h1 := hg j f hj
  rw [o, k] at h1
  have e1 : (l.drop j).take 1 = [l[j]'(by omega)] := by
    rw [List.drop_eq_getElem_cons (by omega)]; rfl
  have h2 : DataW.trod enc P w base spare held n f.type [l[j]'(by omega)] = xs[j]? := by
    rw [← e1]; simpa [Value.cells] using h1
  exact ⟨l[j]'(by omega), xs[j]'(by omega), List.getElem?_eq_getElem (by omega), h2.trans (List.getElem?_eq_getElem (by omega))⟩
/-- The same for fields of many cells: each field's own cells. -/
theorem open_cells {H : Type} {enc : TypeId × Value → H} {P : Program} {w : World} {base : Nat} {spare : Nat → Bool} {held : Bool} {r : Reach} {b0 : Nat} {t : TypeId} {fs : Array Field} {v : Value} {d : DataW H} {p : List MemPlace}
    (hs : P.underlying t = some (.struct fs)) (N : Nat) (hC : P.cellsOf t = N) (hv : Value.okWide P w r b0 t v) (h : DataW.Trod enc P w base spare held t v d p) :
    ∃ (cs : List Value) (n : Nat), v = .agg cs.toArray ∧ cs.length = N ∧ ∀ (j : Nat) (f : Field) (k : Nat), fs[j]? = some f → P.cellsOf f.type = k → ∃ y, DataW.trod enc P w base spare held n f.type ((cs.drop f.offset).take k) = some y := by
  obtain ⟨cs, rfl, hsz⟩ := okWide_struct hs hv
  obtain ⟨l⟩ := cs
  obtain ⟨fuel, hf⟩ := h
  obtain ⟨xs, n, _, hx, _, hlen, hg⟩ := DataW.trod_struct hs hf
  refine ⟨l, n, rfl, hsz.trans hC, fun j f k hj hk => ?_⟩
  have hjl : j < fs.size := (Array.getElem?_eq_some_iff.1 hj).1
  have h1 := hg j f hj
  rw [hk] at h1
  exact ⟨xs[j]'(by omega), (by simpa [Value.cells] using h1 : _ = xs[j]?).trans (List.getElem?_eq_getElem (by omega))⟩
theorem in_cells {H : Type} {enc : TypeId × Value → H} {P : Program} {w : World} {base : Nat} {spare : Nat → Bool} {held : Bool} {t : TypeId} {fs : Array Field} {n : Nat} {cs : List Value} {y : DataW H × List MemPlace}
    (hs : P.underlying t = some (.struct fs)) (h : DataW.trod enc P w base spare held n t cs = some y) :
    ∃ m : Nat, ∀ (j : Nat) (f : Field) (k : Nat), fs[j]? = some f → P.cellsOf f.type = k → ∃ y, DataW.trod enc P w base spare held m f.type ((cs.drop f.offset).take k) = some y := by
  obtain ⟨xs, n, _, hx, _, hlen, hg⟩ := DataW.trod_struct hs h
  refine ⟨n, fun j f k hj hk => ?_⟩
  have hjl : j < fs.size := (Array.getElem?_eq_some_iff.1 hj).1
  have h1 := hg j f hj
  rw [hk] at h1
  exact ⟨xs[j]'(by omega), h1.trans (List.getElem?_eq_getElem (by omega))⟩
end Go.Proofs.Ytbkdbdhbmabgcaa.opn
end

section
namespace Go.Proofs.Ytbkdbdhbmabgcaa.opm
open Go.Joins Go.ChangeShapes Go.WideShapes Go.RowKit Go.Deep Go.Lib sl mrw
open ux (Sen)
set_option linter.unusedVariables false
theorem list_ofS {α : Type} {P : Nat → α → Prop} : ∀ n : Nat, (∀ i, i < n → ∃ y, P i y) → ∃ l : List α, l.length = n ∧ ∀ i y, l[i]? = some y → P i y
  | 0, _ => ⟨[], rfl, by simp⟩
  | n + 1, h => by
    obtain ⟨l, hl, hp⟩ := list_ofS n fun i hi => h i (by omega)
    obtain ⟨y, hy⟩ := h n (by omega)
    refine ⟨l ++ [y], by simp [hl], fun i z hz => ?_⟩
    rcases Nat.lt_or_ge i l.length with h1 | h1
    · rw [List.getElem?_append_left h1] at hz
      exact hp i z hz
    · rw [List.getElem?_append_right h1] at hz
      have h2 : i - l.length = 0 := by
        rcases Nat.eq_zero_or_pos (i - l.length) with h3 | h3
        · exact h3
        · rw [List.getElem?_eq_none (by simp; omega)] at hz; cases hz
      rw [h2] at hz
      obtain rfl : y = z := by simpa using hz
      obtain rfl : i = n := by omega
      exact hy
theorem lt_of_cellS {w : World} {b o : Nat} {v : Value} (h : w.cell? ⟨b, o, none⟩ = some v) : b < w.heap.size := by
  rcases Nat.lt_or_ge b w.heap.size with h1 | h1
  · exact h1
  · exfalso
    have : w.heap[b]? = none := Array.getElem?_eq_none h1
    simp [World.cell?, this] at h
theorem listSen {l : List Value} (h : l.length = 4) : ∃ c0 c1 c2 c3, l = [c0, c1, c2, c3] := by
  match l, h with
  | [c0, c1, c2, c3], _ => exact ⟨c0, c1, c2, c3, rfl⟩
theorem cLSen : Try.prog.cellsOf 94 = 4 := by kernel_rfl
def Rqw (w : World) (lo hi : Nat) (A : Option Addr) (n c : Nat) (ms : List Sen) : Prop := Rq sn.senS w lo hi A n c ms ∧ ∀ y ∈ ms, sn.Wfs y
set_option maxRecDepth 1000000 in
theorem open_senw {H : Type} {enc : TypeId × Value → H} {w : World} {base : Nat} {spare : Nat → Bool} {held : Bool} (hsp : ∀ b, spare b = true) {fuel : Nat} {cs : List Value} {x : DataW H × List MemPlace} (h : DataW.trod enc Try.prog w base spare held fuel 51 cs = some x) :
    ∃ A n cap ms, cs = [.slice A n cap] ∧ Rqw w 0 w.heap.size A n cap ms := by
  rcases DataW.trod_slice Try.underlying51 h with ⟨rfl, _⟩ | ⟨a, len, cap, elems, rest, n, _, rfl, _, _, hl, hm, hlen, hel, _⟩
  · exact ⟨none, 0, 0, [], rfl, Rq.nil w none 0 0 w.heap.size (by unfold maxLen; omega) (Nat.le_refl _), fun _ h => by cases h⟩
  · rcases Nat.eq_zero_or_pos len with h0 | h0
    · subst h0
      exact ⟨_, 0, cap, [], rfl, Rq.nil w _ cap 0 w.heap.size hm (Nat.le_refl _), fun _ h => by cases h⟩
    obtain ⟨b, off, sp⟩ := a
    have hs : sp = none := by
      have hE := hel 0 h0
      rw [cLSen, (List.getElem?_eq_getElem (by omega) : elems[0]? = some (elems[0]'(by omega)))] at hE
      obtain ⟨cn, hc, _⟩ := Option.bind_eq_some_iff.1 hE
      obtain ⟨_, hn9, hcell⟩ := World.cells?_some hc
      obtain ⟨c0, c1, c2, c3, rfl⟩ := listSen hn9
      have h1 := hcell 0 (by omega)
      exact cell_spot (by simpa [Addr.add] using h1)
    subst hs
    have each : ∀ i, i < len → ∃ y : Sen, b < w.heap.size ∧ At sn.senS w 0 w.heap.size b (off + i * 4) y ∧ sn.Wfs y := by
      intro i hi
      have hE := hel i hi
      rw [cLSen] at hE
      have he : elems[i]? = some (elems[i]'(by omega)) := List.getElem?_eq_getElem (by omega)
      rw [he] at hE
      obtain ⟨cn, hc, ht⟩ := Option.bind_eq_some_iff.1 hE
      obtain ⟨_, hn9, hcell⟩ := World.cells?_some hc
      obtain ⟨m, hf⟩ := opn.in_cells Try.underlying94 ht
      obtain ⟨c0, c1, c2, c3, rfl⟩ := listSen hn9
      obtain ⟨y0, g0⟩ := hf 0 _ 1 rfl (by kernel_rfl)
      obtain ⟨y1, g1⟩ := hf 1 _ 1 rfl (by kernel_rfl)
      obtain ⟨y2, g2⟩ := hf 2 _ 1 rfl (by kernel_rfl)
      obtain ⟨y3, g3⟩ := hf 3 _ 1 rfl (by kernel_rfl)
      obtain ⟨b0, e0, _, f0⟩ := DataW.trod_int Try.underlying3 g0
      obtain rfl : c0 = .int .i64 b0 := by simpa using e0
      obtain ⟨b1, e1, _, f1⟩ := DataW.trod_int Try.underlying3 g1
      obtain rfl : c1 = .int .i64 b1 := by simpa using e1
      obtain ⟨b2, e2, _, f2⟩ := DataW.trod_int Try.underlying3 g2
      obtain rfl : c2 = .int .i64 b2 := by simpa using e2
      obtain ⟨b3, e3, _, f3⟩ := DataW.trod_int Try.underlying3 g3
      obtain rfl : c3 = .int .i64 b3 := by simpa using e3
      have h1 := hcell 0 (by omega)
      rw [Addr.add_mid, Addr.add_mid] at h1
      refine ⟨⟨b0, b1, b2, b3⟩, lt_of_cellS h1, ⟨none, 0, 0, fun j v hj => ?_, sn.rd0 w 0 w.heap.size (Nat.le_refl _)⟩, f0, f1⟩
      have hj4 : j < 4 := (List.getElem?_eq_some_iff.1 hj).1
      have hcj := hcell j hj4
      rw [Addr.add_mid, Addr.add_mid] at hcj
      exact hcj.trans hj
    obtain ⟨ms, hml, hmp⟩ := list_ofS len each
    obtain ⟨y, hb, _⟩ := each 0 h0
    refine ⟨_, len, cap, ms, rfl, ⟨hml, hl, hm, Nat.le_refl _, fun _ => ⟨b, off, rfl, Nat.zero_le _, hb, fun i x hx => (hmp i x hx).2.1⟩⟩, fun y hy => ?_⟩
    obtain ⟨i, hi, e⟩ := List.getElem_of_mem hy
    exact (hmp i y (by rw [List.getElem?_eq_getElem hi, e])).2.2
theorem open_sens {H : Type} {enc : TypeId × Value → H} {w : World} {base : Nat} {spare : Nat → Bool} {held : Bool} (hsp : ∀ b, spare b = true) {fuel : Nat} {cs : List Value} {x : DataW H × List MemPlace} (h : DataW.trod enc Try.prog w base spare held fuel 51 cs = some x) :
    ∃ A n cap ms, cs = [.slice A n cap] ∧ Rq sn.senS w 0 w.heap.size A n cap ms := by
  obtain ⟨A, n, cap, ms, e, h1, _⟩ := open_senw hsp h
  exact ⟨A, n, cap, ms, e, h1⟩
end Go.Proofs.Ytbkdbdhbmabgcaa.opm
end
