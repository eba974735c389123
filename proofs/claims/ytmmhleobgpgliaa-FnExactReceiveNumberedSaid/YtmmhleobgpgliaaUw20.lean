/- The harness over slices of slices of bytes. Condition: sizes up to 2^26. -/
import Derived.Test.YtmmhleobgpgliaaUy
import Derived.Test.YtmmhleobgpgliaaBox
import Derived.Deep.QuietTactic
import Derived.Laws.MakeOwn
namespace Go.Proofs.Ytmmhleobgpgliaa.ag
open Go.RowKit sl harn bx
theorem run_makeS {P : Program} (t e : TypeId) (i : TypeInfo) (z : Value) (s : Nat) (ht : P.underlying t = some (.slice e)) (hi : P.info? e = some i) (hz : i.zero = some z) (hs : i.size = s)
    (n : Nat) (hb8 : i.bytes ≤ 128) (hn : n ≤ 67108864) (w : World) :
    (Instr.makeSlice t (.int .i64 (n : Int)) (.int .i64 (n : Int))).run P w = .ok (.slice (some ⟨w.heap.size, 0, none⟩) n n) (w.alloc (.cells (madeCells z.cells (n * s)) e)) := by
  have hb : (i.bytes : Int) * (n : Int) ≤ 281474976710656 := by
    have h : ((i.bytes * n : Nat) : Int) ≤ 281474976710656 := by
      have h1 := Nat.mul_le_mul hb8 hn
      omega
    rwa [Int.natCast_mul] at h
  have hr := run_make (P := P) w t e i z ht hi hz .i64 .i64 n n (by omega) (by omega) hb (by omega)
  simp only [Int.toNat_natCast] at hr
  rw [hs] at hr
  exact hr
end Go.Proofs.Ytmmhleobgpgliaa.ag
namespace Go.Proofs.Ytmmhleobgpgliaa.ux
open Go.RowKit sl harn bx stw
set_option linter.unusedVariables false
set_option linter.unusedSimpArgs false

def rowB : Rep (List (List Int)) := row 22 bytes
theorem rowB_sl {w : World} {lo hi : Nat} {v : Value} {x : List (List Int)} (h : rowB.R w lo hi v x) : ∃ A n c, v = .slice A n c := by
  obtain ⟨A, n, c, e, _⟩ := h
  exact ⟨A, n, c, e⟩
theorem rowB_slo {w : World} {fp : List Nat} {v : Value} {x : List (List Int)} (h : rowB.O w fp v x) : ∃ A n c, v = .slice A n c := by
  obtain ⟨A, n, c, es, e, _⟩ := h
  exact ⟨A, n, c, e⟩
theorem rowB_tot (x : List (List Int)) : rowB.tot x ≤ 64 * rowB.sz x := row_tot _ _ x
theorem infoB : (Try.prog.info? 22).map (fun i => (i.zero, i.size, i.bytes)) = some (some (.slice none 0 0), 1, 24) := by kernel_rfl
theorem szB : (Try.prog.info? 22).map (·.size) = some 1 := by kernel_rfl
theorem oneB (A : Option Addr) (n c : Nat) : (#[.slice A n c] : Array Value).all (·.oneCell') = true := all_oneCell_toArray (cs := [.slice A n c]) (by intro v hv; simp only [List.mem_singleton] at hv; subst hv; rfl)
theorem bytes_r {w : World} {lo hi : Nat} {v : Value} {x : List Int} (h : RR bytes w lo hi v x) : ∃ A n c, v = .slice A n c ∧ RR bytes w lo hi (.slice A n c) x := by
  obtain ⟨A, n, c, rfl⟩ := bytes_sl h
  exact ⟨A, n, c, rfl, h⟩
theorem bytes_o {w : World} {lo hi : Nat} {fp : List Nat} {v : Value} {x : List Int} (h : OO bytes w lo hi fp v x) : ∃ A n c f, v = .slice A n c ∧ OO bytes w lo hi f (.slice A n c) x ∧ fp = f ∧ fp.Nodup := by
  obtain ⟨A, n, c, rfl⟩ := bytes_slo h.1
  exact ⟨A, n, c, fp, rfl, h, rfl, bytes.nd h.1⟩
theorem bytes_mk {w : World} {lo hi : Nat} {fp : List Nat} {v : Value} {x : List Int} (h : OO bytes w lo hi fp v x) (hn : fp.Nodup) : OO bytes w lo hi fp v x := h
theorem setCells_1 (w : World) (b o : Nat) (v : Value) : w.setCells b (o * 1) [v] = w.setCell ⟨b, o, none⟩ v := by rw [Nat.mul_one]; rfl
theorem there_1 {w : World} {b o : Nat} (h : w.there b (o * 1) 1) : (∃ v, w.cell? ⟨b, o, none⟩ = some v) ∧ w.frozen? ⟨b, o, none⟩ = false := by
  have h1 := h 0 (by omega)
  rw [Nat.mul_one, Nat.add_zero] at h1
  exact ⟨Option.isSome_iff_exists.1 h1.1, h1.2⟩
set_option maxRecDepth 100000 in
set_option maxHeartbeats 4000000 in
theorem eqByteSS {w : World} {lo hi lo2 hi2 : Nat} {v u : Value} {xs : List (List Int)} (h : RR rowB w lo hi v xs) (h2 : RR rowB w lo2 hi2 u xs) :
    Calls Try.prog 39 #[v, u] w (BPost true w) := by
  obtain ⟨A, n, c, rfl, hl, hnc, hcm⟩ := row_open h
  obtain ⟨A2, n2, c2, rfl, hl2, hnc2, hcm2⟩ := row_open h2
  obtain rfl : n = n2 := hl.symm.trans hl2
  have HQ := Lib.hid h
  have HP := Lib.hid h2
  clear h h2
  go_enter Try.func39, Try.ntmps39
  go_wp2_with fail
  go_loopw [5] (fun i wr => ∃ k : Nat, i = .int .i64 k ∧ k ≤ n ∧ Below w.heap.size w wr) (fun i _ => n - (intOf i).toNat)
  case atStart => exact ⟨0, rfl, by omega, Below.refl _ _⟩
  case round =>
    obtain ⟨k, rfl, hk, hb⟩ := hrel
    have HB := Lib.hid hb
    have HR := Lib.hid (HQ.out.below hb)
    have HS := Lib.hid (HP.out.below hb)
    clear hb
    by_cases hlt : k < n
    · obtain ⟨b, off, y, u, hA, hy, hb1, hb2, hr, hu⟩ := row_at HR.out hlt
      obtain ⟨A0, n0, c0, rfl, g0⟩ := bytes_r hu
      obtain ⟨bb, offb, yb, ub, hAb, hyb, hb1b, hb2b, hrb, hub⟩ := row_at HS.out hlt
      obtain ⟨Ab0, nb0, cb0, rfl, gb0⟩ := bytes_r hub
      obtain rfl : y = yb := Option.some.inj (hy.symm.trans hyb)
      subst hA hAb
      have hlt2 : (k : Int) < n := by omega
      have kc0 : wr.cell? ⟨b, off + k, none⟩ = some (.slice A0 n0 c0) := by have hh : wr.cell? ⟨b, off + k * 1 + 0, none⟩ = some (.slice A0 n0 c0) := hr 0 _ rfl; rwa [Nat.mul_one, Nat.add_zero] at hh
      have kcb0 : wr.cell? ⟨bb, offb + k, none⟩ = some (.slice Ab0 nb0 cb0) := by have hh : wr.cell? ⟨bb, offb + k * 1 + 0, none⟩ = some (.slice Ab0 nb0 cb0) := hrb 0 _ rfl; rwa [Nat.mul_one, Nat.add_zero] at hh
      have HU := Lib.hid (show RR bytes wr lo hi ((.slice A0 n0 c0)) y from hu)
      have HUb := Lib.hid (show RR bytes wr lo2 hi2 ((.slice Ab0 nb0 cb0)) y from hub)
      clear hu hub hy hyb hr hrb g0 gb0
      go_upto_region 6 with fail
      have d0 : ∀ m : Af wr, m.w.cell? ⟨b, off + k, none⟩ = some (.slice A0 n0 c0) := fun m => by rw [m.below.cell (World.block_lt_of_cell? _ _ kc0)]; exact kc0
      have db0 : ∀ m : Af wr, m.w.cell? ⟨bb, offb + k, none⟩ = some (.slice Ab0 nb0 cb0) := fun m => by rw [m.below.cell (World.block_lt_of_cell? _ _ kcb0)]; exact kcb0
      have q0 := Lib.hid (fun m => eqByteS (HU.out.below m.below) (HUb.out.below m.below) : ∀ m : Af wr, Calls Try.prog 40 #[(.slice A0 n0 c0), (.slice Ab0 nb0 cb0)] m.w fun e w' => e = .returned (.bool true) ∧ Below m.w.heap.size m.w w')
      clear kc0 kcb0
      refine region_after (by kernel_rfl) (by kernel_rfl) ?_
      repeat (go_big_quiet_step ((go_at_call 40; with_reducible exact Af.call (q0.out _))))
      refine wpQuiet_nil ?_
      intro _ hw'
      obtain ⟨nq, hw''⟩ := hw'
      subst hw''
      clear d0 db0 q0
      obtain ⟨w5, hw5⟩ : ∃ w5, nq.w = w5 := ⟨_, rfl⟩
      have NB := Lib.hid nq.below
      rw [hw5] at NB
      (try rw [hw5])
      clear hw5
      have HB5 := Lib.hid (HB.out.trans (NB.out.mono HB.out.size))
      clear NB nq HB
      go_wp2_with fail
      go_roundw
      case rel => exact ⟨k + 1, by go_num, by omega, HB5.out⟩
      case measure => simp [intOf]; omega
    · have hlt2 : ¬ (k : Int) < n := by omega
      go_wp2_with fail
      go_ret
      exact ⟨rfl, HB.out⟩
set_option maxRecDepth 100000 in
set_option maxHeartbeats 4000000 in
theorem markByteSS {w : World} {lo hi : Nat} {fp : List Nat} {v : Value} {xs : List (List Int)} (q : Int) (h : OO rowB w lo hi fp v xs) (hq : 0 ≤ q ∧ q + (rowB.tot xs : Nat) ≤ 1099511627776) (hs : rowB.sz xs ≤ 67108864) :
    Calls Try.prog 42 #[v, .int .i64 q] w (MkPost rowB (rowB.mkx q xs) (q + (rowB.tot xs : Nat)) lo hi fp v w) := by
  obtain ⟨A, n, c, rfl, hl, hnc, hcm⟩ := row_open h.rd
  have HL := Lib.hid hl
  have hq9 : 0 ≤ q ∧ q + (sumT bytes.tot xs : Nat) ≤ 1099511627776 := hq
  have HQ := Lib.hid hq9
  have hs9 : xs.length + sumT bytes.sz xs ≤ 67108864 := hs
  have HBD := Lib.hid (show ∀ y ∈ xs, bytes.sz y ≤ 67108864 from fun y hy => by have := sumT_mem bytes.sz hy; omega)
  have KH := Lib.hid h.hi_
  have H0 := Lib.hid h
  show Calls Try.prog 42 #[.slice A n c, .int .i64 q] w (MkPost rowB (mks bytes.mkx bytes.tot q xs) (q + (sumT bytes.tot xs : Nat)) lo hi fp (.slice A n c) w)
  clear h hq hq9 hs hs9 hl
  go_enter Try.func42, Try.ntmps42
  go_wp2_with fail
  go_loopw [1, 5] (fun q2 i wr => ∃ j : Nat, i = .int .i64 j ∧ q2 = .int .i64 (q + (sumT bytes.tot (xs.take j) : Nat)) ∧ j ≤ n ∧ OO rowB wr lo hi fp (.slice A n c) (mks bytes.mkx bytes.tot q (xs.take j) ++ xs.drop j) ∧ KS fp w wr) (fun _ i _ => n - (intOf i).toNat)
  case atStart => exact ⟨0, rfl, by simp [sumT], by omega, by simpa [mks] using H0.out, KS.refl _ _⟩
  clear H0
  case round =>
    obtain ⟨j, rfl, rfl, hj, ho, hk⟩ := hrel
    obtain ⟨t, hq⟩ : ∃ t, q + (sumT bytes.tot (xs.take j) : Nat) = t := ⟨_, rfl⟩
    have HTT := Lib.hid hq
    have HO := Lib.hid ho
    have K0 := Lib.hid hk
    have hb1 : 0 ≤ t ∧ t ≤ 1099511627776 := by have a1 := HQ.out; have a2 := sumT_take bytes.tot xs j; omega
    rw [hq]
    clear ho hk hq
    by_cases hlt : j < n
    · have hlt2 : (j : Int) < n := by omega
      obtain ⟨x, hx⟩ : ∃ x, xs[j]? = some x := ⟨_, List.getElem?_eq_getElem (by rw [HL.out]; exact hlt)⟩
      have HX := Lib.hid hx
      have hx2 := at_mid (mk := bytes.mkx) (tot := bytes.tot) (q := q) hx
      have HSX := Lib.hid (HBD.out x (List.mem_of_getElem? hx))
      have hend : t + (bytes.tot x : Nat) ≤ 1099511627776 := by have a1 := HQ.out; have a2 := sumT_take bytes.tot xs (j + 1); rw [take_snoc hx, sumT_snoc] at a2; have a3 := HTT.out; omega
      have HND := Lib.hid hend
      obtain ⟨g, n1, cc1, l, r, u, f, e1, hlj, hsp, hole, hox, hfp, hnd, husz, huone⟩ := row_hole HO.out hx2
      injection e1 with e1 e2 e3
      subst e1 e2 e3
      obtain ⟨A0, n0, c0, f0, rfl, g0, hff, hnf⟩ := bytes_o hox
      have HO0 := Lib.hid (show Hole bytes 22 wr g n c l r [.slice A0 n0 c0] from hole)
      have HFP := Lib.hid hfp
      have HNF := Lib.hid hnd
      have AP := Lib.hid (hole_apart hfp hnd)
      have HIN := Lib.hid hox.inn
      have HALL := Lib.hid HO.out.inn
      have HHI := Lib.hid HO.out.hi_
      have HLJ := Lib.hid hlj
      have HSP := Lib.hid hsp
      have N0_0 := Lib.hid g0
      have HFF := Lib.hid hff
      have HNN := Lib.hid hnf
      clear hole hox hx hx2 hfp hnd husz huone hlj hsp HO hff hnf g0
      have kc0 : wr.cell? ⟨g, j, none⟩ = some (.slice A0 n0 c0) := by have hh : wr.cell? ⟨g, j * 1 + 0, none⟩ = some (.slice A0 n0 c0) := HO0.out.cell HLJ.out (i := 0) rfl; rwa [Nat.mul_one, Nat.add_zero] at hh
      go_wp2_with fail
      clear kc0
      have HK0 := Lib.hid (show 0 ≤ t ∧ t + (bytes.tot x : Nat) ≤ 1099511627776 by have a1 := HND.out; have a2 : True := trivial; omega)
      have HZ0 := Lib.hid (show bytes.sz x ≤ 67108864 by have a1 := HSX.out; have a2 : True := trivial; omega)
      (with_reducible refine (markByteS t N0_0.out HK0.out HZ0.out).mono ?_)
      rintro e wb0 hp
      obtain ⟨rfl, ho, hk⟩ := hp.parts
      have HO1 := Lib.hid (HO0.out.ks hk (fun hb => AP.out.1 (by rw [HFF.out]; simp [hb])) (fun e he b hb hb2 => AP.out.2.1 e he b hb (by rw [HFF.out]; simp [hb2])))
      have K1 := Lib.hid (K0.out.trans (ks_more hk (fun b hb => AP.out.2.2.1 b (by rw [HFF.out]; simp [hb]))))
      have N0_1 := Lib.hid ho
      clear hp ho hk HO0 K0 N0_0
      obtain ⟨t0, ht0⟩ : ∃ y : Int, t + (bytes.tot x : Nat) = y := ⟨_, rfl⟩
      have Ht0 := Lib.hid ht0
      have hbt0 : 0 ≤ t0 ∧ t0 ≤ 1099511627776 := by have a1 := HK0.out; omega
      rw [ht0]
      clear ht0
      have kc0 : wb0.cell? ⟨g, j, none⟩ = some (.slice A0 n0 c0) := by have hh : wb0.cell? ⟨g, j * 1 + 0, none⟩ = some (.slice A0 n0 c0) := HO1.out.cell HLJ.out (i := 0) rfl; rwa [Nat.mul_one, Nat.add_zero] at hh
      go_wp2_with fail
      clear kc0
      have HX1 := Lib.hid (take_snoc HX.out)
      have HEND := Lib.hid (show t0 = q + (sumT bytes.tot (xs.take (j + 1)) : Nat) by rw [HX1.out, sumT_snoc]; have a1 := HTT.out; have a2 : True := trivial; have b0 := Ht0.out; omega)
      have HCL := Lib.hid (show OO rowB wb0 lo hi fp (.slice (some ⟨g, 0, none⟩) n c) (l.map (·.x) ++ bytes.mkx t x :: r.map (·.x)) by
          have hm : bytes.mkx t x = (bytes.mkx t x) := by rfl
          rw [hm]
          have ho := bytes_mk (x := (bytes.mkx t x)) N0_1.out (by rw [← HFF.out]; exact HNN.out)
          rw [← HFF.out] at ho
          exact Hole.close (u := (.slice A0 n0 c0)) HO1.out ho.1 (oneB _ _ _) HFP.out HNF.out HALL.out (by have a1 := HHI.out; have a2 := K1.out.size; have a3 := KH.out; omega))
      go_roundw
      case rel => exact ⟨j + 1, by go_num, by rw [HEND.out], by omega, by rw [← round_mk HX.out (show (l.map (·.x)).length = j by rw [List.length_map]; exact HLJ.out) HSP.out, HTT.out]; exact HCL.out, K1.out⟩
      case measure => simp [intOf]; omega
    · have hlt2 : ¬ (j : Int) < n := by omega
      obtain rfl : j = n := by omega
      have HF := Lib.hid (show xs.take j = xs from List.take_of_length_le (by rw [HL.out]; exact Nat.le_refl _))
      have HG := Lib.hid (show t = q + (sumT bytes.tot xs : Nat) by rw [← HTT.out, HF.out])
      have HE := Lib.hid (show OO rowB wr lo hi fp (.slice A j c) (mks bytes.mkx bytes.tot q xs) by have hh := HO.out; rw [HF.out, List.drop_of_length_le (by rw [HL.out]; exact Nat.le_refl _), List.append_nil] at hh; exact hh)
      clear HO
      go_wp2_with fail
      go_ret
      exact ⟨by rw [← HG.out]; rfl, HE.out, K0.out⟩
set_option maxRecDepth 100000 in
set_option maxHeartbeats 4000000 in
theorem heldByteSS {w : World} {lo hi : Nat} {v : Value} {xs : List (List Int)} (q : Int) (h : RR rowB w lo hi v (rowB.mkx q xs)) (hq : 0 ≤ q ∧ q + (rowB.tot xs : Nat) ≤ 1099511627776) (hs : rowB.sz xs ≤ 67108864) :
    Calls Try.prog 43 #[v, .int .i64 q] w (NPost (q + (rowB.tot xs : Nat)) w) := by
  obtain ⟨A, n, c, rfl, hl, hnc, hcm⟩ := row_open h
  have hl2 : xs.length = n := by rw [← hl]; exact (mks_len bytes.mkx bytes.tot xs q).symm
  have HL := Lib.hid hl2
  have hq9 : 0 ≤ q ∧ q + (sumT bytes.tot xs : Nat) ≤ 1099511627776 := hq
  have HQ := Lib.hid hq9
  have hs9 : xs.length + sumT bytes.sz xs ≤ 67108864 := hs
  have HBD := Lib.hid (show ∀ y ∈ xs, bytes.sz y ≤ 67108864 from fun y hy => by have := sumT_mem bytes.sz hy; omega)
  have H0 := Lib.hid h
  show Calls Try.prog 43 #[.slice A n c, .int .i64 q] w (NPost (q + (sumT bytes.tot xs : Nat)) w)
  clear h hq hq9 hs hs9 hl hl2
  go_enter Try.func43, Try.ntmps43
  go_wp2_with fail
  go_loopw [1, 5] (fun q2 i wr => ∃ j : Nat, i = .int .i64 j ∧ q2 = .int .i64 (q + (sumT bytes.tot (xs.take j) : Nat)) ∧ j ≤ n ∧ Below w.heap.size w wr) (fun _ i _ => n - (intOf i).toNat)
  case atStart => exact ⟨0, rfl, by simp [sumT], by omega, Below.refl _ _⟩
  case round =>
    obtain ⟨j, rfl, rfl, hj, hb⟩ := hrel
    obtain ⟨t, hq⟩ : ∃ t, q + (sumT bytes.tot (xs.take j) : Nat) = t := ⟨_, rfl⟩
    have HTT := Lib.hid hq
    have HB := Lib.hid hb
    have HR := Lib.hid (H0.out.below hb)
    have hb1 : 0 ≤ t ∧ t ≤ 1099511627776 := by have a1 := HQ.out; have a2 := sumT_take bytes.tot xs j; omega
    rw [hq]
    clear hb hq
    by_cases hlt : j < n
    · have hlt2 : (j : Int) < n := by omega
      obtain ⟨x, hx⟩ : ∃ x, xs[j]? = some x := ⟨_, List.getElem?_eq_getElem (by rw [HL.out]; exact hlt)⟩
      have HX := Lib.hid hx
      have HSX := Lib.hid (HBD.out x (List.mem_of_getElem? hx))
      have hend : t + (bytes.tot x : Nat) ≤ 1099511627776 := by have a1 := HQ.out; have a2 := sumT_take bytes.tot xs (j + 1); rw [take_snoc hx, sumT_snoc] at a2; have a3 := HTT.out; omega
      have HND := Lib.hid hend
      obtain ⟨b, off, y, u, hA, hy, hb1_, hb2_, hr, hu⟩ := row_at HR.out hlt
      obtain rfl : y = bytes.mkx t x := by have hy : (mks bytes.mkx bytes.tot q xs)[j]? = some y := hy; rw [mks_at bytes.mkx bytes.tot hx, HTT.out] at hy; exact (Option.some.inj hy).symm
      obtain ⟨A0, n0, c0, rfl, g0⟩ := bytes_r hu
      subst hA
      have kc0 : wr.cell? ⟨b, off + j, none⟩ = some (.slice A0 n0 c0) := by have hh : wr.cell? ⟨b, off + j * 1 + 0, none⟩ = some (.slice A0 n0 c0) := hr 0 _ rfl; rwa [Nat.mul_one, Nat.add_zero] at hh
      have P0 := Lib.hid g0
      obtain ⟨t0, ht0⟩ : ∃ y : Int, t + (bytes.tot x : Nat) = y := ⟨_, rfl⟩
      have Ht0 := Lib.hid ht0
      have HK0 := Lib.hid (show 0 ≤ t ∧ t + (bytes.tot x : Nat) ≤ 1099511627776 by have a1 := HND.out; have a2 : True := trivial; omega)
      have HZ0 := Lib.hid (show bytes.sz x ≤ 67108864 by have a1 := HSX.out; have a2 : True := trivial; omega)
      have hbt0 : 0 ≤ t0 ∧ t0 ≤ 1099511627776 := by have a1 := HK0.out; omega
      clear ht0
      clear hu hy hr g0 hx
      go_wp2_with fail
      (with_reducible refine (heldByteS t P0.out HK0.out HZ0.out).mono ?_)
      rw [Ht0.out]
      rintro e wh0 ⟨rfl, hb⟩
      replace kc0 := (hb.cell (World.block_lt_of_cell? _ _ kc0)).trans kc0
      have P0 := Lib.hid (P0.out.below hb)
      have HB0 := Lib.hid (HB.out.trans (hb.mono HB.out.size))
      clear hb HB 
      have hng1 : ¬ t0 < 0 := by omega
      go_wp2_with fail
      have HEND := Lib.hid (show t0 = q + (sumT bytes.tot (xs.take (j + 1)) : Nat) by rw [take_snoc HX.out, sumT_snoc]; have a1 := HTT.out; have a2 : True := trivial; have b0 := Ht0.out; omega)
      go_roundw
      case rel => exact ⟨j + 1, by go_num, by rw [HEND.out], by omega, HB0.out⟩
      case measure => simp [intOf]; omega
    · have hlt2 : ¬ (j : Int) < n := by omega
      obtain rfl : j = n := by omega
      have HF := Lib.hid (show xs.take j = xs from List.take_of_length_le (by rw [HL.out]; exact Nat.le_refl _))
      have HG := Lib.hid (show t = q + (sumT bytes.tot xs : Nat) by rw [← HTT.out, HF.out])
      go_wp2_with fail
      go_ret
      exact ⟨by rw [← HG.out]; rfl, HB.out⟩
end Go.Proofs.Ytmmhleobgpgliaa.ux
