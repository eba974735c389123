/- The window of a valid buffer, by the program. Condition: the buffer is valid. -/
import Derived.Test.YtejjafmppihneaaRo2
namespace Go.Proofs.Ytejjafmppihneaa.ro
open Go.RowKit sl harn bx stw
set_option linter.unusedVariables false
open ux (Nf Rob RR OO row rowB rowNf nf rob)
open mrw (blkOf)
open bs (nsq sqd)
set_option linter.unusedSimpArgs false

/-- A block told by a term. -/
abbrev Wn (w : World) (b : Nat) (cells : Array Value) : Prop := Bx 84 w b cells
theorem Wn.same {w w' : World} {b : Nat} {cells : Array Value} (h : Wn w b cells) (hs : w.heap.size ≤ w'.heap.size) (hb : ∀ c, b ≤ c → c < b + 1 → w'.heap[c]? = w.heap[c]?) : Wn w' b cells := Bx.same h (hb b (Nat.le_refl _) (by omega))
theorem Wn.below {w w' : World} {b : Nat} {cells : Array Value} (h : Wn w b cells) (hb : Below w.heap.size w w') : Wn w' b cells := Bx.below h hb
theorem Wn.hi_ {w : World} {b : Nat} {cells : Array Value} (h : Wn w b cells) : b + 1 ≤ w.heap.size := Bx.lt h
theorem Wn.ks {w w' : World} {b : Nat} {cells : Array Value} {F : List Nat} (h : Wn w b cells) (hk : KS F w w') (hn : ∀ c, b ≤ c → c < b + 1 → c ∉ F) : Wn w' b cells := ux.bx_ks h hk (hn b (Nat.le_refl _) (by omega))
theorem szRv {t : St} {hd : Value} (h : t.ws.length = 16) : (Try.prog.info? 84).map (·.size) = some (vcs t hd).size := by rw [vcs_size h]; kernel_rfl
theorem vcs_one (t : St) (A : Option Addr) (n c : Nat) : (vcs t (.slice A n c)).all (·.oneCell') = true := by
  refine all_oneCell_toArray fun v hv => ?_
  rcases List.mem_cons.1 hv with rfl | hv
  · rfl
  · rcases List.mem_append.1 hv with hv | hv
    · exact wcs_one _ v hv
    · obtain rfl : v = .slice A n c := by simpa using hv
      rfl
theorem none16_len : none16.length = 16 := by unfold none16; rw [List.length_replicate]
theorem fill16 (s : Int) (xs : List Nf) : (fill s none16 xs).length = 16 := by rw [fill_len]; exact List.length_replicate
def vcs0 : Array Value := vcs ⟨0, none16, []⟩ (.slice none 0 0)
theorem okp_at {s : Int} {xs : List Nf} (h : okp s 0 xs = true) {k : Nat} {x : Nf} (hx : xs[k]? = some x) : (1 ≤ sqd s x.Seq ∧ sqd s x.Seq ≤ 15) ∧ x.Body.length ≤ 100 := okp_mem (by omega) h x (List.mem_of_getElem? hx)
/-- What reorderingOf hands back: the window's cells and an empty slice of the call's own. -/
def RgPost (r : Rob) (w : World) (e : Ending) (w' : World) : Prop := ∃ be, e = .returned (.agg (vcs (start r) (.slice (some ⟨be, 0, none⟩) 0 0))) ∧ Bx 22 w' be #[] ∧ w.heap.size ≤ be ∧ Below w.heap.size w w'
theorem rg_parts {r : Rob} {w : World} {e : Ending} {w' : World} (h : RgPost r w e w') : ∃ be, e = .returned (.agg (vcs (start r) (.slice (some ⟨be, 0, none⟩) 0 0))) ∧ Bx 22 w' be #[] ∧ w.heap.size ≤ be ∧ Below w.heap.size w w' := h
set_option maxRecDepth 100000 in
set_option maxHeartbeats 4000000 in
theorem implRo (s : Int) (xs : List Nf) (lo hi : Nat) (A : Option Addr) (n c : Nat) (w : World) (h : RR rowNf w lo hi (.slice A n c) xs) (hv : vr ⟨s, xs⟩ = true) :
    Calls Try.prog 73 #[.agg #[.int .i64 s, .slice A n c]] w (RgPost ⟨s, xs⟩ w) := by
  have RW := Lib.hid h
  obtain ⟨hlR, hncR, hcmR⟩ := nf_len h
  have HL := Lib.hid hlR
  have LHR := Lib.hid (show hi ≤ w.heap.size from h.hi_)
  clear hlR h
  have HV := Lib.hid (vr_parts hv).1
  clear hv
  go_enter Try.func73, Try.ntmps73
  go_upto_region 1 with fail
  change Code.wp _ _ _ _ ((w.alloc (.cells #[.int .i64 s, .slice A n c] 50)).alloc (.cells vcs0 84))
  obtain ⟨w0, hW⟩ : ∃ w0, (w.alloc (.cells #[.int .i64 s, .slice A n c] 50)).alloc (.cells vcs0 84) = w0 := ⟨_, rfl⟩
  rw [hW]
  have B0 := Lib.hid (show Below w.heap.size w w0 by rw [← hW]; exact ((Below.refl _ _).alloc (by simp <;> omega) _).alloc (by simp <;> omega) _)
  have X0 := Lib.hid (show Bx 50 w0 (w.heap.size) #[.int .i64 s, .slice A n c] by
      rw [← hW]
      have hh := Bx.made 50 w #[.int .i64 s, .slice A n c]
      exact (hh.below (below_box _ _)))
  have Z0 := Lib.hid (show Bx 84 w0 (w.heap.size + 1) vcs0 by
      rw [← hW]
      have hh : Bx 84 ((w.alloc (.cells #[.int .i64 s, .slice A n c] 50)).alloc (.cells vcs0 84)) (w.heap.size + 1) vcs0 := by have hh := Bx.made 84 (w.alloc (.cells #[.int .i64 s, .slice A n c] 50)) vcs0; simpa using hh
      exact hh)
  have R0 := Lib.hid (show RR rowNf w0 lo hi (.slice A n c) xs by rw [← hW]; exact ((RW.out.below (below_box _ _)).below (below_box _ _)))
  clear hW
  have LTX := Lib.hid X0.out.lt
  have LTZ := Lib.hid Z0.out.lt
  have Zq := Lib.hid (show Wn w0 (w.heap.size + 1) vcs0 from Z0.out)
  clear Z0
  have Z0 := Zq
  clear Zq
  have cX0 : w0.cell? ⟨w.heap.size, 0, none⟩ = some (.int .i64 s) := X0.out.cell 0
  have cX1 : w0.cell? ⟨w.heap.size, 1, none⟩ = some (.slice A n c) := X0.out.cell 1
  have hX0 : Bx 84 ((w0.alloc (.cells #[] 22)).alloc (.cells vcs0 84)) (w0.heap.size + 1) vcs0 := by have hh := Bx.made 84 (w0.alloc (.cells #[] 22)) vcs0; rwa [show (w0.alloc (.cells #[] 22)).heap.size = w0.heap.size + 1 by simp] at hh
  have hS0 : vcs0.size = ((vcs ⟨s, none16, []⟩ (.slice (some ⟨w0.heap.size, 0, none⟩) 0 0))).size := (vcs_size none16_len).trans (vcs_size (t := ⟨s, none16, []⟩) none16_len).symm
  have hS1 := szRv (t := ⟨s, none16, []⟩) (hd := .slice (some ⟨w0.heap.size, 0, none⟩) 0 0) none16_len
  have hO1 := vcs_one ⟨s, none16, []⟩ (some ⟨w0.heap.size, 0, none⟩) 0 0
  go_upto_region 2 with (refine stw.list_store rfl 84 _ _ rfl (w0.heap.size + 1) (vcs ⟨s, none16, []⟩ (.slice (some ⟨w0.heap.size, 0, none⟩) 0 0)) rfl rfl 84 _ hX0 hS0 hS1 hO1 ?_; intro wz hz)
  have hb := hz.on (((Below.refl w0.heap.size w0).alloc (Nat.le_refl _) (.cells #[] 22)).alloc (by simp) _) (by omega)
  have hE := hz.keep ((Bx.made 22 w0 #[]).below (below_box _ _)) (by omega)
  have hV := hz.box
  clear hz hX0 hS0 hS1 hO1
  obtain ⟨be, hbe⟩ : ∃ b, w0.heap.size = b := ⟨_, rfl⟩
  have LE := Lib.hid (show w.heap.size + 1 < be ∧ hi ≤ be ∧ be + 1 < wz.heap.size by have h1 := hV.lt; have h2 := LTZ.out; have h3 := LHR.out; omega)
  rw [hbe] at hE hV
  obtain ⟨w1, hwz⟩ : ∃ w5, wz = w5 := ⟨_, rfl⟩
  rw [hwz] at hb hE hV LE ⊢
  (try rw [hbe])
  clear hwz hbe cX0 cX1
  have SS1 := Lib.hid hb.size
  have B1 := Lib.hid (B0.out.trans (hb.mono B0.out.size))
  have X1 := Lib.hid (X0.out.below hb)
  have R1 := Lib.hid (R0.out.below hb)
  have Z1 := Lib.hid (Z0.out.below hb)
  clear hb B0 X0 R0 Z0
  have E1 := Lib.hid hE
  have V1 := Lib.hid (show Wn w1 (be + 1) (vcs ⟨s, none16, []⟩ (.slice (some ⟨be, 0, none⟩) 0 0)) from hV)
  clear hE hV
  have HBE := LE
  have cX0 : w1.cell? ⟨w.heap.size, 0, none⟩ = some (.int .i64 s) := X1.out.cell 0
  have cX1 : w1.cell? ⟨w.heap.size, 1, none⟩ = some (.slice A n c) := X1.out.cell 1
  go_wp2_with fail
  clear cX0 cX1
  go_loopw [13] (fun v0 wr => ∃ (k : Nat), v0 = .int .i64 ((k : Int)) ∧ (k ≤ n) ∧ (w.heap.size + 1 < be ∧ hi ≤ be ∧ be + 1 < wr.heap.size) ∧ Below w.heap.size w wr ∧ Bx 50 wr w.heap.size #[.int .i64 s, .slice A n c] ∧ Bx 22 wr be #[] ∧ RR rowNf wr lo hi (.slice A n c) xs ∧ Wn wr (w.heap.size + 1) vcs0 ∧ Wn wr (be + 1) (vcs ⟨s, fill s none16 (xs.take k), []⟩ (.slice (some ⟨be, 0, none⟩) 0 0))) (fun i _ => n - (intOf i).toNat)
  case atStart => exact ⟨0, rfl, by omega, LE.out, B1.out, X1.out, E1.out, R1.out, Z1.out, V1.out⟩
  case round =>
    obtain ⟨k, rfl, ghk, ghbe, gB2, gX2, gE2, gR2, gZ2, gV2⟩ := hrel
    have B2 := Lib.hid gB2
    have X2 := Lib.hid gX2
    have E2 := Lib.hid gE2
    have R2 := Lib.hid gR2
    have Z2 := Lib.hid gZ2
    have V2 := Lib.hid gV2
    have hk := Lib.hid ghk
    have hbe := Lib.hid ghbe
    clear gB2 gX2 gE2 gR2 gZ2 gV2 ghk ghbe
    have LUX2 := Lib.hid X2.out.lt
    have LUE2 := Lib.hid E2.out.lt
    have SBR2 := Lib.hid B2.out.size
    have hk9 := hk.out
    by_cases hlt : k < n
    · have hlt2 : (k : Int) < n := by omega
      obtain ⟨g, off, x, u, hA, hy, hg1, hg2, hru, hxu⟩ := ux.row_at (R2.out : RR (row 90 nf) _ _ _ _ _) hlt
      obtain ⟨A0, n0, c0_, rfl, hb0⟩ := ux.nf_r hxu
      subst hA
      have k0 : wr.cell? ⟨g, off + k * 2, none⟩ = some (.int .i64 x.Seq) := hru 0 _ rfl
      have k1 : wr.cell? ⟨g, off + k * 2 + 1, none⟩ = some (.slice A0 n0 c0_) := hru 1 _ rfl
      have HY := Lib.hid hy
      have HN0 := Lib.hid (ux.rd_of hb0).len
      have hn0 := (ux.rd_of hb0).cap_
      have F2 := Lib.hid hb0
      clear hy hru hxu hb0 hg1 hg2
      have HOK := Lib.hid (okp_at HV.out HY.out)
      obtain ⟨d, hd⟩ : ∃ d : Nat, sqd s x.Seq = d := ⟨(sqd s x.Seq).toNat, by have := HOK.out.1; omega⟩
      have HD := Lib.hid hd
      have hd15 : d ≤ 15 := by have := HOK.out.1; omega
      clear hd
      have cX0 : wr.cell? ⟨w.heap.size, 0, none⟩ = some (.int .i64 s) := X2.out.cell 0
      have cX1 : wr.cell? ⟨w.heap.size, 1, none⟩ = some (.slice (some ⟨g, off, none⟩) n c) := X2.out.cell 1
      obtain ⟨b3, hbb⟩ : ∃ b, wr.heap.size = b := ⟨_, rfl⟩
      go_upto_region 5 with fail
      generalize hW : wr.alloc (.cells #[.int .i64 x.Seq, .slice A0 n0 c0_] 90) = w3
      have LY := Lib.hid (show w.heap.size ≤ b3 ∧ w.heap.size < b3 ∧ be < b3 ∧ hi ≤ b3 ∧ (w.heap.size + 1 + 1) ≤ b3 ∧ (be + 1 + 1) ≤ b3 ∧ hi ≤ b3 by have h1 := B2.out.size; have h2X := X2.out.lt; have h2E := E2.out.lt; have h2R := R2.out.hi_; have h2Z := Z2.out.hi_; have h2V := V2.out.hi_; have h2F := F2.out.hi_; have h3 := hbb; omega)
      have Y3 := Lib.hid (show Bx 90 w3 b3 #[.int .i64 x.Seq, .slice A0 n0 c0_] by rw [← hW, ← hbb]; exact Bx.made _ _ _)
      have hb : Below wr.heap.size wr w3 := by rw [← hW]; exact below_box _ _
      (try rw [hbb])
      clear hW hbb
      have SS3 := Lib.hid hb.size
      have B3 := Lib.hid (B2.out.trans (hb.mono B2.out.size))
      have X3 := Lib.hid (X2.out.below hb)
      have E3 := Lib.hid (E2.out.below hb)
      have R3 := Lib.hid (R2.out.below hb)
      have Z3 := Lib.hid (Z2.out.below hb)
      have V3 := Lib.hid (V2.out.below hb)
      have F3 := Lib.hid (F2.out.below hb)
      clear hb B2 X2 E2 R2 Z2 V2 F2
      have LWY := Lib.hid Y3.out.lt
      clear k0 k1 cX0 cX1
      refine reg.region_tail reg.Bel 7 27 [some [], some [(0, 17)], some [], some [(2, 19)], some [(1, 18), (3, 20)], some [], some [(5, 22)], none] [(0, 17), (1, 18), (2, 19), (3, 20), (4, 21), (5, 22), (6, 23)]
        (fun w' => Below w.heap.size w w' ∧ Bx 50 w' (w.heap.size) #[.int .i64 s, .slice (some ⟨g, off, none⟩) n c] ∧ Bx 22 w' (be) #[] ∧ Bx 90 w' (b3) #[.int .i64 x.Seq, .slice A0 n0 c0_] ∧ RR rowNf w' lo hi (.slice (some ⟨g, off, none⟩) n c) xs ∧ Wn w' (w.heap.size + 1) vcs0 ∧ Wn w' (be + 1) (vcs ⟨s, fill s none16 (xs.take k), []⟩ (.slice (some ⟨be, 0, none⟩) 0 0)) ∧ RR ux.bytes w' lo hi (.slice A0 n0 c0_) x.Body ∧ True)
        (reg.rl [reg.is (.pointer (some ⟨w.heap.size, 0, none⟩)), reg.is (.int .i64 s), reg.is (.pointer (some ⟨b3, 0, none⟩)), reg.is (.int .i64 x.Seq), reg.is (.int .i64 ((d : Int))), reg.is (.pointer (some ⟨b3, 1, none⟩)), reg.is (.slice A0 n0 c0_), reg.free])
        (by kernel_rfl) rfl (by kernel_rfl) (by kernel_rfl) rfl
        (fun w1 w2 hc hb => ⟨hc.1.trans (hb.mono hc.1.size), hc.2.1.below hb, hc.2.2.1.below hb, hc.2.2.2.1.below hb, hc.2.2.2.2.1.below hb, hc.2.2.2.2.2.1.below hb, hc.2.2.2.2.2.2.1.below hb, hc.2.2.2.2.2.2.2.1.below hb, trivial⟩) (reg.rl_keep _) (⟨own.below_drew B3.out, X3.out.same rfl, E3.out.same rfl, Y3.out.same rfl, R3.out.same (Nat.le_refl _) (fun _ _ _ => rfl), Z3.out.same (Nat.le_refl _) (fun _ _ _ => rfl), V3.out.same (Nat.le_refl _) (fun _ _ _ => rfl), F3.out.same (Nat.le_refl _) (fun _ _ _ => rfl), trivial⟩) (by kernel_rfl) ⟨?_, ?_, ?_, ?_, ?_, ?_, ?_, trivial⟩ ?_
      · refine fun w8 hc  K hK => ?_
        (try simp only [Act.put, List.setIfInBounds_toArray, List.set_cons_zero, List.set_cons_succ])
        go_simp
        exact hK (.pointer (some ⟨w.heap.size, 0, none⟩)) _ rfl (Below.refl _ _)
      · refine fun w8 hc v0 h0 K hK => ?_
        obtain rfl : v0 = .pointer (some ⟨w.heap.size, 0, none⟩) := h0
        (try simp only [Act.put, List.setIfInBounds_toArray, List.set_cons_zero, List.set_cons_succ])
        have c0 : w8.cell? ⟨w.heap.size, 0, none⟩ = some (.int .i64 s) := hc.2.1.cell 0
        go_simp
        exact hK (.int .i64 s) _ rfl (Below.refl _ _)
      · refine fun w8 hc  K hK => ?_
        (try simp only [Act.put, List.setIfInBounds_toArray, List.set_cons_zero, List.set_cons_succ])
        go_simp
        exact hK (.pointer (some ⟨b3, 0, none⟩)) _ rfl (Below.refl _ _)
      · refine fun w8 hc v2 h2 K hK => ?_
        obtain rfl : v2 = .pointer (some ⟨b3, 0, none⟩) := h2
        (try simp only [Act.put, List.setIfInBounds_toArray, List.set_cons_zero, List.set_cons_succ])
        have c0 : w8.cell? ⟨b3, 0, none⟩ = some (.int .i64 x.Seq) := hc.2.2.2.1.cell 0
        go_simp
        exact hK (.int .i64 x.Seq) _ rfl (Below.refl _ _)
      · refine fun w8 hc v1 h1 v3 h3 K hK => ?_
        obtain rfl : v1 = .int .i64 s := h1
        obtain rfl : v3 = .int .i64 x.Seq := h3
        (try simp only [Act.put, List.setIfInBounds_toArray, List.set_cons_zero, List.set_cons_succ])
        go_simp
        (with_reducible refine (bs.implSd s x.Seq _).mono ?_)
        rw [HD.out]
        rintro e w3 ⟨rfl, rfl⟩
        exact hK _ _ rfl (Below.refl _ _)
      · refine fun w8 hc  K hK => ?_
        (try simp only [Act.put, List.setIfInBounds_toArray, List.set_cons_zero, List.set_cons_succ])
        go_simp
        exact hK (.pointer (some ⟨b3, 1, none⟩)) _ rfl (Below.refl _ _)
      · refine fun w8 hc v5 h5 K hK => ?_
        obtain rfl : v5 = .pointer (some ⟨b3, 1, none⟩) := h5
        (try simp only [Act.put, List.setIfInBounds_toArray, List.set_cons_zero, List.set_cons_succ])
        have c0 : w8.cell? ⟨b3, 1, none⟩ = some (.slice A0 n0 c0_) := hc.2.2.2.1.cell 1
        go_simp
        exact hK (.slice A0 n0 c0_) _ rfl (Below.refl _ _)
      refine fun wg4 hc v0 h0 v1 h1 v2 h2 v3 h3 v4 h4 v5 h5 v6 h6 => ?_
      obtain rfl : v0 = .pointer (some ⟨w.heap.size, 0, none⟩) := h0
      obtain rfl : v1 = .int .i64 s := h1
      obtain rfl : v2 = .pointer (some ⟨b3, 0, none⟩) := h2
      obtain rfl : v3 = .int .i64 x.Seq := h3
      obtain rfl : v4 = .int .i64 ((d : Int)) := h4
      obtain rfl : v5 = .pointer (some ⟨b3, 1, none⟩) := h5
      obtain rfl : v6 = .slice A0 n0 c0_ := h6
      (try simp only [reg.Obs])
      (try simp only [Act.put, List.setIfInBounds_toArray, List.set_cons_zero, List.set_cons_succ])
      simp only [List.drop_succ_cons, List.drop_zero]
      have B4 := Lib.hid hc.1
      have X4 := Lib.hid hc.2.1
      have E4 := Lib.hid hc.2.2.1
      have Y4 := Lib.hid hc.2.2.2.1
      have R4 := Lib.hid hc.2.2.2.2.1
      have Z4 := Lib.hid hc.2.2.2.2.2.1
      have V4 := Lib.hid hc.2.2.2.2.2.2.1
      have F4 := Lib.hid hc.2.2.2.2.2.2.2.1
      clear hc B3 X3 E3 Y3 R3 Z3 V3 F3
      go_wp2_with fail
      (with_reducible refine (keep ⟨s, fill s none16 (xs.take k), []⟩ (.slice (some ⟨be, 0, none⟩) 0 0) d x.Body lo hi A0 n0 c0_ (be + 1) _ V4.out (fill16 _ _) (by omega) (ux.rd_of F4.out)).mono ?_)
      rintro e w5 ⟨rfl, hX, hk⟩
      have hX : Wn w5 (be + 1) (vcs ⟨s, fill s none16 (xs.take (k + 1)), []⟩ (.slice (some ⟨be, 0, none⟩) 0 0)) := by rw [fill_take s none16 HY.out, HD.out, Int.toNat_natCast]; exact hX
      have SS5 := Lib.hid hk.size
      have B5 := Lib.hid (B4.out.trans (ux.ks_bel hk (fun b hb => by have h9 := List.mem_singleton.1 hb; have hlY := LY.out; have hs0 := LTX.out; have hs1 := LTZ.out; have hs2 := LHR.out; have hs3 := SS1.out; have hs4 := LE.out; have hs5 := LUX2.out; have hs6 := LUE2.out; have hs7 := SBR2.out; have hs8 := hbe.out; have hs9 := SS3.out; have hs10 := LWY.out; omega) B4.out.size))
      have X5 := Lib.hid (ux.bx_ks X4.out hk (fun hm => by have h9 := List.mem_singleton.1 hm; have hlY := LY.out; have hs0 := LTX.out; have hs1 := LTZ.out; have hs2 := LHR.out; have hs3 := SS1.out; have hs4 := LE.out; have hs5 := LUX2.out; have hs6 := LUE2.out; have hs7 := SBR2.out; have hs8 := hbe.out; have hs9 := SS3.out; have hs10 := LWY.out; omega))
      have E5 := Lib.hid (ux.bx_ks E4.out hk (fun hm => by have h9 := List.mem_singleton.1 hm; have hlY := LY.out; have hs0 := LTX.out; have hs1 := LTZ.out; have hs2 := LHR.out; have hs3 := SS1.out; have hs4 := LE.out; have hs5 := LUX2.out; have hs6 := LUE2.out; have hs7 := SBR2.out; have hs8 := hbe.out; have hs9 := SS3.out; have hs10 := LWY.out; omega))
      have Y5 := Lib.hid (ux.bx_ks Y4.out hk (fun hm => by have h9 := List.mem_singleton.1 hm; have hlY := LY.out; have hs0 := LTX.out; have hs1 := LTZ.out; have hs2 := LHR.out; have hs3 := SS1.out; have hs4 := LE.out; have hs5 := LUX2.out; have hs6 := LUE2.out; have hs7 := SBR2.out; have hs8 := hbe.out; have hs9 := SS3.out; have hs10 := LWY.out; omega))
      have R5 := Lib.hid (R4.out.ks hk (fun b h1 h2 h3 => by have h9 := List.mem_singleton.1 h3; have hlY := LY.out; have hs0 := LTX.out; have hs1 := LTZ.out; have hs2 := LHR.out; have hs3 := SS1.out; have hs4 := LE.out; have hs5 := LUX2.out; have hs6 := LUE2.out; have hs7 := SBR2.out; have hs8 := hbe.out; have hs9 := SS3.out; have hs10 := LWY.out; omega))
      have Z5 := Lib.hid (Z4.out.ks hk (fun b h1 h2 h3 => by have h9 := List.mem_singleton.1 h3; have hlY := LY.out; have hs0 := LTX.out; have hs1 := LTZ.out; have hs2 := LHR.out; have hs3 := SS1.out; have hs4 := LE.out; have hs5 := LUX2.out; have hs6 := LUE2.out; have hs7 := SBR2.out; have hs8 := hbe.out; have hs9 := SS3.out; have hs10 := LWY.out; omega))
      have V5 := Lib.hid (show Wn w5 (be + 1) (vcs ⟨s, fill s none16 (xs.take (k + 1)), []⟩ (.slice (some ⟨be, 0, none⟩) 0 0)) from hX)
      have F5 := Lib.hid (F4.out.ks hk (fun b h1 h2 h3 => by have h9 := List.mem_singleton.1 h3; have hlY := LY.out; have hs0 := LTX.out; have hs1 := LTZ.out; have hs2 := LHR.out; have hs3 := SS1.out; have hs4 := LE.out; have hs5 := LUX2.out; have hs6 := LUE2.out; have hs7 := SBR2.out; have hs8 := hbe.out; have hs9 := SS3.out; have hs10 := LWY.out; omega))
      clear hk hX B4 X4 E4 Y4 R4 Z4 V4 F4
      go_wp2_with fail
      go_roundw
      case rel => exact ⟨k + 1, by go_num, by omega, by have h7 := V5.out.hi_; have hlY := LY.out; have hs0 := LTX.out; have hs1 := LTZ.out; have hs2 := LHR.out; have hs3 := SS1.out; have hs4 := LE.out; have hs5 := LUX2.out; have hs6 := LUE2.out; have hs7 := SBR2.out; have hs8 := hbe.out; have hs9 := SS3.out; have hs10 := LWY.out; have hs11 := SS5.out; omega, B5.out, X5.out, E5.out, R5.out, Z5.out, V5.out⟩
      case measure => simp [intOf]; omega
    · have hlt2 : ¬ (k : Int) < n := by omega
      obtain rfl : n = k := by omega
      have HF := Lib.hid (show xs.take n = xs from List.take_of_length_le (by rw [HL.out]; exact Nat.le_refl _))
      have VE := Lib.hid (show Wn wr (be + 1) (vcs (start ⟨s, xs⟩) (.slice (some ⟨be, 0, none⟩) 0 0)) from by have hh := V2.out; rw [HF.out] at hh; exact hh)
      have H16 := Lib.hid (show (start ⟨s, xs⟩).ws.length = 16 from by show (fill _ _ _).length = 16; rw [fill_len]; exact List.length_replicate)
      have HSZ := Lib.hid (show vcs0.size = (vcs (start ⟨s, xs⟩) (.slice (some ⟨be, 0, none⟩) 0 0)).size by rw [vcs_size H16.out]; rfl)
      go_wp2_with (first | (refine stw.list_load rfl 84 _ rfl (be + 1) rfl 84 _ VE.out Try.underlying84 rfl (szRv H16.out) ?_) | (refine stw.list_store rfl 84 _ _ rfl (w.heap.size + 1) (vcs (start ⟨s, xs⟩) (.slice (some ⟨be, 0, none⟩) 0 0)) rfl rfl 84 _ Z2.out HSZ.out (szRv H16.out) (vcs_one _ _ _ _) ?_; intro wz hz))
      have HB := Lib.hid (hz.on B2.out (by omega))
      have HE := Lib.hid (hz.keep E2.out (by have hs0 := LTX.out; have hs1 := LTZ.out; have hs2 := LHR.out; have hs3 := SS1.out; have hs4 := LE.out; have hs5 := LUX2.out; have hs6 := LUE2.out; have hs7 := SBR2.out; have hs8 := hbe.out; omega))
      (try simp only [Exit.inBlock, Exit.then])
      refine bodyPost_ret (v := .agg (vcs (start ⟨s, xs⟩) (.slice (some ⟨be, 0, none⟩) 0 0))) ?_ rfl ?_
      · rw [results_cell1 rfl]
        exact stw.back hz.box Try.underlying84 rfl (szRv H16.out)
      · exact ⟨be, rfl, HE.out, by have hs0 := LTX.out; have hs1 := LTZ.out; have hs2 := LHR.out; have hs3 := SS1.out; have hs4 := LE.out; have hs5 := LUX2.out; have hs6 := LUE2.out; have hs7 := SBR2.out; have hs8 := hbe.out; omega, HB.out⟩
end Go.Proofs.Ytejjafmppihneaa.ro
