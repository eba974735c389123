/- ExpireMessages of both sides. Condition: sizes up to 2^26. -/
import Derived.Test.YtjmenbpalihnnaaQc4
import Derived.Test.YtjmenbpalihnnaaRgp
import Derived.Test.YtjmenbpalihnnaaStv
namespace Go.Proofs.Ytjmenbpalihnnaa.mq
open Go.RowKit sl harn bx mrw
set_option linter.unusedVariables false
set_option linter.unusedSimpArgs false

theorem drp_wf {t : Int} {ms : List Msg} {d : Int} (hd : (Lit.int .i64 d).wf = true) : ∀ k, (Lit.int .i64 (drp t ms d k)).wf = true
  | 0 => hd
  | k + 1 => by
    unfold drp
    split
    · exact wf_wrap .i64 _
    · exact drp_wf hd k
set_option maxRecDepth 100000 in
set_option maxHeartbeats 4000000 in
theorem implXp (t : Int) (ms : List Msg) (d : Int) (A : Option Addr) (n cap lo hi : Nat) (hn : n ≤ 67108864) (hbd : ∀ y ∈ ms, y.2.2.2.length ≤ 67108864) (w : World) (h : Rq msg w lo hi A n cap ms) :
    Calls Try.prog 25 #[qV A n cap d, .int .i64 t] w (QPost (keep t ms n, drp t ms d n) w) := by
  obtain ⟨i0, hi0, hz0, hz1, hz2⟩ := info_parts infoM
  have HZ := Lib.hid (And.intro hi0 (And.intro hz0 (And.intro hz1 hz2)))
  clear hi0 hz0 hz1 hz2
  have QW := Lib.hid h
  have hqh := h.hi_
  have hqc := h.cap_
  have HBD := Lib.hid hbd
  clear h hbd
  go_enter Try.func25, Try.ntmps25
  go_wp2_with fail
  obtain ⟨w0, hW⟩ : ∃ w0, (((w.alloc (.cells #[.slice A n cap, .int .i64 d] 26)).alloc (.cells #[.slice none 0 0, .int .i64 0] 26)).alloc (.cells #[] 28)).alloc (.cells #[.slice (some ⟨w.heap.size + 1 + 1, 0, none⟩) 0 0, .int .i64 d] 26) = w0 := ⟨_, rfl⟩
  rw [hW]
  have B0 := Lib.hid (show Below w.heap.size w w0 by rw [← hW]; exact ((((Below.refl _ _).alloc (by simp <;> omega) _).alloc (by simp <;> omega) _).alloc (by simp <;> omega) _).alloc (by simp <;> omega) _)
  have X0 := Lib.hid (show Bx 26 w0 (w.heap.size) #[.slice A n cap, .int .i64 d] by
      rw [← hW]
      have hh := Bx.made 26 w #[.slice A n cap, .int .i64 d]
      exact (((hh.below (below_box _ _)).below (below_box _ _)).below (below_box _ _)))
  have Z0 := Lib.hid (show Bx 26 w0 (w.heap.size + 1) #[.slice none 0 0, .int .i64 0] by
      rw [← hW]
      have hh : Bx 26 ((w.alloc (.cells #[.slice A n cap, .int .i64 d] 26)).alloc (.cells #[.slice none 0 0, .int .i64 0] 26)) (w.heap.size + 1) #[.slice none 0 0, .int .i64 0] := by have hh := Bx.made 26 (w.alloc (.cells #[.slice A n cap, .int .i64 d] 26)) #[.slice none 0 0, .int .i64 0]; simpa using hh
      exact ((hh.below (below_box _ _)).below (below_box _ _)))
  have E0 := Lib.hid (show Bx 28 w0 (w.heap.size + 1 + 1) #[] by
      rw [← hW]
      have hh : Bx 28 (((w.alloc (.cells #[.slice A n cap, .int .i64 d] 26)).alloc (.cells #[.slice none 0 0, .int .i64 0] 26)).alloc (.cells #[] 28)) (w.heap.size + 1 + 1) #[] := by have hh := Bx.made 28 ((w.alloc (.cells #[.slice A n cap, .int .i64 d] 26)).alloc (.cells #[.slice none 0 0, .int .i64 0] 26)) #[]; simpa using hh
      exact (hh.below (below_box _ _)))
  have P0 := Lib.hid (show Bx 26 w0 (w.heap.size + 1 + 1 + 1) #[.slice (some ⟨w.heap.size + 1 + 1, 0, none⟩) 0 0, .int .i64 d] by
      rw [← hW]
      have hh : Bx 26 ((((w.alloc (.cells #[.slice A n cap, .int .i64 d] 26)).alloc (.cells #[.slice none 0 0, .int .i64 0] 26)).alloc (.cells #[] 28)).alloc (.cells #[.slice (some ⟨w.heap.size + 1 + 1, 0, none⟩) 0 0, .int .i64 d] 26)) (w.heap.size + 1 + 1 + 1) #[.slice (some ⟨w.heap.size + 1 + 1, 0, none⟩) 0 0, .int .i64 d] := by have hh := Bx.made 26 (((w.alloc (.cells #[.slice A n cap, .int .i64 d] 26)).alloc (.cells #[.slice none 0 0, .int .i64 0] 26)).alloc (.cells #[] 28)) #[.slice (some ⟨w.heap.size + 1 + 1, 0, none⟩) 0 0, .int .i64 d]; simpa using hh
      exact hh)
  have Q0 := Lib.hid (show Rq msg w0 lo hi A n cap ms by rw [← hW]; exact ((((QW.out.below (below_box _ _)).below (below_box _ _)).below (below_box _ _)).below (below_box _ _)))
  clear hW
  have O0 := Lib.hid (show Oe msg w0 (w.heap.size + 1 + 1) w0.heap.size (some ⟨w.heap.size + 1 + 1, 0, none⟩) 0 0 [] from oe_box (S := msg) E0.out)
  clear E0
  go_loopw [15] (fun v0 wr => ∃ (k : Nat) (m : Nat) (u : Int) (A1 : Option Addr) (c1 : Nat) (es : List (El Msg)), v0 = .int .i64 ((k : Int)) ∧ (k ≤ n) ∧ (m = (keep t ms k).length ∧ m ≤ k) ∧ (u = drp t ms d k) ∧ (es.map (·.x) = keep t ms k) ∧ Below w.heap.size w wr ∧ Bx 26 wr w.heap.size #[.slice A n cap, .int .i64 d] ∧ Bx 26 wr (w.heap.size + 1) #[.slice none 0 0, .int .i64 0] ∧ Bx 26 wr (w.heap.size + 1 + 1 + 1) #[.slice A1 m c1, .int .i64 u] ∧ Rq msg wr lo hi A n cap ms ∧ Oe msg wr (w.heap.size + 1 + 1) wr.heap.size A1 m c1 es) (fun i _ => n - (intOf i).toNat)
  case atStart => exact ⟨0, 0, d, (some ⟨w.heap.size + 1 + 1, 0, none⟩), 0, [], rfl, by omega, ⟨rfl, by omega⟩, rfl, rfl, B0.out, X0.out, Z0.out, P0.out, Q0.out, O0.out⟩
  case round =>
    obtain ⟨k, m, u, A1, c1, es, rfl, ghk, ghm, ghu, ghe, gB1, gX1, gZ1, gP1, gQ1, gO1⟩ := hrel
    have B1 := Lib.hid gB1
    have X1 := Lib.hid gX1
    have Z1 := Lib.hid gZ1
    have P1 := Lib.hid gP1
    have Q1 := Lib.hid gQ1
    have O1 := Lib.hid gO1
    have hk := Lib.hid ghk
    have hm := Lib.hid ghm
    have hu := Lib.hid ghu
    have he := Lib.hid ghe
    clear gB1 gX1 gZ1 gP1 gQ1 gO1 ghk ghm ghu ghe
    have LTX := Lib.hid X1.out.lt
    have LTZ := Lib.hid Z1.out.lt
    have LTP := Lib.hid P1.out.lt
    have hk := hk.out
    have hml := hm.out.2
    by_cases hlt : k < n
    · obtain ⟨b, off, y, hA, hy, h1, h2, A', n', c', hd, ce0, ce1, ce2, ce3⟩ := at_ Q1.out hlt
      have HY := Lib.hid hy
      have D1 := Lib.hid hd
      clear hy hd
      subst hA
      have hlt2 : (k : Int) < n := by omega
      have HG := Lib.hid (getD_of HY.out)
      have HLN := Lib.hid (show n' ≤ 67108864 from (show y.2.2.2.length = n' from D1.out.len) ▸ HBD.out y (List.mem_of_getElem? HY.out))
      by_cases hexp : y.2.2.1 < t
      · have hd1 : decide (y.2.2.1 < t) = true := decide_eq_true hexp
        have HK := Lib.hid (show keep t ms (k + 1) = keep t ms k by rw [keep, HG.out, if_pos hexp])
        obtain ⟨u2, hu2⟩ : ∃ u2, IntKind.i64.wrap (u + 1) = u2 := ⟨_, rfl⟩
        have HU := Lib.hid (show u2 = drp t ms d (k + 1) by rw [drp, HG.out, if_pos hexp, ← hu2, hu.out])
        go_upto_region 6 with fail
        clear ce0 ce1 ce2 ce3
        obtain ⟨bv, hbb⟩ : ∃ b, wr.heap.size = b := ⟨_, rfl⟩
        generalize hW : wr.alloc (.cells #[.int .i64 y.1, .int .i64 y.2.1, .int .i64 y.2.2.1, .slice A' n' c'] 28) = w2
        have LV := Lib.hid (show w.heap.size ≤ bv ∧ w.heap.size < bv ∧ w.heap.size + 1 < bv ∧ w.heap.size + 1 + 1 + 1 < bv ∧ hi ≤ bv ∧ wr.heap.size ≤ bv ∧ hi ≤ bv by have h1 := B1.out.size; have h2X := X1.out.lt; have h2Z := Z1.out.lt; have h2P := P1.out.lt; have h2Q := Q1.out.hi_; have h2O := O1.out.hi_; have h2D := D1.out.hi_; have h3 := hbb; omega)
        have V2 := Lib.hid (show Bx 28 w2 bv #[.int .i64 y.1, .int .i64 y.2.1, .int .i64 y.2.2.1, .slice A' n' c'] by rw [← hW, ← hbb]; exact Bx.made _ _ _)
        have hb : Below wr.heap.size wr w2 := by rw [← hW]; exact below_box _ _
        (try rw [hbb])
        clear hW hbb
        have SS2 := Lib.hid hb.size
        have B2 := Lib.hid (B1.out.trans (hb.mono B1.out.size))
        have X2 := Lib.hid (X1.out.below hb)
        have Z2 := Lib.hid (Z1.out.below hb)
        have P2 := Lib.hid (P1.out.below hb)
        have Q2 := Lib.hid (Q1.out.below hb)
        have O2 := Lib.hid (O1.out.below hb)
        have D2 := Lib.hid (D1.out.below hb)
        clear hb B1 X1 Z1 P1 Q1 O1 D1
        have cP1 : w2.cell? ⟨w.heap.size + 1 + 1 + 1, 1, none⟩ = some (.int .i64 u) := P2.out.cell 1
        have fP1 : w2.frozen? ⟨w.heap.size + 1 + 1 + 1, 1, none⟩ = false := P2.out.free 1
        go_wp2_with fail
        clear cP1 fP1
        have hWW : (w2.setCell ⟨w.heap.size + 1 + 1 + 1, 1, none⟩ (.int .i64 u2)) = (w2.setCell ⟨w.heap.size + 1 + 1 + 1, 1, none⟩ (.int .i64 u2)) := rfl
        obtain ⟨w3, hW⟩ : ∃ wy, (w2.setCell ⟨w.heap.size + 1 + 1 + 1, 1, none⟩ (.int .i64 u2)) = wy := ⟨_, rfl⟩
        rw [hW]
        clear hWW
        have B3 := Lib.hid (show Below w.heap.size w w3 by rw [← hW]; exact (B2.out.setCell (p := ⟨w.heap.size + 1 + 1 + 1, 1, none⟩) (by have hlV := LV.out; first | omega | (simp <;> omega)) _))
        have X3 := Lib.hid (show Bx 26 w3 (w.heap.size) #[.slice (some ⟨b, off, none⟩) n cap, .int .i64 d] by rw [← hW]; exact (X2.out.other (by have hlV := LV.out; first | omega | (simp <;> omega)) _ _))
        have Z3 := Lib.hid (show Bx 26 w3 (w.heap.size + 1) #[.slice none 0 0, .int .i64 0] by rw [← hW]; exact (Z2.out.other (by have hlV := LV.out; first | omega | (simp <;> omega)) _ _))
        have P3 := Lib.hid (show Bx 26 w3 (w.heap.size + 1 + 1 + 1) #[.slice A1 m c1, .int .i64 u2] by rw [← hW]; exact (P2.out.set 1 _))
        have V3 := Lib.hid (show Bx 28 w3 (bv) #[.int .i64 y.1, .int .i64 y.2.1, .int .i64 y.2.2.1, .slice A' n' c'] by rw [← hW]; exact (V2.out.other (by have hlV := LV.out; first | omega | (simp <;> omega)) _ _))
        have Q3 := Lib.hid (show Rq msg w3 lo hi (some ⟨b, off, none⟩) n cap ms by rw [← hW]; exact (Q2.out.same (by simp [World.setCell]) fun b h1 h2 => by rw [Below.heap_setCell _ _ _ _ (by have hlV := LV.out; have hs0 := LTX.out; have hs1 := LTZ.out; have hs2 := LTP.out; have hs3 := SS2.out; first | omega | (simp <;> omega))]))
        have O3 := Lib.hid (show Oe msg w3 (w.heap.size + 1 + 1) wr.heap.size A1 m c1 es by rw [← hW]; exact (rgp.oe_setCell O2.out P2.out (by decide) (by decide) 1 _))
        clear hW B2 X2 Z2 P2 V2 Q2 O2
        go_roundw
        case rel => exact ⟨k + 1, m, u2, A1, c1, es, by go_num, by omega, ⟨by rw [HK.out]; exact hm.out.1, by omega⟩, HU.out, by rw [HK.out]; exact he.out, B3.out, X3.out, Z3.out, P3.out, Q3.out, O3.out.up⟩
        case measure => simp [intOf]; omega
      · have hd1 : decide (y.2.2.1 < t) = false := decide_eq_false hexp
        have HK := Lib.hid (show keep t ms (k + 1) = keep t ms k ++ [y] by rw [keep, HG.out, if_neg hexp])
        have HU := Lib.hid (show u = drp t ms d (k + 1) by rw [drp, HG.out, if_neg hexp, hu.out])
        go_upto_region 7 with fail
        clear ce0 ce1 ce2 ce3
        obtain ⟨bv, hbb⟩ : ∃ b, wr.heap.size = b := ⟨_, rfl⟩
        generalize hW : wr.alloc (.cells #[.int .i64 y.1, .int .i64 y.2.1, .int .i64 y.2.2.1, .slice A' n' c'] 28) = w2
        have LV := Lib.hid (show w.heap.size ≤ bv ∧ w.heap.size < bv ∧ w.heap.size + 1 < bv ∧ w.heap.size + 1 + 1 + 1 < bv ∧ hi ≤ bv ∧ wr.heap.size ≤ bv ∧ hi ≤ bv by have h1 := B1.out.size; have h2X := X1.out.lt; have h2Z := Z1.out.lt; have h2P := P1.out.lt; have h2Q := Q1.out.hi_; have h2O := O1.out.hi_; have h2D := D1.out.hi_; have h3 := hbb; omega)
        have V2 := Lib.hid (show Bx 28 w2 bv #[.int .i64 y.1, .int .i64 y.2.1, .int .i64 y.2.2.1, .slice A' n' c'] by rw [← hW, ← hbb]; exact Bx.made _ _ _)
        have hb : Below wr.heap.size wr w2 := by rw [← hW]; exact below_box _ _
        (try rw [hbb])
        clear hW hbb
        have SS2 := Lib.hid hb.size
        have B2 := Lib.hid (B1.out.trans (hb.mono B1.out.size))
        have X2 := Lib.hid (X1.out.below hb)
        have Z2 := Lib.hid (Z1.out.below hb)
        have P2 := Lib.hid (P1.out.below hb)
        have Q2 := Lib.hid (Q1.out.below hb)
        have O2 := Lib.hid (O1.out.below hb)
        have D2 := Lib.hid (D1.out.below hb)
        clear hb B1 X1 Z1 P1 Q1 O1 D1
        refine rgp.region_tailE (rgp.EA 5 reg.Bel (rgp.Ap msg (w.heap.size + 1 + 1) wr.heap.size A1 m c1 es)) 7 36 [some [], some [(0, 27)], some [], some [(2, 29)], some [(3, 30)], some [(1, 28), (4, 31)], some [], none] [(0, 27), (1, 28), (2, 29), (3, 30), (4, 31), (5, 32), (6, 33)]
          (fun w' => Below w.heap.size w w' ∧ Bx 26 w' (w.heap.size) #[.slice (some ⟨b, off, none⟩) n cap, .int .i64 d] ∧ Bx 26 w' (w.heap.size + 1) #[.slice none 0 0, .int .i64 0] ∧ Bx 26 w' (w.heap.size + 1 + 1 + 1) #[.slice A1 m c1, .int .i64 u] ∧ Bx 28 w' (bv) #[.int .i64 y.1, .int .i64 y.2.1, .int .i64 y.2.2.1, .slice A' n' c'] ∧ Rq msg w' lo hi (some ⟨b, off, none⟩) n cap ms ∧ Oe msg w' (w.heap.size + 1 + 1) wr.heap.size A1 m c1 es ∧ Rd .u8 w' (lo) (hi) A' n' c' y.2.2.2 ∧ True)
          (rgp.RA 5 [rgp.is (.pointer (some ⟨w.heap.size + 1 + 1 + 1, 0, none⟩)), rgp.is (.slice A1 m c1), rgp.is (.agg #[.int .i64 y.1, .int .i64 y.2.1, .int .i64 y.2.2.1, .slice A' n' c']), rgp.elv msg (w.heap.size + 1 + 1) wr.heap.size A1 m c1 es y (fun A n c => mV y A n c), rgp.onev msg (w.heap.size + 1 + 1) wr.heap.size A1 m c1 es y (fun A n c => #[.int .i64 y.1, .int .i64 y.2.1, .int .i64 y.2.2.1, .slice A n c]), rgp.val fun _ => True, rgp.is (.pointer (some ⟨w.heap.size + 1 + 1 + 1, 0, none⟩))] (rgp.newv msg (w.heap.size + 1 + 1) m es y))
          (by kernel_rfl) rfl (by kernel_rfl) (by kernel_rfl) rfl
          (fun i w1 w2 hc he => rgp.ea_cases he (fun hb => (fun w1 w2 hc hb => ⟨hc.1.trans (hb.mono hc.1.size), hc.2.1.below hb, hc.2.2.1.below hb, hc.2.2.2.1.below hb, hc.2.2.2.2.1.below hb, hc.2.2.2.2.2.1.below hb, hc.2.2.2.2.2.2.1.below hb, hc.2.2.2.2.2.2.2.1.below hb, trivial⟩) w1 w2 hc hb) (fun h2 => ⟨below_grown hc.1 h2.2.1 (fun q hq => by have hlV := LV.out; have hs0 := LTX.out; have hs1 := LTZ.out; have hs2 := LTP.out; have hs3 := SS2.out; have := (h2.1.lo_ hq).1; omega) hc.1.size, grown_bx hc.2.1 h2.2.1 (rgp.ne_type hc.2.1 h2.1 (by decide)), grown_bx hc.2.2.1 h2.2.1 (rgp.ne_type hc.2.2.1 h2.1 (by decide)), grown_bx hc.2.2.2.1 h2.2.1 (rgp.ne_type hc.2.2.2.1 h2.1 (by decide)), grown_bx hc.2.2.2.2.1 h2.2.1 (fun e => by have hlV := LV.out; have hs0 := LTX.out; have hs1 := LTZ.out; have hs2 := LTP.out; have hs3 := SS2.out; have := h2.1.lo_ e.symm; omega), rq_grown hc.2.2.2.2.2.1 h2.1 h2.2.1 (by have hlV := LV.out; have hs0 := LTX.out; have hs1 := LTZ.out; have hs2 := LTP.out; have hs3 := SS2.out; first | omega | (simp <;> omega)), h2.2.2, rd_grown h2.1 h2.2.1 hc.2.2.2.2.2.2.2.1 (by have hlV := LV.out; have hs0 := LTX.out; have hs1 := LTZ.out; have hs2 := LTP.out; have hs3 := SS2.out; first | omega | (simp <;> omega)), trivial⟩))
          (rgp.ra_keep rgp.newv_keep) (⟨own.below_drew B2.out, X2.out.same rfl, Z2.out.same rfl, P2.out.same rfl, V2.out.same rfl, Q2.out.same (Nat.le_refl _) (fun _ _ _ => rfl), O2.out.same (Nat.le_refl _) (fun _ _ _ => rfl), own.rd_drew D2.out, trivial⟩) (by kernel_rfl) ⟨?_, ?_, ?_, ?_, ?_, ?_, ?_, trivial⟩ ?_
        · refine fun w8 hc  K hK => ?_
          (try simp only [Act.put, List.setIfInBounds_toArray, List.set_cons_zero, List.set_cons_succ])
          go_simp
          exact hK (.pointer (some ⟨w.heap.size + 1 + 1 + 1, 0, none⟩)) _ (rgp.ra1 rfl rfl) (rgp.ea1 rfl (Below.refl _ _))
        · refine fun w8 hc v0 h0 K hK => ?_
          have h0 := rgp.ra1_out rfl h0
          obtain rfl : v0 = .pointer (some ⟨w.heap.size + 1 + 1 + 1, 0, none⟩) := h0
          (try simp only [Act.put, List.setIfInBounds_toArray, List.set_cons_zero, List.set_cons_succ])
          go_simp
          have c0 : w8.cell? ⟨w.heap.size + 1 + 1 + 1, 0, none⟩ = some (.slice A1 m c1) := hc.2.2.2.1.cell 0
          go_simp
          exact hK (.slice A1 m c1) _ (rgp.ra1 rfl rfl) (rgp.ea1 rfl (Below.refl _ _))
        · refine fun w8 hc  K hK => ?_
          (try simp only [Act.put, List.setIfInBounds_toArray, List.set_cons_zero, List.set_cons_succ])
          rw [if_pos (by rfl)]
          refine stw.wp_load_bx 28 _ rfl (bv) rfl 28 _ hc.2.2.2.2.1 Try.underlying28 rfl szM ?_
          exact hK _ _ (rgp.ra1 rfl rfl) (rgp.ea1 rfl (Below.refl _ _))
        · refine fun w8 hc v2 h2 K hK => ?_
          have h2 := rgp.ra1_out rfl h2
          obtain rfl : v2 = .agg #[.int .i64 y.1, .int .i64 y.2.1, .int .i64 y.2.2.1, .slice A' n' c'] := h2
          (try simp only [Act.put, List.setIfInBounds_toArray, List.set_cons_zero, List.set_cons_succ])
          go_simp
          (with_reducible refine (implCm y A' n' c' _ _ _ hc.2.2.2.2.2.2.2.1 HLN.out).mono ?_)
          rintro e w3 hp
          obtain ⟨A2, n2, c2, rfl, ho2, hb⟩ := x_parts hp
          exact hK _ _ (rgp.ra1 rfl ⟨A2, n2, c2, _, _, rfl, by have hA := hc.2.2.2.2.2.2.1.hi_; omega, by have hlV := LV.out; have hs0 := LTX.out; have hs1 := LTZ.out; have hs2 := LTP.out; have hs3 := SS2.out; have hA := hc.2.2.2.2.2.2.1.hi_; omega, ho2⟩) (rgp.ea1 rfl hb)
        · refine fun w8 hc v3 h3 K hK => ?_
          have h3 := rgp.ra1_out rfl h3
          obtain ⟨A2, n2, c2, lo2, hi2, rfl, hq1, hq2, hO2⟩ := h3
          (try simp only [Act.put, List.setIfInBounds_toArray, List.set_cons_zero, List.set_cons_succ])
          go_simp
          exact hK (.slice (some ⟨w8.heap.size, 0, none⟩) 1 1) _ (rgp.ra1 rfl ⟨w8.heap.size, A2, n2, c2, lo2, hi2, rfl, hc.2.2.2.2.2.2.1.hi_, Bx.made _ _ _, hq1, hq2, hO2.below (below_box _ _)⟩) (rgp.ea1 rfl (below_box _ _))
        · refine fun w8 hc v1 h1 v4 h4 K hK => ?_
          have h1 := rgp.ra1_out rfl h1
          obtain rfl : v1 = .slice A1 m c1 := h1
          have h4 := rgp.ra1_out rfl h4
          obtain ⟨q1, A1_, n1_, c1_, lo1_, hi1_, rfl, hqq, hX1, hq3, hq4, hO1⟩ := h4
          (try simp only [Act.put, List.setIfInBounds_toArray, List.set_cons_zero, List.set_cons_succ])
          rw [if_pos (by rfl)]
          (refine rgp.wp_push _ _ 24 rfl Try.underlying24 HZ.out.1 HZ.out.2.1 HZ.out.2.2.1 (by rw [HZ.out.2.2.2]; omega) rfl rfl rfl hc.2.2.2.2.2.2.1 y hX1 hO1 hq3 hq4 (by omega) (by have hA := hc.2.2.2.2.2.2.1.hi_; have hlV := LV.out; have hs0 := LTX.out; have hs1 := LTZ.out; have hs2 := LTP.out; have hs3 := SS2.out; omega) ?_)
          intro A4 c4 w4 hn4 hp4
          exact hK _ _ (rgp.ra2 hn4) (rgp.ea2 hp4)
        · refine fun w8 hc  K hK => ?_
          (try simp only [Act.put, List.setIfInBounds_toArray, List.set_cons_zero, List.set_cons_succ])
          go_simp
          exact hK (.pointer (some ⟨w.heap.size + 1 + 1 + 1, 0, none⟩)) _ (rgp.ra1 rfl rfl) (rgp.ea1 rfl (Below.refl _ _))
        refine fun w9 hc v0 h0 v1 h1 v2 h2 v3 h3 v4 h4 v5 h5 v6 h6 => ?_
        have h0 := rgp.ra1_out rfl h0
        obtain rfl : v0 = .pointer (some ⟨w.heap.size + 1 + 1 + 1, 0, none⟩) := h0
        have h1 := rgp.ra1_out rfl h1
        obtain rfl : v1 = .slice A1 m c1 := h1
        have h2 := rgp.ra1_out rfl h2
        obtain rfl : v2 = .agg #[.int .i64 y.1, .int .i64 y.2.1, .int .i64 y.2.2.1, .slice A' n' c'] := h2
        have h3 := rgp.ra1_out rfl h3
        obtain ⟨A2, n2, c2, lo2, hi2, rfl, hq1, hq2, hO2⟩ := h3
        have h4 := rgp.ra1_out rfl h4
        obtain ⟨q1, A1_, n1_, c1_, lo1_, hi1_, rfl, hqq, hX1, hq3, hq4, hO1⟩ := h4
        have h5 := rgp.ra2_out h5
        obtain ⟨A3, c3, f3, hi3, rfl, hfx, hO3⟩ := h5
        have h6 := rgp.ra1_out rfl h6
        obtain rfl : v6 = .pointer (some ⟨w.heap.size + 1 + 1 + 1, 0, none⟩) := h6
        (try simp only [reg.Obs])
        (try simp only [Act.put, List.setIfInBounds_toArray, List.set_cons_zero, List.set_cons_succ])
        simp only [List.drop_succ_cons, List.drop_zero]
        have B3 := Lib.hid hc.1
        have X3 := Lib.hid hc.2.1
        have Z3 := Lib.hid hc.2.2.1
        have P3 := Lib.hid hc.2.2.2.1
        have V3 := Lib.hid hc.2.2.2.2.1
        have Q3 := Lib.hid hc.2.2.2.2.2.1
        have D3 := Lib.hid hc.2.2.2.2.2.2.2.1
        have O3 := Lib.hid hO3.up
        clear hO3 hc B2 X2 Z2 P2 V2 Q2 O2 D2
        have fP0 : w9.frozen? ⟨w.heap.size + 1 + 1 + 1, 0, none⟩ = false := P3.out.free 0
        have cP0 : w9.cell? ⟨w.heap.size + 1 + 1 + 1, 0, none⟩ = some (.slice A1 m c1) := P3.out.cell 0
        go_wp2_with fail
        clear fP0 cP0
        have hWW : (w9.setCell ⟨w.heap.size + 1 + 1 + 1, 0, none⟩ (.slice A3 (m + 1) c3)) = (w9.setCell ⟨w.heap.size + 1 + 1 + 1, 0, none⟩ (.slice A3 (m + 1) c3)) := rfl
        obtain ⟨w4, hW⟩ : ∃ wy, (w9.setCell ⟨w.heap.size + 1 + 1 + 1, 0, none⟩ (.slice A3 (m + 1) c3)) = wy := ⟨_, rfl⟩
        rw [hW]
        clear hWW
        have B4 := Lib.hid (show Below w.heap.size w w4 by rw [← hW]; exact (B3.out.setCell (p := ⟨w.heap.size + 1 + 1 + 1, 0, none⟩) (by have hlV := LV.out; first | omega | (simp <;> omega)) _))
        have X4 := Lib.hid (show Bx 26 w4 (w.heap.size) #[.slice (some ⟨b, off, none⟩) n cap, .int .i64 d] by rw [← hW]; exact (X3.out.other (by have hlV := LV.out; first | omega | (simp <;> omega)) _ _))
        have Z4 := Lib.hid (show Bx 26 w4 (w.heap.size + 1) #[.slice none 0 0, .int .i64 0] by rw [← hW]; exact (Z3.out.other (by have hlV := LV.out; first | omega | (simp <;> omega)) _ _))
        have P4 := Lib.hid (show Bx 26 w4 (w.heap.size + 1 + 1 + 1) #[.slice A3 (m + 1) c3, .int .i64 u] by rw [← hW]; exact (P3.out.set 0 _))
        have V4 := Lib.hid (show Bx 28 w4 (bv) #[.int .i64 y.1, .int .i64 y.2.1, .int .i64 y.2.2.1, .slice A' n' c'] by rw [← hW]; exact (V3.out.other (by have hlV := LV.out; first | omega | (simp <;> omega)) _ _))
        have Q4 := Lib.hid (show Rq msg w4 lo hi (some ⟨b, off, none⟩) n cap ms by rw [← hW]; exact (Q3.out.same (by simp [World.setCell]) fun b h1 h2 => by rw [Below.heap_setCell _ _ _ _ (by have hlV := LV.out; have hs0 := LTX.out; have hs1 := LTZ.out; have hs2 := LTP.out; have hs3 := SS2.out; first | omega | (simp <;> omega))]))
        have O4 := Lib.hid (show Oe msg w4 (w.heap.size + 1 + 1) w9.heap.size A3 (m + 1) c3 (es ++ [f3]) by rw [← hW]; exact (rgp.oe_setCell O3.out P3.out (by decide) (by decide) 0 _))
        have D4 := Lib.hid (show Rd .u8 w4 (lo) (hi) A' n' c' y.2.2.2 by rw [← hW]; exact (D3.out.same (by simp [World.setCell]) fun b h1 h2 => by rw [Below.heap_setCell _ _ _ _ (by have hlV := LV.out; have hs0 := LTX.out; have hs1 := LTZ.out; have hs2 := LTP.out; have hs3 := SS2.out; first | omega | (simp <;> omega))]))
        clear hW B3 X3 Z3 P3 V3 Q3 O3 D3
        go_roundw
        case rel => exact ⟨k + 1, m + 1, u, A3, c3, _, by go_num, by omega, ⟨by rw [HK.out, List.length_append, ← hm.out.1]; rfl, by omega⟩, HU.out, by rw [List.map_append, he.out, HK.out, List.map_cons, hfx]; rfl, B4.out, X4.out, Z4.out, P4.out, Q4.out, O4.out.up⟩
        case measure => simp [intOf]; omega
    · have hlt2 : ¬ (k : Int) < n := by omega
      obtain rfl : n = k := by omega
      skip
      have cP0 : wr.cell? ⟨w.heap.size + 1 + 1 + 1, 0, none⟩ = some (.slice A1 m c1) := P1.out.cell 0
      have cP1 : wr.cell? ⟨w.heap.size + 1 + 1 + 1, 1, none⟩ = some (.int .i64 u) := P1.out.cell 1
      have cZ0 : wr.cell? ⟨w.heap.size + 1, 0, none⟩ = some (.slice none 0 0) := Z1.out.cell 0
      have cZ1 : wr.cell? ⟨w.heap.size + 1, 1, none⟩ = some (.int .i64 0) := Z1.out.cell 1
      have fZ0 : wr.frozen? ⟨w.heap.size + 1, 0, none⟩ = false := Z1.out.free 0
      have fZ1 : wr.frozen? ⟨w.heap.size + 1, 1, none⟩ = false := Z1.out.free 1
      go_wp2_with fail
      (try simp only [Exit.inBlock, Exit.then])
      refine bodyPost_ret (v := .agg #[.slice A1 m c1, .int .i64 u]) ?_ rfl ?_
      · rw [results_cell1 rfl]
        go_simp
      · refine ⟨_, _, _, by rw [← hu.out], ⟨es, he.out, ?_⟩, ?_⟩
        · exact ((O1.out).same (by simp [World.setCell]) (fun b h1 _ => by rw [Below.heap_setCell _ _ _ _ (show b ≠ w.heap.size + 1 by omega), Below.heap_setCell _ _ _ _ (show b ≠ w.heap.size + 1 by omega)])).up.down (by omega)
        · exact ((B1.out.setCell (p := ⟨w.heap.size + 1, 0, none⟩) (by show w.heap.size ≤ w.heap.size + 1; omega) _).setCell (p := ⟨w.heap.size + 1, 1, none⟩) (by show w.heap.size ≤ w.heap.size + 1; omega) _)
end Go.Proofs.Ytjmenbpalihnnaa.mq
