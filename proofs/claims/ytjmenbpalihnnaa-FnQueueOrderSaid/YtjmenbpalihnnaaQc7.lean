/- withoutMessage and EnqueueMessage of the program. Condition: sizes up to 2^26. -/
import Derived.Test.YtjmenbpalihnnaaQc6
import Derived.Test.YtjmenbpalihnnaaRgf
namespace Go.Proofs.Ytjmenbpalihnnaa.mq
open Go.RowKit sl harn bx mrw
set_option linter.unusedVariables false
set_option linter.unusedSimpArgs false

theorem oe_some {α : Type} {S : Sh α} {w : World} {lo hi n cap : Nat} {A : Option Addr} {es : List (El α)} (h : Oe S w lo hi A n cap es) (hn : 0 < n) : ∃ g, A = some ⟨g, 0, none⟩ := by
  rcases h.form with ⟨_, h0, _⟩ | ⟨g, cur, e, _⟩
  · omega
  · exact ⟨g, e⟩
theorem grown_set {w w' : World} {r : Option Nat} (h : w.grownBy w' r) {b : Nat} (hb : w.heap.size ≤ b) (i : Nat) (v : Value) : w.grownBy (w'.setCell ⟨b, i, none⟩ v) r :=
  ⟨h.os, h.tape, h.output, by simpa [World.setCell] using h.size, fun k hk hne => by rw [Below.heap_setCell _ _ _ _ (show k ≠ b by omega)]; exact h.block k hk hne⟩
set_option maxRecDepth 100000 in
set_option maxHeartbeats 4000000 in
theorem withoutM (es : List (El Msg)) (d : Int) (g n cap lo hi i : Nat) (hin : i < n) (hn : n ≤ 67108864) (w : World) (h : Oe msg w lo hi (some ⟨g, 0, none⟩) n cap es) :
    Calls Try.prog 65 #[qV (some ⟨g, 0, none⟩) n cap d, .int .i64 (i : Int)] w (fun e w' => e = .returned (qV (some ⟨g, 0, none⟩) (n - 1) cap d) ∧ Oe msg w' lo hi (some ⟨g, 0, none⟩) (n - 1) cap (es.eraseIdx i) ∧ w.grownBy w' (some g)) := by
  obtain ⟨w0, hW⟩ : ∃ w0, (w.alloc (.cells #[.slice (some ⟨g, 0, none⟩) n cap, .int .i64 d] 26)).alloc (.cells #[.slice none 0 0, .int .i64 0] 26) = w0 := ⟨_, rfl⟩
  have B0 := Lib.hid (show Below w.heap.size w w0 by rw [← hW]; exact below_box2 w _ _)
  have X0 := Lib.hid (show Bx 26 w0 w.heap.size #[.slice (some ⟨g, 0, none⟩) n cap, .int .i64 d] by rw [← hW]; exact (Bx.made _ w _).below (below_box _ _))
  have Z0 := Lib.hid (show Bx 26 w0 (w.heap.size + 1) #[.slice none 0 0, .int .i64 0] by rw [← hW]; have hh := Bx.made 26 (w.alloc (.cells #[.slice (some ⟨g, 0, none⟩) n cap, .int .i64 d] 26)) #[.slice none 0 0, .int .i64 0]; simpa using hh)
  have O0 := Lib.hid (h.below B0.out)
  have HH := Lib.hid h.hi_
  have hcp : n ≤ cap ∧ cap ≤ 9223372036854775807 := h.rq.cap_
  have HW := Lib.hid hW
  obtain ⟨j, hj⟩ : ∃ j, i + 1 = j := ⟨_, rfl⟩
  have HJ := Lib.hid hj
  have m0 : (i : Int) + 1 = (j : Int) := by omega
  have m1 : IntKind.i64.wrap (j : Int) = (j : Int) := IntWalk.i64_in _ (by omega)
  have HIN := Lib.hid hin
  have HN := Lib.hid hn
  clear h hW hj hin hn
  go_enter Try.func65, Try.ntmps65
  go_wp2_with fail
  rw [HW.out]
  (with_reducible refine (delM es g n cap lo hi i j HJ.out HIN.out HN.out _ O0.out).mono ?_)
  rintro e w1 ⟨rfl, ho, hg⟩
  have hgl : g < hi := O0.out.lt g 0 rfl
  have O1 := Lib.hid ho
  have X1 := Lib.hid (grown_bx X0.out hg (fun e => by have := HH.out; have e2 := Option.some.inj e; omega))
  have Z1 := Lib.hid (grown_bx Z0.out hg (fun e => by have := HH.out; have e2 := Option.some.inj e; omega))
  have G1 := Lib.hid (grown_trans (grown_below B0.out _) hg)
  clear ho hg O0 X0 Z0 B0 HW m0 m1
  have x0 : w1.cell? ⟨w.heap.size, 0, none⟩ = some (.slice (some ⟨g, 0, none⟩) n cap) := X1.out.cell 0
  have x1 : w1.cell? ⟨w.heap.size, 1, none⟩ = some (.int .i64 d) := X1.out.cell 1
  have fx0 : w1.frozen? ⟨w.heap.size, 0, none⟩ = false := X1.out.free 0
  have z0 : w1.cell? ⟨w.heap.size + 1, 0, none⟩ = some (.slice none 0 0) := Z1.out.cell 0
  have z1 : w1.cell? ⟨w.heap.size + 1, 1, none⟩ = some (.int .i64 0) := Z1.out.cell 1
  have fz0 : w1.frozen? ⟨w.heap.size + 1, 0, none⟩ = false := Z1.out.free 0
  have fz1 : w1.frozen? ⟨w.heap.size + 1, 1, none⟩ = false := Z1.out.free 1
  go_wp2_with fail
  (try simp only [Exit.inBlock, Exit.then])
  refine bodyPost_ret (v := qV (some ⟨g, 0, none⟩) (n - 1) cap d) ?_ rfl ⟨rfl, ?_, ?_⟩
  · rw [results_cell1 rfl]
    go_simp
  · exact O1.out.same (by simp [World.setCell]) (fun b h1 h2 => by have := HH.out; rw [Below.heap_setCell _ _ _ _ (show b ≠ w.heap.size + 1 by omega), Below.heap_setCell _ _ _ _ (show b ≠ w.heap.size + 1 by omega), Below.heap_setCell _ _ _ _ (show b ≠ w.heap.size by omega)])
  · exact grown_set (grown_set (grown_set G1.out (Nat.le_refl _) _ _) (Nat.le_succ _) _ _) (Nat.le_succ _) _ _
theorem map_erase {α β : Type} (f : α → β) : ∀ (l : List α) (i : Nat), (l.eraseIdx i).map f = (l.map f).eraseIdx i
  | [], _ => rfl
  | _ :: _, 0 => rfl
  | a :: l, i + 1 => by simp [map_erase f l i]
set_option maxRecDepth 100000 in
set_option maxHeartbeats 4000000 in
theorem implEn (x : Msg) (Am : Option Addr) (nm cm lo2 hi2 : Nat) (ms : List Msg) (d : Int) (A : Option Addr) (n cap lo hi : Nat) (hn : n ≤ 67108864) (hbd : ∀ y ∈ ms, y.2.2.2.length ≤ 67108864) (w : World) (h : Rq msg w lo hi A n cap ms) (hx : Rd .u8 w lo2 hi2 Am nm cm x.2.2.2) (hxn : nm ≤ 67108864) :
    Calls Try.prog 14 #[qV A n cap d, mV x Am nm cm] w (QPost (enq ms d x) w) := by
  obtain ⟨i0, hi0, hz0, hz1, hz2⟩ := info_parts infoM
  have HZ := Lib.hid (And.intro hi0 (And.intro hz0 (And.intro hz1 hz2)))
  clear hi0 hz0 hz1 hz2
  have QW := Lib.hid h
  have hqh := h.hi_
  have hqc := h.cap_
  have HBD := Lib.hid hbd
  clear h hbd
  have RW := Lib.hid hx
  have hrh := hx.hi_
  have HXN := Lib.hid hxn
  have HN := Lib.hid hn
  have HLN0 := Lib.hid QW.out.len
  obtain ⟨v0, h0⟩ : ∃ v, vq ms d = v := ⟨_, rfl⟩
  obtain ⟨v1, h1⟩ : ∃ v, vm x = v := ⟨_, rfl⟩
  have HQV := Lib.hid h0
  have HMV := Lib.hid h1
  clear hx hxn hn h0 h1
  go_enter Try.func14, Try.ntmps14
  go_wp2_with fail
  obtain ⟨w0, hW⟩ : ∃ w0, ((w.alloc (.cells #[.slice A n cap, .int .i64 d] 26)).alloc (.cells #[.int .i64 x.1, .int .i64 x.2.1, .int .i64 x.2.2.1, .slice Am nm cm] 28)).alloc (.cells #[.slice none 0 0, .int .i64 0] 26) = w0 := ⟨_, rfl⟩
  rw [hW]
  have B0 := Lib.hid (show Below w.heap.size w w0 by rw [← hW]; exact (((Below.refl _ _).alloc (by simp <;> omega) _).alloc (by simp <;> omega) _).alloc (by simp <;> omega) _)
  have X0 := Lib.hid (show Bx 26 w0 (w.heap.size) #[.slice A n cap, .int .i64 d] by
      rw [← hW]
      have hh := Bx.made 26 w #[.slice A n cap, .int .i64 d]
      exact ((hh.below (below_box _ _)).below (below_box _ _)))
  have M0 := Lib.hid (show Bx 28 w0 (w.heap.size + 1) #[.int .i64 x.1, .int .i64 x.2.1, .int .i64 x.2.2.1, .slice Am nm cm] by
      rw [← hW]
      have hh : Bx 28 ((w.alloc (.cells #[.slice A n cap, .int .i64 d] 26)).alloc (.cells #[.int .i64 x.1, .int .i64 x.2.1, .int .i64 x.2.2.1, .slice Am nm cm] 28)) (w.heap.size + 1) #[.int .i64 x.1, .int .i64 x.2.1, .int .i64 x.2.2.1, .slice Am nm cm] := by have hh := Bx.made 28 (w.alloc (.cells #[.slice A n cap, .int .i64 d] 26)) #[.int .i64 x.1, .int .i64 x.2.1, .int .i64 x.2.2.1, .slice Am nm cm]; simpa using hh
      exact (hh.below (below_box _ _)))
  have Z0 := Lib.hid (show Bx 26 w0 (w.heap.size + 1 + 1) #[.slice none 0 0, .int .i64 0] by
      rw [← hW]
      have hh : Bx 26 (((w.alloc (.cells #[.slice A n cap, .int .i64 d] 26)).alloc (.cells #[.int .i64 x.1, .int .i64 x.2.1, .int .i64 x.2.2.1, .slice Am nm cm] 28)).alloc (.cells #[.slice none 0 0, .int .i64 0] 26)) (w.heap.size + 1 + 1) #[.slice none 0 0, .int .i64 0] := by have hh := Bx.made 26 ((w.alloc (.cells #[.slice A n cap, .int .i64 d] 26)).alloc (.cells #[.int .i64 x.1, .int .i64 x.2.1, .int .i64 x.2.2.1, .slice Am nm cm] 28)) #[.slice none 0 0, .int .i64 0]; simpa using hh
      exact hh)
  have Q0 := Lib.hid (show Rq msg w0 lo hi A n cap ms by rw [← hW]; exact (((QW.out.below (below_box _ _)).below (below_box _ _)).below (below_box _ _)))
  have R0 := Lib.hid (show Rd .u8 w0 (lo2) (hi2) Am nm cm x.2.2.2 by rw [← hW]; exact (((RW.out.below (below_box _ _)).below (below_box _ _)).below (below_box _ _)))
  clear hW
  have LTX := Lib.hid X0.out.lt
  have LTM := Lib.hid M0.out.lt
  have LTZ := Lib.hid Z0.out.lt
  (with_reducible refine (implCq ms d A n cap lo hi HN.out HBD.out _ Q0.out).mono ?_)
  rintro e w1 hp
  obtain ⟨A1, n1, c1, es, rfl, gHES, ho, hb⟩ := q_parts hp
  clear hp
  obtain rfl : n = n1 := by have h1 := ho.len; have h2 := congrArg List.length gHES; have h3 := Q0.out.len; simp at h2; omega
  have HES := Lib.hid gHES
  clear gHES
  have SS1 := Lib.hid hb.size
  have B1 := Lib.hid (B0.out.trans (hb.mono B0.out.size))
  have X1 := Lib.hid (X0.out.below hb)
  have M1 := Lib.hid (M0.out.below hb)
  have Z1 := Lib.hid (Z0.out.below hb)
  have Q1 := Lib.hid (Q0.out.below hb)
  have R1 := Lib.hid (R0.out.below hb)
  clear hb B0 X0 M0 Z0 Q0 R0
  have O1 := Lib.hid ho
  clear ho
  go_upto_region 2 with fail
  obtain ⟨bp, hbb⟩ : ∃ b, w1.heap.size = b := ⟨_, rfl⟩
  generalize hW : w1.alloc (.cells #[.slice A1 n c1, .int .i64 d] 26) = w2
  have LP := Lib.hid (show w.heap.size ≤ bp ∧ w.heap.size < bp ∧ w.heap.size + 1 < bp ∧ w.heap.size + 1 + 1 < bp ∧ hi ≤ bp ∧ hi2 ≤ bp ∧ w1.heap.size ≤ bp by have h1 := B1.out.size; have h2X := X1.out.lt; have h2M := M1.out.lt; have h2Z := Z1.out.lt; have h2Q := Q1.out.hi_; have h2R := R1.out.hi_; have h2O := O1.out.hi_; have h3 := hbb; omega)
  have P2 := Lib.hid (show Bx 26 w2 bp #[.slice A1 n c1, .int .i64 d] by rw [← hW, ← hbb]; exact Bx.made _ _ _)
  have hb : Below w1.heap.size w1 w2 := by rw [← hW]; exact below_box _ _
  (try rw [hbb])
  clear hW hbb
  have SS2 := Lib.hid hb.size
  have B2 := Lib.hid (B1.out.trans (hb.mono B1.out.size))
  have X2 := Lib.hid (X1.out.below hb)
  have M2 := Lib.hid (M1.out.below hb)
  have Z2 := Lib.hid (Z1.out.below hb)
  have Q2 := Lib.hid (Q1.out.below hb)
  have R2 := Lib.hid (R1.out.below hb)
  have O2 := Lib.hid (O1.out.below hb)
  clear hb B1 X1 M1 Z1 Q1 R1 O1
  have cX0 : w2.cell? ⟨w.heap.size, 0, none⟩ = some (.slice A n cap) := X2.out.cell 0
  have cX1 : w2.cell? ⟨w.heap.size, 1, none⟩ = some (.int .i64 d) := X2.out.cell 1
  go_wp2_with fail
  clear cX0 cX1
  (with_reducible refine (implVq ms d A n cap _ _ _ Q2.out).mono ?_)
  rintro e w3 hp
  obtain ⟨rfl, hb⟩ := b_parts HQV.out hp
  clear hp
  have SS3 := Lib.hid hb.size
  have B3 := Lib.hid (B2.out.trans (hb.mono B2.out.size))
  have X3 := Lib.hid (X2.out.below hb)
  have M3 := Lib.hid (M2.out.below hb)
  have Z3 := Lib.hid (Z2.out.below hb)
  have P3 := Lib.hid (P2.out.below hb)
  have Q3 := Lib.hid (Q2.out.below hb)
  have R3 := Lib.hid (R2.out.below hb)
  have O3 := Lib.hid (O2.out.below hb)
  clear hb  B2 X2 M2 Z2 P2 Q2 R2 O2
  cases v0 with
  | true =>
    have cM0 : w3.cell? ⟨w.heap.size + 1, 0, none⟩ = some (.int .i64 x.1) := M3.out.cell 0
    have cM1 : w3.cell? ⟨w.heap.size + 1, 1, none⟩ = some (.int .i64 x.2.1) := M3.out.cell 1
    have cM2 : w3.cell? ⟨w.heap.size + 1, 2, none⟩ = some (.int .i64 x.2.2.1) := M3.out.cell 2
    have cM3 : w3.cell? ⟨w.heap.size + 1, 3, none⟩ = some (.slice Am nm cm) := M3.out.cell 3
    go_wp2_with fail
    clear cM0 cM1 cM2 cM3
    (with_reducible refine (implVm x Am nm cm R3.out.len _).mono ?_)
    rintro e w4 hp
    obtain ⟨rfl, hb⟩ := b_parts HMV.out hp
    clear hp
    have SS4 := Lib.hid hb.size
    have B4 := Lib.hid (B3.out.trans (hb.mono B3.out.size))
    have X4 := Lib.hid (X3.out.below hb)
    have M4 := Lib.hid (M3.out.below hb)
    have Z4 := Lib.hid (Z3.out.below hb)
    have P4 := Lib.hid (P3.out.below hb)
    have Q4 := Lib.hid (Q3.out.below hb)
    have R4 := Lib.hid (R3.out.below hb)
    have O4 := Lib.hid (O3.out.below hb)
    clear hb  B3 X3 M3 Z3 P3 Q3 R3 O3
    cases v1 with
    | true =>
      have hn12 : n ≤ 12 := by have h := HQV.out; unfold vq at h; rw [HLN0.out] at h; simp at h; omega
      go_upto_region 4 with fail
      refine rgp.region_tailE (rgp.EA 5 reg.Bel (rgp.Ap msg w0.heap.size w1.heap.size A1 n c1 es)) 7 40 [some [], some [(0, 17)], some [], some [(2, 19)], some [(3, 20)], some [(1, 18), (4, 21)], some [], none] [(0, 17), (1, 18), (2, 19), (3, 20), (4, 21), (5, 22), (6, 23)]
        (fun w' => Below w.heap.size w w' ∧ Bx 26 w' (w.heap.size) #[.slice A n cap, .int .i64 d] ∧ Bx 28 w' (w.heap.size + 1) #[.int .i64 x.1, .int .i64 x.2.1, .int .i64 x.2.2.1, .slice Am nm cm] ∧ Bx 26 w' (w.heap.size + 1 + 1) #[.slice none 0 0, .int .i64 0] ∧ Bx 26 w' (bp) #[.slice A1 n c1, .int .i64 d] ∧ Rq msg w' lo hi A n cap ms ∧ Rd .u8 w' (lo2) (hi2) Am nm cm x.2.2.2 ∧ Oe msg w' w0.heap.size w1.heap.size A1 n c1 es ∧ True)
        (rgp.RA 5 [rgp.is (.pointer (some ⟨bp, 0, none⟩)), rgp.is (.slice A1 n c1), rgp.is (.agg #[.int .i64 x.1, .int .i64 x.2.1, .int .i64 x.2.2.1, .slice Am nm cm]), rgp.elv msg w0.heap.size w1.heap.size A1 n c1 es x (fun A n c => mV x A n c), rgp.onev msg w0.heap.size w1.heap.size A1 n c1 es x (fun A n c => #[.int .i64 x.1, .int .i64 x.2.1, .int .i64 x.2.2.1, .slice A n c]), rgp.val fun _ => True, rgp.is (.pointer (some ⟨bp, 0, none⟩))] (rgp.newv msg w0.heap.size n es x))
        (by kernel_rfl) rfl (by kernel_rfl) (by kernel_rfl) rfl
        (fun i w1 w2 hc he => rgp.ea_cases he (fun hb => (fun w1 w2 hc hb => ⟨hc.1.trans (hb.mono hc.1.size), hc.2.1.below hb, hc.2.2.1.below hb, hc.2.2.2.1.below hb, hc.2.2.2.2.1.below hb, hc.2.2.2.2.2.1.below hb, hc.2.2.2.2.2.2.1.below hb, hc.2.2.2.2.2.2.2.1.below hb, trivial⟩) w1 w2 hc hb) (fun h2 => ⟨below_grown hc.1 h2.2.1 (fun q hq => by have hlP := LP.out; have hs0 := LTX.out; have hs1 := LTM.out; have hs2 := LTZ.out; have hs3 := SS1.out; have hs4 := SS2.out; have hs5 := SS3.out; have hs6 := SS4.out; have := (h2.1.lo_ hq).1; omega) hc.1.size, grown_bx hc.2.1 h2.2.1 (rgp.ne_type hc.2.1 h2.1 (by decide)), grown_bx hc.2.2.1 h2.2.1 (fun e => by have hlP := LP.out; have hs0 := LTX.out; have hs1 := LTM.out; have hs2 := LTZ.out; have hs3 := SS1.out; have hs4 := SS2.out; have hs5 := SS3.out; have hs6 := SS4.out; have := h2.1.lo_ e.symm; omega), grown_bx hc.2.2.2.1 h2.2.1 (rgp.ne_type hc.2.2.2.1 h2.1 (by decide)), grown_bx hc.2.2.2.2.1 h2.2.1 (rgp.ne_type hc.2.2.2.2.1 h2.1 (by decide)), rq_grown hc.2.2.2.2.2.1 h2.1 h2.2.1 (by have hlP := LP.out; have hs0 := LTX.out; have hs1 := LTM.out; have hs2 := LTZ.out; have hs3 := SS1.out; have hs4 := SS2.out; have hs5 := SS3.out; have hs6 := SS4.out; first | omega | (simp <;> omega)), rd_grown h2.1 h2.2.1 hc.2.2.2.2.2.2.1 (by have hlP := LP.out; have hs0 := LTX.out; have hs1 := LTM.out; have hs2 := LTZ.out; have hs3 := SS1.out; have hs4 := SS2.out; have hs5 := SS3.out; have hs6 := SS4.out; first | omega | (simp <;> omega)), h2.2.2, trivial⟩))
        (rgp.ra_keep rgp.newv_keep) (⟨own.below_drew B4.out, X4.out.same rfl, M4.out.same rfl, Z4.out.same rfl, P4.out.same rfl, Q4.out.same (Nat.le_refl _) (fun _ _ _ => rfl), own.rd_drew R4.out, O4.out.same (Nat.le_refl _) (fun _ _ _ => rfl), trivial⟩) (by kernel_rfl) ⟨?_, ?_, ?_, ?_, ?_, ?_, ?_, trivial⟩ ?_
      · refine fun w8 hc  K hK => ?_
        (try simp only [Act.put, List.setIfInBounds_toArray, List.set_cons_zero, List.set_cons_succ])
        go_simp
        exact hK (.pointer (some ⟨bp, 0, none⟩)) _ (rgp.ra1 rfl rfl) (rgp.ea1 rfl (Below.refl _ _))
      · refine fun w8 hc v0 h0 K hK => ?_
        have h0 := rgp.ra1_out rfl h0
        obtain rfl : v0 = .pointer (some ⟨bp, 0, none⟩) := h0
        (try simp only [Act.put, List.setIfInBounds_toArray, List.set_cons_zero, List.set_cons_succ])
        go_simp
        have c0 : w8.cell? ⟨bp, 0, none⟩ = some (.slice A1 n c1) := hc.2.2.2.2.1.cell 0
        go_simp
        exact hK (.slice A1 n c1) _ (rgp.ra1 rfl rfl) (rgp.ea1 rfl (Below.refl _ _))
      · refine fun w8 hc  K hK => ?_
        (try simp only [Act.put, List.setIfInBounds_toArray, List.set_cons_zero, List.set_cons_succ])
        rw [if_pos (by rfl)]
        refine stw.wp_load_bx 28 _ rfl (w.heap.size + 1) rfl 28 _ hc.2.2.1 Try.underlying28 rfl szM ?_
        exact hK _ _ (rgp.ra1 rfl rfl) (rgp.ea1 rfl (Below.refl _ _))
      · refine fun w8 hc v2 h2 K hK => ?_
        have h2 := rgp.ra1_out rfl h2
        obtain rfl : v2 = .agg #[.int .i64 x.1, .int .i64 x.2.1, .int .i64 x.2.2.1, .slice Am nm cm] := h2
        (try simp only [Act.put, List.setIfInBounds_toArray, List.set_cons_zero, List.set_cons_succ])
        go_simp
        (with_reducible refine (implCm x Am nm cm _ _ _ hc.2.2.2.2.2.2.1 HXN.out).mono ?_)
        rintro e w3 hp
        obtain ⟨A2, n2, c2, rfl, ho2, hb⟩ := x_parts hp
        exact hK _ _ (rgp.ra1 rfl ⟨A2, n2, c2, _, _, rfl, by have hA := hc.2.2.2.2.2.2.2.1.hi_; omega, by have hlP := LP.out; have hs0 := LTX.out; have hs1 := LTM.out; have hs2 := LTZ.out; have hs3 := SS1.out; have hs4 := SS2.out; have hs5 := SS3.out; have hs6 := SS4.out; have hA := hc.2.2.2.2.2.2.2.1.hi_; omega, ho2⟩) (rgp.ea1 rfl hb)
      · refine fun w8 hc v3 h3 K hK => ?_
        have h3 := rgp.ra1_out rfl h3
        obtain ⟨A2, n2, c2, lo2, hi2, rfl, hq1, hq2, hO2⟩ := h3
        (try simp only [Act.put, List.setIfInBounds_toArray, List.set_cons_zero, List.set_cons_succ])
        go_simp
        exact hK (.slice (some ⟨w8.heap.size, 0, none⟩) 1 1) _ (rgp.ra1 rfl ⟨w8.heap.size, A2, n2, c2, lo2, hi2, rfl, hc.2.2.2.2.2.2.2.1.hi_, Bx.made _ _ _, hq1, hq2, hO2.below (below_box _ _)⟩) (rgp.ea1 rfl (below_box _ _))
      · refine fun w8 hc v1 h1 v4 h4 K hK => ?_
        have h1 := rgp.ra1_out rfl h1
        obtain rfl : v1 = .slice A1 n c1 := h1
        have h4 := rgp.ra1_out rfl h4
        obtain ⟨q1, A1_, n1_, c1_, lo1_, hi1_, rfl, hqq, hX1, hq3, hq4, hO1⟩ := h4
        (try simp only [Act.put, List.setIfInBounds_toArray, List.set_cons_zero, List.set_cons_succ])
        rw [if_pos (by rfl)]
        (refine rgp.wp_push _ _ 24 rfl Try.underlying24 HZ.out.1 HZ.out.2.1 HZ.out.2.2.1 (by rw [HZ.out.2.2.2]; omega) rfl rfl rfl hc.2.2.2.2.2.2.2.1 x hX1 hO1 hq3 hq4 (by omega) (by have hA := hc.2.2.2.2.2.2.2.1.hi_; have hlP := LP.out; have hs0 := LTX.out; have hs1 := LTM.out; have hs2 := LTZ.out; have hs3 := SS1.out; have hs4 := SS2.out; have hs5 := SS3.out; have hs6 := SS4.out; omega) ?_)
        intro A4 c4 w4 hn4 hp4
        exact hK _ _ (rgp.ra2 hn4) (rgp.ea2 hp4)
      · refine fun w8 hc  K hK => ?_
        (try simp only [Act.put, List.setIfInBounds_toArray, List.set_cons_zero, List.set_cons_succ])
        go_simp
        exact hK (.pointer (some ⟨bp, 0, none⟩)) _ (rgp.ra1 rfl rfl) (rgp.ea1 rfl (Below.refl _ _))
      refine fun wg5 hc v0 h0 v1 h1 v2 h2 v3 h3 v4 h4 v5 h5 v6 h6 => ?_
      have h0 := rgp.ra1_out rfl h0
      obtain rfl : v0 = .pointer (some ⟨bp, 0, none⟩) := h0
      have h1 := rgp.ra1_out rfl h1
      obtain rfl : v1 = .slice A1 n c1 := h1
      have h2 := rgp.ra1_out rfl h2
      obtain rfl : v2 = .agg #[.int .i64 x.1, .int .i64 x.2.1, .int .i64 x.2.2.1, .slice Am nm cm] := h2
      have h3 := rgp.ra1_out rfl h3
      obtain ⟨A2, n2, c2, lo2, hi2, rfl, hq1, hq2, hO2⟩ := h3
      have h4 := rgp.ra1_out rfl h4
      obtain ⟨q1, A1_, n1_, c1_, lo1_, hi1_, rfl, hqq, hX1, hq3, hq4, hO1⟩ := h4
      have h5 := rgp.ra2_out h5
      obtain ⟨A3, c3, f3, hi3, rfl, hfx, hO3⟩ := h5
      have h6 := rgp.ra1_out rfl h6
      obtain rfl : v6 = .pointer (some ⟨bp, 0, none⟩) := h6
      (try simp only [reg.Obs])
      (try simp only [Act.put, List.setIfInBounds_toArray, List.set_cons_zero, List.set_cons_succ])
      simp only [List.drop_succ_cons, List.drop_zero]
      have B5 := Lib.hid hc.1
      have X5 := Lib.hid hc.2.1
      have M5 := Lib.hid hc.2.2.1
      have Z5 := Lib.hid hc.2.2.2.1
      have P5 := Lib.hid hc.2.2.2.2.1
      have Q5 := Lib.hid hc.2.2.2.2.2.1
      have R5 := Lib.hid hc.2.2.2.2.2.2.1
      have O5 := Lib.hid hO3.up
      clear hO3 hc B4 X4 M4 Z4 P4 Q4 R4 O4
      have cP0 : wg5.cell? ⟨bp, 0, none⟩ = some (.slice A1 n c1) := P5.out.cell 0
      have fP0 : wg5.frozen? ⟨bp, 0, none⟩ = false := P5.out.free 0
      go_upto_region 5 with fail
      clear cP0 fP0
      have hWW : (wg5.setCell ⟨bp, 0, none⟩ (.slice A3 (n + 1) c3)) = (wg5.setCell ⟨bp, 0, none⟩ (.slice A3 (n + 1) c3)) := rfl
      obtain ⟨w6, hW⟩ : ∃ wy, (wg5.setCell ⟨bp, 0, none⟩ (.slice A3 (n + 1) c3)) = wy := ⟨_, rfl⟩
      rw [hW]
      clear hWW
      have B6 := Lib.hid (show Below w.heap.size w w6 by rw [← hW]; exact (B5.out.setCell (p := ⟨bp, 0, none⟩) (by have hlP := LP.out; have hs0 := LTX.out; have hs1 := LTM.out; have hs2 := LTZ.out; have hs3 := SS1.out; have hs4 := SS2.out; have hs5 := SS3.out; have hs6 := SS4.out; first | omega | (simp <;> omega)) _))
      have X6 := Lib.hid (show Bx 26 w6 (w.heap.size) #[.slice A n cap, .int .i64 d] by rw [← hW]; exact (X5.out.other (by have hlP := LP.out; have hs0 := LTX.out; have hs1 := LTM.out; have hs2 := LTZ.out; have hs3 := SS1.out; have hs4 := SS2.out; have hs5 := SS3.out; have hs6 := SS4.out; first | omega | (simp <;> omega)) _ _))
      have M6 := Lib.hid (show Bx 28 w6 (w.heap.size + 1) #[.int .i64 x.1, .int .i64 x.2.1, .int .i64 x.2.2.1, .slice Am nm cm] by rw [← hW]; exact (M5.out.other (by have hlP := LP.out; have hs0 := LTX.out; have hs1 := LTM.out; have hs2 := LTZ.out; have hs3 := SS1.out; have hs4 := SS2.out; have hs5 := SS3.out; have hs6 := SS4.out; first | omega | (simp <;> omega)) _ _))
      have Z6 := Lib.hid (show Bx 26 w6 (w.heap.size + 1 + 1) #[.slice none 0 0, .int .i64 0] by rw [← hW]; exact (Z5.out.other (by have hlP := LP.out; have hs0 := LTX.out; have hs1 := LTM.out; have hs2 := LTZ.out; have hs3 := SS1.out; have hs4 := SS2.out; have hs5 := SS3.out; have hs6 := SS4.out; first | omega | (simp <;> omega)) _ _))
      have P6 := Lib.hid (show Bx 26 w6 (bp) #[.slice A3 (n + 1) c3, .int .i64 d] by rw [← hW]; exact (P5.out.set 0 _))
      have Q6 := Lib.hid (show Rq msg w6 lo hi A n cap ms by rw [← hW]; exact (Q5.out.same (by simp [World.setCell]) fun b h1 h2 => by rw [Below.heap_setCell _ _ _ _ (by have hlP := LP.out; have hs0 := LTX.out; have hs1 := LTM.out; have hs2 := LTZ.out; have hs3 := SS1.out; have hs4 := SS2.out; have hs5 := SS3.out; have hs6 := SS4.out; first | omega | (simp <;> omega))]))
      have O6 := Lib.hid (show Oe msg w6 w0.heap.size wg5.heap.size A3 (n + 1) c3 (es ++ [f3]) by rw [← hW]; exact (rgp.oe_setCell O5.out P5.out (by decide) (by decide) 0 _))
      clear hW B5 X5 M5 Z5 P5 Q5 O5
      have HEQ := Lib.hid (show (es ++ [f3]).map (·.x) = ms ++ [x] by rw [List.map_append, HES.out, List.map_cons, hfx]; rfl)
      have HLL := Lib.hid (show (ms ++ [x]).length = n + 1 by rw [List.length_append, HLN0.out]; rfl)
      clear hfx
      have cP0 : w6.cell? ⟨bp, 0, none⟩ = some (.slice A3 (n + 1) c3) := P6.out.cell 0
      have cP1 : w6.cell? ⟨bp, 1, none⟩ = some (.int .i64 d) := P6.out.cell 1
      by_cases hle : n + 1 ≤ 12
      · have hd1 : decide ((12 : Int) < (n : Int) + 1) = false := decide_eq_false (by omega)
        have HE := Lib.hid (show enq ms d x = (ms ++ [x], d) by unfold enq; rw [HQV.out, HMV.out, if_pos (show (true && true) = true from rfl), if_pos (by rw [HLL.out]; exact hle)])
        go_wp2_with (first | (refine stw.list_load rfl 26 _ rfl (bp) rfl 26 _ P6.out Try.underlying26 rfl szQ ?_) | (refine stw.list_store rfl 26 _ _ rfl (w.heap.size + 1 + 1) #[.slice A3 (n + 1) c3, .int .i64 d] rfl rfl 26 _ Z6.out rfl szQ (oneQ _ _ _ _) ?_; intro wz7 hz))
        clear cP0 cP1
        have B7 := Lib.hid (hz.on B6.out (by have hlP := LP.out; have hs0 := LTX.out; have hs1 := LTM.out; have hs2 := LTZ.out; have hs3 := SS1.out; have hs4 := SS2.out; have hs5 := SS3.out; have hs6 := SS4.out; first | omega | (simp <;> omega)))
        have X7 := Lib.hid (hz.keep X6.out (by have hlP := LP.out; have hs0 := LTX.out; have hs1 := LTM.out; have hs2 := LTZ.out; have hs3 := SS1.out; have hs4 := SS2.out; have hs5 := SS3.out; have hs6 := SS4.out; first | omega | (simp <;> omega)))
        have M7 := Lib.hid (hz.keep M6.out (by have hlP := LP.out; have hs0 := LTX.out; have hs1 := LTM.out; have hs2 := LTZ.out; have hs3 := SS1.out; have hs4 := SS2.out; have hs5 := SS3.out; have hs6 := SS4.out; first | omega | (simp <;> omega)))
        have Z7 := Lib.hid (hz.box)
        have P7 := Lib.hid (hz.keep P6.out (by have hlP := LP.out; have hs0 := LTX.out; have hs1 := LTM.out; have hs2 := LTZ.out; have hs3 := SS1.out; have hs4 := SS2.out; have hs5 := SS3.out; have hs6 := SS4.out; first | omega | (simp <;> omega)))
        have Q7 := Lib.hid (Q6.out.same hz.below.size fun b h1 h2 => hz.other b (by have hlP := LP.out; have hs0 := LTX.out; have hs1 := LTM.out; have hs2 := LTZ.out; have hs3 := SS1.out; have hs4 := SS2.out; have hs5 := SS3.out; have hs6 := SS4.out; first | omega | (simp <;> omega)))
        have O7 := Lib.hid (rgp.oe_set O6.out Z6.out (by decide) (by decide) hz.below.size (fun k hk => hz.other k hk))
        clear hz B6 X6 M6 Z6 P6 Q6 O6
        (try simp only [Exit.inBlock, Exit.then])
        refine bodyPost_ret (v := .agg #[.slice A3 (n + 1) c3, .int .i64 d]) ?_ rfl ?_
        · rw [results_cell1 rfl]
          exact stw.back Z7.out Try.underlying26 rfl szQ
        · exact by rw [HE.out]; exact ⟨_, _, _, rfl, ⟨_, HEQ.out, (O7.out).up.down (by have hlP := LP.out; have hs0 := LTX.out; have hs1 := LTM.out; have hs2 := LTZ.out; have hs3 := SS1.out; have hs4 := SS2.out; have hs5 := SS3.out; have hs6 := SS4.out; first | omega | (simp <;> omega))⟩, B7.out⟩
      · have hd1 : decide ((12 : Int) < (n : Int) + 1) = true := decide_eq_true (by omega)
        obtain ⟨u, hu⟩ : ∃ u, IntKind.i64.wrap (d + 1) = u := ⟨_, rfl⟩
        obtain ⟨zi, hzi⟩ : ∃ zi : Nat, bst le (ms ++ [x]) (n + 1) = (zi : Int) ∧ zi < n + 1 := by
          have h1 := bst_range le (ms ++ [x]) (n + 1)
          exact ⟨(bst le (ms ++ [x]) (n + 1)).toNat, by omega, by omega⟩
        have HE := Lib.hid (show enq ms d x = ((ms ++ [x]).eraseIdx zi, u) by unfold enq; rw [HQV.out, HMV.out, if_pos (show (true && true) = true from rfl), if_neg (by rw [HLL.out]; exact hle), HLL.out, hzi.1, hu, Int.toNat_natCast])
        have HZI := Lib.hid hzi
        obtain ⟨g, hgA⟩ := oe_some O6.out (by omega)
        subst hgA
        have HU := Lib.hid hu
        clear hzi hu
        have HRQ := Lib.hid (show Rq msg w6 _ _ _ _ _ (ms ++ [x]) by rw [← HEQ.out]; exact O6.out.rq)
        have G6 := Lib.hid HRQ.out
        clear HRQ
        go_upto_region 6 with fail
        clear hd1
        clear cP0 cP1
        refine reg.region_tail reg.Bel 6 40 [some [], some [], some [(1, 29)], some [], some [(3, 31)], some [(2, 30), (4, 32)], none, none] [(0, 28), (1, 29), (2, 30), (3, 31), (4, 32), (5, 33)]
          (fun w' => Below w.heap.size w w' ∧ Bx 26 w' (w.heap.size) #[.slice A n cap, .int .i64 d] ∧ Bx 28 w' (w.heap.size + 1) #[.int .i64 x.1, .int .i64 x.2.1, .int .i64 x.2.2.1, .slice Am nm cm] ∧ Bx 26 w' (w.heap.size + 1 + 1) #[.slice none 0 0, .int .i64 0] ∧ Bx 26 w' (bp) #[.slice (some ⟨g, 0, none⟩) (n + 1) c3, .int .i64 d] ∧ Rq msg w' lo hi A n cap ms ∧ Oe msg w' w0.heap.size wg5.heap.size (some ⟨g, 0, none⟩) (n + 1) c3 (es ++ [f3]) ∧ Rq msg w' w0.heap.size wg5.heap.size (some ⟨g, 0, none⟩) (n + 1) c3 (ms ++ [x]) ∧ True)
          (reg.rl [reg.is (.agg #[.slice (some ⟨g, 0, none⟩) (n + 1) c3, .int .i64 d]), reg.is (.pointer (some ⟨bp, 0, none⟩)), reg.is (.slice (some ⟨g, 0, none⟩) (n + 1) c3), reg.is (.agg #[]), reg.is (.iface 86 (.agg #[])), reg.is (.int .i64 ((zi : Int))), reg.free, reg.free])
          (by kernel_rfl) rfl (by kernel_rfl) (by kernel_rfl) rfl
          (fun w1 w2 hc hb => ⟨hc.1.trans (hb.mono hc.1.size), hc.2.1.below hb, hc.2.2.1.below hb, hc.2.2.2.1.below hb, hc.2.2.2.2.1.below hb, hc.2.2.2.2.2.1.below hb, hc.2.2.2.2.2.2.1.below hb, hc.2.2.2.2.2.2.2.1.below hb, trivial⟩) (reg.rl_keep _) (⟨own.below_drew B6.out, X6.out.same rfl, M6.out.same rfl, Z6.out.same rfl, P6.out.same rfl, Q6.out.same (Nat.le_refl _) (fun _ _ _ => rfl), O6.out.same (Nat.le_refl _) (fun _ _ _ => rfl), G6.out.same (Nat.le_refl _) (fun _ _ _ => rfl), trivial⟩) (by kernel_rfl) ⟨?_, ?_, ?_, ?_, ?_, ?_, trivial⟩ ?_
        · refine fun w8 hc  K hK => ?_
          (try simp only [Act.put, List.setIfInBounds_toArray, List.set_cons_zero, List.set_cons_succ])
          rw [if_pos (by rfl)]
          refine stw.wp_load_bx 26 _ rfl (bp) rfl 26 _ hc.2.2.2.2.1 Try.underlying26 rfl szQ ?_
          exact hK _ _ rfl (Below.refl _ _)
        · refine fun w8 hc  K hK => ?_
          (try simp only [Act.put, List.setIfInBounds_toArray, List.set_cons_zero, List.set_cons_succ])
          go_simp
          exact hK (.pointer (some ⟨bp, 0, none⟩)) _ rfl (Below.refl _ _)
        · refine fun w8 hc v1 h1 K hK => ?_
          obtain rfl : v1 = .pointer (some ⟨bp, 0, none⟩) := h1
          (try simp only [Act.put, List.setIfInBounds_toArray, List.set_cons_zero, List.set_cons_succ])
          have c0 : w8.cell? ⟨bp, 0, none⟩ = some (.slice (some ⟨g, 0, none⟩) (n + 1) c3) := hc.2.2.2.2.1.cell 0
          go_simp
          exact hK (.slice (some ⟨g, 0, none⟩) (n + 1) c3) _ rfl (Below.refl _ _)
        · refine fun w8 hc  K hK => ?_
          (try simp only [Act.put, List.setIfInBounds_toArray, List.set_cons_zero, List.set_cons_succ])
          go_simp
          exact hK (.agg #[]) _ rfl (Below.refl _ _)
        · refine fun w8 hc v3 h3 K hK => ?_
          obtain rfl : v3 = .agg #[] := h3
          (try simp only [Act.put, List.setIfInBounds_toArray, List.set_cons_zero, List.set_cons_succ])
          go_simp
          exact hK (.iface 86 (.agg #[])) _ rfl (Below.refl _ _)
        · refine fun w8 hc v2 h2 v4 h4 K hK => ?_
          obtain rfl : v2 = .slice (some ⟨g, 0, none⟩) (n + 1) c3 := h2
          obtain rfl : v4 = .iface 86 (.agg #[]) := h4
          (try simp only [Act.put, List.setIfInBounds_toArray, List.set_cons_zero, List.set_cons_succ])
          go_simp
          (with_reducible refine (chosenD (ms ++ [x]) _ (n + 1) c3 _ _ _ hc.2.2.2.2.2.2.2.1).mono ?_)
          rintro e w3 hp
          obtain ⟨rfl, hb⟩ := n_parts HZI.out.1 hp
          exact hK _ _ rfl hb
        refine fun wg7 hc v0 h0 v1 h1 v2 h2 v3 h3 v4 h4 v5 h5 => ?_
        obtain rfl : v0 = .agg #[.slice (some ⟨g, 0, none⟩) (n + 1) c3, .int .i64 d] := h0
        obtain rfl : v1 = .pointer (some ⟨bp, 0, none⟩) := h1
        obtain rfl : v2 = .slice (some ⟨g, 0, none⟩) (n + 1) c3 := h2
        obtain rfl : v3 = .agg #[] := h3
        obtain rfl : v4 = .iface 86 (.agg #[]) := h4
        obtain rfl : v5 = .int .i64 ((zi : Int)) := h5
        (try simp only [reg.Obs])
        (try simp only [Act.put, List.setIfInBounds_toArray, List.set_cons_zero, List.set_cons_succ])
        simp only [List.drop_succ_cons, List.drop_zero]
        have B7 := Lib.hid hc.1
        have X7 := Lib.hid hc.2.1
        have M7 := Lib.hid hc.2.2.1
        have Z7 := Lib.hid hc.2.2.2.1
        have P7 := Lib.hid hc.2.2.2.2.1
        have Q7 := Lib.hid hc.2.2.2.2.2.1
        have O7 := Lib.hid hc.2.2.2.2.2.2.1
        have G7 := Lib.hid hc.2.2.2.2.2.2.2.1
        clear hc B6 X6 M6 Z6 P6 Q6 O6 G6
        go_wp2_with fail
        (with_reducible refine (withoutM (es ++ [f3]) d g (n + 1) c3 _ _ zi HZI.out.2 (by have := HN.out; omega) _ O7.out).mono ?_)
        rintro e w8 ⟨rfl, ho, hg⟩
        have B8 := Lib.hid (below_grown B7.out hg (fun q hq => by have hlP := LP.out; have hs0 := LTX.out; have hs1 := LTM.out; have hs2 := LTZ.out; have hs3 := SS1.out; have hs4 := SS2.out; have hs5 := SS3.out; have hs6 := SS4.out; have := (O7.out.lo_ hq).1; omega) B7.out.size)
        have X8 := Lib.hid (grown_bx X7.out hg (rgp.ne_type X7.out O7.out (by decide)))
        have M8 := Lib.hid (grown_bx M7.out hg (fun e => by have hlP := LP.out; have hs0 := LTX.out; have hs1 := LTM.out; have hs2 := LTZ.out; have hs3 := SS1.out; have hs4 := SS2.out; have hs5 := SS3.out; have hs6 := SS4.out; have := O7.out.lo_ e.symm; omega))
        have Z8 := Lib.hid (grown_bx Z7.out hg (rgp.ne_type Z7.out O7.out (by decide)))
        have P8 := Lib.hid (grown_bx P7.out hg (rgp.ne_type P7.out O7.out (by decide)))
        have Q8 := Lib.hid (rq_grown Q7.out O7.out hg (by have hlP := LP.out; have hs0 := LTX.out; have hs1 := LTM.out; have hs2 := LTZ.out; have hs3 := SS1.out; have hs4 := SS2.out; have hs5 := SS3.out; have hs6 := SS4.out; first | omega | (simp <;> omega)))
        have SS8 := Lib.hid hg.size
        clear B7 X7 M7 Z7 P7 Q7 O7
        have O8 := Lib.hid (show Oe msg w8 w0.heap.size wg5.heap.size (some ⟨g, 0, none⟩) n c3 (((es ++ [f3]).eraseIdx zi)) from ho)
        clear ho hg
        go_upto_region 7 with (refine stw.list_store rfl 26 _ _ rfl (bp) #[.slice (some ⟨g, 0, none⟩) n c3, .int .i64 d] rfl rfl 26 _ P8.out rfl szQ (oneQ _ _ _ _) ?_; intro wz9 hz)
        have B9 := Lib.hid (hz.on B8.out (by have hlP := LP.out; have hs0 := LTX.out; have hs1 := LTM.out; have hs2 := LTZ.out; have hs3 := SS1.out; have hs4 := SS2.out; have hs5 := SS3.out; have hs6 := SS4.out; have hs7 := SS8.out; first | omega | (simp <;> omega)))
        have X9 := Lib.hid (hz.keep X8.out (by have hlP := LP.out; have hs0 := LTX.out; have hs1 := LTM.out; have hs2 := LTZ.out; have hs3 := SS1.out; have hs4 := SS2.out; have hs5 := SS3.out; have hs6 := SS4.out; have hs7 := SS8.out; first | omega | (simp <;> omega)))
        have M9 := Lib.hid (hz.keep M8.out (by have hlP := LP.out; have hs0 := LTX.out; have hs1 := LTM.out; have hs2 := LTZ.out; have hs3 := SS1.out; have hs4 := SS2.out; have hs5 := SS3.out; have hs6 := SS4.out; have hs7 := SS8.out; first | omega | (simp <;> omega)))
        have Z9 := Lib.hid (hz.keep Z8.out (by have hlP := LP.out; have hs0 := LTX.out; have hs1 := LTM.out; have hs2 := LTZ.out; have hs3 := SS1.out; have hs4 := SS2.out; have hs5 := SS3.out; have hs6 := SS4.out; have hs7 := SS8.out; first | omega | (simp <;> omega)))
        have P9 := Lib.hid (hz.box)
        have Q9 := Lib.hid (Q8.out.same hz.below.size fun b h1 h2 => hz.other b (by have hlP := LP.out; have hs0 := LTX.out; have hs1 := LTM.out; have hs2 := LTZ.out; have hs3 := SS1.out; have hs4 := SS2.out; have hs5 := SS3.out; have hs6 := SS4.out; have hs7 := SS8.out; first | omega | (simp <;> omega)))
        have O9 := Lib.hid (rgp.oe_set O8.out P8.out (by decide) (by decide) hz.below.size (fun k hk => hz.other k hk))
        clear hz B8 X8 M8 Z8 P8 Q8 O8
        have cP0 : wz9.cell? ⟨bp, 0, none⟩ = some (.slice (some ⟨g, 0, none⟩) n c3) := P9.out.cell 0
        have cP1 : wz9.cell? ⟨bp, 1, none⟩ = some (.int .i64 d) := P9.out.cell 1
        have fP1 : wz9.frozen? ⟨bp, 1, none⟩ = false := P9.out.free 1
        have hu := HU.out
        go_upto_region 8 with fail
        clear hu
        clear cP0 cP1 fP1
        have hWW : (wz9.setCell ⟨bp, 1, none⟩ (.int .i64 u)) = (wz9.setCell ⟨bp, 1, none⟩ (.int .i64 u)) := rfl
        obtain ⟨w10, hW⟩ : ∃ wy, (wz9.setCell ⟨bp, 1, none⟩ (.int .i64 u)) = wy := ⟨_, rfl⟩
        rw [hW]
        clear hWW
        have B10 := Lib.hid (show Below w.heap.size w w10 by rw [← hW]; exact (B9.out.setCell (p := ⟨bp, 1, none⟩) (by have hlP := LP.out; have hs0 := LTX.out; have hs1 := LTM.out; have hs2 := LTZ.out; have hs3 := SS1.out; have hs4 := SS2.out; have hs5 := SS3.out; have hs6 := SS4.out; have hs7 := SS8.out; first | omega | (simp <;> omega)) _))
        have X10 := Lib.hid (show Bx 26 w10 (w.heap.size) #[.slice A n cap, .int .i64 d] by rw [← hW]; exact (X9.out.other (by have hlP := LP.out; have hs0 := LTX.out; have hs1 := LTM.out; have hs2 := LTZ.out; have hs3 := SS1.out; have hs4 := SS2.out; have hs5 := SS3.out; have hs6 := SS4.out; have hs7 := SS8.out; first | omega | (simp <;> omega)) _ _))
        have M10 := Lib.hid (show Bx 28 w10 (w.heap.size + 1) #[.int .i64 x.1, .int .i64 x.2.1, .int .i64 x.2.2.1, .slice Am nm cm] by rw [← hW]; exact (M9.out.other (by have hlP := LP.out; have hs0 := LTX.out; have hs1 := LTM.out; have hs2 := LTZ.out; have hs3 := SS1.out; have hs4 := SS2.out; have hs5 := SS3.out; have hs6 := SS4.out; have hs7 := SS8.out; first | omega | (simp <;> omega)) _ _))
        have Z10 := Lib.hid (show Bx 26 w10 (w.heap.size + 1 + 1) #[.slice none 0 0, .int .i64 0] by rw [← hW]; exact (Z9.out.other (by have hlP := LP.out; have hs0 := LTX.out; have hs1 := LTM.out; have hs2 := LTZ.out; have hs3 := SS1.out; have hs4 := SS2.out; have hs5 := SS3.out; have hs6 := SS4.out; have hs7 := SS8.out; first | omega | (simp <;> omega)) _ _))
        have P10 := Lib.hid (show Bx 26 w10 (bp) #[.slice (some ⟨g, 0, none⟩) n c3, .int .i64 u] by rw [← hW]; exact (P9.out.set 1 _))
        have Q10 := Lib.hid (show Rq msg w10 lo hi A n cap ms by rw [← hW]; exact (Q9.out.same (by simp [World.setCell]) fun b h1 h2 => by rw [Below.heap_setCell _ _ _ _ (by have hlP := LP.out; have hs0 := LTX.out; have hs1 := LTM.out; have hs2 := LTZ.out; have hs3 := SS1.out; have hs4 := SS2.out; have hs5 := SS3.out; have hs6 := SS4.out; have hs7 := SS8.out; first | omega | (simp <;> omega))]))
        have O10 := Lib.hid (show Oe msg w10 w0.heap.size wg5.heap.size (some ⟨g, 0, none⟩) n c3 (((es ++ [f3]).eraseIdx zi)) by rw [← hW]; exact (rgp.oe_setCell O9.out P9.out (by decide) (by decide) 1 _))
        clear hW B9 X9 M9 Z9 P9 Q9 O9
        go_wp2_with (first | (refine stw.list_load rfl 26 _ rfl (bp) rfl 26 _ P10.out Try.underlying26 rfl szQ ?_) | (refine stw.list_store rfl 26 _ _ rfl (w.heap.size + 1 + 1) #[.slice (some ⟨g, 0, none⟩) n c3, .int .i64 u] rfl rfl 26 _ Z10.out rfl szQ (oneQ _ _ _ _) ?_; intro wz11 hz))
        have B11 := Lib.hid (hz.on B10.out (by have hlP := LP.out; have hs0 := LTX.out; have hs1 := LTM.out; have hs2 := LTZ.out; have hs3 := SS1.out; have hs4 := SS2.out; have hs5 := SS3.out; have hs6 := SS4.out; have hs7 := SS8.out; first | omega | (simp <;> omega)))
        have X11 := Lib.hid (hz.keep X10.out (by have hlP := LP.out; have hs0 := LTX.out; have hs1 := LTM.out; have hs2 := LTZ.out; have hs3 := SS1.out; have hs4 := SS2.out; have hs5 := SS3.out; have hs6 := SS4.out; have hs7 := SS8.out; first | omega | (simp <;> omega)))
        have M11 := Lib.hid (hz.keep M10.out (by have hlP := LP.out; have hs0 := LTX.out; have hs1 := LTM.out; have hs2 := LTZ.out; have hs3 := SS1.out; have hs4 := SS2.out; have hs5 := SS3.out; have hs6 := SS4.out; have hs7 := SS8.out; first | omega | (simp <;> omega)))
        have Z11 := Lib.hid (hz.box)
        have P11 := Lib.hid (hz.keep P10.out (by have hlP := LP.out; have hs0 := LTX.out; have hs1 := LTM.out; have hs2 := LTZ.out; have hs3 := SS1.out; have hs4 := SS2.out; have hs5 := SS3.out; have hs6 := SS4.out; have hs7 := SS8.out; first | omega | (simp <;> omega)))
        have Q11 := Lib.hid (Q10.out.same hz.below.size fun b h1 h2 => hz.other b (by have hlP := LP.out; have hs0 := LTX.out; have hs1 := LTM.out; have hs2 := LTZ.out; have hs3 := SS1.out; have hs4 := SS2.out; have hs5 := SS3.out; have hs6 := SS4.out; have hs7 := SS8.out; first | omega | (simp <;> omega)))
        have O11 := Lib.hid (rgp.oe_set O10.out Z10.out (by decide) (by decide) hz.below.size (fun k hk => hz.other k hk))
        clear hz B10 X10 M10 Z10 P10 Q10 O10
        (try simp only [Exit.inBlock, Exit.then])
        refine bodyPost_ret (v := .agg #[.slice (some ⟨g, 0, none⟩) n c3, .int .i64 u]) ?_ rfl ?_
        · rw [results_cell1 rfl]
          exact stw.back Z11.out Try.underlying26 rfl szQ
        · exact by rw [HE.out]; exact ⟨_, _, _, rfl, ⟨_, by rw [map_erase, HEQ.out], (O11.out).up.down (by have hlP := LP.out; have hs0 := LTX.out; have hs1 := LTM.out; have hs2 := LTZ.out; have hs3 := SS1.out; have hs4 := SS2.out; have hs5 := SS3.out; have hs6 := SS4.out; have hs7 := SS8.out; first | omega | (simp <;> omega))⟩, B11.out⟩
    | false =>
      have HE := Lib.hid (show enq ms d x = (ms, d) by unfold enq; rw [HQV.out, HMV.out]; rfl)
      go_wp2_with (first | (refine stw.list_load rfl 26 _ rfl (bp) rfl 26 _ P4.out Try.underlying26 rfl szQ ?_) | (refine stw.list_store rfl 26 _ _ rfl (w.heap.size + 1 + 1) #[.slice A1 n c1, .int .i64 d] rfl rfl 26 _ Z4.out rfl szQ (oneQ _ _ _ _) ?_; intro wz5 hz))
      have B5 := Lib.hid (hz.on B4.out (by have hlP := LP.out; have hs0 := LTX.out; have hs1 := LTM.out; have hs2 := LTZ.out; have hs3 := SS1.out; have hs4 := SS2.out; have hs5 := SS3.out; have hs6 := SS4.out; first | omega | (simp <;> omega)))
      have X5 := Lib.hid (hz.keep X4.out (by have hlP := LP.out; have hs0 := LTX.out; have hs1 := LTM.out; have hs2 := LTZ.out; have hs3 := SS1.out; have hs4 := SS2.out; have hs5 := SS3.out; have hs6 := SS4.out; first | omega | (simp <;> omega)))
      have M5 := Lib.hid (hz.keep M4.out (by have hlP := LP.out; have hs0 := LTX.out; have hs1 := LTM.out; have hs2 := LTZ.out; have hs3 := SS1.out; have hs4 := SS2.out; have hs5 := SS3.out; have hs6 := SS4.out; first | omega | (simp <;> omega)))
      have Z5 := Lib.hid (hz.box)
      have P5 := Lib.hid (hz.keep P4.out (by have hlP := LP.out; have hs0 := LTX.out; have hs1 := LTM.out; have hs2 := LTZ.out; have hs3 := SS1.out; have hs4 := SS2.out; have hs5 := SS3.out; have hs6 := SS4.out; first | omega | (simp <;> omega)))
      have Q5 := Lib.hid (Q4.out.same hz.below.size fun b h1 h2 => hz.other b (by have hlP := LP.out; have hs0 := LTX.out; have hs1 := LTM.out; have hs2 := LTZ.out; have hs3 := SS1.out; have hs4 := SS2.out; have hs5 := SS3.out; have hs6 := SS4.out; first | omega | (simp <;> omega)))
      have R5 := Lib.hid (R4.out.same hz.below.size fun b h1 h2 => hz.other b (by have hlP := LP.out; have hs0 := LTX.out; have hs1 := LTM.out; have hs2 := LTZ.out; have hs3 := SS1.out; have hs4 := SS2.out; have hs5 := SS3.out; have hs6 := SS4.out; first | omega | (simp <;> omega)))
      have O5 := Lib.hid (rgp.oe_set O4.out Z4.out (by decide) (by decide) hz.below.size (fun k hk => hz.other k hk))
      clear hz B4 X4 M4 Z4 P4 Q4 R4 O4
      (try simp only [Exit.inBlock, Exit.then])
      refine bodyPost_ret (v := .agg #[.slice A1 n c1, .int .i64 d]) ?_ rfl ?_
      · rw [results_cell1 rfl]
        exact stw.back Z5.out Try.underlying26 rfl szQ
      · exact by rw [HE.out]; exact ⟨_, _, _, rfl, ⟨_, HES.out, (O5.out).up.down (by have hlP := LP.out; have hs0 := LTX.out; have hs1 := LTM.out; have hs2 := LTZ.out; have hs3 := SS1.out; have hs4 := SS2.out; have hs5 := SS3.out; have hs6 := SS4.out; first | omega | (simp <;> omega))⟩, B5.out⟩
  | false =>
    have HE := Lib.hid (show enq ms d x = (ms, d) by unfold enq; rw [HQV.out]; rfl)
    go_wp2_with (first | (refine stw.list_load rfl 26 _ rfl (bp) rfl 26 _ P3.out Try.underlying26 rfl szQ ?_) | (refine stw.list_store rfl 26 _ _ rfl (w.heap.size + 1 + 1) #[.slice A1 n c1, .int .i64 d] rfl rfl 26 _ Z3.out rfl szQ (oneQ _ _ _ _) ?_; intro wz4 hz))
    have B4 := Lib.hid (hz.on B3.out (by have hlP := LP.out; have hs0 := LTX.out; have hs1 := LTM.out; have hs2 := LTZ.out; have hs3 := SS1.out; have hs4 := SS2.out; have hs5 := SS3.out; first | omega | (simp <;> omega)))
    have X4 := Lib.hid (hz.keep X3.out (by have hlP := LP.out; have hs0 := LTX.out; have hs1 := LTM.out; have hs2 := LTZ.out; have hs3 := SS1.out; have hs4 := SS2.out; have hs5 := SS3.out; first | omega | (simp <;> omega)))
    have M4 := Lib.hid (hz.keep M3.out (by have hlP := LP.out; have hs0 := LTX.out; have hs1 := LTM.out; have hs2 := LTZ.out; have hs3 := SS1.out; have hs4 := SS2.out; have hs5 := SS3.out; first | omega | (simp <;> omega)))
    have Z4 := Lib.hid (hz.box)
    have P4 := Lib.hid (hz.keep P3.out (by have hlP := LP.out; have hs0 := LTX.out; have hs1 := LTM.out; have hs2 := LTZ.out; have hs3 := SS1.out; have hs4 := SS2.out; have hs5 := SS3.out; first | omega | (simp <;> omega)))
    have Q4 := Lib.hid (Q3.out.same hz.below.size fun b h1 h2 => hz.other b (by have hlP := LP.out; have hs0 := LTX.out; have hs1 := LTM.out; have hs2 := LTZ.out; have hs3 := SS1.out; have hs4 := SS2.out; have hs5 := SS3.out; first | omega | (simp <;> omega)))
    have R4 := Lib.hid (R3.out.same hz.below.size fun b h1 h2 => hz.other b (by have hlP := LP.out; have hs0 := LTX.out; have hs1 := LTM.out; have hs2 := LTZ.out; have hs3 := SS1.out; have hs4 := SS2.out; have hs5 := SS3.out; first | omega | (simp <;> omega)))
    have O4 := Lib.hid (rgp.oe_set O3.out Z3.out (by decide) (by decide) hz.below.size (fun k hk => hz.other k hk))
    clear hz B3 X3 M3 Z3 P3 Q3 R3 O3
    (try simp only [Exit.inBlock, Exit.then])
    refine bodyPost_ret (v := .agg #[.slice A1 n c1, .int .i64 d]) ?_ rfl ?_
    · rw [results_cell1 rfl]
      exact stw.back Z4.out Try.underlying26 rfl szQ
    · exact by rw [HE.out]; exact ⟨_, _, _, rfl, ⟨_, HES.out, (O4.out).up.down (by have hlP := LP.out; have hs0 := LTX.out; have hs1 := LTM.out; have hs2 := LTZ.out; have hs3 := SS1.out; have hs4 := SS2.out; have hs5 := SS3.out; first | omega | (simp <;> omega))⟩, B4.out⟩
end Go.Proofs.Ytjmenbpalihnnaa.mq
