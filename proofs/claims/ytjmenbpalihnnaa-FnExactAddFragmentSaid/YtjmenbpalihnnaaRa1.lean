/- A reassembly copied, one started. Condition: bodies up to 2^26 bytes. -/
import Derived.Test.YtjmenbpalihnnaaRam
import Derived.Test.YtjmenbpalihnnaaUv
import Derived.Test.YtjmenbpalihnnaaQc3
import Derived.Test.YtjmenbpalihnnaaApe
namespace Go.Proofs.Ytjmenbpalihnnaa.fr
open Go.RowKit sl harn bx mrw drk stw
set_option linter.unusedVariables false
set_option linter.unusedSimpArgs false
open ux (Rea Fra rea fra)

set_option maxRecDepth 100000 in
set_option maxHeartbeats 4000000 in
theorem implCr (x : Rea) (A : Option Addr) (n c lo hi : Nat) (w : World) (h : Rd .u8 w lo hi A n c x.Body) (hn : n ≤ 67108864) :
    Calls Try.prog 89 #[rV x A n c] w (XPost x w) := by
  have RW := Lib.hid h
  have hrh := h.hi_
  have HN := Lib.hid hn
  clear h hn
  go_enter Try.func89, Try.ntmps89
  go_upto_region 1 with fail
  obtain ⟨w0, hW⟩ : ∃ w0, (w.alloc (.cells #[.int .i64 x.From, .int .i64 x.Seq, .int .i64 x.Next, .slice A n c, .int .i64 x.Started] 58)).alloc (.cells #[.int .i64 0, .int .i64 0, .int .i64 0, .slice none 0 0, .int .i64 0] 58) = w0 := ⟨_, rfl⟩
  rw [hW]
  have B0 := Lib.hid (show Below w.heap.size w w0 by rw [← hW]; exact ((Below.refl _ _).alloc (by simp <;> omega) _).alloc (by simp <;> omega) _)
  have X0 := Lib.hid (show Bx 58 w0 (w.heap.size) #[.int .i64 x.From, .int .i64 x.Seq, .int .i64 x.Next, .slice A n c, .int .i64 x.Started] by
      rw [← hW]
      have hh := Bx.made 58 w #[.int .i64 x.From, .int .i64 x.Seq, .int .i64 x.Next, .slice A n c, .int .i64 x.Started]
      exact (hh.below (below_box _ _)))
  have Z0 := Lib.hid (show Bx 58 w0 (w.heap.size + 1) #[.int .i64 0, .int .i64 0, .int .i64 0, .slice none 0 0, .int .i64 0] by
      rw [← hW]
      have hh : Bx 58 ((w.alloc (.cells #[.int .i64 x.From, .int .i64 x.Seq, .int .i64 x.Next, .slice A n c, .int .i64 x.Started] 58)).alloc (.cells #[.int .i64 0, .int .i64 0, .int .i64 0, .slice none 0 0, .int .i64 0] 58)) (w.heap.size + 1) #[.int .i64 0, .int .i64 0, .int .i64 0, .slice none 0 0, .int .i64 0] := by have hh := Bx.made 58 (w.alloc (.cells #[.int .i64 x.From, .int .i64 x.Seq, .int .i64 x.Next, .slice A n c, .int .i64 x.Started] 58)) #[.int .i64 0, .int .i64 0, .int .i64 0, .slice none 0 0, .int .i64 0]; simpa using hh
      exact hh)
  have R0 := Lib.hid (show Rd .u8 w0 (lo) (hi) A n c x.Body by rw [← hW]; exact ((RW.out.below (below_box _ _)).below (below_box _ _)))
  clear hW
  have LTX := Lib.hid X0.out.lt
  have LTZ := Lib.hid Z0.out.lt
  have cX0 : w0.cell? ⟨w.heap.size, 0, none⟩ = some (.int .i64 x.From) := X0.out.cell 0
  have cX1 : w0.cell? ⟨w.heap.size, 1, none⟩ = some (.int .i64 x.Seq) := X0.out.cell 1
  have cX2 : w0.cell? ⟨w.heap.size, 2, none⟩ = some (.int .i64 x.Next) := X0.out.cell 2
  have cX3 : w0.cell? ⟨w.heap.size, 3, none⟩ = some (.slice A n c) := X0.out.cell 3
  have cX4 : w0.cell? ⟨w.heap.size, 4, none⟩ = some (.int .i64 x.Started) := X0.out.cell 4
  go_wp2_with fail
  clear cX0 cX1 cX2 cX3 cX4
  (with_reducible refine (mq.copyAll _ _ A n c x.Body _ R0.out (by have := HN.out; omega)).mono ?_)
  rintro e w1 ⟨A1, n1, c1, rfl, ho, hb⟩
  have SS1 := Lib.hid hb.size
  have B1 := Lib.hid (B0.out.trans (hb.mono B0.out.size))
  have X1 := Lib.hid (X0.out.below hb)
  have Z1 := Lib.hid (Z0.out.below hb)
  have R1 := Lib.hid (R0.out.below hb)
  clear hb  B0 X0 Z0 R0
  have P1 := Lib.hid ho
  clear ho
  have cX0 : w1.cell? ⟨w.heap.size, 0, none⟩ = some (.int .i64 x.From) := X1.out.cell 0
  have cX1 : w1.cell? ⟨w.heap.size, 1, none⟩ = some (.int .i64 x.Seq) := X1.out.cell 1
  have cX2 : w1.cell? ⟨w.heap.size, 2, none⟩ = some (.int .i64 x.Next) := X1.out.cell 2
  have cX3 : w1.cell? ⟨w.heap.size, 3, none⟩ = some (.slice A n c) := X1.out.cell 3
  have cX4 : w1.cell? ⟨w.heap.size, 4, none⟩ = some (.int .i64 x.Started) := X1.out.cell 4
  have fX3 : w1.frozen? ⟨w.heap.size, 3, none⟩ = false := X1.out.free 3
  go_upto_region 2 with fail
  clear cX0 cX1 cX2 cX3 cX4 fX3
  have hWW : (w1.setCell ⟨w.heap.size, 3, none⟩ (.slice A1 n1 c1)) = (w1.setCell ⟨w.heap.size, 3, none⟩ (.slice A1 n1 c1)) := rfl
  obtain ⟨w2, hW⟩ : ∃ wy, (w1.setCell ⟨w.heap.size, 3, none⟩ (.slice A1 n1 c1)) = wy := ⟨_, rfl⟩
  rw [hW]
  clear hWW
  have B2 := Lib.hid (show Below w.heap.size w w2 by rw [← hW]; exact (B1.out.setCell (p := ⟨w.heap.size, 3, none⟩) (by have hs0 := LTX.out; have hs1 := LTZ.out; have hs2 := SS1.out; first | omega | (simp <;> omega)) _))
  have X2 := Lib.hid (show Bx 58 w2 (w.heap.size) #[.int .i64 x.From, .int .i64 x.Seq, .int .i64 x.Next, .slice A1 n1 c1, .int .i64 x.Started] by rw [← hW]; exact (X1.out.set 3 _))
  have Z2 := Lib.hid (show Bx 58 w2 (w.heap.size + 1) #[.int .i64 0, .int .i64 0, .int .i64 0, .slice none 0 0, .int .i64 0] by rw [← hW]; exact (Z1.out.other (by have hs0 := LTX.out; have hs1 := LTZ.out; have hs2 := SS1.out; first | omega | (simp <;> omega)) _ _))
  have R2 := Lib.hid (show Rd .u8 w2 (lo) (hi) A n c x.Body by rw [← hW]; exact (R1.out.same (by simp [World.setCell]) fun b h1 h2 => by rw [Below.heap_setCell _ _ _ _ (by have hs0 := LTX.out; have hs1 := LTZ.out; have hs2 := SS1.out; first | omega | (simp <;> omega))]))
  have P2 := Lib.hid (show Ow 5 .u8 w2 (w0.heap.size) (w1.heap.size) A1 n1 c1 x.Body by rw [← hW]; exact (P1.out.same (by simp [World.setCell]) fun b h1 h2 => by rw [Below.heap_setCell _ _ _ _ (by have hs0 := LTX.out; have hs1 := LTZ.out; have hs2 := SS1.out; first | omega | (simp <;> omega))]))
  clear hW B1 X1 Z1 R1 P1
  have SQ2 := Lib.hid X2.out.lt
  go_wp2_with (first | (refine stw.list_load rfl 58 _ rfl (w.heap.size) rfl 58 _ X2.out Try.underlying58 rfl szRea ?_) | (refine stw.list_store rfl 58 _ _ rfl (w.heap.size + 1) #[.int .i64 x.From, .int .i64 x.Seq, .int .i64 x.Next, .slice A1 n1 c1, .int .i64 x.Started] rfl rfl 58 _ Z2.out rfl szRea (oneRea _ _ _ _ _ _ _) ?_; intro wz3 hz))
  have B3 := Lib.hid (hz.on B2.out (by have hs0 := LTX.out; have hs1 := LTZ.out; have hs2 := SS1.out; have hs3 := SQ2.out; first | omega | (simp <;> omega)))
  have X3 := Lib.hid (hz.keep X2.out (by have hs0 := LTX.out; have hs1 := LTZ.out; have hs2 := SS1.out; have hs3 := SQ2.out; first | omega | (simp <;> omega)))
  have Z3 := Lib.hid (hz.box)
  have R3 := Lib.hid (R2.out.same hz.below.size fun b h1 h2 => hz.other b (by have hs0 := LTX.out; have hs1 := LTZ.out; have hs2 := SS1.out; have hs3 := SQ2.out; first | omega | (simp <;> omega)))
  have P3 := Lib.hid (P2.out.same hz.below.size fun b h1 h2 => hz.other b (by have hs0 := LTX.out; have hs1 := LTZ.out; have hs2 := SS1.out; have hs3 := SQ2.out; first | omega | (simp <;> omega)))
  clear hz B2 X2 Z2 R2 P2
  (try simp only [Exit.inBlock, Exit.then])
  refine bodyPost_ret (v := .agg #[.int .i64 x.From, .int .i64 x.Seq, .int .i64 x.Next, .slice A1 n1 c1, .int .i64 x.Started]) ?_ rfl ?_
  · rw [results_cell1 rfl]
    exact stw.back Z3.out Try.underlying58 rfl szRea
  · exact ⟨_, _, _, rfl, (P3.out).up.down (by have hs0 := LTX.out; have hs1 := LTZ.out; have hs2 := SS1.out; have hs3 := SQ2.out; first | omega | (simp <;> omega)), B3.out⟩
set_option maxRecDepth 100000 in
set_option maxHeartbeats 4000000 in
theorem implSr (f : Fra) (now : Int) (A : Option Addr) (n c lo hi : Nat) (w : World) (h : Rd .u8 w lo hi A n c f.Body) (hn : n ≤ 67108864) :
    Calls Try.prog 35 #[fV f A n c, .int .i64 now] w (XPost (start f now) w) := by
  obtain ⟨j0, hj0, hy0, hy1, hy2⟩ := info_parts u8Info
  have HY8 := Lib.hid (And.intro hj0 (And.intro hy0 (And.intro hy1 hy2)))
  clear hj0 hy0 hy1 hy2
  have RW := Lib.hid h
  have hrh := h.hi_
  have LHR := Lib.hid hrh
  have HN := Lib.hid hn
  clear h hn
  go_enter Try.func35, Try.ntmps35
  go_upto_region 1 with fail
  obtain ⟨w0, hW⟩ : ∃ w0, (w.alloc (.cells #[.int .i64 f.Kind, .int .i64 f.From, .int .i64 f.To, .int .i64 f.Seq, .int .i64 f.Fragment, .bool f.More, .bool f.Retry, .int .i64 f.Duration, .slice A n c] 45)).alloc (.cells #[.int .i64 0, .int .i64 0, .int .i64 0, .slice none 0 0, .int .i64 0] 58) = w0 := ⟨_, rfl⟩
  rw [hW]
  have B0 := Lib.hid (show Below w.heap.size w w0 by rw [← hW]; exact ((Below.refl _ _).alloc (by simp <;> omega) _).alloc (by simp <;> omega) _)
  have X0 := Lib.hid (show Bx 45 w0 (w.heap.size) #[.int .i64 f.Kind, .int .i64 f.From, .int .i64 f.To, .int .i64 f.Seq, .int .i64 f.Fragment, .bool f.More, .bool f.Retry, .int .i64 f.Duration, .slice A n c] by
      rw [← hW]
      have hh := Bx.made 45 w #[.int .i64 f.Kind, .int .i64 f.From, .int .i64 f.To, .int .i64 f.Seq, .int .i64 f.Fragment, .bool f.More, .bool f.Retry, .int .i64 f.Duration, .slice A n c]
      exact (hh.below (below_box _ _)))
  have Z0 := Lib.hid (show Bx 58 w0 (w.heap.size + 1) #[.int .i64 0, .int .i64 0, .int .i64 0, .slice none 0 0, .int .i64 0] by
      rw [← hW]
      have hh : Bx 58 ((w.alloc (.cells #[.int .i64 f.Kind, .int .i64 f.From, .int .i64 f.To, .int .i64 f.Seq, .int .i64 f.Fragment, .bool f.More, .bool f.Retry, .int .i64 f.Duration, .slice A n c] 45)).alloc (.cells #[.int .i64 0, .int .i64 0, .int .i64 0, .slice none 0 0, .int .i64 0] 58)) (w.heap.size + 1) #[.int .i64 0, .int .i64 0, .int .i64 0, .slice none 0 0, .int .i64 0] := by have hh := Bx.made 58 (w.alloc (.cells #[.int .i64 f.Kind, .int .i64 f.From, .int .i64 f.To, .int .i64 f.Seq, .int .i64 f.Fragment, .bool f.More, .bool f.Retry, .int .i64 f.Duration, .slice A n c] 45)) #[.int .i64 0, .int .i64 0, .int .i64 0, .slice none 0 0, .int .i64 0]; simpa using hh
      exact hh)
  have R0 := Lib.hid (show Rd .u8 w0 (lo) (hi) A n c f.Body by rw [← hW]; exact ((RW.out.below (below_box _ _)).below (below_box _ _)))
  clear hW
  have LTX := Lib.hid X0.out.lt
  have LTZ := Lib.hid Z0.out.lt
  refine reg.region_tail reg.Bel 12 17 [some [], some [(0, 5)], some [], some [(2, 7)], some [], some [(4, 9)], some [], some [(6, 11)], some [(7, 12)], some [(5, 10), (8, 13)], some [], some [(1, 6), (3, 8), (9, 14), (10, 15)], none] [(0, 5), (1, 6), (2, 7), (3, 8), (4, 9), (5, 10), (6, 11), (7, 12), (8, 13), (9, 14), (10, 15), (11, 16)]
    (fun w' => Below w.heap.size w w' ∧ Bx 45 w' (w.heap.size) #[.int .i64 f.Kind, .int .i64 f.From, .int .i64 f.To, .int .i64 f.Seq, .int .i64 f.Fragment, .bool f.More, .bool f.Retry, .int .i64 f.Duration, .slice A n c] ∧ Bx 58 w' (w.heap.size + 1) #[.int .i64 0, .int .i64 0, .int .i64 0, .slice none 0 0, .int .i64 0] ∧ Rd .u8 w' (lo) (hi) A n c f.Body ∧ True)
    (reg.rl [reg.is (.pointer (some ⟨w.heap.size, 1, none⟩)), reg.is (.int .i64 f.From), reg.is (.pointer (some ⟨w.heap.size, 3, none⟩)), reg.is (.int .i64 f.Seq), reg.is (.pointer (some ⟨w.heap.size, 8, none⟩)), reg.is (.slice A n c), reg.is (.pointer (some ⟨w.heap.size, 8, none⟩)), reg.is (.slice A n c), reg.is (.int .i64 ((n : Int))), stw.ownf 5 .u8 (w.heap.size + 1 + 1) f.Body (fun A n c => .slice A n c), reg.is (.int .i64 now), stw.ownf 5 .u8 (w.heap.size + 1 + 1) f.Body (fun A n c => .agg #[.int .i64 f.From, .int .i64 f.Seq, .int .i64 1, .slice A n c, .int .i64 now]), reg.free])
    (by kernel_rfl) rfl (by kernel_rfl) (by kernel_rfl) rfl
    (fun w1 w2 hc hb => ⟨hc.1.trans (hb.mono hc.1.size), hc.2.1.below hb, hc.2.2.1.below hb, hc.2.2.2.1.below hb, trivial⟩) (reg.rl_keep _) (⟨own.below_drew B0.out, X0.out.same rfl, Z0.out.same rfl, own.rd_drew R0.out, trivial⟩) (by kernel_rfl) ⟨?_, ?_, ?_, ?_, ?_, ?_, ?_, ?_, ?_, ?_, ?_, ?_, trivial⟩ ?_
  · refine fun w8 hc  K hK => ?_
    (try simp only [Act.put, List.setIfInBounds_toArray, List.set_cons_zero, List.set_cons_succ])
    go_simp
    exact hK (.pointer (some ⟨w.heap.size, 1, none⟩)) _ rfl (Below.refl _ _)
  · refine fun w8 hc v0 h0 K hK => ?_
    obtain rfl : v0 = .pointer (some ⟨w.heap.size, 1, none⟩) := h0
    (try simp only [Act.put, List.setIfInBounds_toArray, List.set_cons_zero, List.set_cons_succ])
    have c0 : w8.cell? ⟨w.heap.size, 1, none⟩ = some (.int .i64 f.From) := hc.2.1.cell 1
    go_simp
    exact hK (.int .i64 f.From) _ rfl (Below.refl _ _)
  · refine fun w8 hc  K hK => ?_
    (try simp only [Act.put, List.setIfInBounds_toArray, List.set_cons_zero, List.set_cons_succ])
    go_simp
    exact hK (.pointer (some ⟨w.heap.size, 3, none⟩)) _ rfl (Below.refl _ _)
  · refine fun w8 hc v2 h2 K hK => ?_
    obtain rfl : v2 = .pointer (some ⟨w.heap.size, 3, none⟩) := h2
    (try simp only [Act.put, List.setIfInBounds_toArray, List.set_cons_zero, List.set_cons_succ])
    have c0 : w8.cell? ⟨w.heap.size, 3, none⟩ = some (.int .i64 f.Seq) := hc.2.1.cell 3
    go_simp
    exact hK (.int .i64 f.Seq) _ rfl (Below.refl _ _)
  · refine fun w8 hc  K hK => ?_
    (try simp only [Act.put, List.setIfInBounds_toArray, List.set_cons_zero, List.set_cons_succ])
    go_simp
    exact hK (.pointer (some ⟨w.heap.size, 8, none⟩)) _ rfl (Below.refl _ _)
  · refine fun w8 hc v4 h4 K hK => ?_
    obtain rfl : v4 = .pointer (some ⟨w.heap.size, 8, none⟩) := h4
    (try simp only [Act.put, List.setIfInBounds_toArray, List.set_cons_zero, List.set_cons_succ])
    have c0 : w8.cell? ⟨w.heap.size, 8, none⟩ = some (.slice A n c) := hc.2.1.cell 8
    go_simp
    exact hK (.slice A n c) _ rfl (Below.refl _ _)
  · refine fun w8 hc  K hK => ?_
    (try simp only [Act.put, List.setIfInBounds_toArray, List.set_cons_zero, List.set_cons_succ])
    go_simp
    exact hK (.pointer (some ⟨w.heap.size, 8, none⟩)) _ rfl (Below.refl _ _)
  · refine fun w8 hc v6 h6 K hK => ?_
    obtain rfl : v6 = .pointer (some ⟨w.heap.size, 8, none⟩) := h6
    (try simp only [Act.put, List.setIfInBounds_toArray, List.set_cons_zero, List.set_cons_succ])
    have c0 : w8.cell? ⟨w.heap.size, 8, none⟩ = some (.slice A n c) := hc.2.1.cell 8
    go_simp
    exact hK (.slice A n c) _ rfl (Below.refl _ _)
  · refine fun w8 hc v7 h7 K hK => ?_
    obtain rfl : v7 = .slice A n c := h7
    (try simp only [Act.put, List.setIfInBounds_toArray, List.set_cons_zero, List.set_cons_succ])
    go_simp
    exact hK (.int .i64 ((n : Int))) _ rfl (Below.refl _ _)
  · refine fun w8 hc v5 h5 v8 h8 K hK => ?_
    obtain rfl : v5 = .slice A n c := h5
    obtain rfl : v8 = .int .i64 ((n : Int)) := h8
    (try simp only [Act.put, List.setIfInBounds_toArray, List.set_cons_zero, List.set_cons_succ])
    go_simp
    have hql := hc.2.2.1.lt
    (with_reducible refine (mq.copyAll _ _ A n c f.Body _ hc.2.2.2.1 (by have := HN.out; omega)).mono ?_)
    rintro e w3 ⟨A1, n1, c1, rfl, ho, hb⟩
    exact hK _ _ ⟨A1, n1, c1, _, _, rfl, (by omega), ho⟩ hb
  · refine fun w8 hc  K hK => ?_
    (try simp only [Act.put, List.setIfInBounds_toArray, List.set_cons_zero, List.set_cons_succ])
    go_simp
    exact hK (.int .i64 now) _ rfl (Below.refl _ _)
  · refine fun w8 hc v1 h1 v3 h3 v9 h9 v10 h10 K hK => ?_
    obtain rfl : v1 = .int .i64 f.From := h1
    obtain rfl : v3 = .int .i64 f.Seq := h3
    obtain ⟨A1, n1, c1, lo1, hi1, rfl, hB1, hO1⟩ := h9
    obtain rfl : v10 = .int .i64 now := h10
    (try simp only [Act.put, List.setIfInBounds_toArray, List.set_cons_zero, List.set_cons_succ])
    go_simp
    exact hK _ _ ⟨A1, n1, c1, _, _, rfl, hB1, hO1⟩ (Below.refl _ _)
  refine fun wg1 hc v0 h0 v1 h1 v2 h2 v3 h3 v4 h4 v5 h5 v6 h6 v7 h7 v8 h8 v9 h9 v10 h10 v11 h11 => ?_
  obtain rfl : v0 = .pointer (some ⟨w.heap.size, 1, none⟩) := h0
  obtain rfl : v1 = .int .i64 f.From := h1
  obtain rfl : v2 = .pointer (some ⟨w.heap.size, 3, none⟩) := h2
  obtain rfl : v3 = .int .i64 f.Seq := h3
  obtain rfl : v4 = .pointer (some ⟨w.heap.size, 8, none⟩) := h4
  obtain rfl : v5 = .slice A n c := h5
  obtain rfl : v6 = .pointer (some ⟨w.heap.size, 8, none⟩) := h6
  obtain rfl : v7 = .slice A n c := h7
  obtain rfl : v8 = .int .i64 ((n : Int)) := h8
  obtain ⟨A1, n1, c1, lo1, hi1, rfl, hB1, hO1⟩ := h9
  obtain rfl : v10 = .int .i64 now := h10
  obtain ⟨A2, n2, c2, lo2, hi2, rfl, hB2, hO2⟩ := h11
  (try simp only [reg.Obs])
  (try simp only [Act.put, List.setIfInBounds_toArray, List.set_cons_zero, List.set_cons_succ])
  simp only [List.drop_succ_cons, List.drop_zero]
  have B1 := Lib.hid hc.1
  have X1 := Lib.hid hc.2.1
  have Z1 := Lib.hid hc.2.2.1
  have R1 := Lib.hid hc.2.2.2.1
  clear hc B0 X0 Z0 R0
  have P1 := Lib.hid hO2
  have HB2 := Lib.hid hB2
  have HH2 := Lib.hid hO2.hi_
  (try clear hO1 hB1)
  clear hO2 hB2
  refine stw.list_store rfl 58 _ _ rfl (w.heap.size + 1) #[.int .i64 f.From, .int .i64 f.Seq, .int .i64 1, .slice A2 n2 c2, .int .i64 now] rfl rfl 58 _ Z1.out rfl szRea (oneRea _ _ _ _ _ _ _) ?_
  intro wz2 hz
  (try simp only [Act.put])
  have B2 := Lib.hid (hz.on B1.out (by have hs0 := LTX.out; have hs1 := LTZ.out; have hs2 := LHR.out; have hs3 := HB2.out; have hs4 := HH2.out; first | omega | (simp <;> omega)))
  have X2 := Lib.hid (hz.keep X1.out (by have hs0 := LTX.out; have hs1 := LTZ.out; have hs2 := LHR.out; have hs3 := HB2.out; have hs4 := HH2.out; first | omega | (simp <;> omega)))
  have Z2 := Lib.hid (hz.box)
  have R2 := Lib.hid (R1.out.same hz.below.size fun b h1 h2 => hz.other b (by have hs0 := LTX.out; have hs1 := LTZ.out; have hs2 := LHR.out; have hs3 := HB2.out; have hs4 := HH2.out; first | omega | (simp <;> omega)))
  have P2 := Lib.hid (P1.out.same hz.below.size fun b h1 h2 => hz.other b (by have hs0 := LTX.out; have hs1 := LTZ.out; have hs2 := LHR.out; have hs3 := HB2.out; have hs4 := HH2.out; first | omega | (simp <;> omega)))
  clear hz B1 X1 Z1 R1 P1
  go_wp2_with fail
  (try simp only [Exit.inBlock, Exit.then])
  refine bodyPost_ret (v := .agg #[.int .i64 f.From, .int .i64 f.Seq, .int .i64 1, .slice A2 n2 c2, .int .i64 now]) ?_ rfl ?_
  · rw [results_cell1 rfl]
    exact stw.back Z2.out Try.underlying58 rfl szRea
  · exact ⟨_, _, _, rfl, (P2.out).up.down (by have := HB2.out; omega), B2.out⟩
set_option maxRecDepth 100000 in
set_option maxHeartbeats 4000000 in
theorem specSr (f : Fra) (now : Int) (A : Option Addr) (n c lo hi : Nat) (w : World) (h : Rd .u8 w lo hi A n c f.Body) (hn : n ≤ 67108864) :
    Calls Try.prog 44 #[fV f A n c, .int .i64 now] w (XPost (start f now) w) := by
  obtain ⟨j0, hj0, hy0, hy1, hy2⟩ := info_parts u8Info
  have HY8 := Lib.hid (And.intro hj0 (And.intro hy0 (And.intro hy1 hy2)))
  clear hj0 hy0 hy1 hy2
  have RW := Lib.hid h
  have hrh := h.hi_
  have LHR := Lib.hid hrh
  have HN := Lib.hid hn
  clear h hn
  go_enter Try.func44, Try.ntmps44
  go_upto_region 1 with fail
  obtain ⟨w0, hW⟩ : ∃ w0, (w.alloc (.cells #[.int .i64 f.Kind, .int .i64 f.From, .int .i64 f.To, .int .i64 f.Seq, .int .i64 f.Fragment, .bool f.More, .bool f.Retry, .int .i64 f.Duration, .slice A n c] 45)).alloc (.cells #[.int .i64 0, .int .i64 0, .int .i64 0, .slice none 0 0, .int .i64 0] 58) = w0 := ⟨_, rfl⟩
  rw [hW]
  have B0 := Lib.hid (show Below w.heap.size w w0 by rw [← hW]; exact ((Below.refl _ _).alloc (by simp <;> omega) _).alloc (by simp <;> omega) _)
  have X0 := Lib.hid (show Bx 45 w0 (w.heap.size) #[.int .i64 f.Kind, .int .i64 f.From, .int .i64 f.To, .int .i64 f.Seq, .int .i64 f.Fragment, .bool f.More, .bool f.Retry, .int .i64 f.Duration, .slice A n c] by
      rw [← hW]
      have hh := Bx.made 45 w #[.int .i64 f.Kind, .int .i64 f.From, .int .i64 f.To, .int .i64 f.Seq, .int .i64 f.Fragment, .bool f.More, .bool f.Retry, .int .i64 f.Duration, .slice A n c]
      exact (hh.below (below_box _ _)))
  have Z0 := Lib.hid (show Bx 58 w0 (w.heap.size + 1) #[.int .i64 0, .int .i64 0, .int .i64 0, .slice none 0 0, .int .i64 0] by
      rw [← hW]
      have hh : Bx 58 ((w.alloc (.cells #[.int .i64 f.Kind, .int .i64 f.From, .int .i64 f.To, .int .i64 f.Seq, .int .i64 f.Fragment, .bool f.More, .bool f.Retry, .int .i64 f.Duration, .slice A n c] 45)).alloc (.cells #[.int .i64 0, .int .i64 0, .int .i64 0, .slice none 0 0, .int .i64 0] 58)) (w.heap.size + 1) #[.int .i64 0, .int .i64 0, .int .i64 0, .slice none 0 0, .int .i64 0] := by have hh := Bx.made 58 (w.alloc (.cells #[.int .i64 f.Kind, .int .i64 f.From, .int .i64 f.To, .int .i64 f.Seq, .int .i64 f.Fragment, .bool f.More, .bool f.Retry, .int .i64 f.Duration, .slice A n c] 45)) #[.int .i64 0, .int .i64 0, .int .i64 0, .slice none 0 0, .int .i64 0]; simpa using hh
      exact hh)
  have R0 := Lib.hid (show Rd .u8 w0 (lo) (hi) A n c f.Body by rw [← hW]; exact ((RW.out.below (below_box _ _)).below (below_box _ _)))
  clear hW
  have LTX := Lib.hid X0.out.lt
  have LTZ := Lib.hid Z0.out.lt
  refine reg.region_tail reg.Bel 10 15 [some [], some [(0, 5)], some [], some [(2, 7)], some [], some [], some [(5, 10)], some [(4, 9), (6, 11)], some [], some [(1, 6), (3, 8), (7, 12), (8, 13)], none] [(0, 5), (1, 6), (2, 7), (3, 8), (4, 9), (5, 10), (6, 11), (7, 12), (8, 13), (9, 14)]
    (fun w' => Below w.heap.size w w' ∧ Bx 45 w' (w.heap.size) #[.int .i64 f.Kind, .int .i64 f.From, .int .i64 f.To, .int .i64 f.Seq, .int .i64 f.Fragment, .bool f.More, .bool f.Retry, .int .i64 f.Duration, .slice A n c] ∧ Bx 58 w' (w.heap.size + 1) #[.int .i64 0, .int .i64 0, .int .i64 0, .slice none 0 0, .int .i64 0] ∧ Rd .u8 w' (lo) (hi) A n c f.Body ∧ True)
    (reg.rl [reg.is (.pointer (some ⟨w.heap.size, 1, none⟩)), reg.is (.int .i64 f.From), reg.is (.pointer (some ⟨w.heap.size, 3, none⟩)), reg.is (.int .i64 f.Seq), stw.ownE 5 .u8 (w.heap.size + 1 + 1), reg.is (.pointer (some ⟨w.heap.size, 8, none⟩)), reg.is (.slice A n c), stw.ownf 5 .u8 (w.heap.size + 1 + 1) f.Body (fun A n c => .slice A n c), reg.is (.int .i64 now), stw.ownf 5 .u8 (w.heap.size + 1 + 1) f.Body (fun A n c => .agg #[.int .i64 f.From, .int .i64 f.Seq, .int .i64 1, .slice A n c, .int .i64 now]), reg.free])
    (by kernel_rfl) rfl (by kernel_rfl) (by kernel_rfl) rfl
    (fun w1 w2 hc hb => ⟨hc.1.trans (hb.mono hc.1.size), hc.2.1.below hb, hc.2.2.1.below hb, hc.2.2.2.1.below hb, trivial⟩) (reg.rl_keep _) (⟨own.below_drew B0.out, X0.out.same rfl, Z0.out.same rfl, own.rd_drew R0.out, trivial⟩) (by kernel_rfl) ⟨?_, ?_, ?_, ?_, ?_, ?_, ?_, ?_, ?_, ?_, trivial⟩ ?_
  · refine fun w8 hc  K hK => ?_
    (try simp only [Act.put, List.setIfInBounds_toArray, List.set_cons_zero, List.set_cons_succ])
    go_simp
    exact hK (.pointer (some ⟨w.heap.size, 1, none⟩)) _ rfl (Below.refl _ _)
  · refine fun w8 hc v0 h0 K hK => ?_
    obtain rfl : v0 = .pointer (some ⟨w.heap.size, 1, none⟩) := h0
    (try simp only [Act.put, List.setIfInBounds_toArray, List.set_cons_zero, List.set_cons_succ])
    have c0 : w8.cell? ⟨w.heap.size, 1, none⟩ = some (.int .i64 f.From) := hc.2.1.cell 1
    go_simp
    exact hK (.int .i64 f.From) _ rfl (Below.refl _ _)
  · refine fun w8 hc  K hK => ?_
    (try simp only [Act.put, List.setIfInBounds_toArray, List.set_cons_zero, List.set_cons_succ])
    go_simp
    exact hK (.pointer (some ⟨w.heap.size, 3, none⟩)) _ rfl (Below.refl _ _)
  · refine fun w8 hc v2 h2 K hK => ?_
    obtain rfl : v2 = .pointer (some ⟨w.heap.size, 3, none⟩) := h2
    (try simp only [Act.put, List.setIfInBounds_toArray, List.set_cons_zero, List.set_cons_succ])
    have c0 : w8.cell? ⟨w.heap.size, 3, none⟩ = some (.int .i64 f.Seq) := hc.2.1.cell 3
    go_simp
    exact hK (.int .i64 f.Seq) _ rfl (Below.refl _ _)
  · refine fun w8 hc  K hK => ?_
    (try simp only [Act.put, List.setIfInBounds_toArray, List.set_cons_zero, List.set_cons_succ])
    have hql := hc.2.2.1.lt
    go_simp
    exact hK (.slice (some ⟨w8.heap.size, 0, none⟩) 0 0) _ ⟨_, _, _, rfl, (by omega), (Ow.empty _ _ _)⟩ (below_box _ _)
  · refine fun w8 hc  K hK => ?_
    (try simp only [Act.put, List.setIfInBounds_toArray, List.set_cons_zero, List.set_cons_succ])
    go_simp
    exact hK (.pointer (some ⟨w.heap.size, 8, none⟩)) _ rfl (Below.refl _ _)
  · refine fun w8 hc v5 h5 K hK => ?_
    obtain rfl : v5 = .pointer (some ⟨w.heap.size, 8, none⟩) := h5
    (try simp only [Act.put, List.setIfInBounds_toArray, List.set_cons_zero, List.set_cons_succ])
    have c0 : w8.cell? ⟨w.heap.size, 8, none⟩ = some (.slice A n c) := hc.2.1.cell 8
    go_simp
    exact hK (.slice A n c) _ rfl (Below.refl _ _)
  · refine fun w8 hc v4 h4 v6 h6 K hK => ?_
    obtain ⟨q0, lo0, hi0, rfl, hB0, hO0⟩ := h4
    obtain rfl : v6 = .slice A n c := h6
    (try simp only [Act.put, List.setIfInBounds_toArray, List.set_cons_zero, List.set_cons_succ])
    have hql := hc.2.2.1.lt
    have hol := hO0.hi_
    rw [if_pos (by rfl)]
    refine stw.wp_app0 _ _ 22 rfl 5 _ _ .u8 Try.underlying22 HY8.out.1 HY8.out.2.1 HY8.out.2.2.1 (by rw [HY8.out.2.2.2]; omega) rfl rfl rfl hO0 hc.2.2.2.1 HN.out (by have hh := ow_lo hO0; omega) ?_
    intro A4 c4 w4 ho4 hb4
    exact hK _ _ ⟨A4, _, c4, _, _, rfl, hB0, ho4⟩ hb4
  · refine fun w8 hc  K hK => ?_
    (try simp only [Act.put, List.setIfInBounds_toArray, List.set_cons_zero, List.set_cons_succ])
    go_simp
    exact hK (.int .i64 now) _ rfl (Below.refl _ _)
  · refine fun w8 hc v1 h1 v3 h3 v7 h7 v8 h8 K hK => ?_
    obtain rfl : v1 = .int .i64 f.From := h1
    obtain rfl : v3 = .int .i64 f.Seq := h3
    obtain ⟨A1, n1, c1, lo1, hi1, rfl, hB1, hO1⟩ := h7
    obtain rfl : v8 = .int .i64 now := h8
    (try simp only [Act.put, List.setIfInBounds_toArray, List.set_cons_zero, List.set_cons_succ])
    go_simp
    exact hK _ _ ⟨A1, n1, c1, _, _, rfl, hB1, hO1⟩ (Below.refl _ _)
  refine fun wg1 hc v0 h0 v1 h1 v2 h2 v3 h3 v4 h4 v5 h5 v6 h6 v7 h7 v8 h8 v9 h9 => ?_
  obtain rfl : v0 = .pointer (some ⟨w.heap.size, 1, none⟩) := h0
  obtain rfl : v1 = .int .i64 f.From := h1
  obtain rfl : v2 = .pointer (some ⟨w.heap.size, 3, none⟩) := h2
  obtain rfl : v3 = .int .i64 f.Seq := h3
  obtain ⟨q0, lo0, hi0, rfl, hB0, hO0⟩ := h4
  obtain rfl : v5 = .pointer (some ⟨w.heap.size, 8, none⟩) := h5
  obtain rfl : v6 = .slice A n c := h6
  obtain ⟨A1, n1, c1, lo1, hi1, rfl, hB1, hO1⟩ := h7
  obtain rfl : v8 = .int .i64 now := h8
  obtain ⟨A2, n2, c2, lo2, hi2, rfl, hB2, hO2⟩ := h9
  (try simp only [reg.Obs])
  (try simp only [Act.put, List.setIfInBounds_toArray, List.set_cons_zero, List.set_cons_succ])
  simp only [List.drop_succ_cons, List.drop_zero]
  have B1 := Lib.hid hc.1
  have X1 := Lib.hid hc.2.1
  have Z1 := Lib.hid hc.2.2.1
  have R1 := Lib.hid hc.2.2.2.1
  clear hc B0 X0 Z0 R0
  have P1 := Lib.hid hO2
  have HB2 := Lib.hid hB2
  have HH2 := Lib.hid hO2.hi_
  (try clear hO1 hB1)
  clear hO2 hB2
  refine stw.list_store rfl 58 _ _ rfl (w.heap.size + 1) #[.int .i64 f.From, .int .i64 f.Seq, .int .i64 1, .slice A2 n2 c2, .int .i64 now] rfl rfl 58 _ Z1.out rfl szRea (oneRea _ _ _ _ _ _ _) ?_
  intro wz2 hz
  (try simp only [Act.put])
  have B2 := Lib.hid (hz.on B1.out (by have hs0 := LTX.out; have hs1 := LTZ.out; have hs2 := LHR.out; have hs3 := HB2.out; have hs4 := HH2.out; first | omega | (simp <;> omega)))
  have X2 := Lib.hid (hz.keep X1.out (by have hs0 := LTX.out; have hs1 := LTZ.out; have hs2 := LHR.out; have hs3 := HB2.out; have hs4 := HH2.out; first | omega | (simp <;> omega)))
  have Z2 := Lib.hid (hz.box)
  have R2 := Lib.hid (R1.out.same hz.below.size fun b h1 h2 => hz.other b (by have hs0 := LTX.out; have hs1 := LTZ.out; have hs2 := LHR.out; have hs3 := HB2.out; have hs4 := HH2.out; first | omega | (simp <;> omega)))
  have P2 := Lib.hid (P1.out.same hz.below.size fun b h1 h2 => hz.other b (by have hs0 := LTX.out; have hs1 := LTZ.out; have hs2 := LHR.out; have hs3 := HB2.out; have hs4 := HH2.out; first | omega | (simp <;> omega)))
  clear hz B1 X1 Z1 R1 P1
  go_wp2_with fail
  (try simp only [Exit.inBlock, Exit.then])
  refine bodyPost_ret (v := .agg #[.int .i64 f.From, .int .i64 f.Seq, .int .i64 1, .slice A2 n2 c2, .int .i64 now]) ?_ rfl ?_
  · rw [results_cell1 rfl]
    exact stw.back Z2.out Try.underlying58 rfl szRea
  · exact ⟨_, _, _, rfl, (P2.out).up.down (by have := HB2.out; omega), B2.out⟩
end Go.Proofs.Ytjmenbpalihnnaa.fr
