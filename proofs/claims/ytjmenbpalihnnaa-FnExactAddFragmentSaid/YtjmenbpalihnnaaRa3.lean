/- Lists of reassemblies copied, and what is not expired of them. Condition: sizes up to 2^26. -/
import Derived.Test.YtjmenbpalihnnaaRa1
namespace Go.Proofs.Ytjmenbpalihnnaa.fr
open Go.RowKit sl harn bx mrw drk stw
set_option linter.unusedVariables false
set_option linter.unusedSimpArgs false
open ux (Rea Fra rea fra)

theorem live_take {now : Int} {l : List Rea} {k : Nat} {y : Rea} (h : l[k]? = some y) : (l.take (k + 1)).filter (live now) = (l.take k).filter (live now) ++ (if live now y = true then [y] else []) := by
  rw [take_snoc h, List.filter_append]
  by_cases hl : live now y = true
  · rw [if_pos hl]; simp [hl]
  · rw [if_neg hl]; simp [hl]
set_option maxRecDepth 100000 in
set_option maxHeartbeats 4000000 in
theorem implCs (ms : List Rea) (A : Option Addr) (n cap lo hi : Nat) (hn : n ≤ 67108864) (hbd : ∀ y ∈ ms, y.Body.length ≤ 67108864) (w : World) (h : Rq reaS w lo hi A n cap ms) :
    Calls Try.prog 81 #[.slice A n cap] w (CPost ms w) := by
  obtain ⟨i0, hi0, hz0, hz1, hz2⟩ := info_parts infoR
  have HZ := Lib.hid (And.intro hi0 (And.intro hz0 (And.intro hz1 hz2)))
  clear hi0 hz0 hz1 hz2
  obtain ⟨j0, hj0, hy0, hy1, hy2⟩ := info_parts u8Info
  have HY8 := Lib.hid (And.intro hj0 (And.intro hy0 (And.intro hy1 hy2)))
  clear hj0 hy0 hy1 hy2
  have QW := Lib.hid h
  have hqh := h.hi_
  have hqc := h.cap_
  have HBD := Lib.hid hbd
  have HN := Lib.hid hn
  have HLN0 := Lib.hid h.len
  clear h hbd
  have LHQ := Lib.hid hqh
  go_enter Try.func81, Try.ntmps81
  go_wp2_with fail
  obtain ⟨w0, hW⟩ : ∃ w0, w.alloc (.cells #[] 58) = w0 := ⟨_, rfl⟩
  rw [hW]
  have B0 := Lib.hid (show Below w.heap.size w w0 by rw [← hW]; exact (Below.refl _ _).alloc (by simp <;> omega) _)
  have E0 := Lib.hid (show Bx 58 w0 (w.heap.size) #[] by
      rw [← hW]
      have hh := Bx.made 58 w #[]
      exact hh)
  have Q0 := Lib.hid (show Rq reaS w0 lo hi A n cap ms by rw [← hW]; exact (QW.out.below (below_box _ _)))
  clear hW
  have LTE := Lib.hid E0.out.lt
  have O0 := Lib.hid (show Oe reaS w0 (w.heap.size) w0.heap.size (some ⟨w.heap.size, 0, none⟩) 0 0 [] from oe_box (S := reaS) E0.out)
  clear E0
  go_loopw [3, 9] (fun v0 v1 wr => ∃ (k : Nat) (A1 : Option Addr) (c1 : Nat) (es : List (El Rea)), v0 = .slice A1 k c1 ∧ v1 = .int .i64 ((k : Int)) ∧ (k ≤ n) ∧ (es.map (fun e : El Rea => e.x) = ms.take k) ∧ (∃ g, A1 = some ⟨g, 0, none⟩) ∧ Below w.heap.size w wr ∧ Rq reaS wr lo hi A n cap ms ∧ Oe reaS wr w.heap.size wr.heap.size A1 k c1 es) (fun _ i _ => n - (intOf i).toNat)
  case atStart => exact ⟨0, (some ⟨w.heap.size, 0, none⟩), 0, [], rfl, rfl, by omega, by simp, ⟨_, rfl⟩, B0.out, Q0.out, O0.out⟩
  case round =>
    obtain ⟨k, A1, c1, es, rfl, rfl, ghk, ghe, gha, gB1, gQ1, gO1⟩ := hrel
    have B1 := Lib.hid gB1
    have Q1 := Lib.hid gQ1
    have O1 := Lib.hid gO1
    have hk := Lib.hid ghk
    have he := Lib.hid ghe
    have ha := Lib.hid gha
    clear gB1 gQ1 gO1 ghk ghe gha
    have SBR1 := Lib.hid B1.out.size
    have hk := hk.out
    by_cases hlt : k < n
    · obtain ⟨b, off, y, hA, hy, h1, h2, A', n', c', hd, ce0, ce1, ce2, ce3, ce4⟩ := at_ Q1.out hlt
      have HY := Lib.hid hy
      have D1 := Lib.hid hd
      clear hy hd
      subst hA
      have hlt2 : (k : Int) < n := by omega
      have HT := Lib.hid (take_snoc HY.out)
      have HLN := Lib.hid (show n' ≤ 67108864 from (show y.Body.length = n' from D1.out.len) ▸ HBD.out y (List.mem_of_getElem? HY.out))
      go_wp2_with fail
      clear ce0 ce1 ce2 ce3 ce4
      obtain ⟨bv, hbb⟩ : ∃ b, wr.heap.size = b := ⟨_, rfl⟩
      generalize hW : wr.alloc (.cells #[.int .i64 y.From, .int .i64 y.Seq, .int .i64 y.Next, .slice A' n' c', .int .i64 y.Started] 58) = w2
      have LV := Lib.hid (show w.heap.size ≤ bv ∧ hi ≤ bv ∧ wr.heap.size ≤ bv ∧ hi ≤ bv by have h1 := B1.out.size; have h2Q := Q1.out.hi_; have h2O := O1.out.hi_; have h2D := D1.out.hi_; have h3 := hbb; omega)
      have V2 := Lib.hid (show Bx 58 w2 bv #[.int .i64 y.From, .int .i64 y.Seq, .int .i64 y.Next, .slice A' n' c', .int .i64 y.Started] by rw [← hW, ← hbb]; exact Bx.made _ _ _)
      have hb : Below wr.heap.size wr w2 := by rw [← hW]; exact below_box _ _
      (try rw [hbb])
      clear hW hbb
      have SS2 := Lib.hid hb.size
      have B2 := Lib.hid (B1.out.trans (hb.mono B1.out.size))
      have Q2 := Lib.hid (Q1.out.below hb)
      have O2 := Lib.hid (O1.out.below hb)
      have D2 := Lib.hid (D1.out.below hb)
      clear hb B1 Q1 O1 D1
      have LWV := Lib.hid V2.out.lt
      (with_reducible refine (implCr y A' n' c' _ _ _ D2.out HLN.out).mono ?_)
      rintro e w3 hp
      obtain ⟨A2, n2, c2, rfl, ho2, hb⟩ := x_parts hp
      clear hp
      have SS3 := Lib.hid hb.size
      have B3 := Lib.hid (B2.out.trans (hb.mono B2.out.size))
      have V3 := Lib.hid (V2.out.below hb)
      have Q3 := Lib.hid (Q2.out.below hb)
      have O3 := Lib.hid (O2.out.below hb)
      have D3 := Lib.hid (D2.out.below hb)
      clear hb B2 V2 Q2 O2 D2
      have H3 := Lib.hid ho2
      clear ho2
      go_wp2_with (at_builtin; refine list_push w3 rfl _ _ 51 rfl Try.underlying51 HZ.out.1 HZ.out.2.1 HZ.out.2.2.1 (by rw [HZ.out.2.2.2]; omega) rfl rfl rfl O3.out ⟨y, A2, n2, c2⟩ H3.out (by have hlV := LV.out; have hs0 := LTE.out; have hs1 := LHQ.out; have hs2 := SBR1.out; have hs3 := SS2.out; have hs4 := LWV.out; have hs5 := SS3.out; first | omega | (simp <;> omega)) (by have hlV := LV.out; have hs0 := LTE.out; have hs1 := LHQ.out; have hs2 := SBR1.out; have hs3 := SS2.out; have hs4 := LWV.out; have hs5 := SS3.out; first | omega | (simp <;> omega)) (by omega) (by have hlV := LV.out; have hs0 := LTE.out; have hs1 := LHQ.out; have hs2 := SBR1.out; have hs3 := SS2.out; have hs4 := LWV.out; have hs5 := SS3.out; first | omega | (simp <;> omega)) ?_; intro A3 c3 w4 ho hg; have B4 := Lib.hid (below_grown B3.out hg (fun q hq => by have hlV := LV.out; have hs0 := LTE.out; have hs1 := LHQ.out; have hs2 := SBR1.out; have hs3 := SS2.out; have hs4 := LWV.out; have hs5 := SS3.out; have := (O3.out.lo_ hq).1; omega) B3.out.size); have V4 := Lib.hid (grown_bx V3.out hg (fun e => by have hlV := LV.out; have hs0 := LTE.out; have hs1 := LHQ.out; have hs2 := SBR1.out; have hs3 := SS2.out; have hs4 := LWV.out; have hs5 := SS3.out; have := O3.out.lo_ e.symm; omega)); have Q4 := Lib.hid (rq_grown Q3.out O3.out hg (by have hlV := LV.out; have hs0 := LTE.out; have hs1 := LHQ.out; have hs2 := SBR1.out; have hs3 := SS2.out; have hs4 := LWV.out; have hs5 := SS3.out; first | omega | (simp <;> omega))); have H4 := Lib.hid (ow_grown O3.out hg H3.out); have SS4 := Lib.hid hg.size; clear B3 V3 Q3 O3 H3; have O4 := Lib.hid ho; clear ho hg)
      go_roundw
      case rel => exact ⟨k + 1, A3, c3, _, rfl, by go_num, by omega, by rw [List.map_append, he.out, HT.out]; rfl, oe_some O4.out (by omega), B4.out, Q4.out, O4.out.up⟩
      case measure => simp [intOf]; omega
    · have hlt2 : ¬ (k : Int) < n := by omega
      obtain rfl : n = k := by omega
      have HF := Lib.hid (show es.map (fun e : El Rea => e.x) = ms by rw [he.out]; exact List.take_of_length_le (by rw [HLN0.out]; exact Nat.le_refl _))
      obtain ⟨g, hga⟩ := ha.out
      subst hga
      go_wp2_with fail
      go_ret
      exact ⟨_, _, _, es, rfl, HF.out, O1.out.up, B1.out⟩
set_option maxRecDepth 100000 in
set_option maxHeartbeats 4000000 in
theorem specCs (ms : List Rea) (A : Option Addr) (n cap lo hi : Nat) (hn : n ≤ 67108864) (hbd : ∀ y ∈ ms, y.Body.length ≤ 67108864) (w : World) (h : Rq reaS w lo hi A n cap ms) :
    Calls Try.prog 96 #[.slice A n cap] w (CPost ms w) := by
  obtain ⟨i0, hi0, hz0, hz1, hz2⟩ := info_parts infoR
  have HZ := Lib.hid (And.intro hi0 (And.intro hz0 (And.intro hz1 hz2)))
  clear hi0 hz0 hz1 hz2
  obtain ⟨j0, hj0, hy0, hy1, hy2⟩ := info_parts u8Info
  have HY8 := Lib.hid (And.intro hj0 (And.intro hy0 (And.intro hy1 hy2)))
  clear hj0 hy0 hy1 hy2
  have QW := Lib.hid h
  have hqh := h.hi_
  have hqc := h.cap_
  have HBD := Lib.hid hbd
  have HN := Lib.hid hn
  have HLN0 := Lib.hid h.len
  clear h hbd
  have LHQ := Lib.hid hqh
  go_enter Try.func96, Try.ntmps96
  go_wp2_with fail
  obtain ⟨w0, hW⟩ : ∃ w0, w.alloc (.cells #[] 58) = w0 := ⟨_, rfl⟩
  rw [hW]
  have B0 := Lib.hid (show Below w.heap.size w w0 by rw [← hW]; exact (Below.refl _ _).alloc (by simp <;> omega) _)
  have E0 := Lib.hid (show Bx 58 w0 (w.heap.size) #[] by
      rw [← hW]
      have hh := Bx.made 58 w #[]
      exact hh)
  have Q0 := Lib.hid (show Rq reaS w0 lo hi A n cap ms by rw [← hW]; exact (QW.out.below (below_box _ _)))
  clear hW
  have LTE := Lib.hid E0.out.lt
  have O0 := Lib.hid (show Oe reaS w0 (w.heap.size) w0.heap.size (some ⟨w.heap.size, 0, none⟩) 0 0 [] from oe_box (S := reaS) E0.out)
  clear E0
  go_loopw [3, 4] (fun v0 v1 wr => ∃ (k : Nat) (A1 : Option Addr) (c1 : Nat) (es : List (El Rea)), v0 = .slice A1 k c1 ∧ v1 = .int .i64 ((k : Int)) ∧ (k ≤ n) ∧ (es.map (fun e : El Rea => e.x) = ms.take k) ∧ (∃ g, A1 = some ⟨g, 0, none⟩) ∧ Below w.heap.size w wr ∧ Rq reaS wr lo hi A n cap ms ∧ Oe reaS wr w.heap.size wr.heap.size A1 k c1 es) (fun _ i _ => n - (intOf i).toNat)
  case atStart => exact ⟨0, (some ⟨w.heap.size, 0, none⟩), 0, [], rfl, rfl, by omega, by simp, ⟨_, rfl⟩, B0.out, Q0.out, O0.out⟩
  case round =>
    obtain ⟨k, A1, c1, es, rfl, rfl, ghk, ghe, gha, gB1, gQ1, gO1⟩ := hrel
    have B1 := Lib.hid gB1
    have Q1 := Lib.hid gQ1
    have O1 := Lib.hid gO1
    have hk := Lib.hid ghk
    have he := Lib.hid ghe
    have ha := Lib.hid gha
    clear gB1 gQ1 gO1 ghk ghe gha
    have SBR1 := Lib.hid B1.out.size
    have hk := hk.out
    by_cases hlt : k < n
    · obtain ⟨b, off, y, hA, hy, h1, h2, A', n', c', hd, ce0, ce1, ce2, ce3, ce4⟩ := at_ Q1.out hlt
      have HY := Lib.hid hy
      have D1 := Lib.hid hd
      clear hy hd
      subst hA
      have hlt2 : (k : Int) < n := by omega
      have HT := Lib.hid (take_snoc HY.out)
      have HLN := Lib.hid (show n' ≤ 67108864 from (show y.Body.length = n' from D1.out.len) ▸ HBD.out y (List.mem_of_getElem? HY.out))
      have PE := Lib.hid (fun (W : World) (hb : Below wr.heap.size wr W) => by rw [hb.cell (World.block_lt_of_cell? _ _ ce3)]; exact ce3 : ∀ W : World, Below wr.heap.size wr W → W.cell? ⟨b, off + k * 5 + 3, none⟩ = some (.slice A' n' c'))
      go_upto_region 6 with fail
      obtain ⟨bv, hbb⟩ : ∃ b, wr.heap.size = b := ⟨_, rfl⟩
      generalize hW : wr.alloc (.cells #[.int .i64 y.From, .int .i64 y.Seq, .int .i64 y.Next, .slice A' n' c', .int .i64 y.Started] 58) = w2
      have LV := Lib.hid (show w.heap.size ≤ bv ∧ hi ≤ bv ∧ wr.heap.size ≤ bv ∧ hi ≤ bv by have h1 := B1.out.size; have h2Q := Q1.out.hi_; have h2O := O1.out.hi_; have h2D := D1.out.hi_; have h3 := hbb; omega)
      have V2 := Lib.hid (show Bx 58 w2 bv #[.int .i64 y.From, .int .i64 y.Seq, .int .i64 y.Next, .slice A' n' c', .int .i64 y.Started] by rw [← hW, ← hbb]; exact Bx.made _ _ _)
      have hb : Below wr.heap.size wr w2 := by rw [← hW]; exact below_box _ _
      have HBV := Lib.hid hb
      (try rw [hbb])
      clear hW hbb
      have SS2 := Lib.hid hb.size
      have B2 := Lib.hid (B1.out.trans (hb.mono B1.out.size))
      have Q2 := Lib.hid (Q1.out.below hb)
      have O2 := Lib.hid (O1.out.below hb)
      have D2 := Lib.hid (D1.out.below hb)
      clear hb B1 Q1 O1 D1
      have LWV := Lib.hid V2.out.lt
      have pe3 := PE.out _ (HBV.out.trans ((below_box w2 (.cells #[] 5)).mono HBV.out.size))
      clear ce0 ce1 ce2 ce3 ce4
      go_upto_region 7 with (at_builtin; refine wpList_app _ rfl _ _ 22 rfl 5 j0 _ .u8 Try.underlying22 HY8.out.1 HY8.out.2.1 HY8.out.2.2.1 (by rw [HY8.out.2.2.2]; omega) rfl rfl rfl (Ow.empty _ _ _) (D2.out.alloc _) (by have := HLN.out; omega) (by simp) ?_; intro A2 c2 w3 ho hb1; have hb : Below w2.heap.size w2 w3 := (below_box w2 (.cells #[] 5)).trans hb1; have ho2 : Ow 5 .u8 w3 w2.heap.size w3.heap.size A2 n' c2 y.Body := (by simpa using ho); clear ho hb1; have SS3 := Lib.hid hb.size; have B3 := Lib.hid (B2.out.trans (hb.mono B2.out.size)); have V3 := Lib.hid (V2.out.below hb); have Q3 := Lib.hid (Q2.out.below hb); have O3 := Lib.hid (O2.out.below hb); have D3 := Lib.hid (D2.out.below hb); clear hb B2 V2 Q2 O2 D2; have H3 := Lib.hid ho2; clear ho2; rw [Nat.zero_add]; have cV0 : w3.cell? ⟨bv, 0, none⟩ = some (.int .i64 y.From) := V3.out.cell 0; have fV0 : w3.frozen? ⟨bv, 0, none⟩ = false := V3.out.free 0; have cV1 : w3.cell? ⟨bv, 1, none⟩ = some (.int .i64 y.Seq) := V3.out.cell 1; have fV1 : w3.frozen? ⟨bv, 1, none⟩ = false := V3.out.free 1; have cV2 : w3.cell? ⟨bv, 2, none⟩ = some (.int .i64 y.Next) := V3.out.cell 2; have fV2 : w3.frozen? ⟨bv, 2, none⟩ = false := V3.out.free 2; have cV3 : w3.cell? ⟨bv, 3, none⟩ = some (.slice A' n' c') := V3.out.cell 3; have fV3 : w3.frozen? ⟨bv, 3, none⟩ = false := V3.out.free 3; have cV4 : w3.cell? ⟨bv, 4, none⟩ = some (.int .i64 y.Started) := V3.out.cell 4; have fV4 : w3.frozen? ⟨bv, 4, none⟩ = false := V3.out.free 4)
      clear pe3
      clear cV0 fV0 cV1 fV1 cV2 fV2 cV3 fV3 cV4 fV4
      have hWW : (w3.setCell ⟨bv, 3, none⟩ (.slice A2 n' c2)) = (w3.setCell ⟨bv, 3, none⟩ (.slice A2 n' c2)) := rfl
      obtain ⟨w4, hW⟩ : ∃ wy, (w3.setCell ⟨bv, 3, none⟩ (.slice A2 n' c2)) = wy := ⟨_, rfl⟩
      rw [hW]
      clear hWW
      have B4 := Lib.hid (show Below w.heap.size w w4 by rw [← hW]; exact (B3.out.setCell (p := ⟨bv, 3, none⟩) (by have hlV := LV.out; have hs0 := LTE.out; have hs1 := LHQ.out; have hs2 := SBR1.out; have hs3 := SS2.out; have hs4 := LWV.out; have hs5 := SS3.out; first | omega | (simp <;> omega)) _))
      have V4 := Lib.hid (show Bx 58 w4 (bv) #[.int .i64 y.From, .int .i64 y.Seq, .int .i64 y.Next, .slice A2 n' c2, .int .i64 y.Started] by rw [← hW]; exact (V3.out.set 3 _))
      have Q4 := Lib.hid (show Rq reaS w4 lo hi (some ⟨b, off, none⟩) n cap ms by rw [← hW]; exact (Q3.out.same (by simp [World.setCell]) fun b h1 h2 => by rw [Below.heap_setCell _ _ _ _ (by have hlV := LV.out; have hs0 := LTE.out; have hs1 := LHQ.out; have hs2 := SBR1.out; have hs3 := SS2.out; have hs4 := LWV.out; have hs5 := SS3.out; first | omega | (simp <;> omega))]))
      have O4 := Lib.hid (show Oe reaS w4 w.heap.size wr.heap.size A1 k c1 es by rw [← hW]; exact (O3.out.same (by simp [World.setCell]) fun b h1 h2 => by rw [Below.heap_setCell _ _ _ _ (by have hlV := LV.out; have hs0 := LTE.out; have hs1 := LHQ.out; have hs2 := SBR1.out; have hs3 := SS2.out; have hs4 := LWV.out; have hs5 := SS3.out; first | omega | (simp <;> omega))]))
      have H4 := Lib.hid (show Ow 5 .u8 w4 (w2.heap.size) (w3.heap.size) A2 n' c2 y.Body by rw [← hW]; exact (H3.out.same (by simp [World.setCell]) fun b h1 h2 => by rw [Below.heap_setCell _ _ _ _ (by have hlV := LV.out; have hs0 := LTE.out; have hs1 := LHQ.out; have hs2 := SBR1.out; have hs3 := SS2.out; have hs4 := LWV.out; have hs5 := SS3.out; first | omega | (simp <;> omega))]))
      clear hW B3 V3 Q3 O3 H3
      have SQ4 := Lib.hid V4.out.lt
      have cV0 : w4.cell? ⟨bv, 0, none⟩ = some (.int .i64 y.From) := V4.out.cell 0
      have cV1 : w4.cell? ⟨bv, 1, none⟩ = some (.int .i64 y.Seq) := V4.out.cell 1
      have cV2 : w4.cell? ⟨bv, 2, none⟩ = some (.int .i64 y.Next) := V4.out.cell 2
      have cV3 : w4.cell? ⟨bv, 3, none⟩ = some (.slice A2 n' c2) := V4.out.cell 3
      have cV4 : w4.cell? ⟨bv, 4, none⟩ = some (.int .i64 y.Started) := V4.out.cell 4
      go_wp2_with (at_builtin; refine list_push w4 rfl _ _ 51 rfl Try.underlying51 HZ.out.1 HZ.out.2.1 HZ.out.2.2.1 (by rw [HZ.out.2.2.2]; omega) rfl rfl rfl O4.out ⟨y, A2, n', c2⟩ H4.out (by have hlV := LV.out; have hs0 := LTE.out; have hs1 := LHQ.out; have hs2 := SBR1.out; have hs3 := SS2.out; have hs4 := LWV.out; have hs5 := SS3.out; have hs6 := SQ4.out; first | omega | (simp <;> omega)) (by have hlV := LV.out; have hs0 := LTE.out; have hs1 := LHQ.out; have hs2 := SBR1.out; have hs3 := SS2.out; have hs4 := LWV.out; have hs5 := SS3.out; have hs6 := SQ4.out; first | omega | (simp <;> omega)) (by omega) (by have hlV := LV.out; have hs0 := LTE.out; have hs1 := LHQ.out; have hs2 := SBR1.out; have hs3 := SS2.out; have hs4 := LWV.out; have hs5 := SS3.out; have hs6 := SQ4.out; first | omega | (simp <;> omega)) ?_; intro A3 c3 w5 ho hg; have B5 := Lib.hid (below_grown B4.out hg (fun q hq => by have hlV := LV.out; have hs0 := LTE.out; have hs1 := LHQ.out; have hs2 := SBR1.out; have hs3 := SS2.out; have hs4 := LWV.out; have hs5 := SS3.out; have hs6 := SQ4.out; have := (O4.out.lo_ hq).1; omega) B4.out.size); have V5 := Lib.hid (grown_bx V4.out hg (fun e => by have hlV := LV.out; have hs0 := LTE.out; have hs1 := LHQ.out; have hs2 := SBR1.out; have hs3 := SS2.out; have hs4 := LWV.out; have hs5 := SS3.out; have hs6 := SQ4.out; have := O4.out.lo_ e.symm; omega)); have Q5 := Lib.hid (rq_grown Q4.out O4.out hg (by have hlV := LV.out; have hs0 := LTE.out; have hs1 := LHQ.out; have hs2 := SBR1.out; have hs3 := SS2.out; have hs4 := LWV.out; have hs5 := SS3.out; have hs6 := SQ4.out; first | omega | (simp <;> omega))); have H5 := Lib.hid (ow_grown O4.out hg H4.out); have SS5 := Lib.hid hg.size; clear B4 V4 Q4 O4 H4; have O5 := Lib.hid ho; clear ho hg)
      clear cV0 cV1 cV2 cV3 cV4
      go_roundw
      case rel => exact ⟨k + 1, A3, c3, _, rfl, by go_num, by omega, by rw [List.map_append, he.out, HT.out]; rfl, oe_some O5.out (by omega), B5.out, Q5.out, O5.out.up⟩
      case measure => simp [intOf]; omega
    · have hlt2 : ¬ (k : Int) < n := by omega
      obtain rfl : n = k := by omega
      have HF := Lib.hid (show es.map (fun e : El Rea => e.x) = ms by rw [he.out]; exact List.take_of_length_le (by rw [HLN0.out]; exact Nat.le_refl _))
      obtain ⟨g, hga⟩ := ha.out
      subst hga
      go_wp2_with fail
      go_ret
      exact ⟨_, _, _, es, rfl, HF.out, O1.out.up, B1.out⟩
set_option maxRecDepth 100000 in
set_option maxHeartbeats 4000000 in
theorem implXr (now : Int) (ms : List Rea) (A : Option Addr) (n cap lo hi : Nat) (hn : n ≤ 67108864) (hbd : ∀ y ∈ ms, y.Body.length ≤ 67108864) (w : World) (h : Rq reaS w lo hi A n cap ms) :
    Calls Try.prog 34 #[.slice A n cap, .int .i64 now] w (SPost (ms.filter (live now)) w) := by
  obtain ⟨i0, hi0, hz0, hz1, hz2⟩ := info_parts infoR
  have HZ := Lib.hid (And.intro hi0 (And.intro hz0 (And.intro hz1 hz2)))
  clear hi0 hz0 hz1 hz2
  have QW := Lib.hid h
  have hqh := h.hi_
  have hqc := h.cap_
  have HBD := Lib.hid hbd
  have HN := Lib.hid hn
  have HLN0 := Lib.hid h.len
  clear h hbd
  have LHQ := Lib.hid hqh
  go_enter Try.func34, Try.ntmps34
  go_wp2_with fail
  obtain ⟨w0, hW⟩ : ∃ w0, w.alloc (.cells #[] 58) = w0 := ⟨_, rfl⟩
  rw [hW]
  have B0 := Lib.hid (show Below w.heap.size w w0 by rw [← hW]; exact (Below.refl _ _).alloc (by simp <;> omega) _)
  have E0 := Lib.hid (show Bx 58 w0 (w.heap.size) #[] by
      rw [← hW]
      have hh := Bx.made 58 w #[]
      exact hh)
  have Q0 := Lib.hid (show Rq reaS w0 lo hi A n cap ms by rw [← hW]; exact (QW.out.below (below_box _ _)))
  clear hW
  have LTE := Lib.hid E0.out.lt
  have O0 := Lib.hid (show Oe reaS w0 (w.heap.size) w0.heap.size (some ⟨w.heap.size, 0, none⟩) 0 0 [] from oe_box (S := reaS) E0.out)
  clear E0
  go_loopw [5, 11] (fun v0 v1 wr => ∃ (k : Nat) (m : Nat) (A1 : Option Addr) (c1 : Nat) (es : List (El Rea)), v0 = .slice A1 m c1 ∧ v1 = .int .i64 ((k : Int)) ∧ (k ≤ n ∧ m ≤ k) ∧ (es.map (fun e : El Rea => e.x) = (ms.take k).filter (live now)) ∧ Below w.heap.size w wr ∧ Rq reaS wr lo hi A n cap ms ∧ Oe reaS wr w.heap.size wr.heap.size A1 m c1 es) (fun _ i _ => n - (intOf i).toNat)
  case atStart => exact ⟨0, 0, (some ⟨w.heap.size, 0, none⟩), 0, [], rfl, rfl, by omega, by simp, B0.out, Q0.out, O0.out⟩
  case round =>
    obtain ⟨k, m, A1, c1, es, rfl, rfl, ghk, ghe, gB1, gQ1, gO1⟩ := hrel
    have B1 := Lib.hid gB1
    have Q1 := Lib.hid gQ1
    have O1 := Lib.hid gO1
    have hk := Lib.hid ghk
    have he := Lib.hid ghe
    clear gB1 gQ1 gO1 ghk ghe
    have SBR1 := Lib.hid B1.out.size
    have hmk := hk.out.2
    have hk := hk.out.1
    by_cases hlt : k < n
    · obtain ⟨b, off, y, hA, hy, h1, h2, A', n', c', hd, ce0, ce1, ce2, ce3, ce4⟩ := at_ Q1.out hlt
      have HY := Lib.hid hy
      have D1 := Lib.hid hd
      clear hy hd
      subst hA
      have hlt2 : (k : Int) < n := by omega
      have HT := Lib.hid (live_take (now := now) HY.out)
      obtain ⟨sv, hsv⟩ : ∃ s, IntKind.i64.wrap (y.Started + 50) = s := ⟨_, rfl⟩
      have HLN := Lib.hid (show n' ≤ 67108864 from (show y.Body.length = n' from D1.out.len) ▸ HBD.out y (List.mem_of_getElem? HY.out))
      by_cases hexp : now ≤ sv
      · have hd1 : decide (now ≤ sv) = true := decide_eq_true hexp
        have HK := Lib.hid (show (ms.take (k + 1)).filter (live now) = (ms.take k).filter (live now) ++ [y] by rw [HT.out, if_pos (by unfold live; rw [hsv]; exact hd1)])
        go_upto_region 5 with fail
        obtain ⟨bv, hbb⟩ : ∃ b, wr.heap.size = b := ⟨_, rfl⟩
        generalize hW : wr.alloc (.cells #[.int .i64 y.From, .int .i64 y.Seq, .int .i64 y.Next, .slice A' n' c', .int .i64 y.Started] 58) = w2
        have LV := Lib.hid (show w.heap.size ≤ bv ∧ hi ≤ bv ∧ wr.heap.size ≤ bv ∧ hi ≤ bv by have h1 := B1.out.size; have h2Q := Q1.out.hi_; have h2O := O1.out.hi_; have h2D := D1.out.hi_; have h3 := hbb; omega)
        have V2 := Lib.hid (show Bx 58 w2 bv #[.int .i64 y.From, .int .i64 y.Seq, .int .i64 y.Next, .slice A' n' c', .int .i64 y.Started] by rw [← hW, ← hbb]; exact Bx.made _ _ _)
        have hb : Below wr.heap.size wr w2 := by rw [← hW]; exact below_box _ _
        (try rw [hbb])
        clear hW hbb
        have SS2 := Lib.hid hb.size
        have B2 := Lib.hid (B1.out.trans (hb.mono B1.out.size))
        have Q2 := Lib.hid (Q1.out.below hb)
        have O2 := Lib.hid (O1.out.below hb)
        have D2 := Lib.hid (D1.out.below hb)
        clear hb B1 Q1 O1 D1
        have LWV := Lib.hid V2.out.lt
        clear ce0 ce1 ce2 ce3 ce4
        have cV0 : w2.cell? ⟨bv, 0, none⟩ = some (.int .i64 y.From) := V2.out.cell 0
        have cV1 : w2.cell? ⟨bv, 1, none⟩ = some (.int .i64 y.Seq) := V2.out.cell 1
        have cV2 : w2.cell? ⟨bv, 2, none⟩ = some (.int .i64 y.Next) := V2.out.cell 2
        have cV3 : w2.cell? ⟨bv, 3, none⟩ = some (.slice A' n' c') := V2.out.cell 3
        have cV4 : w2.cell? ⟨bv, 4, none⟩ = some (.int .i64 y.Started) := V2.out.cell 4
        go_wp2_with fail
        clear cV0 cV1 cV2 cV3 cV4
        (with_reducible refine (implCr y A' n' c' _ _ _ D2.out HLN.out).mono ?_)
        rintro e w3 hp
        obtain ⟨A2, n2, c2, rfl, ho2, hb⟩ := x_parts hp
        clear hp
        have SS3 := Lib.hid hb.size
        have B3 := Lib.hid (B2.out.trans (hb.mono B2.out.size))
        have V3 := Lib.hid (V2.out.below hb)
        have Q3 := Lib.hid (Q2.out.below hb)
        have O3 := Lib.hid (O2.out.below hb)
        have D3 := Lib.hid (D2.out.below hb)
        clear hb B2 V2 Q2 O2 D2
        have H3 := Lib.hid ho2
        clear ho2
        go_wp2_with (at_builtin; refine list_push w3 rfl _ _ 51 rfl Try.underlying51 HZ.out.1 HZ.out.2.1 HZ.out.2.2.1 (by rw [HZ.out.2.2.2]; omega) rfl rfl rfl O3.out ⟨y, A2, n2, c2⟩ H3.out (by have hlV := LV.out; have hs0 := LTE.out; have hs1 := LHQ.out; have hs2 := SBR1.out; have hs3 := SS2.out; have hs4 := LWV.out; have hs5 := SS3.out; first | omega | (simp <;> omega)) (by have hlV := LV.out; have hs0 := LTE.out; have hs1 := LHQ.out; have hs2 := SBR1.out; have hs3 := SS2.out; have hs4 := LWV.out; have hs5 := SS3.out; first | omega | (simp <;> omega)) (by omega) (by have hlV := LV.out; have hs0 := LTE.out; have hs1 := LHQ.out; have hs2 := SBR1.out; have hs3 := SS2.out; have hs4 := LWV.out; have hs5 := SS3.out; first | omega | (simp <;> omega)) ?_; intro A3 c3 w4 ho hg; have B4 := Lib.hid (below_grown B3.out hg (fun q hq => by have hlV := LV.out; have hs0 := LTE.out; have hs1 := LHQ.out; have hs2 := SBR1.out; have hs3 := SS2.out; have hs4 := LWV.out; have hs5 := SS3.out; have := (O3.out.lo_ hq).1; omega) B3.out.size); have V4 := Lib.hid (grown_bx V3.out hg (fun e => by have hlV := LV.out; have hs0 := LTE.out; have hs1 := LHQ.out; have hs2 := SBR1.out; have hs3 := SS2.out; have hs4 := LWV.out; have hs5 := SS3.out; have := O3.out.lo_ e.symm; omega)); have Q4 := Lib.hid (rq_grown Q3.out O3.out hg (by have hlV := LV.out; have hs0 := LTE.out; have hs1 := LHQ.out; have hs2 := SBR1.out; have hs3 := SS2.out; have hs4 := LWV.out; have hs5 := SS3.out; first | omega | (simp <;> omega))); have H4 := Lib.hid (ow_grown O3.out hg H3.out); have SS4 := Lib.hid hg.size; clear B3 V3 Q3 O3 H3; have O4 := Lib.hid ho; clear ho hg)
        go_roundw
        case rel => exact ⟨k + 1, m + 1, A3, c3, _, rfl, by go_num, ⟨by omega, by omega⟩, by rw [List.map_append, he.out, HK.out]; rfl, B4.out, Q4.out, O4.out.up⟩
        case measure => simp [intOf]; omega
      · have hd1 : decide (now ≤ sv) = false := decide_eq_false hexp
        have HK := Lib.hid (show (ms.take (k + 1)).filter (live now) = (ms.take k).filter (live now) by rw [HT.out, if_neg (by unfold live; rw [hsv, hd1]; simp), List.append_nil])
        go_upto_region 5 with fail
        obtain ⟨bv, hbb⟩ : ∃ b, wr.heap.size = b := ⟨_, rfl⟩
        generalize hW : wr.alloc (.cells #[.int .i64 y.From, .int .i64 y.Seq, .int .i64 y.Next, .slice A' n' c', .int .i64 y.Started] 58) = w2
        have LV := Lib.hid (show w.heap.size ≤ bv ∧ hi ≤ bv ∧ wr.heap.size ≤ bv ∧ hi ≤ bv by have h1 := B1.out.size; have h2Q := Q1.out.hi_; have h2O := O1.out.hi_; have h2D := D1.out.hi_; have h3 := hbb; omega)
        have V2 := Lib.hid (show Bx 58 w2 bv #[.int .i64 y.From, .int .i64 y.Seq, .int .i64 y.Next, .slice A' n' c', .int .i64 y.Started] by rw [← hW, ← hbb]; exact Bx.made _ _ _)
        have hb : Below wr.heap.size wr w2 := by rw [← hW]; exact below_box _ _
        (try rw [hbb])
        clear hW hbb
        have SS2 := Lib.hid hb.size
        have B2 := Lib.hid (B1.out.trans (hb.mono B1.out.size))
        have Q2 := Lib.hid (Q1.out.below hb)
        have O2 := Lib.hid (O1.out.below hb)
        have D2 := Lib.hid (D1.out.below hb)
        clear hb B1 Q1 O1 D1
        have LWV := Lib.hid V2.out.lt
        clear ce0 ce1 ce2 ce3 ce4
        have cV0 : w2.cell? ⟨bv, 0, none⟩ = some (.int .i64 y.From) := V2.out.cell 0
        have cV1 : w2.cell? ⟨bv, 1, none⟩ = some (.int .i64 y.Seq) := V2.out.cell 1
        have cV2 : w2.cell? ⟨bv, 2, none⟩ = some (.int .i64 y.Next) := V2.out.cell 2
        have cV3 : w2.cell? ⟨bv, 3, none⟩ = some (.slice A' n' c') := V2.out.cell 3
        have cV4 : w2.cell? ⟨bv, 4, none⟩ = some (.int .i64 y.Started) := V2.out.cell 4
        go_wp2_with fail
        clear cV0 cV1 cV2 cV3 cV4
        go_roundw
        case rel => exact ⟨k + 1, m, A1, c1, es, rfl, by go_num, ⟨by omega, by omega⟩, by rw [he.out, HK.out], B2.out, Q2.out, O2.out.up⟩
        case measure => simp [intOf]; omega
    · have hlt2 : ¬ (k : Int) < n := by omega
      obtain rfl : n = k := by omega
      have HF := Lib.hid (show es.map (fun e : El Rea => e.x) = ms.filter (live now) by rw [he.out, List.take_of_length_le (by rw [HLN0.out]; exact Nat.le_refl _)])
      go_wp2_with fail
      go_ret
      exact ⟨_, _, _, es, rfl, HF.out, O1.out.up, B1.out⟩
set_option maxRecDepth 100000 in
set_option maxHeartbeats 4000000 in
theorem specXr (now : Int) (ms : List Rea) (A : Option Addr) (n cap lo hi : Nat) (hn : n ≤ 67108864) (hbd : ∀ y ∈ ms, y.Body.length ≤ 67108864) (w : World) (h : Rq reaS w lo hi A n cap ms) :
    Calls Try.prog 57 #[.slice A n cap, .int .i64 now] w (SPost (ms.filter (live now)) w) := by
  obtain ⟨i0, hi0, hz0, hz1, hz2⟩ := info_parts infoR
  have HZ := Lib.hid (And.intro hi0 (And.intro hz0 (And.intro hz1 hz2)))
  clear hi0 hz0 hz1 hz2
  have QW := Lib.hid h
  have hqh := h.hi_
  have hqc := h.cap_
  have HBD := Lib.hid hbd
  have HN := Lib.hid hn
  have HLN0 := Lib.hid h.len
  clear h hbd
  have LHQ := Lib.hid hqh
  go_enter Try.func57, Try.ntmps57
  go_wp2_with fail
  obtain ⟨w0, hW⟩ : ∃ w0, w.alloc (.cells #[] 58) = w0 := ⟨_, rfl⟩
  rw [hW]
  have B0 := Lib.hid (show Below w.heap.size w w0 by rw [← hW]; exact (Below.refl _ _).alloc (by simp <;> omega) _)
  have E0 := Lib.hid (show Bx 58 w0 (w.heap.size) #[] by
      rw [← hW]
      have hh := Bx.made 58 w #[]
      exact hh)
  have Q0 := Lib.hid (show Rq reaS w0 lo hi A n cap ms by rw [← hW]; exact (QW.out.below (below_box _ _)))
  clear hW
  have LTE := Lib.hid E0.out.lt
  have O0 := Lib.hid (show Oe reaS w0 (w.heap.size) w0.heap.size (some ⟨w.heap.size, 0, none⟩) 0 0 [] from oe_box (S := reaS) E0.out)
  clear E0
  go_loopw [5, 6] (fun v0 v1 wr => ∃ (k : Nat) (m : Nat) (A1 : Option Addr) (c1 : Nat) (es : List (El Rea)), v0 = .slice A1 m c1 ∧ v1 = .int .i64 ((k : Int)) ∧ (k ≤ n ∧ m ≤ k) ∧ (es.map (fun e : El Rea => e.x) = (ms.take k).filter (live now)) ∧ Below w.heap.size w wr ∧ Rq reaS wr lo hi A n cap ms ∧ Oe reaS wr w.heap.size wr.heap.size A1 m c1 es) (fun _ i _ => n - (intOf i).toNat)
  case atStart => exact ⟨0, 0, (some ⟨w.heap.size, 0, none⟩), 0, [], rfl, rfl, by omega, by simp, B0.out, Q0.out, O0.out⟩
  case round =>
    obtain ⟨k, m, A1, c1, es, rfl, rfl, ghk, ghe, gB1, gQ1, gO1⟩ := hrel
    have B1 := Lib.hid gB1
    have Q1 := Lib.hid gQ1
    have O1 := Lib.hid gO1
    have hk := Lib.hid ghk
    have he := Lib.hid ghe
    clear gB1 gQ1 gO1 ghk ghe
    have SBR1 := Lib.hid B1.out.size
    have hmk := hk.out.2
    have hk := hk.out.1
    by_cases hlt : k < n
    · obtain ⟨b, off, y, hA, hy, h1, h2, A', n', c', hd, ce0, ce1, ce2, ce3, ce4⟩ := at_ Q1.out hlt
      have HY := Lib.hid hy
      have D1 := Lib.hid hd
      clear hy hd
      subst hA
      have hlt2 : (k : Int) < n := by omega
      have HT := Lib.hid (live_take (now := now) HY.out)
      obtain ⟨sv, hsv⟩ : ∃ s, IntKind.i64.wrap (y.Started + 50) = s := ⟨_, rfl⟩
      have HLN := Lib.hid (show n' ≤ 67108864 from (show y.Body.length = n' from D1.out.len) ▸ HBD.out y (List.mem_of_getElem? HY.out))
      by_cases hexp : now ≤ sv
      · have hd1 : decide (now ≤ sv) = true := decide_eq_true hexp
        have HK := Lib.hid (show (ms.take (k + 1)).filter (live now) = (ms.take k).filter (live now) ++ [y] by rw [HT.out, if_pos (by unfold live; rw [hsv]; exact hd1)])
        obtain ⟨j, hj⟩ : ∃ j, k + 1 = j := ⟨_, rfl⟩
        have hj2 : (k : Int) + 1 = (j : Int) := by omega
        have hj3 : IntKind.i64.wrap (j : Int) = (j : Int) := IntWalk.i64_in _ (by omega)
        have HJ := Lib.hid hj
        have HCP := Lib.hid Q1.out.cap_
        have hcut : ∀ W, (Instr.sliceAt 51 (.slice (some ⟨b, off, none⟩) n cap) (some (.int .i64 (k : Int))) (some (.int .i64 (j : Int))) none).run Try.prog W = .ok (.slice (some ⟨b, off + k * 5, none⟩) 1 (cap - k)) W := fun W => by rw [at_slice _ _ Try.underlying51]; have hh := sliceQ_mid (P := Try.prog) 51 58 i0 5 Try.underlying51 HZ.out.1 HZ.out.2.2.1 b off n cap k j (by have := HJ.out; omega) (by have := HJ.out; have := HCP.out; omega) W; rw [show j - k = 1 by have := HJ.out; omega] at hh; exact hh
        clear hj
        go_wp2_with fail
        clear hcut hj2 hj3 ce0 ce1 ce2 ce3 ce4
        have HR1 := Lib.hid (show Rq reaS wr lo hi (some ⟨b, off + k * 5, none⟩) 1 (cap - k) [y] by
            have hh := rq_cut (A' := some ⟨b, off + k * 5, none⟩) Q1.out k (k + 1) (cap - k) (fun b1 o1 e _ => by injection e with e; injection e with e1 e2; subst e1 e2; rfl) (by omega) (by omega) (by have := HCP.out; omega) (by have := HCP.out; unfold maxLen; omega)
            rw [show k + 1 - k = 1 by omega] at hh
            have e9 : (ms.drop k).take 1 = [y] := by
              have hk9 : k < ms.length := by rw [HLN0.out]; exact hlt
              rw [List.drop_eq_getElem_cons hk9]
              have := (List.getElem?_eq_some_iff.1 HY.out).2
              simp [this]
            rw [e9] at hh
            exact hh)
        (with_reducible refine (specCs [y] _ 1 _ lo hi (by omega) (fun y9 h9 => by obtain rfl : y9 = y := (by simpa using h9); have h8 := HLN.out; have h7 := D1.out.len; omega) _ HR1.out).mono ?_)
        rintro e w2 hp
        obtain ⟨g2, nq, cq, fs, rfl, hfs, ho2, hb⟩ := c_parts hp
        clear hp
        have hnq : nq = 1 := by have h1 := ho2.len; have h2 := congrArg List.length hfs; simp at h2; omega
        subst hnq
        have HFS := Lib.hid hfs
        clear hfs
        have SS2 := Lib.hid hb.size
        have B2 := Lib.hid (B1.out.trans (hb.mono B1.out.size))
        have Q2 := Lib.hid (Q1.out.below hb)
        have O2 := Lib.hid (O1.out.below hb)
        have D2 := Lib.hid (D1.out.below hb)
        clear hb B1 Q1 O1 D1
        have H2 := Lib.hid ho2
        clear ho2
        go_upto_region 7 with fail
        go_wp2_with (at_builtin; refine list_more w2 rfl _ _ 51 rfl Try.underlying51 HZ.out.1 HZ.out.2.1 HZ.out.2.2.1 (by rw [HZ.out.2.2.2]; omega) rfl rfl rfl O2.out H2.out.len (H2.out.row.cells (g := g2) rfl) (fun f hf => ⟨_, _, (by have hs0 := LTE.out; have hs1 := LHQ.out; have hs2 := SBR1.out; have hs3 := SS2.out; first | omega | (simp <;> omega)), H2.out.body f hf⟩) (ds_two O2.out H2.out (by have hs0 := LTE.out; have hs1 := LHQ.out; have hs2 := SBR1.out; have hs3 := SS2.out; first | omega | (simp <;> omega))) (by have hs0 := LTE.out; have hs1 := LHQ.out; have hs2 := SBR1.out; have hs3 := SS2.out; omega) (by have hs0 := LTE.out; have hs1 := LHQ.out; have hs2 := SBR1.out; have hs3 := SS2.out; first | omega | (simp <;> omega)) ?_; intro A3 c3 w3 ho hg; have B3 := Lib.hid (below_grown B2.out hg (fun q hq => by have hs0 := LTE.out; have hs1 := LHQ.out; have hs2 := SBR1.out; have hs3 := SS2.out; have := (O2.out.lo_ hq).1; omega) B2.out.size); have Q3 := Lib.hid (rq_grown Q2.out O2.out hg (by have hs0 := LTE.out; have hs1 := LHQ.out; have hs2 := SBR1.out; have hs3 := SS2.out; first | omega | (simp <;> omega))); have H3 := Lib.hid (oe_grown H2.out O2.out hg (by have hs0 := LTE.out; have hs1 := LHQ.out; have hs2 := SBR1.out; have hs3 := SS2.out; first | omega | (simp <;> omega))); have SS3 := Lib.hid hg.size; clear B2 Q2 O2 H2; have O3 := Lib.hid ho; clear ho hg)
        go_roundw
        case rel => exact ⟨k + 1, m + 1, A3, c3, _, rfl, by go_num, ⟨by omega, by omega⟩, by rw [List.map_append, he.out, HK.out, HFS.out], B3.out, Q3.out, O3.out.up⟩
        case measure => simp [intOf]; omega
      · have hd1 : decide (now ≤ sv) = false := decide_eq_false hexp
        have HK := Lib.hid (show (ms.take (k + 1)).filter (live now) = (ms.take k).filter (live now) by rw [HT.out, if_neg (by unfold live; rw [hsv, hd1]; simp), List.append_nil])
        go_wp2_with fail
        go_roundw
        case rel => exact ⟨k + 1, m, A1, c1, es, rfl, by go_num, ⟨by omega, by omega⟩, by rw [he.out, HK.out], B1.out, Q1.out, O1.out.up⟩
        case measure => simp [intOf]; omega
    · have hlt2 : ¬ (k : Int) < n := by omega
      obtain rfl : n = k := by omega
      have HF := Lib.hid (show es.map (fun e : El Rea => e.x) = ms.filter (live now) by rw [he.out, List.take_of_length_le (by rw [HLN0.out]; exact Nat.le_refl _)])
      go_wp2_with fail
      go_ret
      exact ⟨_, _, _, es, rfl, HF.out, O1.out.up, B1.out⟩
end Go.Proofs.Ytjmenbpalihnnaa.fr
