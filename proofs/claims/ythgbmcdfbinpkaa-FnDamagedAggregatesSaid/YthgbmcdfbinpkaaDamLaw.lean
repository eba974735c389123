/- The law function of damaged aggregates (FnDamagedAggregates) returns true and leaves what was there. Condition: the argument is a slice of bytes that came in. -/
import Derived.Test.YthgbmcdfbinpkaaAg8
namespace Go.Proofs.Ythgbmcdfbinpkaa.damLaw
open Go.RowKit sl harn bx rng mrw drk stw ag
set_option linter.unusedVariables false
set_option linter.unusedSimpArgs false

/-- Frame number i of the law. -/
def dl (zc : List Int) (len i : Nat) : List Int := [(i : Int) + 1, 200, 201, 202, 203].take (1 + (lawAt.atv zc len (i + 1) % 5).toNat)
theorem dl_good {zc : List Int} {len i : Nat} (h : 0 ≤ lawAt.atv zc len (i + 1)) : ag.Good (dl zc len i) := ⟨_, 1 + (lawAt.atv zc len (i + 1) % 5).toNat, by omega, by omega, rfl⟩
theorem range_snocD {α : Type} (g : Nat → α) (k : Nat) : (List.range (k + 1)).map g = (List.range k).map g ++ [g k] := by rw [List.range_succ, List.map_append]; rfl
theorem Oe.upto {w W : World} {lo hi n c B : Nat} {A : Option Addr} {es : List (El (List Int))} (h : Oe bsS w lo hi A n c es) (hb : Below B w W) (hB : hi ≤ B) : Oe bsS W lo hi A n c es := h.same hb.size fun b _ hlt => hb.block b (by omega)
theorem oe_cell {w : World} {lo hi n c k : Nat} {A : Option Addr} {es : List (El (List Int))} {e : El (List Int)} (h : Oe bsS w lo hi A n c es) (he : es[k]? = some e) : ∃ g, A = some ⟨g, 0, none⟩ ∧ w.cell? ⟨g, k, none⟩ = some (.slice e.A e.n e.c) := by
  obtain ⟨g, e1, _, _, hr⟩ := h.at_ he
  refine ⟨g, e1, ?_⟩
  have hh : w.cell? ⟨g, k * 1 + 0, none⟩ = some (.slice e.A e.n e.c) := hr 0 _ rfl
  rwa [Nat.mul_one, Nat.add_zero] at hh
theorem take_full {α : Type} {l : List α} {n : Nat} (h : l.length = n) : l.take n = l := List.take_of_length_le (by omega)

set_option maxRecDepth 100000 in
set_option maxHeartbeats 16000000 in
theorem walk (a : Option Addr) (len cap : Nat) (zz : List Int) (w : World) (r0 : kit.IsRow .u8 w a len cap zz) :
    Calls Try.prog 4 #[.slice a len cap] w fun e w' => e = .returned (.bool true) ∧ Below w.heap.size w w' := by
  obtain ⟨i0, hi0, hz0, hz1, hz2⟩ := info_parts infoBs
  have HZ := Lib.hid (And.intro hi0 (And.intro hz0 (And.intro hz1 hz2)))
  clear hi0 hz0 hz1 hz2
  obtain ⟨j0, hj0, hy0, hy1, hy2⟩ := info_parts u8Info
  have HY8 := Lib.hid (And.intro hj0 (And.intro hy0 (And.intro hy1 hy2)))
  clear hj0 hy0 hy1 hy2
  obtain ⟨k0, hk0, hx0, hx1, hx2⟩ := info_parts intInfo
  have HI8 := Lib.hid (And.intro hk0 (And.intro hx0 (And.intro hx1 hx2)))
  clear hk0 hx0 hx1 hx2
  obtain ⟨zc, hzc⟩ := sl.Rd.of_row r0
  have HC := Lib.hid (draw.code_of_row r0)
  have hlen : (len : Int) ≤ 9223372036854775807 := by have := HC.out.1; omega
  have Z0 := Lib.hid hzc
  clear r0 hzc
  by_cases hbig : 1048576 < (len : Int)
  · go_enter Try.func4, Try.ntmps4
    go_wp2
    go_ret
    exact ⟨rfl, Below.refl _ _⟩
  have HBG := Lib.hid (show len ≤ 1048576 by omega)
  go_enter Try.func4, Try.ntmps4
  go_wp2_with (go_at_call 12; go_in)
  clear hbig
  obtain ⟨v0, hv0⟩ : ∃ v, lawAt.atv zc len 0 = v := ⟨_, rfl⟩
  have HV0 := Lib.hid hv0
  have hv0r : 0 ≤ v0 ∧ v0 ≤ 255 := by rw [← hv0]; exact lawAt.atv_in Z0.out 0
  obtain ⟨N, hN⟩ : ∃ N : Nat, 2 + v0 % 4 = (N : Int) := ⟨(2 + v0 % 4).toNat, by omega⟩
  have hNr : 2 ≤ N ∧ N ≤ 5 := by omega
  have hmA : IntKind.i64.wrap (2 + v0 % 4) = (N : Int) := by rw [show 2 + v0 % 4 = (N : Int) by omega]; exact IntWalk.i64_in _ (by omega)
  have hmB : IntKind.i64.wrap (2 + v0.tmod 4) = (N : Int) := by rw [Int.tmod_eq_emod_of_nonneg (by omega)]; exact hmA
  obtain ⟨hN2, hN5⟩ := hNr
  have HMA := Lib.hid (And.intro hmA hmB)
  clear hv0 hv0r hN hmA hmB
  have O0 := Lib.hid (Oe.empty bsS w).up
  have B0 := Lib.hid ((Below.refl w.heap.size w).alloc (Nat.le_refl _) (.cells #[] 22))
  have HZW0 := Lib.hid (fun (W : World) (hW : Below w.heap.size w W) => Z0.out.below hW)
  go_wp2_with fail
  go_loopw [3, 4] (fun s i wr => ∃ (k : Nat) (A1 : Option Addr) (c1 : Nat) (es : List (El (List Int))), s = .slice A1 k c1 ∧ i = .int .i64 k ∧ k ≤ N ∧ es.map (fun e : El (List Int) => e.x) = (List.range k).map (dl zc len) ∧ Oe bsS wr w.heap.size wr.heap.size A1 k c1 es ∧ Below w.heap.size w wr) (fun _ i _ => N - (intOf i).toNat)
  case atStart => exact ⟨0, _, _, [], rfl, rfl, by omega, rfl, O0.out, B0.out⟩
  case round =>
    obtain ⟨k, A1, c1, es, rfl, rfl, hk, he, ho, hb⟩ := hrel
    have HO := Lib.hid ho
    have HB := Lib.hid hb
    have HE := Lib.hid he
    have hbs := hb.size
    have hcp1 := ho.rq.cap_
    have hmm := HMA.out
    obtain ⟨hmA, hmB⟩ := hmm
    clear ho hb he
    go_wp2_with fail
    (with_reducible refine (lawAt.at_v 0 0 (by first | rfl | omega) (by omega) v0 a len cap _ _ zc _ (HZW0.out _ HB.out) HBG.out HV0.out).mono ?_)
    rintro e w9 ⟨rfl, rfl⟩
    by_cases hlt : k < N
    · have hlt2 : (k : Int) < N := by omega
      have hw1 : IntKind.i64.wrap ((k : Int) + 1) = (k : Int) + 1 := IntWalk.i64_in _ (by omega)
      have hq8 : ((k : Int) + 1) % 256 = (k : Int) + 1 := by omega
      obtain ⟨v1, hv1⟩ : ∃ v, lawAt.atv zc len (k + 1) = v := ⟨_, rfl⟩
      have HV1 := Lib.hid hv1
      have hv1r : 0 ≤ v1 ∧ v1 ≤ 255 := by rw [← hv1]; exact lawAt.atv_in Z0.out (k + 1)
      obtain ⟨q, hq⟩ : ∃ q : Nat, 1 + v1 % 5 = (q : Int) := ⟨(1 + v1 % 5).toNat, by omega⟩
      have hqr : 1 ≤ q ∧ q ≤ 5 := by omega
      have hrA : IntKind.i64.wrap (1 + v1 % 5) = (q : Int) := by rw [show 1 + v1 % 5 = (q : Int) by omega]; exact IntWalk.i64_in _ (by omega)
      have hrB : IntKind.i64.wrap (1 + v1.tmod 5) = (q : Int) := by rw [Int.tmod_eq_emod_of_nonneg (by omega)]; exact hrA
      have HDL := Lib.hid (show dl zc len k = [(k : Int) + 1, 200, 201, 202, 203].take q by unfold dl; rw [hv1, show 1 + (v1 % 5).toNat = q by omega])
      obtain ⟨hq1, hq5⟩ := hqr
      clear hv1 hq
      have F0 := Lib.hid (Ow.lit (k := .u8) (E := 5) (n := 5) wr #[.int .u8 ((k : Int) + 1), .int .u8 200, .int .u8 201, .int .u8 202, .int .u8 203] [(k : Int) + 1, 200, 201, 202, 203] rfl (fun z hz => by simp only [List.mem_cons, List.not_mem_nil, or_false] at hz; rcases hz with rfl | rfl | rfl | rfl | rfl <;> exact WalkArith.wf_u8 (by omega)) (by unfold maxLen; simp) rfl)
      go_wp2_with fail
      obtain ⟨w5, hW⟩ : ∃ v, wr.alloc (.cells #[.int .u8 ((k : Int) + 1), .int .u8 200, .int .u8 201, .int .u8 202, .int .u8 203] 5) = v := ⟨_, rfl⟩
      have F5 := Lib.hid (show Ow 5 .u8 w5 wr.heap.size w5.heap.size (some ⟨wr.heap.size, 0, none⟩) 5 5 [(k : Int) + 1, 200, 201, 202, 203] by rw [← hW]; exact F0.out)
      have HBX := Lib.hid (show Below wr.heap.size wr w5 by rw [← hW]; exact below_box _ _)
      rw [hW]
      clear hW F0
      have HO5 := Lib.hid (HO.out.below HBX.out)
      have HB5 := Lib.hid (HB.out.trans (HBX.out.mono hbs))
      have hs5 := HBX.out.size
      have F6 := Lib.hid (show Ow 5 .u8 w5 wr.heap.size w5.heap.size (some ⟨wr.heap.size, 0, none⟩) q 5 (dl zc len k) by rw [HDL.out]; exact ow_takeB F5.out hq5)
      clear F5 HO HB
      (with_reducible refine (lawAt.at_v (k + 1) ((k : Int) + 1) (by first | rfl | omega) (by omega) v1 a len cap _ _ zc _ (HZW0.out _ HB5.out) HBG.out HV1.out).mono ?_)
      rintro e w9 ⟨rfl, rfl⟩
      have hqI : (q : Int) ≤ 5 := by omega
      have hqI0 : (0 : Int) ≤ (q : Int) := by omega
      go_wp2_with (at_builtin; refine list_push (S := bsS) w5 rfl _ _ 24 rfl Try.underlying24 HZ.out.1 HZ.out.2.1 HZ.out.2.2.1 (by rw [HZ.out.2.2.2]; omega) rfl rfl rfl HO5.out ⟨dl zc len k, some ⟨wr.heap.size, 0, none⟩, q, 5⟩ F6.out (Nat.le_refl _) hbs (by omega) (by omega) ?_; intro A3 c3 w6 ho hg; have HO6 := Lib.hid ho; have HB6 := Lib.hid (below_grown HB5.out hg (fun q hq => (HO5.out.lo_ hq).1) (by omega)); clear ho hg)
      go_roundw
      case rel => exact ⟨k + 1, A3, c3, _, rfl, by go_num, by omega, by rw [List.map_append, HE.out, range_snocD]; rfl, HO6.out, HB6.out⟩
      case measure => simp [intOf]; omega
    · have hlt2 : ¬ (k : Int) < N := by omega
      obtain rfl : k = N := by omega
      obtain ⟨l, hl⟩ : ∃ l, es.map (fun e : El (List Int) => e.x) = l := ⟨_, rfl⟩
      have HL := Lib.hid hl
      have HLL := Lib.hid (show l.length = k by rw [← hl, HE.out, List.length_map, List.length_range])
      have HEL := Lib.hid (show es.length = k by rw [← HLL.out, ← hl, List.length_map])
      have HG := Lib.hid (show ∀ f ∈ l, ag.Good f by rw [← hl, HE.out]; intro f hf; obtain ⟨i, _, rfl⟩ := List.mem_map.1 hf; exact dl_good (lawAt.atv_in Z0.out (i + 1)).1)
      have HQ := Lib.hid (show Rq bsS wr w.heap.size wr.heap.size A1 k c1 l by rw [← hl]; exact HO.out.rq)
      clear hl
      go_wp2_with fail
      (with_reducible refine (implAg l _ _ A1 k c1 _ HQ.out (by omega)).mono ?_)
      rintro e w3 ⟨A2, n2, c2, rfl, hg, hb3⟩
      have HGR := Lib.hid hg
      have HO3 := Lib.hid (HO.out.below hb3)
      have HQ3 := Lib.hid (HQ.out.below hb3)
      have HB3 := Lib.hid (HB.out.trans (hb3.mono hbs))
      have hs3 := hb3.size
      have HN2 := Lib.hid (show (agg l).length = n2 from hg.len)
      have hn2 : n2 ≤ 1632 := by rw [← HN2.out]; exact agg_le l
      have hcp2 := hg.rd.cap_
      clear hg hb3 HO HQ HB
      obtain ⟨v9, hv9⟩ : ∃ v, lawAt.atv zc len 9 = v := ⟨_, rfl⟩
      have HV9 := Lib.hid hv9
      have hv9r : 0 ≤ v9 ∧ v9 ≤ 255 := by rw [← hv9]; exact lawAt.atv_in Z0.out 9
      obtain ⟨kk, hkk⟩ : ∃ kk : Nat, v9 % (k : Int) = (kk : Int) := ⟨(v9 % (k : Int)).toNat, by have := Int.emod_nonneg v9 (show (k : Int) ≠ 0 by omega); omega⟩
      have hkt : v9.tmod (k : Int) = (kk : Int) := by rw [Int.tmod_eq_emod_of_nonneg (by omega)]; exact hkk
      have hkl : kk < k := by have := Int.emod_lt_of_pos v9 (show (0 : Int) < (k : Int) by omega); omega
      have hN0 : ¬ (k : Int) = 0 := by omega
      clear hv9
      go_wp2_with fail
      (with_reducible refine (lawAt.at_v 9 9 (by first | rfl | omega) (by omega) v9 a len cap _ _ zc _ (HZW0.out _ HB3.out) HBG.out HV9.out).mono ?_)
      rintro e w9 ⟨rfl, rfl⟩
      go_wp2_with fail
      clear hkk hkt hN0
      go_loop [7, 8] (fun s i => ∃ (q : Nat) (y : Int), i = .int .i64 q ∧ s = .int .i64 y ∧ q ≤ kk ∧ y = sumS (lens (l.take q))) (fun _ i => kk - (intOf i).toNat)
      case atStart => exact ⟨0, 0, rfl, rfl, by omega, rfl⟩
      case round =>
        obtain ⟨q, y, rfl, rfl, hq, hy⟩ := hrel
        have hyr : 0 ≤ y ∧ y ≤ 204 * 5 := by have h1 := sumS_rng (lens (l.take q)); rw [← hy, lens_len, List.length_take] at h1; omega
        have HY := Lib.hid hy
        clear hy
        by_cases hlq : q < kk
        · obtain ⟨b, off, f, A', n', c', hA, hf, hb1, hc, hd⟩ := atB HQ3.out (show q < k by omega)
          subst hA
          obtain ⟨u, hu⟩ : ∃ u, sub (n' : Int) = u := ⟨_, rfl⟩
          have HU := Lib.hid hu
          have hur : 0 ≤ u ∧ u ≤ 204 := by rw [← hu]; exact sub_rng _
          have hw : IntKind.i64.wrap (y + u) = y + u := IntWalk.i64_in _ (by omega)
          have HNX := Lib.hid (show y + u = sumS (lens (l.take (q + 1))) by rw [lens_snoc hf, sumS_snoc, ← HY.out, show f.length = n' from hd.len, hu])
          have hnc := hd.cap_
          clear hu hf hd
          have hlq2 : (q : Int) < kk := by omega
          have hqk : (q : Int) < k := by omega
          go_wp2_with fail
          (with_reducible refine (implSs (n' : Int) _).mono ?_)
          rw [HU.out]
          rintro e w9 ⟨rfl, rfl⟩
          go_wp2_with fail
          go_round
          case rel => exact ⟨q + 1, y + u, by go_num, rfl, by omega, HNX.out⟩
          case measure => simp [intOf]; omega
        · have hlq2 : ¬ (q : Int) < kk := by omega
          obtain rfl : q = kk := by omega
          obtain ⟨j, rfl⟩ : ∃ j : Nat, y = j := ⟨y.toNat, by omega⟩
          have hdam := dam (l := l) (k := q) (j := j) (by rw [HLL.out]; omega) HG.out (by rw [HLL.out]; exact hkl) HY.out
          obtain ⟨hd1, hd2, hd3⟩ := hdam
          rw [HN2.out] at hd3
          obtain ⟨j3, hj3⟩ : ∃ j3 : Nat, j + 3 = j3 := ⟨_, rfl⟩
          rw [hj3] at hd1 hd2
          have HD2 := Lib.hid hd2
          have hw4 : IntKind.i64.wrap ((j : Int) + 4) = (j : Int) + 4 := IntWalk.i64_in _ (by omega)
          have hw3 : IntKind.i64.wrap ((j : Int) + 3) = (j3 : Int) := by rw [show (j : Int) + 3 = (j3 : Int) by omega]; exact IntWalk.i64_in _ (by omega)
          have hgt : ¬ (n2 : Int) < (j : Int) + 4 := by omega
          obtain ⟨g, off, hA2, hg1, hg2, hc⟩ := HGR.out.rd.at_ (i := j3) (by omega)
          rcases HGR.out.form with ⟨e0, _⟩ | ⟨g0, cur0, e0, _⟩
          · rw [e0] at hA2; cases hA2
          rw [e0] at hA2
          injection hA2 with hA2; injection hA2 with e1 e2; subst e1 e2 e0
          rw [Nat.zero_add, List.getD_eq_getElem?_getD, hd1] at hc
          have hc2 : w3.cell? ⟨g0, j3, none⟩ = some (.int .u8 78) := hc
          have hfz : w3.frozen? ⟨g0, j3, none⟩ = false := HGR.out.free rfl j3
          have hxr : bits .xor .u8 78 255 = 177 := by decide
          have hj3I : (j3 : Int) < n2 := by omega
          clear hd1 hd2 hc
          go_upto_region 18 with fail
          obtain ⟨w4, hW⟩ : ∃ v, w3.setCell ⟨g0, j3, none⟩ (.int .u8 177) = v := ⟨_, rfl⟩
          rw [hW]
          have HG4 := Lib.hid (show Ow 5 .u8 w4 wr.heap.size w3.heap.size (some ⟨g0, 0, none⟩) n2 c2 ((agg l).set j3 177) by rw [← hW]; exact own.ow_set HGR.out j3 177 (WalkArith.wf_u8 (by omega)))
          have HSZ := Lib.hid (show w4.heap.size = w3.heap.size by rw [← hW]; simp [World.setCell])
          have HO4 := Lib.hid (show Oe bsS w4 w.heap.size wr.heap.size A1 k c1 es by rw [← hW]; exact HO3.out.same (by simp [World.setCell]) fun b h1 h2 => Below.heap_setCell _ _ _ _ (fun e9 => by have e8 : b = g0 := e9; omega))
          have HB4 := Lib.hid (show Below w.heap.size w w4 by rw [← hW]; exact HB3.out.setCell (p := ⟨g0, j3, none⟩) (by show w.heap.size ≤ g0; omega) _)
          clear hW hc2 hfz hxr HGR HO3 HQ3 HB3
          go_wp2_with fail
          have HH0 := Lib.hid (Hr.empty w4)
          have HLX := Lib.hid (fun (W : World) (hW : Below w4.heap.size w4 W) => Oe.upto HO4.out hW (by have := HSZ.out; omega))
          have HGX := Lib.hid (fun (W : World) (hW : Below w4.heap.size w4 W) => Rd.upto HG4.out.rd hW (by have := HSZ.out; omega))
          go_loopw [9, 10] (fun s i wx => ∃ (p m : Nat) (A5 : Option Addr) (c5 : Nat), s = .slice A5 m c5 ∧ i = .int .i64 p ∧ p ≤ k ∧ Hr wx w4.heap.size A5 m c5 (((es.map hdr).take p).eraseIdx q) ∧ Below w4.heap.size w4 wx) (fun _ i _ => k - (intOf i).toNat)
          case atStart => exact ⟨0, 0, _, _, rfl, rfl, by omega, HH0.out, (Below.refl _ _).alloc (Nat.le_refl _) _⟩
          case round =>
            obtain ⟨p, m, A5, c5, rfl, rfl, hp, hh, hb⟩ := hrel
            have HH := Lib.hid hh
            have HB := Lib.hid hb
            have hbx := hb.size
            have hcp5 := hh.cap_
            have hm5 : m ≤ 5 := by have h1 := hh.1; have h2 := (List.eraseIdx_sublist ((es.map hdr).take p) q).length_le; rw [List.length_take] at h2; omega
            clear hh hb
            by_cases hlp : p < k
            · have hlp2 : (p : Int) < k := by omega
              by_cases hpq : p = q
              · subst hpq
                have HX := Lib.hid (er_same (l := es.map hdr) (k := p))
                go_wp2_with fail
                go_roundw
                case rel => exact ⟨p + 1, m, A5, c5, rfl, by go_num, by omega, by rw [HX.out]; exact HH.out, HB.out⟩
                case measure => simp [intOf]; omega
              · have hpqI : ¬ (p : Int) = q := by omega
                obtain ⟨e, he9⟩ : ∃ e, es[p]? = some e := ⟨_, List.getElem?_eq_getElem (by rw [HEL.out]; exact hlp)⟩
                obtain ⟨g5, hA1, hc⟩ := oe_cell (HLX.out _ HB.out) he9
                subst hA1
                have HX := Lib.hid (er_skip (l := es.map hdr) (i := p) (k := q) (x := hdr e) (by rw [List.getElem?_map, he9]; rfl) hpq)
                clear he9
                go_wp2_with (at_builtin; refine wpList_hdr wr rfl _ _ 24 rfl Try.underlying24 HZ.out.1 HZ.out.2.1 HZ.out.2.2.1 (by rw [HZ.out.2.2.2]; omega) rfl rfl rfl HH.out e.A e.n e.c (by omega) (by omega) ?_; intro A6 c6 w7 hh7 hb7; have HH7 := Lib.hid hh7; have HB7 := Lib.hid (HB.out.trans hb7); clear hh7 hb7)
                go_roundw
                case rel => exact ⟨p + 1, m + 1, A6, c6, rfl, by go_num, by omega, by rw [HX.out]; exact HH7.out, HB7.out⟩
                case measure => simp [intOf]; omega
            · have hlp2 : ¬ (p : Int) < k := by omega
              obtain rfl : p = k := by omega
              have HF := Lib.hid (show ((es.map hdr).take p).eraseIdx q = (es.eraseIdx q).map hdr by rw [take_full (by rw [List.length_map]; exact HEL.out), er_map])
              rw [HF.out] at HH
              go_wp2_with fail
              (with_reducible refine (implSp ((agg l).set j3 177) _ _ _ n2 c2 _ (HGX.out _ HB.out) (by omega)).mono ?_)
              rintro e w8 hp8
              obtain ⟨A8, n8, c8, es8, rfl, he8, ho8, hb8⟩ := bl_parts hp8
              have HS8 := Lib.hid (show Rq bsS w8 wr.heap.size w8.heap.size A8 n8 c8 (l.eraseIdx q) by have h1 := ho8.rq; rw [he8, HD2.out] at h1; exact h1)
              have HB8 := Lib.hid (HB.out.trans (hb8.mono hbx))
              have HW8 := Lib.hid (show Rq bsS w8 0 w8.heap.size A5 m c5 (l.eraseIdx q) by have h1 := (HH.out.below hb8).rq (fun e he => ⟨_, _, ((HLX.out _ HB8.out).body e ((List.eraseIdx_sublist es q).subset he)).rd⟩); rw [← er_map, HL.out] at h1; exact h1)
              clear hp8 ho8 hb8 he8
              go_wp2_with fail
              (with_reducible refine (sameL (l.eraseIdx q) _ _ _ _ A8 A5 n8 c8 m c5 _ HS8.out HW8.out).mono ?_)
              rintro e w10 ⟨rfl, hb10⟩
              have HB10 := Lib.hid (HB8.out.trans (hb10.mono (by have := HB8.out.size; omega)))
              clear hb10
              go_wp2_with fail
              go_ret
              exact ⟨rfl, HB4.out.trans (HB10.out.mono (by have := HB4.out.size; omega))⟩
end Go.Proofs.Ythgbmcdfbinpkaa.damLaw
