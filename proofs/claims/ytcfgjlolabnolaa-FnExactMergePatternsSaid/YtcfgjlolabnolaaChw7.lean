/- MergePatterns of the program: two slices joined, sorted by the library, neighbours cancelled. Condition: lengths up to 2^26. -/
import Derived.Test.YtcfgjlolabnolaaOwn
import Derived.Test.YtcfgjlolabnolaaChb
import Derived.Test.YtcfgjlolabnolaaConcat
import Derived.Test.YtcfgjlolabnolaaPair
import Derived.Test.YtcfgjlolabnolaaShelf
import Derived.Sort.OwnSortedInts
namespace Go.Proofs.Ytcfgjlolabnolaa.chw
open Go.RowKit sl harn chm own cat
set_option linter.unusedVariables false

/-- In order. -/
def srt (l : List Int) : List Int := l.mergeSort fun x y => decide (x ≤ y)
theorem srt_perm (l : List Int) : (srt l).Perm l := List.mergeSort_perm _ _
theorem srt_len (l : List Int) : (srt l).length = l.length := (srt_perm l).length_eq
theorem srt_pair (l : List Int) : (srt l).Pairwise (· ≤ ·) := by
  have := List.pairwise_mergeSort (le := fun (x y : Int) => decide (x ≤ y)) (fun a b c h1 h2 => by simp at *; omega) (fun a b => by simp; omega) l
  exact this.imp fun h => by simpa using h
theorem srt_le {S : List Int} (hp : S.Pairwise (· ≤ ·)) {k : Nat} (hk : k < S.length) {x : Int} (hx : S.getD k 0 = x) : ∀ z ∈ S.take k, z ≤ x := fun z hz => by
  rw [← List.take_append_drop k S, List.pairwise_append] at hp
  refine hp.2.2 z hz x ?_
  rw [List.drop_eq_getElem_cons hk, ← hx, getD_nat S hk]
  exact List.mem_cons_self
theorem srt_wf {l : List Int} (h : Wf .i64 l) : Wf .i64 (srt l) := fun z hz => h z ((srt_perm l).mem_iff.1 hz)
/-- A slice of the call's own is sorted where it lies. -/
theorem sort_own {E : TypeId} {w : World} {lo hi n cap : Nat} {A : Option Addr} {zs : List Int} (h : Ow E .i64 w lo hi A n cap zs) (hn : n ≤ 1073741824) :
    Calls Try.prog 35 #[.slice A n cap] w fun e w' => e = .returned (.tuple #[]) ∧ Ow E .i64 w' lo w'.heap.size A n cap (srt zs) ∧ Below lo w w' := by
  have hl := h.len
  rcases Nat.eq_zero_or_pos n with h0 | h0
  · subst h0
    have hz : zs = [] := List.eq_nil_of_length_eq_zero hl
    subst hz
    refine (Try.slices_Sort_int_none A cap w).mono ?_
    rintro e w' ⟨rfl, rfl⟩
    exact ⟨rfl, by have := h.up; simpa [srt] using this, Below.refl _ _⟩
  · rcases h.form with ⟨_, h1, _⟩ | ⟨g, cur, rfl, g1, g2, hb, g3, g4, g5, g6⟩
    · omega
    · subst hl
      refine (Try.slices_Sort_int g 0 cap zs w (holds_of_blockI hb g6) (lt_of_block hb) (by omega)).mono ?_
      rintro e w' ⟨rfl, m, os, rfl⟩
      have ho := ownsRow_sortedI (n := m) (os := os) (base := lo) (cap := cap) (ss := zs) (ts := srt zs) (srt_len zs) g1 hb g3 g4 (by omega)
      refine ⟨rfl, ⟨ho, srt_wf h.wf, Nat.le_refl _, fun g' o e => ?_⟩, ?_⟩
      · injection e with e; injection e with e _
        subst e
        have hgr := (grownBy_sortedI (w := w) (g := g) (n := m) (os := os) (srt zs).toArray).size
        exact Nat.lt_of_lt_of_le (lt_of_block hb) hgr
      · have hgr := grownBy_sortedI (w := w) (g := g) (n := m) (os := os) (srt zs).toArray
        exact ⟨hgr.os, hgr.tape, hgr.output, hgr.size, fun k hk => hgr.block k (Nat.lt_trans (Nat.lt_of_lt_of_le hk g1) (lt_of_block hb)) (fun e => by injection e with e; omega)⟩
/-- The first elements of a slice of the call's own. -/
theorem ow_take {E : TypeId} {k : IntKind} {w : World} {lo hi n cap : Nat} {b : Nat} {zs : List Int} (h : Ow E k w lo hi (some ⟨b, 0, none⟩) n cap zs) {m : Nat} (hm : m ≤ n) : Ow E k w lo hi (some ⟨b, 0, none⟩) m cap (zs.take m) := by
  have hl := h.len
  rcases h.form with ⟨e, _⟩ | ⟨g, cur, e, g1, g2, hb, g3, g4, g5, g6⟩
  · cases e
  · injection e with e; injection e with e _
    subst e
    refine ⟨⟨by simp; omega, Or.inr ⟨b, cap, cur, rfl, g1, hb, by omega, g4, by omega, ?_⟩⟩, h.wf.take m, h.hi_, h.2.2.2⟩
    rw [Nat.mul_one]
    have e2 : cur.toList.take m = (cur.toList.take n).take m := by rw [List.take_take, Nat.min_eq_left hm]
    rw [e2, g6, List.map_take]

set_option maxRecDepth 100000 in
set_option maxHeartbeats 4000000 in
theorem implMerge (zs ys : List Int) (lo hi lo2 hi2 : Nat) (A A2 : Option Addr) (n cap m cap2 : Nat) (w : World) (h : Rd .i64 w lo hi A n cap zs) (h2 : Rd .i64 w lo2 hi2 A2 m cap2 ys) (hn : n ≤ 67108864) (hm : m ≤ 67108864) :
    Calls Try.prog 14 #[.slice A n cap, .slice A2 m cap2] w (SlPost 3 .i64 w (mrg (zs ++ ys))) := by
  obtain ⟨i0, hi0, hz0, hz1, hz2⟩ := info_parts intInfo
  have HZ := Lib.hid (And.intro hi0 (And.intro hz0 (And.intro hz1 hz2)))
  have HLen := Lib.hid (And.intro h.len h2.len)
  have HL := Lib.hid (pair_lie h h2 24)
  clear h h2 hi0 hz0 hz1 hz2
  go_enter Try.func14, Try.ntmps14
  go_wp2_with fail
  (with_reducible refine (concat _ _ 2 2 _ HL.out (by omega) (by rw [pair_tot]; omega)).mono ?_)
  rintro e w1 ⟨B, N, c, rfl, ho, hb1⟩
  rw [pair_flat] at ho
  have hN : N = n + m := by have h1 := ho.len; rw [List.length_append, HLen.out.1, HLen.out.2] at h1; exact h1.symm
  have HN := Lib.hid hN
  have hN2 : N ≤ 134217728 := by omega
  have HO := Lib.hid ho
  have HB := Lib.hid (((Below.refl w.heap.size w).alloc (Nat.le_refl _) (.cells #[.slice A n cap, .slice A2 m cap2] 24)).trans (hb1.mono (by simp)))
  have HS0 := Lib.hid (show w.heap.size ≤ (w.alloc (.cells #[.slice A n cap, .slice A2 m cap2] 24)).heap.size by simp)
  clear ho hb1 HL hN
  go_wp2_with fail
  (with_reducible refine (sort_own HO.out (by omega)).mono ?_)
  rintro e w2 ⟨rfl, ho, hb2⟩
  have HR := Lib.hid ho.rd
  have HB2 := Lib.hid (HB.out.trans (hb2.mono HS0.out))
  obtain ⟨S, hS⟩ : ∃ S, srt (zs ++ ys) = S := ⟨_, rfl⟩
  rw [hS] at HR
  have HSp := Lib.hid (show S.Pairwise (· ≤ ·) by rw [← hS]; exact srt_pair _)
  have HSl := Lib.hid (show S.length = N by rw [← hS, srt_len]; have := HO.out.len; exact this)
  have HSq := Lib.hid (show S.Perm (zs ++ ys) by rw [← hS]; exact srt_perm _)
  have hcap := HR.out.cap_
  clear ho hb2 hS HO HB HS0
  go_wp2_with fail
  go_loopw [6, 19] (fun v i wr => ∃ (k : Nat) (o : List Int) (b q c : Nat), i = .int .i64 k ∧ v = .slice (some ⟨b, 0, none⟩) q c ∧ k ≤ N ∧ Odds o (S.take k) ∧ Ow 3 .i64 wr w2.heap.size wr.heap.size (some ⟨b, 0, none⟩) q c o ∧ Below w2.heap.size w2 wr) (fun _ i _ => N - (intOf i).toNat)
  case atStart => exact ⟨0, [], _, 0, 0, rfl, rfl, by omega, canc_start, (Ow.empty 3 .i64 w2).up, (Below.refl _ _).alloc (Nat.le_refl _) _⟩
  case round =>
    obtain ⟨k, o, b, q, c3, rfl, rfl, hk, hod, ho, hb⟩ := hrel
    have HO := Lib.hid ho
    have HB := Lib.hid hb
    have HD := Lib.hid hod
    have hq : q ≤ 134217728 := by have h1 := ho.len; have h2 := hod.len; rw [List.length_take] at h2; omega
    have hqc := ho.rd.cap_
    clear ho hb hod
    by_cases hlt : k < N
    · have hlt2 : (k : Int) < N := by omega
      have HK := Lib.hid (show k < S.length by rw [HSl.out]; exact hlt)
      obtain ⟨b', off, rfl, g1, g2, hc⟩ := (HR.out.below HB.out).at_ hlt
      obtain ⟨x, hx⟩ : ∃ x, S.getD k 0 = x := ⟨_, rfl⟩
      have HX := Lib.hid hx
      have HT := Lib.hid (show S.take (k + 1) = S.take k ++ [x] by rw [take_next S HK.out, hx])
      have HW := Lib.hid (show (Lit.int .i64 x).wf = true from wf_at HR.out.wf HSl.out hlt hx)
      rw [hx] at hc
      clear hx g1 g2
      rcases Nat.eq_zero_or_pos q with h0 | h0
      · have HQ := Lib.hid h0
        have HN1 := Lib.hid (show Odds (o ++ [x]) (S.take (k + 1)) by rw [HT.out]; exact canc_push HD.out (srt_le HSp.out HK.out HX.out) fun y hy => by have := HO.out.len; omega)
        subst h0
        go_wp2_with (at_builtin; refine wpList_app _ rfl _ _ 24 rfl 3 i0 _ .i64 Try.underlying24 HZ.out.1 HZ.out.2.1 HZ.out.2.2.1 (by rw [HZ.out.2.2.2]; omega) rfl rfl rfl (HO.out.alloc _) (Rd.one .i64 _ _ _ HW.out) (by omega) (by have := HB.out.size; simp; omega) ?_; intro A1 cap1 w6 ho hb1; have O6 := Lib.hid ho; have B6 := Lib.hid ((HB.out.alloc HB.out.size _).trans hb1); clear ho hb1)
        obtain ⟨b6, rfl, _⟩ := own_some O6.out (by omega)
        go_roundw
        case rel => exact ⟨k + 1, _, _, _, _, by go_num, rfl, by omega, HN1.out, O6.out, B6.out⟩
        case measure => simp [intOf]; omega
      · obtain ⟨l, hl⟩ : ∃ l, l + 1 = q := ⟨q - 1, by omega⟩
        have hl2 : (q : Int) - 1 = l := by omega
        have hl3 : IntKind.i64.wrap (l : Int) = l := IntWalk.i64_in _ (by omega)
        have hl4 : (l : Int) < q := by omega
        have hl5 : (0 : Int) ≤ l := by omega
        have hl6 : l ≤ c3 := by omega
        have HL6 := Lib.hid (show l ≤ q by omega)
        have HLq := Lib.hid (show o.length - 1 = l by have := HO.out.len; omega)
        have hcy := cell_of HO.out (show l < q by omega)
        obtain ⟨y, hy⟩ : ∃ y, o.getD l 0 = y := ⟨_, rfl⟩
        have HY := Lib.hid hy
        rw [hy] at hcy
        have HO0 := Lib.hid (show 0 < o.length by have := HO.out.len; omega)
        clear hy hl
        by_cases hyx : y = x
        · have HN1 := Lib.hid (show Odds (o.take l) (S.take (k + 1)) by rw [HT.out, ← HLq.out]; exact canc_drop HD.out HO0.out (by rw [HLq.out, HY.out]; exact hyx))
          have hyx2 : (y == x) = true := by simpa using hyx
          have HP := Lib.hid (ow_take HO.out HL6.out)
          clear hyx
          go_wp2_with fail
          go_roundw
          case rel => exact ⟨k + 1, _, _, _, _, by go_num, rfl, by omega, HN1.out, HP.out, HB.out⟩
          case measure => simp [intOf]; omega
        · have HN1 := Lib.hid (show Odds (o ++ [x]) (S.take (k + 1)) by rw [HT.out]; exact canc_push HD.out (srt_le HSp.out HK.out HX.out) fun y' _ hy' => by rw [HLq.out, HY.out] at hy'; rw [← hy']; exact hyx)
          have hyx2 : (y == x) = false := by simpa using hyx
          clear hyx
          go_wp2_with (at_builtin; refine wpList_app _ rfl _ _ 24 rfl 3 i0 _ .i64 Try.underlying24 HZ.out.1 HZ.out.2.1 HZ.out.2.2.1 (by rw [HZ.out.2.2.2]; omega) rfl rfl rfl (HO.out.alloc _) (Rd.one .i64 _ _ _ HW.out) (by omega) (by have := HB.out.size; simp; omega) ?_; intro A1 cap1 w6 ho hb1; have O6 := Lib.hid ho; have B6 := Lib.hid ((HB.out.alloc HB.out.size _).trans hb1); clear ho hb1)
          obtain ⟨b6, rfl, _⟩ := own_some O6.out (by omega)
          go_roundw
          case rel => exact ⟨k + 1, _, _, _, _, by go_num, rfl, by omega, HN1.out, O6.out, B6.out⟩
          case measure => simp [intOf]; omega
    · have hlt2 : ¬ (k : Int) < N := by omega
      have HM := Lib.hid (show mrg (zs ++ ys) = o from Odds.eq (Odds.perm (by have := HD.out; rwa [List.take_of_length_le (by rw [HSl.out]; omega)] at this) HSq.out))
      go_wp2_with fail
      go_ret
      rw [HM.out]
      exact ⟨_, _, _, rfl, HO.out.down HB2.out.size, HB2.out.trans (HB.out.mono HB2.out.size)⟩
end Go.Proofs.Ytcfgjlolabnolaa.chw
