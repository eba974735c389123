/- Marks of messages, with one more message kept beside. Condition: sizes up to 2^26. -/
import Derived.Test.YtbifggfmfiocoaaQh2
import Derived.Test.YtbifggfmfiocoaaMrg
import Derived.Test.YtbifggfmfiocoaaMra
namespace Go.Proofs.Ytbifggfmfiocoaa.mq
open Go.RowKit sl harn bx mrw
set_option linter.unusedVariables false
set_option linter.unusedSimpArgs false

/-- Nothing but the row and its elements' slices has changed. -/
def Only (A : Option Addr) (es0 : List (El Msg)) (w w' : World) : Prop := ∀ k, k < w.heap.size → blkOf A ≠ some k → (∀ e ∈ es0, ∀ a, e.A = some a → a.block ≠ k) → w'.heap[k]? = w.heap[k]?
def KfPost (ms : List Msg) (es0 : List (El Msg)) (f : El Msg) (zs : List Int) (w : World) (lo hi : Nat) (A : Option Addr) (n cap : Nat) (q : Int) (e : Ending) (w' : World) : Prop :=
  ∃ es, e = .returned (.int .i64 (q + tot ms)) ∧ es.map (·.x) = mks q ms ∧ Oe msg w' lo hi A n cap es ∧ Ow 5 .u8 w' lo hi f.A f.n f.c zs ∧ Ds (es ++ [f]) ∧ Tch lo hi w w' ∧ Only A es0 w w'
theorem set_same {α : Type} {l : List α} {j : Nat} {x : α} (h : l[j]? = some x) : l.set j x = l := by
  have hj := (List.getElem?_eq_some_iff.1 h).1
  rw [← (List.getElem?_eq_some_iff.1 h).2]
  exact List.set_getElem_self hj
theorem only_step {es0 es : List (El Msg)} {g j l r : Nat} {e : El Msg} {w wr w3 w4 : World} (h : Only (some ⟨g, 0, none⟩) es0 w wr) (hm : es.map (·.A) = es0.map (·.A)) (he : es[j]? = some e) (ht : Tch l r w3 w4) (hq : ∀ q, l ≤ q → q < r → ∃ a, e.A = some a ∧ a.block = q) (hs : w.heap.size ≤ w3.heap.size) (h3 : ∀ k, k ≠ g → w3.heap[k]? = wr.heap[k]?) : Only (some ⟨g, 0, none⟩) es0 w w4 := by
  intro k hk h1 h2
  rw [← h k hk h1 h2, ← h3 k (fun e => h1 (by rw [e]; rfl))]
  refine ht.block k (by omega) ?_
  rcases Nat.lt_or_ge k l with g1 | g1
  · exact Or.inl g1
  · rcases Nat.lt_or_ge k r with g2 | g2
    · exfalso
      obtain ⟨a, ha, hb⟩ := hq k g1 g2
      have h9 : (es0.map (·.A))[j]? = some e.A := by rw [← hm, List.getElem?_map, he]; rfl
      rw [List.getElem?_map] at h9
      cases h8 : es0[j]? with
      | none => rw [h8] at h9; cases h9
      | some e0 =>
        rw [h8] at h9
        have h7 : e0.A = e.A := by simpa using h9
        exact h2 e0 (List.mem_of_getElem? h8) a (h7.trans ha) hb
    · exact Or.inr g2
set_option maxRecDepth 100000 in
set_option maxHeartbeats 4000000 in
theorem markMsgSf (ms : List Msg) (es0 : List (El Msg)) (he0 : es0.map (·.x) = ms) (f : El Msg) (zs : List Int)  (A : Option Addr) (n cap lo hi : Nat) (q : Int) (hk0 : 0 ≤ q) (hk : q + tot ms ≤ 1099511627776) (hbd : ∀ y ∈ ms, y.2.2.2.length ≤ 67108864) (w : World) (ho0 : Oe msg w lo hi A n cap es0) (hf0 : Ow 5 .u8 w lo hi f.A f.n f.c zs) (hds0 : Ds (es0 ++ [f])) :
    Calls Try.prog 68 #[.slice A n cap, .int .i64 q] w (KfPost ms es0 f zs w lo hi A n cap q) := by
  have hc := ho0.rq.cap_
  have HL := Lib.hid (show ms.length = n by rw [← he0, List.length_map]; exact ho0.len)
  have HK := Lib.hid (And.intro hk0 hk)
  have HBD := Lib.hid hbd
  clear hk0 hk hbd
  go_enter Try.func68, Try.ntmps68
  go_wp2_with fail
  go_loopw [1, 5] (fun q2 i wr => ∃ (j : Nat) (es : List (El Msg)), i = .int .i64 j ∧ q2 = .int .i64 (q + tot (ms.take j)) ∧ j ≤ n ∧ es.map (·.x) = mks q (ms.take j) ++ ms.drop j ∧ Oe msg wr lo hi A n cap es ∧ Tch lo hi w wr ∧ Ow 5 .u8 wr lo hi f.A f.n f.c zs ∧ Ds (es ++ [f]) ∧ es.map (·.A) = es0.map (·.A) ∧ Only A es0 w wr) (fun _ i _ => n - (intOf i).toNat)
  case atStart => exact ⟨0, es0, rfl, by simp [tot, blk], by omega, by simpa [mks] using he0, ho0, Tch.refl _ _ _, hf0, hds0, rfl, fun _ _ _ _ => rfl⟩
  clear ho0 he0 hf0 hds0
  case round =>
    obtain ⟨j, es, rfl, rfl, hj, hm, ho, ht, hfw, hdw, hma, hon⟩ := hrel
    have HMA := Lib.hid hma
    have HON := Lib.hid hon
    clear hma hon
    have HFW := Lib.hid hfw
    have HDW := Lib.hid hdw
    clear hfw hdw
    obtain ⟨t, hq⟩ : ∃ t, q + tot (ms.take j) = t := ⟨_, rfl⟩
    have hb1 : 0 ≤ t ∧ t ≤ 1099511627776 := by have a1 := HK.out; have a2 := tot_take ms j; have a3 := tot_nonneg (ms.take j); omega
    have HM := Lib.hid hm
    have HO := Lib.hid ho
    have HT := Lib.hid ht
    have HTT := Lib.hid hq
    rw [hq]
    clear hm ho ht hq
    by_cases hlt : j < n
    · have hlt2 : (j : Int) < n := by omega
      have hin : j < ms.length := by rw [HL.out]; exact hlt
      obtain ⟨m, hmm⟩ : ∃ m, ms[j]? = some m := ⟨_, List.getElem?_eq_getElem hin⟩
      have HMJ := Lib.hid hmm
      have HM2 := Lib.hid (show es.map (·.x) = mks q (ms.take j) ++ m :: ms.drop (j + 1) by rw [HM.out, List.drop_eq_getElem_cons hin]; congr 2; exact (List.getElem?_eq_some_iff.1 hmm).2)
      have HLL := Lib.hid (show (mks q (ms.take j)).length = j by rw [mks_len, List.length_take]; omega)
      obtain ⟨e, he, hex⟩ : ∃ e, es[j]? = some e ∧ e.x = m := by
        have h1 : (es.map (·.x))[j]? = some m := by rw [HM2.out, List.getElem?_append_right (by rw [HLL.out]; exact Nat.le_refl _), HLL.out, Nat.sub_self]; rfl
        rw [List.getElem?_map] at h1
        cases hh : es[j]? with
        | none => rw [hh] at h1; cases h1
        | some e => rw [hh] at h1; exact ⟨e, rfl, by simpa using h1⟩
      obtain ⟨g, hA, hg1, hg2, hr⟩ := HO.out.at_ he
      subst hA
      obtain ⟨x, A1, n1, c1⟩ := e
      obtain rfl : x = m := hex
      have HE0 := Lib.hid he
      have hj1 : j < es.length := (List.getElem?_eq_some_iff.1 he).1
      have O1 : Oe msg (wr.setCell ⟨g, j * 4, none⟩ (.int .i64 t)) lo hi (some ⟨g, 0, none⟩) n cap (es.set j ⟨(t, x.2.1, x.2.2.1, x.2.2.2), A1, n1, c1⟩) := HO.out.cell he (t, x.2.1, x.2.2.1, x.2.2.2) (j := 0) (.int .i64 t) (by show 0 < 4; omega) rfl rfl
      have e1 : (es.set j ⟨(t, x.2.1, x.2.2.1, x.2.2.2), A1, n1, c1⟩)[j]? = some ⟨(t, x.2.1, x.2.2.1, x.2.2.2), A1, n1, c1⟩ := List.getElem?_set_self hj1
      have O2 : Oe msg ((wr.setCell ⟨g, j * 4, none⟩ (.int .i64 t)).setCell ⟨g, j * 4 + 1, none⟩ (.int .i64 (t + 1))) lo hi (some ⟨g, 0, none⟩) n cap (es.set j ⟨(t, t + 1, x.2.2.1, x.2.2.2), A1, n1, c1⟩) := by have hh := O1.cell e1 (t, t + 1, x.2.2.1, x.2.2.2) (j := 1) (.int .i64 (t + 1)) (by show 1 < 4; omega) rfl rfl; rw [List.set_set] at hh; exact hh
      have e2 : (es.set j ⟨(t, t + 1, x.2.2.1, x.2.2.2), A1, n1, c1⟩)[j]? = some ⟨(t, t + 1, x.2.2.1, x.2.2.2), A1, n1, c1⟩ := List.getElem?_set_self hj1
      have O3 : Oe msg (((wr.setCell ⟨g, j * 4, none⟩ (.int .i64 t)).setCell ⟨g, j * 4 + 1, none⟩ (.int .i64 (t + 1))).setCell ⟨g, j * 4 + 2, none⟩ (.int .i64 (t + 2))) lo hi (some ⟨g, 0, none⟩) n cap (es.set j ⟨(t, t + 1, t + 2, x.2.2.2), A1, n1, c1⟩) := by have hh := O2.cell e2 (t, t + 1, t + 2, x.2.2.2) (j := 2) (.int .i64 (t + 2)) (by show 2 < 4; omega) rfl rfl; rw [List.set_set] at hh; exact hh
      have e3 : (es.set j ⟨(t, t + 1, t + 2, x.2.2.2), A1, n1, c1⟩)[j]? = some ⟨(t, t + 1, t + 2, x.2.2.2), A1, n1, c1⟩ := List.getElem?_set_self hj1
      obtain ⟨l, r, hl1, hr1, hown, hnar, hback⟩ := O3.part2 e3
      have HF3 := Lib.hid (ow_row_set O2 (ow_row_set O1 (ow_row_set HO.out HFW.out (j * 4) (.int .i64 t)) (j * 4 + 1) (.int .i64 (t + 1))) (j * 4 + 2) (.int .i64 (t + 2)))
      have HD3 := Lib.hid (show Ds ((es.set j ⟨(t, t + 1, t + 2, x.2.2.2), A1, n1, c1⟩) ++ [f]) from ds_set HDW.out he rfl)
      have HAP := Lib.hid (ds_apart HDW.out he)
      have HOWN := Lib.hid hown
      clear hown
      have HN := Lib.hid hnar
      have HBK := Lib.hid hback
      have HT3 := Lib.hid (tch_set (tch_set (tch_set HT.out ⟨hg1, hg2⟩ (j * 4) (.int .i64 t)) ⟨hg1, hg2⟩ (j * 4 + 1) (.int .i64 (t + 1))) ⟨hg1, hg2⟩ (j * 4 + 2) (.int .i64 (t + 2)))
      have HLN := Lib.hid (show n1 ≤ 67108864 from (show x.2.2.2.length = n1 from hnar.len) ▸ HBD.out x (List.mem_of_getElem? hmm))
      have HLX := Lib.hid (show x.2.2.2.length = n1 from hnar.len)
      have c0 : wr.cell? ⟨g, j * 4, none⟩ = some (.int .i64 x.1) := hr 0 _ rfl
      have c1_ : wr.cell? ⟨g, j * 4 + 1, none⟩ = some (.int .i64 x.2.1) := hr 1 _ rfl
      have c2 : wr.cell? ⟨g, j * 4 + 2, none⟩ = some (.int .i64 x.2.2.1) := hr 2 _ rfl
      have c3 : wr.cell? ⟨g, j * 4 + 3, none⟩ = some (.slice A1 n1 c1) := hr 3 _ rfl
      have f0 : wr.frozen? ⟨g, j * 4, none⟩ = false := HO.out.row.frozenAt _
      have f1 : wr.frozen? ⟨g, j * 4 + 1, none⟩ = false := HO.out.row.frozenAt _
      have f2 : wr.frozen? ⟨g, j * 4 + 2, none⟩ = false := HO.out.row.frozenAt _
      have m1 : IntKind.i64.wrap (t + 1) = t + 1 := IntWalk.i64_in _ (by omega)
      have m2 : IntKind.i64.wrap (t + 2) = t + 2 := IntWalk.i64_in _ (by omega)
      have m3 : IntKind.i64.wrap (t + 3) = t + 3 := IntWalk.i64_in _ (by omega)
      have s1 : t + 1 + 1 = t + 2 := by omega
      have s2 : t + 2 + 1 = t + 3 := by omega
      have HK3 := Lib.hid (show 0 ≤ t + 3 ∧ t + 3 ≤ 1099511627776 by have a1 := HK.out; have a2 := tot_take ms (j + 1); have a4 := tot_snoc (ms.take j) x; rw [← take_snoc hmm] at a4; have a5 := HTT.out; omega)
      clear O1 e1 O2 e2 O3 e3 hnar hback hr he hj1 hmm hin
      go_wp2_with fail
      (with_reducible refine (harn.markByteS x.2.2.2 l r A1 n1 c1 (t + 3) _ HN.out HK3.out.1 HK3.out.2 HLN.out).mono ?_)
      rintro e w4 ⟨rfl, ho4, ht4⟩
      obtain ⟨o4, t4⟩ := HBK.out w4 (marks .u8 (t + 3) n1) (t, t + 1, t + 2, marks .u8 (t + 3) n1) ht4 ho4 rfl rfl
      rw [List.set_set] at o4
      have HF4 := Lib.hid (ow_apart HF3.out ht4 HOWN.out HAP.out)
      have HD4 := Lib.hid (show Ds ((es.set j ⟨(t, t + 1, t + 2, marks .u8 (t + 3) n1), A1, n1, c1⟩) ++ [f]) from ds_set HDW.out HE0.out rfl)
      have HMA4 := Lib.hid (show (es.set j ⟨(t, t + 1, t + 2, marks .u8 (t + 3) n1), A1, n1, c1⟩).map (·.A) = es0.map (·.A) by rw [List.map_set, ← HMA.out]; have h9 : (es.map (·.A))[j]? = some A1 := (by rw [List.getElem?_map, HE0.out]; rfl); exact set_same h9)
      have HON4 := Lib.hid (only_step HON.out HMA.out HE0.out ht4 HOWN.out HT3.out.size (fun k hk => by rw [Below.heap_setCell _ _ _ _ hk, Below.heap_setCell _ _ _ _ hk, Below.heap_setCell _ _ _ _ hk]))
      have HO4 := Lib.hid o4
      have HT4 := Lib.hid (tch_trans HT3.out t4)
      clear o4 t4 ho4 ht4 c0 c1_ c2 c3 f0 f1 f2
      have HTJ := Lib.hid (show ms.take (j + 1) = ms.take j ++ [x] from take_snoc HMJ.out)
      have HEND := Lib.hid (show t + 3 + (n1 : Int) = q + tot (ms.take (j + 1)) by rw [HTJ.out, tot_snoc, HLX.out]; have := HTT.out; omega)
      go_wp2_with fail
      go_roundw
      case rel => exact ⟨j + 1, _, by go_num, by rw [HEND.out], by omega, by rw [set_map HM2.out HLL.out, HTJ.out, mks_snoc, List.append_assoc, HTT.out]; unfold mk1; rw [HLX.out]; rfl, HO4.out, HT4.out, HF4.out, HD4.out, HMA4.out, HON4.out⟩
      case measure => simp [intOf]; omega
    · have hlt2 : ¬ (j : Int) < n := by omega
      obtain rfl : j = n := by omega
      have HF := Lib.hid (show ms.take j = ms from List.take_of_length_le (by rw [HL.out]; exact Nat.le_refl _))
      have HG := Lib.hid (show t = q + tot ms by rw [← HTT.out, HF.out])
      have HE := Lib.hid (show es.map (·.x) = mks q ms by rw [HM.out, HF.out, List.drop_of_length_le (by rw [HL.out]; exact Nat.le_refl _), List.append_nil])
      go_wp2_with fail
      go_ret
      exact ⟨es, by rw [← HG.out]; rfl, HE.out, HO.out, HFW.out, HDW.out, HT.out, HON.out⟩
set_option maxRecDepth 100000 in
set_option maxHeartbeats 4000000 in
theorem markQueF (ms : List Msg) (d : Int) (es0 : List (El Msg)) (he0 : es0.map (·.x) = ms) (f : El Msg) (zs : List Int) (A : Option Addr) (n cap lo hi : Nat) (q : Int) (hk0 : 0 ≤ q) (hk : q + tot ms ≤ 1099511627776) (hbd : ∀ y ∈ ms, y.2.2.2.length ≤ 67108864) (w : World) (ho0 : Oe msg w lo hi A n cap es0) (hf0 : Ow 5 .u8 w lo hi f.A f.n f.c zs) (hds0 : Ds (es0 ++ [f])) :
    Calls Try.prog 36 #[qV A n cap d, .int .i64 q] w (KfPost ms es0 f zs w lo hi A n cap q) := by
  have HR := Lib.hid (ho0.below (below_box w (.cells #[.slice A n cap, .int .i64 d] 26)))
  have HF := Lib.hid (hf0.below (below_box w (.cells #[.slice A n cap, .int .i64 d] 26)))
  have HH := Lib.hid ho0.hi_
  clear ho0 hf0
  go_enter Try.func36, Try.ntmps36
  go_wp2_with fail
  (with_reducible refine (markMsgSf ms es0 he0 f zs A n cap lo hi q hk0 hk hbd _ HR.out HF.out hds0).mono ?_)
  rintro e w1 ⟨es, rfl, hm, ho, hf, hd, ht, hn⟩
  have M1 := Lib.hid hm
  have O1 := Lib.hid ho
  have F1 := Lib.hid hf
  have D1 := Lib.hid hd
  have T1 := Lib.hid (show Tch lo hi w w1 from ⟨ht.os, ht.tape, ht.output, by have := ht.size; simp at this; omega, fun b hb hd => by rw [ht.block b (by simp; omega) hd]; exact heap_alloc_old _ _ hb⟩)
  have N1 := Lib.hid (show Only A es0 w w1 from fun k hk h1 h2 => by rw [hn k (by simp; omega) h1 h2]; exact heap_alloc_old _ _ hk)
  clear hm ho hf hd ht hn
  go_wp2_with fail
  go_ret
  exact ⟨es, rfl, M1.out, O1.out, F1.out, D1.out, T1.out, N1.out⟩
end Go.Proofs.Ytbifggfmfiocoaa.mq
