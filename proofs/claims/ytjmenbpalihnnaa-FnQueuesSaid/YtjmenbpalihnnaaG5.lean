/- Merged texts of this seat. Qc8: TakeMessage of the program. Condition: sizes up to 2^26. | Qc9: EnqueueMessage and TakeMessage of the specification. Condition: sizes up to 2^26. | Qlw: Lemmas of the exact laws over queues. Condition: none. | Rwv: A value of a region that holds a row which is read, wherever it lies. Condition: none. | Qlx: A queue of the call's own as a value of a region. Condition: none. -/
import Derived.Test.YtjmenbpalihnnaaG2
import Derived.Test.YtjmenbpalihnnaaG3
import Derived.Test.YtjmenbpalihnnaaG4
section
namespace Go.Proofs.Ytjmenbpalihnnaa.mq
open Go.RowKit sl harn bx mrw
set_option linter.unusedVariables false
set_option linter.unusedSimpArgs false

/-- What TakeMessage hands back. -/
def TPost (t : List Msg × Msg × Bool) (d : Int) (w : World) (e : Ending) (w' : World) : Prop :=
  ∃ (A : Option Addr) (n cap : Nat) (es : List (El Msg)) (f : El Msg), e = .returned (.tuple #[qV A n cap d, mV t.2.1 f.A f.n f.c, .bool t.2.2]) ∧ es.map (·.x) = t.1 ∧ Oe msg w' w.heap.size w'.heap.size A n cap es ∧ Ow 5 .u8 w' w.heap.size w'.heap.size f.A f.n f.c t.2.1.2.2.2 ∧ Ds (es ++ [f]) ∧ Below w.heap.size w w'
theorem results_cct {fn : Func} {p q r : Tmp} {t1 t2 : TypeId} (h : fn.results = #[.cell p t1, .cell q t2, .tmp r]) (tmps : Array Value) (P : Program) (w : World) :
    (results fn tmps).run P w = ((asAddr (tmps.getD p undef)).run P w).andThen fun a w₁ => ((loadVar t1 a).run P w₁).andThen fun v w₂ => ((asAddr (tmps.getD q undef)).run P w₂).andThen fun a2 w₃ => ((loadVar t2 a2).run P w₃).andThen fun v2 w₄ => .ok (.tuple #[v, v2, tmps.getD r undef]) w₄ := by
  simp only [results, h]
  simp [Sem.run_bind, Result.andThen]
theorem back_cct {P : Program} {w : World} {b1 b2 : Nat} {t1 t2 T1 T2 : TypeId} {c1 c2 : Array Value} {d1 d2 : TypeDesc} (h1 : Bx T1 w b1 c1) (hu1 : P.underlying t1 = some d1) (hd1 : d1.isRow = true) (hi1 : (P.info? t1).map (·.size) = some c1.size) (h2 : Bx T2 w b2 c2) (hu2 : P.underlying t2 = some d2) (hd2 : d2.isRow = true) (hi2 : (P.info? t2).map (·.size) = some c2.size) (x : Value) :
    (((asAddr (.pointer (some ⟨b1, 0, none⟩))).run P w).andThen fun a w₁ => ((loadVar t1 a).run P w₁).andThen fun v w₂ => ((asAddr (.pointer (some ⟨b2, 0, none⟩))).run P w₂).andThen fun a2 w₃ => ((loadVar t2 a2).run P w₃).andThen fun v2 w₄ => Result.ok (Value.tuple #[v, v2, x]) w₄) = .ok (.tuple #[.agg c1, .agg c2, x]) w := by
  have e1 := run_loadVar_mid w b1 0 t1 c1.toList d1 (stw.range_of h1) hu1 hd1 (by simpa using hi1)
  have e2 := run_loadVar_mid w b2 0 t2 c2.toList d2 (stw.range_of h2) hu2 hd2 (by simpa using hi2)
  simp [asAddr, e1, e2, Result.andThen]
theorem ds_none {es : List (El Msg)} (h : Ds es) (x : Msg) : Ds (es ++ [⟨x, none, 0, 0⟩]) := by
  refine List.pairwise_append.2 ⟨h, List.pairwise_singleton _ _, fun e he f hf a b ha hb => ?_⟩
  obtain rfl : f = ⟨x, none, 0, 0⟩ := by simpa using hf
  cases hb
theorem ds_out {es : List (El Msg)} (h : Ds es) {i : Nat} {e : El Msg} (he : es[i]? = some e) : Ds (es.eraseIdx i ++ [e]) := by
  have hi : i < es.length := (List.getElem?_eq_some_iff.1 he).1
  have hv : es[i] = e := (List.getElem?_eq_some_iff.1 he).2
  refine List.pairwise_append.2 ⟨List.Pairwise.sublist (List.eraseIdx_sublist _ _) h, List.pairwise_singleton _ _, fun x hx f hf a b ha hb => ?_⟩
  obtain rfl : f = e := by simpa using hf
  unfold Ds at h
  rw [List.pairwise_iff_getElem] at h
  obtain ⟨j, hj, hne⟩ := List.mem_eraseIdx_iff_getElem.1 hx
  obtain ⟨hjl, hji, hx2⟩ : ∃ (hjl : j < es.length), j ≠ i ∧ es[j] = x := ⟨hj, hne.1, hne.2⟩
  rcases Nat.lt_or_gt_of_ne hji with hlt | hgt
  · have := h j i hjl hi hlt
    rw [hx2, hv] at this
    exact this a b ha hb
  · have := h i j hi hjl hgt
    rw [hx2, hv] at this
    exact fun e => this b a hb ha e.symm
set_option maxRecDepth 100000 in
set_option maxHeartbeats 4000000 in
theorem implTk (ms : List Msg) (d i : Int) (hi0 : (Lit.int .i64 i).wf = true) (A : Option Addr) (n cap lo hi : Nat) (hn : n ≤ 67108864) (hbd : ∀ y ∈ ms, y.2.2.2.length ≤ 67108864) (w : World) (h : Rq msg w lo hi A n cap ms) :
    Calls Try.prog 24 #[qV A n cap d, .int .i64 i] w (TPost (tk ms i) d w) := by
  obtain ⟨i0, hi0, hz0, hz1, hz2⟩ := info_parts infoM
  have HZ := Lib.hid (And.intro hi0 (And.intro hz0 (And.intro hz1 hz2)))
  clear hi0 hz0 hz1 hz2
  have QW := Lib.hid h
  have hqh := h.hi_
  have hqc := h.cap_
  have HBD := Lib.hid hbd
  clear h hbd
  have HN := Lib.hid hn
  have HLN0 := Lib.hid QW.out.len
  have HIW := Lib.hid hi0
  obtain ⟨v0, h0⟩ : ∃ v, decide (0 ≤ i ∧ i ≤ (n : Int) - 1) = v := ⟨_, rfl⟩
  have HV0 := Lib.hid h0
  have m1 : IntKind.i64.wrap ((n : Int) - 1) = (n : Int) - 1 := IntWalk.i64_in _ (by omega)
  clear hn h0 hi0
  go_enter Try.func24, Try.ntmps24
  go_wp2_with fail
  obtain ⟨w0, hW⟩ : ∃ w0, ((w.alloc (.cells #[.slice A n cap, .int .i64 d] 26)).alloc (.cells #[.slice none 0 0, .int .i64 0] 26)).alloc (.cells #[.int .i64 0, .int .i64 0, .int .i64 0, .slice none 0 0] 28) = w0 := ⟨_, rfl⟩
  rw [hW]
  have B0 := Lib.hid (show Below w.heap.size w w0 by rw [← hW]; exact (((Below.refl _ _).alloc (by simp <;> omega) _).alloc (by simp <;> omega) _).alloc (by simp <;> omega) _)
  have X0 := Lib.hid (show Bx 26 w0 (w.heap.size) #[.slice A n cap, .int .i64 d] by
      rw [← hW]
      have hh := Bx.made 26 w #[.slice A n cap, .int .i64 d]
      exact ((hh.below (below_box _ _)).below (below_box _ _)))
  have Z0 := Lib.hid (show Bx 26 w0 (w.heap.size + 1) #[.slice none 0 0, .int .i64 0] by
      rw [← hW]
      have hh : Bx 26 ((w.alloc (.cells #[.slice A n cap, .int .i64 d] 26)).alloc (.cells #[.slice none 0 0, .int .i64 0] 26)) (w.heap.size + 1) #[.slice none 0 0, .int .i64 0] := by have hh := Bx.made 26 (w.alloc (.cells #[.slice A n cap, .int .i64 d] 26)) #[.slice none 0 0, .int .i64 0]; simpa using hh
      exact (hh.below (below_box _ _)))
  have Y0 := Lib.hid (show Bx 28 w0 (w.heap.size + 1 + 1) #[.int .i64 0, .int .i64 0, .int .i64 0, .slice none 0 0] by
      rw [← hW]
      have hh : Bx 28 (((w.alloc (.cells #[.slice A n cap, .int .i64 d] 26)).alloc (.cells #[.slice none 0 0, .int .i64 0] 26)).alloc (.cells #[.int .i64 0, .int .i64 0, .int .i64 0, .slice none 0 0] 28)) (w.heap.size + 1 + 1) #[.int .i64 0, .int .i64 0, .int .i64 0, .slice none 0 0] := by have hh := Bx.made 28 ((w.alloc (.cells #[.slice A n cap, .int .i64 d] 26)).alloc (.cells #[.slice none 0 0, .int .i64 0] 26)) #[.int .i64 0, .int .i64 0, .int .i64 0, .slice none 0 0]; simpa using hh
      exact hh)
  have Q0 := Lib.hid (show Rq msg w0 lo hi A n cap ms by rw [← hW]; exact (((QW.out.below (below_box _ _)).below (below_box _ _)).below (below_box _ _)))
  clear hW
  have LTX := Lib.hid X0.out.lt
  have LTZ := Lib.hid Z0.out.lt
  have LTY := Lib.hid Y0.out.lt
  (with_reducible refine (implCq ms d A n cap lo hi HN.out HBD.out _ Q0.out).mono ?_)
  rintro e w1 hp
  obtain ⟨A1, n1, c1, es, rfl, gHES, ho, hb⟩ := q_parts hp
  clear hp
  obtain rfl : n = n1 := by have h1 := ho.len; have h2 := congrArg List.length gHES; have h3 := Q0.out.len; simp at h2; omega
  have HES := Lib.hid gHES
  clear gHES
  have SS1 := Lib.hid hb.size
  have B1 := Lib.hid (B0.out.trans (hb.mono B0.out.size))
  have X1 := Lib.hid (X0.out.below hb)
  have Z1 := Lib.hid (Z0.out.below hb)
  have Y1 := Lib.hid (Y0.out.below hb)
  have Q1 := Lib.hid (Q0.out.below hb)
  clear hb B0 X0 Z0 Y0 Q0
  have O1 := Lib.hid ho
  clear ho
  go_upto_region 2 with fail
  obtain ⟨bp, hbb⟩ : ∃ b, w1.heap.size = b := ⟨_, rfl⟩
  generalize hW : w1.alloc (.cells #[.slice A1 n c1, .int .i64 d] 26) = w2
  have LP := Lib.hid (show w.heap.size ≤ bp ∧ w.heap.size < bp ∧ w.heap.size + 1 < bp ∧ w.heap.size + 1 + 1 < bp ∧ hi ≤ bp ∧ w1.heap.size ≤ bp by have h1 := B1.out.size; have h2X := X1.out.lt; have h2Z := Z1.out.lt; have h2Y := Y1.out.lt; have h2Q := Q1.out.hi_; have h2O := O1.out.hi_; have h3 := hbb; omega)
  have P2 := Lib.hid (show Bx 26 w2 bp #[.slice A1 n c1, .int .i64 d] by rw [← hW, ← hbb]; exact Bx.made _ _ _)
  have hb : Below w1.heap.size w1 w2 := by rw [← hW]; exact below_box _ _
  (try rw [hbb])
  clear hW hbb
  have SS2 := Lib.hid hb.size
  have B2 := Lib.hid (B1.out.trans (hb.mono B1.out.size))
  have X2 := Lib.hid (X1.out.below hb)
  have Z2 := Lib.hid (Z1.out.below hb)
  have Y2 := Lib.hid (Y1.out.below hb)
  have Q2 := Lib.hid (Q1.out.below hb)
  have O2 := Lib.hid (O1.out.below hb)
  clear hb B1 X1 Z1 Y1 Q1 O1
  have cX0 : w2.cell? ⟨w.heap.size, 0, none⟩ = some (.slice A n cap) := X2.out.cell 0
  go_wp2_with fail
  clear cX0
  clear m1
  (with_reducible refine (inR i 0 ((n : Int) - 1) v0 _ HV0.out).mono ?_)
  rintro e wq ⟨rfl, rfl⟩
  cases v0 with
  | true =>
    obtain ⟨ii, rfl⟩ : ∃ ii : Nat, i = (ii : Int) := ⟨i.toNat, by have h1 := of_decide_eq_true HV0.out; omega⟩
    have hii : ii < n := by have h1 := of_decide_eq_true HV0.out; omega
    have hii2 : (ii : Int) < n := by omega
    obtain ⟨e0, he0, hey⟩ : ∃ e, es[ii]? = some e ∧ ms[ii]? = some e.x := by
      have hl := O2.out.len
      have h1 : es[ii]? = some (es[ii]'(by omega)) := List.getElem?_eq_getElem (by omega)
      exact ⟨_, h1, by rw [← HES.out, List.getElem?_map, h1]; rfl⟩
    obtain ⟨y, Ay, ny, cy⟩ := e0
    obtain ⟨g, hgA, hg1, hg2, hr⟩ := O2.out.at_ he0
    subst hgA
    have hr0 : w2.cell? ⟨g, ii * 4, none⟩ = some (.int .i64 y.1) := hr 0 _ rfl
    have hr1 : w2.cell? ⟨g, ii * 4 + 1, none⟩ = some (.int .i64 y.2.1) := hr 1 _ rfl
    have hr2 : w2.cell? ⟨g, ii * 4 + 2, none⟩ = some (.int .i64 y.2.2.1) := hr 2 _ rfl
    have hr3 : w2.cell? ⟨g, ii * 4 + 3, none⟩ = some (.slice Ay ny cy) := hr 3 _ rfl
    have HE0 := Lib.hid he0
    have HE := Lib.hid (show tk ms (ii : Int) = (ms.eraseIdx ii, y, true) by unfold tk; rw [if_pos (by rw [HLN0.out]; omega), Int.toNat_natCast, getD_of hey])
    have W2 := Lib.hid (O2.out.body _ (List.mem_of_getElem? he0))
    clear he0 hey hr
    have cP0 : w2.cell? ⟨bp, 0, none⟩ = some (.slice (some ⟨g, 0, none⟩) n c1) := P2.out.cell 0
    go_upto_region 5 with fail
    clear cP0 hr0 hr1 hr2 hr3
    obtain ⟨bv, hbb⟩ : ∃ b, w2.heap.size = b := ⟨_, rfl⟩
    generalize hW : w2.alloc (.cells #[.int .i64 y.1, .int .i64 y.2.1, .int .i64 y.2.2.1, .slice Ay ny cy] 28) = w3
    have LV := Lib.hid (show w.heap.size ≤ bv ∧ w.heap.size < bv ∧ w.heap.size + 1 < bv ∧ w.heap.size + 1 + 1 < bv ∧ bp < bv ∧ hi ≤ bv ∧ w1.heap.size ≤ bv ∧ w1.heap.size ≤ bv by have h1 := B2.out.size; have h2X := X2.out.lt; have h2Z := Z2.out.lt; have h2Y := Y2.out.lt; have h2P := P2.out.lt; have h2Q := Q2.out.hi_; have h2O := O2.out.hi_; have h2W := W2.out.hi_; have h3 := hbb; omega)
    have V3 := Lib.hid (show Bx 28 w3 bv #[.int .i64 y.1, .int .i64 y.2.1, .int .i64 y.2.2.1, .slice Ay ny cy] by rw [← hW, ← hbb]; exact Bx.made _ _ _)
    have hb : Below w2.heap.size w2 w3 := by rw [← hW]; exact below_box _ _
    (try rw [hbb])
    clear hW hbb
    have SS3 := Lib.hid hb.size
    have B3 := Lib.hid (B2.out.trans (hb.mono B2.out.size))
    have X3 := Lib.hid (X2.out.below hb)
    have Z3 := Lib.hid (Z2.out.below hb)
    have Y3 := Lib.hid (Y2.out.below hb)
    have P3 := Lib.hid (P2.out.below hb)
    have Q3 := Lib.hid (Q2.out.below hb)
    have O3 := Lib.hid (O2.out.below hb)
    have W3 := Lib.hid (W2.out.below hb)
    clear hb B2 X2 Z2 Y2 P2 Q2 O2 W2
    refine rgf.region_freeU reg.Bel [reg.Bel, reg.Bel, (fun ua ub => Oe msg ua w0.heap.size w1.heap.size (some ⟨g, 0, none⟩) n c1 es ∧ ua.grownBy ub (some g)), reg.Bel, (fun ua ub => stw.Put 26 ua (w.heap.size + 1) #[.slice (some ⟨g, 0, none⟩) (n - 1) c1, .int .i64 d] ub), (fun ua ub => stw.Put 28 ua (w.heap.size + 1 + 1) #[.int .i64 y.1, .int .i64 y.2.1, .int .i64 y.2.2.1, .slice Ay ny cy] ub), reg.Bel]
      (fun j => match j with | 0 => rgf.pureS (.agg #[.slice (some ⟨g, 0, none⟩) n c1, .int .i64 d]) | 1 => rgf.pureS (.int .i64 ((ii : Int))) | 2 => ⟨fun v ua => v = .agg #[.slice (some ⟨g, 0, none⟩) (n - 1) c1, .int .i64 d] ∧ Oe msg ua w0.heap.size w1.heap.size (some ⟨g, 0, none⟩) (n - 1) c1 (es.eraseIdx ii), fun v ua ub h hb => ⟨h.1, h.2.below hb⟩, fun _ v ua ub h hb => ⟨h.1, h.2.below hb⟩, fun _ v ua ub h hb => ⟨h.1, h.2.below hb⟩, fun h => absurd rfl h, fun _ v ua ub h hb => ⟨h.1, h.2.below hb⟩, fun _ v ua ub h hp => ⟨h.1, h.2.same hp.below.size (fun b h1 h2 => hp.other b (by have hlP := LP.out; have hlV := LV.out; have hs0 := LTX.out; have hs1 := LTZ.out; have hs2 := LTY.out; have hs3 := SS1.out; have hs4 := SS2.out; have hs5 := SS3.out; omega))⟩, fun _ v ua ub h hp => ⟨h.1, h.2.same hp.below.size (fun b h1 h2 => hp.other b (by have hlP := LP.out; have hlV := LV.out; have hs0 := LTX.out; have hs1 := LTZ.out; have hs2 := LTY.out; have hs3 := SS1.out; have hs4 := SS2.out; have hs5 := SS3.out; omega))⟩, fun _ v ua ub h hb => ⟨h.1, h.2.below hb⟩, trivial⟩ | 3 => rgf.pureS (.agg #[.int .i64 y.1, .int .i64 y.2.1, .int .i64 y.2.2.1, .slice Ay ny cy]) | 4 => ⟨fun _ ua => Bx 26 ua (w.heap.size + 1) #[.slice (some ⟨g, 0, none⟩) (n - 1) c1, .int .i64 d], fun v ua ub h hb => h.below hb, fun _ v ua ub h hb => h.below hb, fun _ v ua ub h hb => h.below hb, fun _ v ua ub h h2 => grown_bx h h2.2 (fun e => by have hlP := LP.out; have hlV := LV.out; have hs0 := LTX.out; have hs1 := LTZ.out; have hs2 := LTY.out; have hs3 := SS1.out; have hs4 := SS2.out; have hs5 := SS3.out; have e2 := Option.some.inj e; omega), fun _ v ua ub h hb => h.below hb, fun h => absurd rfl h, fun _ v ua ub h hp => hp.keep h (by omega), fun _ v ua ub h hb => h.below hb, trivial⟩ | 5 => ⟨fun _ ua => Bx 28 ua (w.heap.size + 1 + 1) #[.int .i64 y.1, .int .i64 y.2.1, .int .i64 y.2.2.1, .slice Ay ny cy], fun v ua ub h hb => h.below hb, fun _ v ua ub h hb => h.below hb, fun _ v ua ub h hb => h.below hb, fun _ v ua ub h h2 => grown_bx h h2.2 (fun e => by have hlP := LP.out; have hlV := LV.out; have hs0 := LTX.out; have hs1 := LTZ.out; have hs2 := LTY.out; have hs3 := SS1.out; have hs4 := SS2.out; have hs5 := SS3.out; have e2 := Option.some.inj e; omega), fun _ v ua ub h hb => h.below hb, fun _ v ua ub h hp => hp.keep h (by omega), fun h => absurd rfl h, fun _ v ua ub h hb => h.below hb, trivial⟩ | 6 => rgf.pureS (.bool true) | _ => rgf.freeS)
      2 ⟨fun _ ua => Oe msg ua w0.heap.size w1.heap.size (some ⟨g, 0, none⟩) n c1 es, fun v ua ub h hb => h.below hb, fun _ v ua ub h hb => h.below hb, fun _ v ua ub h hb => h.below hb, fun h => absurd rfl h, fun _ v ua ub h hb => h.below hb, fun _ v ua ub h hp => h.same hp.below.size (fun b h1 h2 => hp.other b (by have hlP := LP.out; have hlV := LV.out; have hs0 := LTX.out; have hs1 := LTZ.out; have hs2 := LTY.out; have hs3 := SS1.out; have hs4 := SS2.out; have hs5 := SS3.out; omega)), fun _ v ua ub h hp => h.same hp.below.size (fun b h1 h2 => hp.other b (by have hlP := LP.out; have hlV := LV.out; have hs0 := LTX.out; have hs1 := LTZ.out; have hs2 := LTY.out; have hs3 := SS1.out; have hs4 := SS2.out; have hs5 := SS3.out; omega)), fun _ v ua ub h hb => h.below hb, trivial⟩
      29 [(4, 27), (5, 28)] [some [], some [], some [(0, 25), (1, 26)], some [], some [(2, 27)], some [(3, 28)], some []] [(0, 25), (1, 26), (2, 27), (3, 28), (6, 6)]
      (fun w' => Below w.heap.size w w' ∧ Bx 26 w' bp #[.slice (some ⟨g, 0, none⟩) n c1, .int .i64 d] ∧ Bx 28 w' bv #[.int .i64 y.1, .int .i64 y.2.1, .int .i64 y.2.2.1, .slice Ay ny cy] ∧ stw.Lies 26 (w.heap.size + 1) 2 w' ∧ stw.Lies 28 (w.heap.size + 1 + 1) 4 w' ∧ Ow 5 .u8 w' w0.heap.size w1.heap.size Ay ny cy y.2.2.2)
      (by kernel_rfl) (by kernel_rfl) rfl
      (fun ua ub hc hb => ⟨hc.1.trans (hb.mono hc.1.size), hc.2.1.below hb, hc.2.2.1.below hb, hc.2.2.2.1.same (hb.block _ hc.2.2.2.1.lt), hc.2.2.2.2.1.same (hb.block _ hc.2.2.2.2.1.lt), hc.2.2.2.2.2.below hb⟩)
      ⟨fun ua ub hc hb => ⟨hc.1.trans (hb.mono hc.1.size), hc.2.1.below hb, hc.2.2.1.below hb, hc.2.2.2.1.same (hb.block _ hc.2.2.2.1.lt), hc.2.2.2.2.1.same (hb.block _ hc.2.2.2.2.1.lt), hc.2.2.2.2.2.below hb⟩, fun ua ub hc hb => ⟨hc.1.trans (hb.mono hc.1.size), hc.2.1.below hb, hc.2.2.1.below hb, hc.2.2.2.1.same (hb.block _ hc.2.2.2.1.lt), hc.2.2.2.2.1.same (hb.block _ hc.2.2.2.2.1.lt), hc.2.2.2.2.2.below hb⟩, fun ua ub hc h2 => ⟨below_grown hc.1 h2.2 (fun q hq => by have hlP := LP.out; have hlV := LV.out; have hs0 := LTX.out; have hs1 := LTZ.out; have hs2 := LTY.out; have hs3 := SS1.out; have hs4 := SS2.out; have hs5 := SS3.out; have := (h2.1.lo_ hq).1; omega) hc.1.size, grown_bx hc.2.1 h2.2 (rgp.ne_type hc.2.1 h2.1 (by decide)), grown_bx hc.2.2.1 h2.2 (fun e => by have hlP := LP.out; have hlV := LV.out; have hs0 := LTX.out; have hs1 := LTZ.out; have hs2 := LTY.out; have hs3 := SS1.out; have hs4 := SS2.out; have hs5 := SS3.out; have e2 := Option.some.inj e; omega), hc.2.2.2.1.same (h2.2.block _ hc.2.2.2.1.lt (fun e => by have hlP := LP.out; have hlV := LV.out; have hs0 := LTX.out; have hs1 := LTZ.out; have hs2 := LTY.out; have hs3 := SS1.out; have hs4 := SS2.out; have hs5 := SS3.out; have e2 := Option.some.inj e; omega)), hc.2.2.2.2.1.same (h2.2.block _ hc.2.2.2.2.1.lt (fun e => by have hlP := LP.out; have hlV := LV.out; have hs0 := LTX.out; have hs1 := LTZ.out; have hs2 := LTY.out; have hs3 := SS1.out; have hs4 := SS2.out; have hs5 := SS3.out; have e2 := Option.some.inj e; omega)), ow_grown h2.1 h2.2 hc.2.2.2.2.2⟩, fun ua ub hc hb => ⟨hc.1.trans (hb.mono hc.1.size), hc.2.1.below hb, hc.2.2.1.below hb, hc.2.2.2.1.same (hb.block _ hc.2.2.2.1.lt), hc.2.2.2.2.1.same (hb.block _ hc.2.2.2.2.1.lt), hc.2.2.2.2.2.below hb⟩, fun ua ub hc hp => ⟨hp.on hc.1 (by have hlP := LP.out; have hlV := LV.out; have hs0 := LTX.out; have hs1 := LTZ.out; have hs2 := LTY.out; have hs3 := SS1.out; have hs4 := SS2.out; have hs5 := SS3.out; omega), hp.keep hc.2.1 (by have hlP := LP.out; have hlV := LV.out; have hs0 := LTX.out; have hs1 := LTZ.out; have hs2 := LTY.out; have hs3 := SS1.out; have hs4 := SS2.out; have hs5 := SS3.out; omega), hp.keep hc.2.2.1 (by have hlP := LP.out; have hlV := LV.out; have hs0 := LTX.out; have hs1 := LTZ.out; have hs2 := LTY.out; have hs3 := SS1.out; have hs4 := SS2.out; have hs5 := SS3.out; omega), hc.2.2.2.1.put hp (fun e => ⟨rfl, rfl⟩), hc.2.2.2.2.1.put hp (fun e => by exfalso; omega), hc.2.2.2.2.2.same hp.below.size (fun b h1 h2 => hp.other b (by have hlP := LP.out; have hlV := LV.out; have hs0 := LTX.out; have hs1 := LTZ.out; have hs2 := LTY.out; have hs3 := SS1.out; have hs4 := SS2.out; have hs5 := SS3.out; omega))⟩, fun ua ub hc hp => ⟨hp.on hc.1 (by have hlP := LP.out; have hlV := LV.out; have hs0 := LTX.out; have hs1 := LTZ.out; have hs2 := LTY.out; have hs3 := SS1.out; have hs4 := SS2.out; have hs5 := SS3.out; omega), hp.keep hc.2.1 (by have hlP := LP.out; have hlV := LV.out; have hs0 := LTX.out; have hs1 := LTZ.out; have hs2 := LTY.out; have hs3 := SS1.out; have hs4 := SS2.out; have hs5 := SS3.out; omega), hp.keep hc.2.2.1 (by have hlP := LP.out; have hlV := LV.out; have hs0 := LTX.out; have hs1 := LTZ.out; have hs2 := LTY.out; have hs3 := SS1.out; have hs4 := SS2.out; have hs5 := SS3.out; omega), hc.2.2.2.1.put hp (fun e => by exfalso; omega), hc.2.2.2.2.1.put hp (fun e => ⟨rfl, rfl⟩), hc.2.2.2.2.2.same hp.below.size (fun b h1 h2 => hp.other b (by have hlP := LP.out; have hlV := LV.out; have hs0 := LTX.out; have hs1 := LTZ.out; have hs2 := LTY.out; have hs3 := SS1.out; have hs4 := SS2.out; have hs5 := SS3.out; omega))⟩, fun ua ub hc hb => ⟨hc.1.trans (hb.mono hc.1.size), hc.2.1.below hb, hc.2.2.1.below hb, hc.2.2.2.1.same (hb.block _ hc.2.2.2.1.lt), hc.2.2.2.2.1.same (hb.block _ hc.2.2.2.2.1.lt), hc.2.2.2.2.2.below hb⟩, trivial⟩
      (⟨own.below_drew B3.out, P3.out.same rfl, V3.out.same rfl, (stw.Lies.of Z3.out).same rfl, (stw.Lies.of Y3.out).same rfl, W3.out.same (Nat.le_refl _) (fun _ _ _ => rfl)⟩) (O3.out.same (Nat.le_refl _) (fun _ _ _ => rfl)) (by kernel_rfl) ⟨?_, ?_, ?_, ?_, ?_, ?_, ?_, trivial⟩ ?_
    · refine fun w8 hc hu  K hK => ?_
      (try simp only [Act.put, List.setIfInBounds_toArray, List.set_cons_zero, List.set_cons_succ])
      rw [if_pos (by rfl)]
      refine stw.wp_load_bx 26 _ rfl bp rfl 26 _ hc.2.1 Try.underlying26 rfl szQ ?_
      exact hK _ _ rfl (Below.refl _ _)
    · refine fun w8 hc hu  K hK => ?_
      (try simp only [Act.put, List.setIfInBounds_toArray, List.set_cons_zero, List.set_cons_succ])
      go_simp
      exact hK (.int .i64 ((ii : Int))) _ rfl (Below.refl _ _)
    · refine fun w8 hc hu v0 h0 v1 h1 K hK => ?_
      obtain rfl : v0 = .agg #[.slice (some ⟨g, 0, none⟩) n c1, .int .i64 d] := h0
      obtain rfl : v1 = .int .i64 ((ii : Int)) := h1
      (try simp only [Act.put, List.setIfInBounds_toArray, List.set_cons_zero, List.set_cons_succ])
      have ho := hu rfl
      go_simp
      (with_reducible refine (withoutM es d g n c1 _ _ ii hii HN.out _ ho).mono ?_)
      rintro e w3 ⟨rfl, ho3, hg3⟩
      exact hK _ _ ⟨rfl, ho3⟩ ⟨ho, hg3⟩
    · refine fun w8 hc hu  K hK => ?_
      (try simp only [Act.put, List.setIfInBounds_toArray, List.set_cons_zero, List.set_cons_succ])
      rw [if_pos (by rfl)]
      refine stw.wp_load_bx 28 _ rfl bv rfl 28 _ hc.2.2.1 Try.underlying28 rfl szM ?_
      exact hK _ _ rfl (Below.refl _ _)
    · refine fun w8 hc hu v2 h2 K hK => ?_
      obtain ⟨rfl, -⟩ := h2
      (try simp only [Act.put, List.setIfInBounds_toArray, List.set_cons_zero, List.set_cons_succ])
      obtain ⟨cur, hcur, hXc⟩ := hc.2.2.2.1
      refine stw.step_store rfl 26 _ _ rfl (w.heap.size + 1) #[.slice (some ⟨g, 0, none⟩) (n - 1) c1, .int .i64 d] rfl rfl 26 _ hXc (by rw [hcur]; rfl) szQ (oneQ _ _ _ _) ?_
      intro wz hz
      exact hK undef _ hz.box hz
    · refine fun w8 hc hu v3 h3 K hK => ?_
      obtain rfl : v3 = .agg #[.int .i64 y.1, .int .i64 y.2.1, .int .i64 y.2.2.1, .slice Ay ny cy] := h3
      (try simp only [Act.put, List.setIfInBounds_toArray, List.set_cons_zero, List.set_cons_succ])
      obtain ⟨cur, hcur, hXc⟩ := hc.2.2.2.2.1
      refine stw.step_store rfl 28 _ _ rfl (w.heap.size + 1 + 1) #[.int .i64 y.1, .int .i64 y.2.1, .int .i64 y.2.2.1, .slice Ay ny cy] rfl rfl 28 _ hXc (by rw [hcur]; rfl) szM (oneM _ _ _ _ _ _) ?_
      intro wz hz
      exact hK undef _ hz.box hz
    · refine fun w8 hc hu  K hK => ?_
      (try simp only [Act.put, List.setIfInBounds_toArray, List.set_cons_zero, List.set_cons_succ])
      go_simp
      exact hK (.bool true) _ rfl (Below.refl _ _)
    refine fun w9 hc v0 h0 v1 h1 v2 h2 v3 h3 v6 h6 => ?_
    obtain rfl : v0 = .agg #[.slice (some ⟨g, 0, none⟩) n c1, .int .i64 d] := h0
    obtain rfl : v1 = .int .i64 ((ii : Int)) := h1
    obtain ⟨rfl, hO⟩ := h2
    obtain rfl : v3 = .agg #[.int .i64 y.1, .int .i64 y.2.1, .int .i64 y.2.2.1, .slice Ay ny cy] := h3
    obtain rfl : v6 = .bool true := h6
    (try simp only [reg.Obs])
    intro hrf
    have g4 : Bx 26 w9 (w.heap.size + 1) #[.slice (some ⟨g, 0, none⟩) (n - 1) c1, .int .i64 d] := hrf (4, 27) (by simp) rfl
    have g5 : Bx 28 w9 (w.heap.size + 1 + 1) #[.int .i64 y.1, .int .i64 y.2.1, .int .i64 y.2.2.1, .slice Ay ny cy] := hrf (5, 28) (by simp) rfl
    clear hrf
    (try simp only [Act.put, List.setIfInBounds_toArray, List.set_cons_zero, List.set_cons_succ])
    (try simp only [Exit.inBlock, Exit.then])
    have G4 := Lib.hid g4
    have G5 := Lib.hid g5
    have HO := Lib.hid hO
    have HC := Lib.hid hc
    clear g4 g5 hO hc
    go_wp2_with fail
    refine bodyPost_ret (v := .tuple #[.agg #[.slice (some ⟨g, 0, none⟩) (n - 1) c1, .int .i64 d], .agg #[.int .i64 y.1, .int .i64 y.2.1, .int .i64 y.2.2.1, .slice Ay ny cy], .bool true]) ?_ rfl ?_
    · rw [results_cct rfl]
      exact back_cct G4.out Try.underlying26 rfl szQ G5.out Try.underlying28 rfl szM _
    · rw [HE.out]
      refine ⟨some ⟨g, 0, none⟩, n - 1, c1, es.eraseIdx ii, ⟨y, Ay, ny, cy⟩, rfl, by rw [map_erase, HES.out], ?_, ?_, ds_out O3.out.ds HE0.out, HC.out.1⟩
      · exact HO.out.up.down (by have hlP := LP.out; have hlV := LV.out; have hs0 := LTX.out; have hs1 := LTZ.out; have hs2 := LTY.out; have hs3 := SS1.out; have hs4 := SS2.out; have hs5 := SS3.out; omega)
      · exact HC.out.2.2.2.2.2.up.down (by have hlP := LP.out; have hlV := LV.out; have hs0 := LTX.out; have hs1 := LTZ.out; have hs2 := LTY.out; have hs3 := SS1.out; have hs4 := SS2.out; have hs5 := SS3.out; omega)
  | false =>
    have HE := Lib.hid (show tk ms i = (ms, zm, false) by unfold tk; rw [if_neg (by have h1 := of_decide_eq_false HV0.out; rw [HLN0.out]; omega)])
    have cP0 : w2.cell? ⟨bp, 0, none⟩ = some (.slice A1 n c1) := P2.out.cell 0
    have cP1 : w2.cell? ⟨bp, 1, none⟩ = some (.int .i64 d) := P2.out.cell 1
    have cZ0 : w2.cell? ⟨w.heap.size + 1, 0, none⟩ = some (.slice none 0 0) := Z2.out.cell 0
    have cZ1 : w2.cell? ⟨w.heap.size + 1, 1, none⟩ = some (.int .i64 0) := Z2.out.cell 1
    have fZ0 : w2.frozen? ⟨w.heap.size + 1, 0, none⟩ = false := Z2.out.free 0
    have fZ1 : w2.frozen? ⟨w.heap.size + 1, 1, none⟩ = false := Z2.out.free 1
    have cY0 : w2.cell? ⟨w.heap.size + 1 + 1, 0, none⟩ = some (.int .i64 0) := Y2.out.cell 0
    have cY1 : w2.cell? ⟨w.heap.size + 1 + 1, 1, none⟩ = some (.int .i64 0) := Y2.out.cell 1
    have cY2 : w2.cell? ⟨w.heap.size + 1 + 1, 2, none⟩ = some (.int .i64 0) := Y2.out.cell 2
    have cY3 : w2.cell? ⟨w.heap.size + 1 + 1, 3, none⟩ = some (.slice none 0 0) := Y2.out.cell 3
    have fY0 : w2.frozen? ⟨w.heap.size + 1 + 1, 0, none⟩ = false := Y2.out.free 0
    have fY1 : w2.frozen? ⟨w.heap.size + 1 + 1, 1, none⟩ = false := Y2.out.free 1
    have fY2 : w2.frozen? ⟨w.heap.size + 1 + 1, 2, none⟩ = false := Y2.out.free 2
    have fY3 : w2.frozen? ⟨w.heap.size + 1 + 1, 3, none⟩ = false := Y2.out.free 3
    have hw0 := LTY.out
    go_wp2_with fail
    (try simp only [Exit.inBlock, Exit.then])
    refine bodyPost_ret (v := .tuple #[qV A1 n c1 d, .agg #[.int .i64 0, .int .i64 0, .int .i64 0, .slice none 0 0], .bool false]) ?_ rfl ?_
    · rw [results_cct rfl]
      go_simp
    · rw [HE.out]
      refine ⟨A1, n, c1, es, ⟨zm, none, 0, 0⟩, rfl, HES.out, ?_, ?_, ds_none O2.out.ds _, ?_⟩
      · exact ((O2.out).same (by simp [World.setCell]) (fun b h1 _ => by rw [Below.heap_setCell _ _ _ _ (show b ≠ w.heap.size + 1 + 1 by omega), Below.heap_setCell _ _ _ _ (show b ≠ w.heap.size + 1 + 1 by omega), Below.heap_setCell _ _ _ _ (show b ≠ w.heap.size + 1 + 1 by omega), Below.heap_setCell _ _ _ _ (show b ≠ w.heap.size + 1 + 1 by omega), Below.heap_setCell _ _ _ _ (show b ≠ w.heap.size + 1 by omega), Below.heap_setCell _ _ _ _ (show b ≠ w.heap.size + 1 by omega)])).up.down (by omega)
      · exact Ow.nil_ _ _ _ _ _ (Nat.le_refl _)
      · exact ((((((B2.out.setCell (p := ⟨w.heap.size + 1, 0, none⟩) (by show w.heap.size ≤ w.heap.size + 1; omega) _).setCell (p := ⟨w.heap.size + 1, 1, none⟩) (by show w.heap.size ≤ w.heap.size + 1; omega) _).setCell (p := ⟨w.heap.size + 1 + 1, 0, none⟩) (by show w.heap.size ≤ w.heap.size + 1 + 1; omega) _).setCell (p := ⟨w.heap.size + 1 + 1, 1, none⟩) (by show w.heap.size ≤ w.heap.size + 1 + 1; omega) _).setCell (p := ⟨w.heap.size + 1 + 1, 2, none⟩) (by show w.heap.size ≤ w.heap.size + 1 + 1; omega) _).setCell (p := ⟨w.heap.size + 1 + 1, 3, none⟩) (by show w.heap.size ≤ w.heap.size + 1 + 1; omega) _)
end Go.Proofs.Ytjmenbpalihnnaa.mq
end

section
namespace Go.Proofs.Ytjmenbpalihnnaa.mq
open Go.RowKit sl harn bx mrw
set_option linter.unusedVariables false
set_option linter.unusedSimpArgs false

set_option maxRecDepth 100000 in
set_option maxHeartbeats 4000000 in
theorem specEn (x : Msg) (Am : Option Addr) (nm cm lo2 hi2 : Nat) (ms : List Msg) (d : Int) (A : Option Addr) (n cap lo hi : Nat) (hn : n ≤ 67108864) (hbd : ∀ y ∈ ms, y.2.2.2.length ≤ 67108864) (w : World) (h : Rq msg w lo hi A n cap ms) (hx : Rd .u8 w lo2 hi2 Am nm cm x.2.2.2) (hxn : nm ≤ 67108864) :
    Calls Try.prog 99 #[qV A n cap d, mV x Am nm cm] w (QPost (enq ms d x) w) := by
  obtain ⟨i0, hi0, hz0, hz1, hz2⟩ := info_parts infoM
  have HZ := Lib.hid (And.intro hi0 (And.intro hz0 (And.intro hz1 hz2)))
  clear hi0 hz0 hz1 hz2
  have QW := Lib.hid h
  have hqh := h.hi_
  have hqc := h.cap_
  have HBD := Lib.hid hbd
  clear h hbd
  have RW := Lib.hid hx
  have hrh := hx.hi_
  have HXN := Lib.hid hxn
  have HN := Lib.hid hn
  have HLN0 := Lib.hid QW.out.len
  obtain ⟨v0, h0⟩ : ∃ v, vq ms d = v := ⟨_, rfl⟩
  obtain ⟨v1, h1⟩ : ∃ v, vm x = v := ⟨_, rfl⟩
  have HQV := Lib.hid h0
  have HMV := Lib.hid h1
  clear hx hxn hn h0 h1
  go_enter Try.func99, Try.ntmps99
  go_wp2_with fail
  obtain ⟨w0, hW⟩ : ∃ w0, ((w.alloc (.cells #[.slice A n cap, .int .i64 d] 26)).alloc (.cells #[.int .i64 x.1, .int .i64 x.2.1, .int .i64 x.2.2.1, .slice Am nm cm] 28)).alloc (.cells #[.slice none 0 0, .int .i64 0] 26) = w0 := ⟨_, rfl⟩
  rw [hW]
  have B0 := Lib.hid (show Below w.heap.size w w0 by rw [← hW]; exact (((Below.refl _ _).alloc (by simp <;> omega) _).alloc (by simp <;> omega) _).alloc (by simp <;> omega) _)
  have X0 := Lib.hid (show Bx 26 w0 (w.heap.size) #[.slice A n cap, .int .i64 d] by
      rw [← hW]
      have hh := Bx.made 26 w #[.slice A n cap, .int .i64 d]
      exact ((hh.below (below_box _ _)).below (below_box _ _)))
  have M0 := Lib.hid (show Bx 28 w0 (w.heap.size + 1) #[.int .i64 x.1, .int .i64 x.2.1, .int .i64 x.2.2.1, .slice Am nm cm] by
      rw [← hW]
      have hh : Bx 28 ((w.alloc (.cells #[.slice A n cap, .int .i64 d] 26)).alloc (.cells #[.int .i64 x.1, .int .i64 x.2.1, .int .i64 x.2.2.1, .slice Am nm cm] 28)) (w.heap.size + 1) #[.int .i64 x.1, .int .i64 x.2.1, .int .i64 x.2.2.1, .slice Am nm cm] := by have hh := Bx.made 28 (w.alloc (.cells #[.slice A n cap, .int .i64 d] 26)) #[.int .i64 x.1, .int .i64 x.2.1, .int .i64 x.2.2.1, .slice Am nm cm]; simpa using hh
      exact (hh.below (below_box _ _)))
  have Z0 := Lib.hid (show Bx 26 w0 (w.heap.size + 1 + 1) #[.slice none 0 0, .int .i64 0] by
      rw [← hW]
      have hh : Bx 26 (((w.alloc (.cells #[.slice A n cap, .int .i64 d] 26)).alloc (.cells #[.int .i64 x.1, .int .i64 x.2.1, .int .i64 x.2.2.1, .slice Am nm cm] 28)).alloc (.cells #[.slice none 0 0, .int .i64 0] 26)) (w.heap.size + 1 + 1) #[.slice none 0 0, .int .i64 0] := by have hh := Bx.made 26 ((w.alloc (.cells #[.slice A n cap, .int .i64 d] 26)).alloc (.cells #[.int .i64 x.1, .int .i64 x.2.1, .int .i64 x.2.2.1, .slice Am nm cm] 28)) #[.slice none 0 0, .int .i64 0]; simpa using hh
      exact hh)
  have Q0 := Lib.hid (show Rq msg w0 lo hi A n cap ms by rw [← hW]; exact (((QW.out.below (below_box _ _)).below (below_box _ _)).below (below_box _ _)))
  have R0 := Lib.hid (show Rd .u8 w0 (lo2) (hi2) Am nm cm x.2.2.2 by rw [← hW]; exact (((RW.out.below (below_box _ _)).below (below_box _ _)).below (below_box _ _)))
  clear hW
  have LTX := Lib.hid X0.out.lt
  have LTM := Lib.hid M0.out.lt
  have LTZ := Lib.hid Z0.out.lt
  (with_reducible refine (specCq ms d A n cap lo hi HN.out HBD.out _ Q0.out).mono ?_)
  rintro e w1 hp
  obtain ⟨A1, n1, c1, es, rfl, gHES, ho, hb⟩ := q_parts hp
  clear hp
  obtain rfl : n = n1 := by have h1 := ho.len; have h2 := congrArg List.length gHES; have h3 := Q0.out.len; simp at h2; omega
  have HES := Lib.hid gHES
  clear gHES
  have SS1 := Lib.hid hb.size
  have B1 := Lib.hid (B0.out.trans (hb.mono B0.out.size))
  have X1 := Lib.hid (X0.out.below hb)
  have M1 := Lib.hid (M0.out.below hb)
  have Z1 := Lib.hid (Z0.out.below hb)
  have Q1 := Lib.hid (Q0.out.below hb)
  have R1 := Lib.hid (R0.out.below hb)
  clear hb B0 X0 M0 Z0 Q0 R0
  have O1 := Lib.hid ho
  clear ho
  go_upto_region 2 with fail
  obtain ⟨bp, hbb⟩ : ∃ b, w1.heap.size = b := ⟨_, rfl⟩
  generalize hW : w1.alloc (.cells #[.slice A1 n c1, .int .i64 d] 26) = w2
  have LP := Lib.hid (show w.heap.size ≤ bp ∧ w.heap.size < bp ∧ w.heap.size + 1 < bp ∧ w.heap.size + 1 + 1 < bp ∧ hi ≤ bp ∧ hi2 ≤ bp ∧ w1.heap.size ≤ bp by have h1 := B1.out.size; have h2X := X1.out.lt; have h2M := M1.out.lt; have h2Z := Z1.out.lt; have h2Q := Q1.out.hi_; have h2R := R1.out.hi_; have h2O := O1.out.hi_; have h3 := hbb; omega)
  have P2 := Lib.hid (show Bx 26 w2 bp #[.slice A1 n c1, .int .i64 d] by rw [← hW, ← hbb]; exact Bx.made _ _ _)
  have hb : Below w1.heap.size w1 w2 := by rw [← hW]; exact below_box _ _
  (try rw [hbb])
  clear hW hbb
  have SS2 := Lib.hid hb.size
  have B2 := Lib.hid (B1.out.trans (hb.mono B1.out.size))
  have X2 := Lib.hid (X1.out.below hb)
  have M2 := Lib.hid (M1.out.below hb)
  have Z2 := Lib.hid (Z1.out.below hb)
  have Q2 := Lib.hid (Q1.out.below hb)
  have R2 := Lib.hid (R1.out.below hb)
  have O2 := Lib.hid (O1.out.below hb)
  clear hb B1 X1 M1 Z1 Q1 R1 O1
  have LWP := Lib.hid P2.out.lt
  have cX0 : w2.cell? ⟨w.heap.size, 0, none⟩ = some (.slice A n cap) := X2.out.cell 0
  have cX1 : w2.cell? ⟨w.heap.size, 1, none⟩ = some (.int .i64 d) := X2.out.cell 1
  go_wp2_with fail
  clear cX0 cX1
  (with_reducible refine (specVq ms d A n cap _ _ _ Q2.out).mono ?_)
  rintro e w3 hp
  obtain ⟨rfl, hb⟩ := b_parts HQV.out hp
  clear hp
  have SS3 := Lib.hid hb.size
  have B3 := Lib.hid (B2.out.trans (hb.mono B2.out.size))
  have X3 := Lib.hid (X2.out.below hb)
  have M3 := Lib.hid (M2.out.below hb)
  have Z3 := Lib.hid (Z2.out.below hb)
  have P3 := Lib.hid (P2.out.below hb)
  have Q3 := Lib.hid (Q2.out.below hb)
  have R3 := Lib.hid (R2.out.below hb)
  have O3 := Lib.hid (O2.out.below hb)
  clear hb  B2 X2 M2 Z2 P2 Q2 R2 O2
  cases v0 with
  | true =>
    have cM0 : w3.cell? ⟨w.heap.size + 1, 0, none⟩ = some (.int .i64 x.1) := M3.out.cell 0
    have cM1 : w3.cell? ⟨w.heap.size + 1, 1, none⟩ = some (.int .i64 x.2.1) := M3.out.cell 1
    have cM2 : w3.cell? ⟨w.heap.size + 1, 2, none⟩ = some (.int .i64 x.2.2.1) := M3.out.cell 2
    have cM3 : w3.cell? ⟨w.heap.size + 1, 3, none⟩ = some (.slice Am nm cm) := M3.out.cell 3
    go_wp2_with fail
    clear cM0 cM1 cM2 cM3
    (with_reducible refine (specVm x Am nm cm R3.out.len _).mono ?_)
    rintro e w4 hp
    obtain ⟨rfl, hb⟩ := b_parts HMV.out hp
    clear hp
    have SS4 := Lib.hid hb.size
    have B4 := Lib.hid (B3.out.trans (hb.mono B3.out.size))
    have X4 := Lib.hid (X3.out.below hb)
    have M4 := Lib.hid (M3.out.below hb)
    have Z4 := Lib.hid (Z3.out.below hb)
    have P4 := Lib.hid (P3.out.below hb)
    have Q4 := Lib.hid (Q3.out.below hb)
    have R4 := Lib.hid (R3.out.below hb)
    have O4 := Lib.hid (O3.out.below hb)
    clear hb  B3 X3 M3 Z3 P3 Q3 R3 O3
    cases v1 with
    | true =>
      have hn12 : n ≤ 12 := by have h := HQV.out; unfold vq at h; rw [HLN0.out] at h; simp at h; omega
      have cM0 : w4.cell? ⟨w.heap.size + 1, 0, none⟩ = some (.int .i64 x.1) := M4.out.cell 0
      have cM1 : w4.cell? ⟨w.heap.size + 1, 1, none⟩ = some (.int .i64 x.2.1) := M4.out.cell 1
      have cM2 : w4.cell? ⟨w.heap.size + 1, 2, none⟩ = some (.int .i64 x.2.2.1) := M4.out.cell 2
      have cM3 : w4.cell? ⟨w.heap.size + 1, 3, none⟩ = some (.slice Am nm cm) := M4.out.cell 3
      go_wp2_with fail
      clear cM0 cM1 cM2 cM3
      (with_reducible refine (specCm x Am nm cm _ _ _ R4.out HXN.out).mono ?_)
      rintro e w5 hp
      obtain ⟨A2, n2, c2, rfl, ho2, hb⟩ := x_parts hp
      clear hp
      have SS5 := Lib.hid hb.size
      have B5 := Lib.hid (B4.out.trans (hb.mono B4.out.size))
      have X5 := Lib.hid (X4.out.below hb)
      have M5 := Lib.hid (M4.out.below hb)
      have Z5 := Lib.hid (Z4.out.below hb)
      have P5 := Lib.hid (P4.out.below hb)
      have Q5 := Lib.hid (Q4.out.below hb)
      have R5 := Lib.hid (R4.out.below hb)
      have O5 := Lib.hid (O4.out.below hb)
      clear hb B4 X4 M4 Z4 P4 Q4 R4 O4
      have H5 := Lib.hid ho2
      clear ho2
      go_upto_region 5 with fail
      obtain ⟨bv, hbb⟩ : ∃ b, w5.heap.size = b := ⟨_, rfl⟩
      generalize hW : w5.alloc (.cells #[.int .i64 x.1, .int .i64 x.2.1, .int .i64 x.2.2.1, .slice A2 n2 c2] 28) = w6
      have LV := Lib.hid (show w.heap.size ≤ bv ∧ w.heap.size < bv ∧ w.heap.size + 1 < bv ∧ w.heap.size + 1 + 1 < bv ∧ bp < bv ∧ hi ≤ bv ∧ w1.heap.size ≤ bv ∧ w5.heap.size ≤ bv by have h1 := B5.out.size; have h2X := X5.out.lt; have h2M := M5.out.lt; have h2Z := Z5.out.lt; have h2P := P5.out.lt; have h2Q := Q5.out.hi_; have h2O := O5.out.hi_; have h2H := H5.out.hi_; have h3 := hbb; omega)
      have V6 := Lib.hid (show Bx 28 w6 bv #[.int .i64 x.1, .int .i64 x.2.1, .int .i64 x.2.2.1, .slice A2 n2 c2] by rw [← hW, ← hbb]; exact Bx.made _ _ _)
      have hb : Below w5.heap.size w5 w6 := by rw [← hW]; exact below_box _ _
      (try rw [hbb])
      clear hW hbb
      have SS6 := Lib.hid hb.size
      have B6 := Lib.hid (B5.out.trans (hb.mono B5.out.size))
      have X6 := Lib.hid (X5.out.below hb)
      have M6 := Lib.hid (M5.out.below hb)
      have Z6 := Lib.hid (Z5.out.below hb)
      have P6 := Lib.hid (P5.out.below hb)
      have Q6 := Lib.hid (Q5.out.below hb)
      have O6 := Lib.hid (O5.out.below hb)
      have H6 := Lib.hid (H5.out.below hb)
      clear hb B5 X5 M5 Z5 P5 Q5 O5 H5
      have LWV := Lib.hid V6.out.lt
      have cP0 : w6.cell? ⟨bp, 0, none⟩ = some (.slice A1 n c1) := P6.out.cell 0
      have cV0 : w6.cell? ⟨bv, 0, none⟩ = some (.int .i64 x.1) := V6.out.cell 0
      have cV1 : w6.cell? ⟨bv, 1, none⟩ = some (.int .i64 x.2.1) := V6.out.cell 1
      have cV2 : w6.cell? ⟨bv, 2, none⟩ = some (.int .i64 x.2.2.1) := V6.out.cell 2
      have cV3 : w6.cell? ⟨bv, 3, none⟩ = some (.slice A2 n2 c2) := V6.out.cell 3
      go_upto_region 6 with (at_builtin; refine list_push w6 rfl _ _ 24 rfl Try.underlying24 HZ.out.1 HZ.out.2.1 HZ.out.2.2.1 (by rw [HZ.out.2.2.2]; omega) rfl rfl rfl O6.out ⟨x, A2, n2, c2⟩ H6.out (by have hlP := LP.out; have hlV := LV.out; have hs0 := LTX.out; have hs1 := LTM.out; have hs2 := LTZ.out; have hs3 := SS1.out; have hs4 := SS2.out; have hs5 := LWP.out; have hs6 := SS3.out; have hs7 := SS4.out; have hs8 := SS5.out; have hs9 := SS6.out; have hs10 := LWV.out; first | omega | (simp <;> omega)) (by have hlP := LP.out; have hlV := LV.out; have hs0 := LTX.out; have hs1 := LTM.out; have hs2 := LTZ.out; have hs3 := SS1.out; have hs4 := SS2.out; have hs5 := LWP.out; have hs6 := SS3.out; have hs7 := SS4.out; have hs8 := SS5.out; have hs9 := SS6.out; have hs10 := LWV.out; first | omega | (simp <;> omega)) (by omega) (by have hlP := LP.out; have hlV := LV.out; have hs0 := LTX.out; have hs1 := LTM.out; have hs2 := LTZ.out; have hs3 := SS1.out; have hs4 := SS2.out; have hs5 := LWP.out; have hs6 := SS3.out; have hs7 := SS4.out; have hs8 := SS5.out; have hs9 := SS6.out; have hs10 := LWV.out; first | omega | (simp <;> omega)) ?_; intro A3 c3 w7 ho hg; have B7 := Lib.hid (below_grown B6.out hg (fun q hq => by have hlP := LP.out; have hlV := LV.out; have hs0 := LTX.out; have hs1 := LTM.out; have hs2 := LTZ.out; have hs3 := SS1.out; have hs4 := SS2.out; have hs5 := LWP.out; have hs6 := SS3.out; have hs7 := SS4.out; have hs8 := SS5.out; have hs9 := SS6.out; have hs10 := LWV.out; have := (O6.out.lo_ hq).1; omega) B6.out.size); have X7 := Lib.hid (grown_bx X6.out hg (rgp.ne_type X6.out O6.out (by decide))); have M7 := Lib.hid (grown_bx M6.out hg (fun e => by have hlP := LP.out; have hlV := LV.out; have hs0 := LTX.out; have hs1 := LTM.out; have hs2 := LTZ.out; have hs3 := SS1.out; have hs4 := SS2.out; have hs5 := LWP.out; have hs6 := SS3.out; have hs7 := SS4.out; have hs8 := SS5.out; have hs9 := SS6.out; have hs10 := LWV.out; have := O6.out.lo_ e.symm; omega)); have Z7 := Lib.hid (grown_bx Z6.out hg (rgp.ne_type Z6.out O6.out (by decide))); have P7 := Lib.hid (grown_bx P6.out hg (rgp.ne_type P6.out O6.out (by decide))); have V7 := Lib.hid (grown_bx V6.out hg (fun e => by have hlP := LP.out; have hlV := LV.out; have hs0 := LTX.out; have hs1 := LTM.out; have hs2 := LTZ.out; have hs3 := SS1.out; have hs4 := SS2.out; have hs5 := LWP.out; have hs6 := SS3.out; have hs7 := SS4.out; have hs8 := SS5.out; have hs9 := SS6.out; have hs10 := LWV.out; have := O6.out.lo_ e.symm; omega)); have Q7 := Lib.hid (rq_grown Q6.out O6.out hg (by have hlP := LP.out; have hlV := LV.out; have hs0 := LTX.out; have hs1 := LTM.out; have hs2 := LTZ.out; have hs3 := SS1.out; have hs4 := SS2.out; have hs5 := LWP.out; have hs6 := SS3.out; have hs7 := SS4.out; have hs8 := SS5.out; have hs9 := SS6.out; have hs10 := LWV.out; first | omega | (simp <;> omega))); have H7 := Lib.hid (ow_grown O6.out hg H6.out); have SS7 := Lib.hid hg.size; clear B6 X6 M6 Z6 P6 V6 Q6 O6 H6; have O7 := Lib.hid ho; clear ho hg; have cP0 : w7.cell? ⟨bp, 0, none⟩ = some (.slice A1 n c1) := P7.out.cell 0; have fP0 : w7.frozen? ⟨bp, 0, none⟩ = false := P7.out.free 0)
      clear cP0 cV0 cV1 cV2 cV3
      clear cP0 fP0
      have hWW : (w7.setCell ⟨bp, 0, none⟩ (.slice A3 (n + 1) c3)) = (w7.setCell ⟨bp, 0, none⟩ (.slice A3 (n + 1) c3)) := rfl
      obtain ⟨w8, hW⟩ : ∃ wy, (w7.setCell ⟨bp, 0, none⟩ (.slice A3 (n + 1) c3)) = wy := ⟨_, rfl⟩
      rw [hW]
      clear hWW
      have B8 := Lib.hid (show Below w.heap.size w w8 by rw [← hW]; exact (B7.out.setCell (p := ⟨bp, 0, none⟩) (by have hlP := LP.out; have hlV := LV.out; have hs0 := LTX.out; have hs1 := LTM.out; have hs2 := LTZ.out; have hs3 := SS1.out; have hs4 := SS2.out; have hs5 := LWP.out; have hs6 := SS3.out; have hs7 := SS4.out; have hs8 := SS5.out; have hs9 := SS6.out; have hs10 := LWV.out; have hs11 := SS7.out; first | omega | (simp <;> omega)) _))
      have X8 := Lib.hid (show Bx 26 w8 (w.heap.size) #[.slice A n cap, .int .i64 d] by rw [← hW]; exact (X7.out.other (by have hlP := LP.out; have hlV := LV.out; have hs0 := LTX.out; have hs1 := LTM.out; have hs2 := LTZ.out; have hs3 := SS1.out; have hs4 := SS2.out; have hs5 := LWP.out; have hs6 := SS3.out; have hs7 := SS4.out; have hs8 := SS5.out; have hs9 := SS6.out; have hs10 := LWV.out; have hs11 := SS7.out; first | omega | (simp <;> omega)) _ _))
      have M8 := Lib.hid (show Bx 28 w8 (w.heap.size + 1) #[.int .i64 x.1, .int .i64 x.2.1, .int .i64 x.2.2.1, .slice Am nm cm] by rw [← hW]; exact (M7.out.other (by have hlP := LP.out; have hlV := LV.out; have hs0 := LTX.out; have hs1 := LTM.out; have hs2 := LTZ.out; have hs3 := SS1.out; have hs4 := SS2.out; have hs5 := LWP.out; have hs6 := SS3.out; have hs7 := SS4.out; have hs8 := SS5.out; have hs9 := SS6.out; have hs10 := LWV.out; have hs11 := SS7.out; first | omega | (simp <;> omega)) _ _))
      have Z8 := Lib.hid (show Bx 26 w8 (w.heap.size + 1 + 1) #[.slice none 0 0, .int .i64 0] by rw [← hW]; exact (Z7.out.other (by have hlP := LP.out; have hlV := LV.out; have hs0 := LTX.out; have hs1 := LTM.out; have hs2 := LTZ.out; have hs3 := SS1.out; have hs4 := SS2.out; have hs5 := LWP.out; have hs6 := SS3.out; have hs7 := SS4.out; have hs8 := SS5.out; have hs9 := SS6.out; have hs10 := LWV.out; have hs11 := SS7.out; first | omega | (simp <;> omega)) _ _))
      have P8 := Lib.hid (show Bx 26 w8 (bp) #[.slice A3 (n + 1) c3, .int .i64 d] by rw [← hW]; exact (P7.out.set 0 _))
      have V8 := Lib.hid (show Bx 28 w8 (bv) #[.int .i64 x.1, .int .i64 x.2.1, .int .i64 x.2.2.1, .slice A2 n2 c2] by rw [← hW]; exact (V7.out.other (by have hlP := LP.out; have hlV := LV.out; have hs0 := LTX.out; have hs1 := LTM.out; have hs2 := LTZ.out; have hs3 := SS1.out; have hs4 := SS2.out; have hs5 := LWP.out; have hs6 := SS3.out; have hs7 := SS4.out; have hs8 := SS5.out; have hs9 := SS6.out; have hs10 := LWV.out; have hs11 := SS7.out; first | omega | (simp <;> omega)) _ _))
      have Q8 := Lib.hid (show Rq msg w8 lo hi A n cap ms by rw [← hW]; exact (Q7.out.same (by simp [World.setCell]) fun b h1 h2 => by rw [Below.heap_setCell _ _ _ _ (by have hlP := LP.out; have hlV := LV.out; have hs0 := LTX.out; have hs1 := LTM.out; have hs2 := LTZ.out; have hs3 := SS1.out; have hs4 := SS2.out; have hs5 := LWP.out; have hs6 := SS3.out; have hs7 := SS4.out; have hs8 := SS5.out; have hs9 := SS6.out; have hs10 := LWV.out; have hs11 := SS7.out; first | omega | (simp <;> omega))]))
      have O8 := Lib.hid (show Oe msg w8 w0.heap.size w7.heap.size A3 (n + 1) c3 (es ++ [⟨x, A2, n2, c2⟩]) by rw [← hW]; exact (rgp.oe_setCell O7.out P7.out (by decide) (by decide) 0 _))
      clear hW B7 X7 M7 Z7 P7 V7 Q7 O7
      obtain ⟨f3, hf3⟩ : ∃ f : El Msg, f = ⟨x, A2, n2, c2⟩ := ⟨_, rfl⟩
      rw [← hf3] at O8
      have HEQ := Lib.hid (show (es ++ [f3]).map (·.x) = ms ++ [x] by rw [List.map_append, HES.out, hf3]; rfl)
      have HLL := Lib.hid (show (ms ++ [x]).length = n + 1 by rw [List.length_append, HLN0.out]; rfl)
      clear hf3
      have cP0 : w8.cell? ⟨bp, 0, none⟩ = some (.slice A3 (n + 1) c3) := P8.out.cell 0
      have cP1 : w8.cell? ⟨bp, 1, none⟩ = some (.int .i64 d) := P8.out.cell 1
      by_cases hle : n + 1 ≤ 12
      · have hd1 : decide ((n : Int) + 1 ≤ 12) = true := decide_eq_true (by omega)
        have HE := Lib.hid (show enq ms d x = (ms ++ [x], d) by unfold enq; rw [HQV.out, HMV.out, if_pos (show (true && true) = true from rfl), if_pos (by rw [HLL.out]; exact hle)])
        go_wp2_with (first | (refine stw.list_load rfl 26 _ rfl (bp) rfl 26 _ P8.out Try.underlying26 rfl szQ ?_) | (refine stw.list_store rfl 26 _ _ rfl (w.heap.size + 1 + 1) #[.slice A3 (n + 1) c3, .int .i64 d] rfl rfl 26 _ Z8.out rfl szQ (oneQ _ _ _ _) ?_; intro wz9 hz))
        clear cP0 cP1
        have B9 := Lib.hid (hz.on B8.out (by have hlP := LP.out; have hlV := LV.out; have hs0 := LTX.out; have hs1 := LTM.out; have hs2 := LTZ.out; have hs3 := SS1.out; have hs4 := SS2.out; have hs5 := LWP.out; have hs6 := SS3.out; have hs7 := SS4.out; have hs8 := SS5.out; have hs9 := SS6.out; have hs10 := LWV.out; have hs11 := SS7.out; first | omega | (simp <;> omega)))
        have X9 := Lib.hid (hz.keep X8.out (by have hlP := LP.out; have hlV := LV.out; have hs0 := LTX.out; have hs1 := LTM.out; have hs2 := LTZ.out; have hs3 := SS1.out; have hs4 := SS2.out; have hs5 := LWP.out; have hs6 := SS3.out; have hs7 := SS4.out; have hs8 := SS5.out; have hs9 := SS6.out; have hs10 := LWV.out; have hs11 := SS7.out; first | omega | (simp <;> omega)))
        have M9 := Lib.hid (hz.keep M8.out (by have hlP := LP.out; have hlV := LV.out; have hs0 := LTX.out; have hs1 := LTM.out; have hs2 := LTZ.out; have hs3 := SS1.out; have hs4 := SS2.out; have hs5 := LWP.out; have hs6 := SS3.out; have hs7 := SS4.out; have hs8 := SS5.out; have hs9 := SS6.out; have hs10 := LWV.out; have hs11 := SS7.out; first | omega | (simp <;> omega)))
        have Z9 := Lib.hid (hz.box)
        have P9 := Lib.hid (hz.keep P8.out (by have hlP := LP.out; have hlV := LV.out; have hs0 := LTX.out; have hs1 := LTM.out; have hs2 := LTZ.out; have hs3 := SS1.out; have hs4 := SS2.out; have hs5 := LWP.out; have hs6 := SS3.out; have hs7 := SS4.out; have hs8 := SS5.out; have hs9 := SS6.out; have hs10 := LWV.out; have hs11 := SS7.out; first | omega | (simp <;> omega)))
        have V9 := Lib.hid (hz.keep V8.out (by have hlP := LP.out; have hlV := LV.out; have hs0 := LTX.out; have hs1 := LTM.out; have hs2 := LTZ.out; have hs3 := SS1.out; have hs4 := SS2.out; have hs5 := LWP.out; have hs6 := SS3.out; have hs7 := SS4.out; have hs8 := SS5.out; have hs9 := SS6.out; have hs10 := LWV.out; have hs11 := SS7.out; first | omega | (simp <;> omega)))
        have Q9 := Lib.hid (Q8.out.same hz.below.size fun b h1 h2 => hz.other b (by have hlP := LP.out; have hlV := LV.out; have hs0 := LTX.out; have hs1 := LTM.out; have hs2 := LTZ.out; have hs3 := SS1.out; have hs4 := SS2.out; have hs5 := LWP.out; have hs6 := SS3.out; have hs7 := SS4.out; have hs8 := SS5.out; have hs9 := SS6.out; have hs10 := LWV.out; have hs11 := SS7.out; first | omega | (simp <;> omega)))
        have O9 := Lib.hid (rgp.oe_set O8.out Z8.out (by decide) (by decide) hz.below.size (fun k hk => hz.other k hk))
        clear hz B8 X8 M8 Z8 P8 V8 Q8 O8
        (try simp only [Exit.inBlock, Exit.then])
        refine bodyPost_ret (v := .agg #[.slice A3 (n + 1) c3, .int .i64 d]) ?_ rfl ?_
        · rw [results_cell1 rfl]
          exact stw.back Z9.out Try.underlying26 rfl szQ
        · exact by rw [HE.out]; exact ⟨_, _, _, rfl, ⟨_, HEQ.out, (O9.out).up.down (by have hlP := LP.out; have hlV := LV.out; have hs0 := LTX.out; have hs1 := LTM.out; have hs2 := LTZ.out; have hs3 := SS1.out; have hs4 := SS2.out; have hs5 := LWP.out; have hs6 := SS3.out; have hs7 := SS4.out; have hs8 := SS5.out; have hs9 := SS6.out; have hs10 := LWV.out; have hs11 := SS7.out; first | omega | (simp <;> omega))⟩, B9.out⟩
      · have hd1 : decide ((n : Int) + 1 ≤ 12) = false := decide_eq_false (by omega)
        obtain ⟨u, hu⟩ : ∃ u, IntKind.i64.wrap (d + 1) = u := ⟨_, rfl⟩
        have HU := Lib.hid hu
        obtain ⟨N, hN⟩ : ∃ N, n + 1 = N := ⟨_, rfl⟩
        have hN2 : (n : Int) + 1 = (N : Int) := by omega
        have HE := Lib.hid (show ∀ zi : Nat, bst le (ms ++ [x]) N = (zi : Int) → enq ms d x = ((ms ++ [x]).eraseIdx zi, u) from fun zi hz => by unfold enq; rw [HQV.out, HMV.out, if_pos (show (true && true) = true from rfl), if_neg (by rw [HLL.out]; exact hle), HLL.out, hN, hz, hu, Int.toNat_natCast])
        obtain ⟨g, hgA⟩ := oe_some O8.out (by omega)
        subst hgA
        rw [hN] at HLL
        have HNN := Lib.hid hN
        clear hu
        clear cP0 cP1
        have O58 := Lib.hid (show Oe msg w8 w0.heap.size w7.heap.size (some ⟨g, 0, none⟩) N c3 (es ++ [f3]) by rw [← hN]; exact O8.out)
        have P58 := Lib.hid (show Bx 26 w8 bp #[.slice (some ⟨g, 0, none⟩) N c3, .int .i64 d] by rw [← hN]; exact P8.out)
        clear O8 P8
        have O8 := O58
        have P8 := P58
        clear O58 P58
        have hd1 : decide ((N : Int) ≤ 12) = false := decide_eq_false (by omega)
        have hN1 : 0 < N := by omega
        have hN3 : N ≤ 13 := by omega
        have hN4 : (((n + 1 : Nat)) : Int) = (N : Int) := by omega
        have G8 := Lib.hid (show Rq msg w8 w0.heap.size w7.heap.size (some ⟨g, 0, none⟩) N c3 (ms ++ [x]) by rw [← HEQ.out]; exact O8.out.rq)
        have cP0 : w8.cell? ⟨bp, 0, none⟩ = some (.slice (some ⟨g, 0, none⟩) N c3) := P8.out.cell 0
        have cP1 : w8.cell? ⟨bp, 1, none⟩ = some (.int .i64 d) := P8.out.cell 1
        skip
        go_wp2_with fail
        clear hN hN2 hN4 hd1
        clear cP0 cP1
        go_loopw [7, 8] (fun v0 v1 wr => ∃ (k : Nat) (zi : Nat), v0 = .int .i64 ((zi : Int)) ∧ v1 = .int .i64 ((k : Int)) ∧ (k ≤ N) ∧ (((zi : Int) = bst le (ms ++ [x]) k ∨ (k = 0 ∧ zi = 0)) ∧ zi < N) ∧ Below w.heap.size w wr ∧ Bx 26 wr w.heap.size #[.slice A n cap, .int .i64 d] ∧ Bx 28 wr (w.heap.size + 1) #[.int .i64 x.1, .int .i64 x.2.1, .int .i64 x.2.2.1, .slice Am nm cm] ∧ Bx 26 wr (w.heap.size + 1 + 1) #[.slice none 0 0, .int .i64 0] ∧ Bx 26 wr bp #[.slice (some ⟨g, 0, none⟩) N c3, .int .i64 d] ∧ Bx 28 wr bv #[.int .i64 x.1, .int .i64 x.2.1, .int .i64 x.2.2.1, .slice A2 n2 c2] ∧ Rq msg wr lo hi A n cap ms ∧ Oe msg wr w0.heap.size w7.heap.size (some ⟨g, 0, none⟩) N c3 (es ++ [f3]) ∧ Rq msg wr w0.heap.size w7.heap.size (some ⟨g, 0, none⟩) N c3 (ms ++ [x])) (fun _ i _ => N - (intOf i).toNat)
        case atStart => exact ⟨0, 0, rfl, rfl, by omega, ⟨Or.inr ⟨rfl, rfl⟩, by omega⟩, B8.out, X8.out, M8.out, Z8.out, P8.out, V8.out, Q8.out, O8.out, G8.out⟩
        case round =>
          obtain ⟨k, zi, rfl, rfl, ghk, ghz, gB9, gX9, gM9, gZ9, gP9, gV9, gQ9, gO9, gG9⟩ := hrel
          have B9 := Lib.hid gB9
          have X9 := Lib.hid gX9
          have M9 := Lib.hid gM9
          have Z9 := Lib.hid gZ9
          have P9 := Lib.hid gP9
          have V9 := Lib.hid gV9
          have Q9 := Lib.hid gQ9
          have O9 := Lib.hid gO9
          have G9 := Lib.hid gG9
          have hk := Lib.hid ghk
          have hz := Lib.hid ghz
          clear gB9 gX9 gM9 gZ9 gP9 gV9 gQ9 gO9 gG9 ghk ghz
          have LUX9 := Lib.hid X9.out.lt
          have LUM9 := Lib.hid M9.out.lt
          have LUZ9 := Lib.hid Z9.out.lt
          have LUP9 := Lib.hid P9.out.lt
          have LUV9 := Lib.hid V9.out.lt
          have hk := hk.out
          have hzn := hz.out.2
          have cP0 : wr.cell? ⟨bp, 0, none⟩ = some (.slice (some ⟨g, 0, none⟩) N c3) := P9.out.cell 0
          by_cases hlt : k < N
          · have hlt2 : (k : Int) < N := by omega
            obtain ⟨b1, off1, y1, hA1, hy1, h11, h21, A1', n1', c1', hd1, c10, c11, c12, c13⟩ := at_ G9.out hlt
            obtain ⟨b2, off2, y2, hA2, hy2, h12, h22, A2', n2', c2', hd2, c20, c21, c22, c23⟩ := at_ G9.out hzn
            injection hA1 with hA1
            injection hA1 with hb1 ho1
            subst hb1 ho1
            injection hA2 with hA2
            injection hA2 with hb2 ho2
            subst hb2 ho2
            have HY1 := Lib.hid (getD_of hy1)
            have HY2 := Lib.hid (getD_of hy2)
            clear hy1 hy2 hd1 hd2
            have hzl2 : (zi : Int) < N := by omega
            go_upto_region 12 with fail
            clear cP0
            simp only [Nat.zero_add] at c10 c11 c12 c13 c20 c21 c22 c23
            have da0 : ∀ m : Af wr, m.w.cell? ⟨g, k * 4, none⟩ = some (.int .i64 y1.1) := fun m => by rw [m.below.cell (World.block_lt_of_cell? _ _ c10)]; exact c10
            have da1 : ∀ m : Af wr, m.w.cell? ⟨g, k * 4 + 1, none⟩ = some (.int .i64 y1.2.1) := fun m => by rw [m.below.cell (World.block_lt_of_cell? _ _ c11)]; exact c11
            have da2 : ∀ m : Af wr, m.w.cell? ⟨g, k * 4 + 2, none⟩ = some (.int .i64 y1.2.2.1) := fun m => by rw [m.below.cell (World.block_lt_of_cell? _ _ c12)]; exact c12
            have da3 : ∀ m : Af wr, m.w.cell? ⟨g, k * 4 + 3, none⟩ = some (.slice A1' n1' c1') := fun m => by rw [m.below.cell (World.block_lt_of_cell? _ _ c13)]; exact c13
            have db0 : ∀ m : Af wr, m.w.cell? ⟨g, zi * 4, none⟩ = some (.int .i64 y2.1) := fun m => by rw [m.below.cell (World.block_lt_of_cell? _ _ c20)]; exact c20
            have db1 : ∀ m : Af wr, m.w.cell? ⟨g, zi * 4 + 1, none⟩ = some (.int .i64 y2.2.1) := fun m => by rw [m.below.cell (World.block_lt_of_cell? _ _ c21)]; exact c21
            have db2 : ∀ m : Af wr, m.w.cell? ⟨g, zi * 4 + 2, none⟩ = some (.int .i64 y2.2.2.1) := fun m => by rw [m.below.cell (World.block_lt_of_cell? _ _ c22)]; exact c22
            have db3 : ∀ m : Af wr, m.w.cell? ⟨g, zi * 4 + 3, none⟩ = some (.slice A2' n2' c2') := fun m => by rw [m.below.cell (World.block_lt_of_cell? _ _ c23)]; exact c23
            clear c10 c11 c12 c13 c20 c21 c22 c23
            obtain ⟨v, hv⟩ : ∃ v, decide (y1.2.1 ≤ y2.2.1) = v := ⟨_, rfl⟩
            have HV := Lib.hid hv
            have q0 : ∀ m : Af wr, m.w.cell? ⟨bp, 0, none⟩ = some (.slice (some ⟨g, 0, none⟩) N c3) := fun m => (Af.cells P9.out m).cell 0
            refine region_after (by kernel_rfl) (by kernel_rfl) ?_
            repeat (go_big_quiet_step (fail))
            refine wpQuiet_nil ?_
            intro _ hw'
            obtain ⟨nq, hw''⟩ := hw'
            subst hw''
            clear q0 da0 da1 da2 da3 db0 db1 db2 db3
            obtain ⟨w10, hw5⟩ : ∃ w5, nq.w = w5 := ⟨_, rfl⟩
            have hb := nq.below
            rw [hw5] at hb
            (try rw [hw5])
            clear hw5
            have SS10 := Lib.hid hb.size
            have B10 := Lib.hid (B9.out.trans (hb.mono B9.out.size))
            have X10 := Lib.hid (X9.out.below hb)
            have M10 := Lib.hid (M9.out.below hb)
            have Z10 := Lib.hid (Z9.out.below hb)
            have P10 := Lib.hid (P9.out.below hb)
            have V10 := Lib.hid (V9.out.below hb)
            have Q10 := Lib.hid (Q9.out.below hb)
            have O10 := Lib.hid (O9.out.below hb)
            have G10 := Lib.hid (G9.out.below hb)
            clear hb nq B9 X9 M9 Z9 P9 V9 Q9 O9 G9
            cases v with
            | true =>
              have HB := Lib.hid (show bst le (ms ++ [x]) (k + 1) = (k : Int) by
                rcases hz.out.1 with h9 | ⟨h9, h8⟩
                · rw [bst, ← h9, if_neg (by omega), HY1.out, Int.toNat_natCast, HY2.out]; unfold le; rw [HV.out]; rfl
                · subst h9; rw [bst, if_pos (by unfold bst; omega)])
              go_wp2_with fail
              go_roundw
              case rel => exact ⟨k + 1, k, rfl, by go_num, by omega, ⟨Or.inl HB.out.symm, hlt⟩, B10.out, X10.out, M10.out, Z10.out, P10.out, V10.out, Q10.out, O10.out, G10.out⟩
              case measure => simp [intOf]; omega
            | false =>
              have HB := Lib.hid (show bst le (ms ++ [x]) (k + 1) = (zi : Int) by
                rcases hz.out.1 with h9 | ⟨h9, h8⟩
                · rw [bst, ← h9, if_neg (by omega), HY1.out, Int.toNat_natCast, HY2.out]; unfold le; rw [HV.out]; rfl
                · subst h9 h8; have e : y1 = y2 := HY1.out.symm.trans HY2.out
                  rw [e] at HV; have h7 := of_decide_eq_false HV.out; omega)
              go_wp2_with fail
              go_roundw
              case rel => exact ⟨k + 1, zi, rfl, by go_num, by omega, ⟨Or.inl HB.out.symm, hz.out.2⟩, B10.out, X10.out, M10.out, Z10.out, P10.out, V10.out, Q10.out, O10.out, G10.out⟩
              case measure => simp [intOf]; omega
          · have hlt2 : ¬ (k : Int) < N := by omega
            obtain rfl : N = k := by omega
            have HZZ := Lib.hid (show bst le (ms ++ [x]) N = (zi : Int) by rcases hz.out.1 with h9 | ⟨h9, _⟩; exact h9.symm; omega)
            have HEE := Lib.hid (HE.out zi HZZ.out)
            go_upto_region 14 with fail
            clear cP0
            have LSX := Lib.hid X9.out.lt
            have LSM := Lib.hid M9.out.lt
            have LSZ := Lib.hid Z9.out.lt
            have LSP := Lib.hid P9.out.lt
            have LSV := Lib.hid V9.out.lt
            have LSB := Lib.hid B9.out.size
            have LSQ := Lib.hid Q9.out.hi_
            have LSO := Lib.hid O9.out.hi_
            have LSG := Lib.hid (O9.out.lo_ (q := g) rfl)
            obtain ⟨BB, hBB⟩ : ∃ BB, wr.heap.size = BB := ⟨_, rfl⟩
            rw [hBB] at LSX
            rw [hBB] at LSM
            rw [hBB] at LSZ
            rw [hBB] at LSP
            rw [hBB] at LSV
            rw [hBB] at LSQ
            rw [hBB] at LSO
            rw [hBB] at LSB
            obtain ⟨jz, hjz⟩ : ∃ jz, zi + 1 = jz := ⟨_, rfl⟩
            have HJZ := Lib.hid hjz
            have HWB := Lib.hid hBB
            obtain ⟨ad, had, hs2⟩ := sliceS_post (P := Try.prog) 24 28 i0 4 Try.underlying24 HZ.out.1 HZ.out.2.2.1 g N c3 jz (by omega) O9.out.rq.cap_.1
            have hs1 := fun W => sliceS_pre (P := Try.prog) 24 28 i0 4 Try.underlying24 HZ.out.1 HZ.out.2.2.1 g N c3 zi (by have := O9.out.rq.cap_.1; omega) W
            have HAD := Lib.hid had
            have HS1 := Lib.hid hs1
            have HS2 := Lib.hid hs2
            clear hs1 hs2 had hjz hBB
            refine rgf.region_tail reg.Bel [reg.Bel, reg.Bel, reg.Bel, reg.Bel, reg.Bel, reg.Bel, reg.Bel, reg.Bel, reg.Bel, reg.Bel, reg.Bel, rgf.Kp msg BB zi, reg.Bel]
              (fun j => match j with | 0 => ⟨rgf.rowE msg w0.heap.size BB, rgf.rowE_below, fun h => absurd rfl h, fun _ => rgf.rowE_below, fun _ => rgf.rowE_below, fun _ => rgf.rowE_below, fun _ => rgf.rowE_below, fun _ => rgf.rowE_below, fun _ => rgf.rowE_below, fun _ => rgf.rowE_below, fun _ => rgf.rowE_below, fun _ => rgf.rowE_below, fun _ => rgf.rowE_below, fun _ => rgf.rowE_kp, fun _ => rgf.rowE_below, trivial⟩ | 1 => rgf.pureS (.pointer (some ⟨bp, 0, none⟩)) | 2 => rgf.pureS (.slice (some ⟨g, 0, none⟩) N c3) | 3 => rgf.pureS (.int .i64 ((zi : Int))) | 4 => rgf.pureS (.slice (some ⟨g, 0, none⟩) zi c3) | 5 => ⟨rgf.rowB msg w0.heap.size BB zi ((es ++ [f3]).take zi), rgf.rowB_below, fun _ => rgf.rowB_below, fun _ => rgf.rowB_below, fun _ => rgf.rowB_below, fun _ => rgf.rowB_below, fun _ => rgf.rowB_below, fun h => absurd rfl h, fun _ => rgf.rowB_below, fun _ => rgf.rowB_below, fun _ => rgf.rowB_below, fun _ => rgf.rowB_below, fun _ => rgf.rowB_below, fun _ => rgf.rowB_kp (Nat.le_refl _), fun _ => rgf.rowB_below, trivial⟩ | 6 => rgf.pureS (.pointer (some ⟨bp, 0, none⟩)) | 7 => rgf.pureS (.slice (some ⟨g, 0, none⟩) N c3) | 8 => rgf.pureS (.int .i64 ((zi : Int))) | 9 => rgf.pureS (.int .i64 ((jz : Int))) | 10 => rgf.pureS (.slice (some ad) (N - jz) (c3 - jz)) | 11 => ⟨rgf.rowB msg w0.heap.size BB (N - 1) ((es ++ [f3]).eraseIdx zi), rgf.rowB_below, fun _ => rgf.rowB_below, fun _ => rgf.rowB_below, fun _ => rgf.rowB_below, fun _ => rgf.rowB_below, fun _ => rgf.rowB_below, fun _ => rgf.rowB_below, fun _ => rgf.rowB_below, fun _ => rgf.rowB_below, fun _ => rgf.rowB_below, fun _ => rgf.rowB_below, fun _ => rgf.rowB_below, fun h => absurd rfl h, fun _ => rgf.rowB_below, trivial⟩ | 12 => rgf.pureS (.pointer (some ⟨bp, 0, none⟩)) | _ => rgf.freeS)
              13 72 [some [], some [], some [(1, 55)], some [], some [(2, 56), (3, 57)], some [(0, 54), (4, 58)], some [], some [(6, 60)], some [], some [(8, 62)], some [(7, 61), (9, 63)], some [(5, 59), (10, 64)], some [], none] [(0, 54), (1, 55), (2, 56), (3, 57), (4, 58), (5, 59), (6, 60), (7, 61), (8, 62), (9, 63), (10, 64), (11, 65), (12, 66)]
              (fun w' => BB ≤ w'.heap.size ∧ (fun w' => Below w.heap.size w w' ∧ Bx 26 w' (w.heap.size) #[.slice A n cap, .int .i64 d] ∧ Bx 28 w' (w.heap.size + 1) #[.int .i64 x.1, .int .i64 x.2.1, .int .i64 x.2.2.1, .slice Am nm cm] ∧ Bx 26 w' (w.heap.size + 1 + 1) #[.slice none 0 0, .int .i64 0] ∧ Bx 26 w' (bp) #[.slice (some ⟨g, 0, none⟩) N c3, .int .i64 d] ∧ Bx 28 w' (bv) #[.int .i64 x.1, .int .i64 x.2.1, .int .i64 x.2.2.1, .slice A2 n2 c2] ∧ Rq msg w' lo hi A n cap ms ∧ Oe msg w' w0.heap.size w7.heap.size (some ⟨g, 0, none⟩) N c3 (es ++ [f3]) ∧ True) w')
              (by kernel_rfl) rfl (by kernel_rfl) (by kernel_rfl) rfl
              (fun w1 w2 hc hb => ⟨Nat.le_trans hc.1 hb.size, (fun w1 w2 hc hb => ⟨hc.1.trans (hb.mono hc.1.size), hc.2.1.below hb, hc.2.2.1.below hb, hc.2.2.2.1.below hb, hc.2.2.2.2.1.below hb, hc.2.2.2.2.2.1.below hb, hc.2.2.2.2.2.2.1.below hb, hc.2.2.2.2.2.2.2.1.below hb, trivial⟩) w1 w2 hc.2 hb⟩)
              ⟨(fun w1 w2 hc hb => ⟨Nat.le_trans hc.1 hb.size, (fun w1 w2 hc hb => ⟨hc.1.trans (hb.mono hc.1.size), hc.2.1.below hb, hc.2.2.1.below hb, hc.2.2.2.1.below hb, hc.2.2.2.2.1.below hb, hc.2.2.2.2.2.1.below hb, hc.2.2.2.2.2.2.1.below hb, hc.2.2.2.2.2.2.2.1.below hb, trivial⟩) w1 w2 hc.2 hb⟩), (fun w1 w2 hc hb => ⟨Nat.le_trans hc.1 hb.size, (fun w1 w2 hc hb => ⟨hc.1.trans (hb.mono hc.1.size), hc.2.1.below hb, hc.2.2.1.below hb, hc.2.2.2.1.below hb, hc.2.2.2.2.1.below hb, hc.2.2.2.2.2.1.below hb, hc.2.2.2.2.2.2.1.below hb, hc.2.2.2.2.2.2.2.1.below hb, trivial⟩) w1 w2 hc.2 hb⟩), (fun w1 w2 hc hb => ⟨Nat.le_trans hc.1 hb.size, (fun w1 w2 hc hb => ⟨hc.1.trans (hb.mono hc.1.size), hc.2.1.below hb, hc.2.2.1.below hb, hc.2.2.2.1.below hb, hc.2.2.2.2.1.below hb, hc.2.2.2.2.2.1.below hb, hc.2.2.2.2.2.2.1.below hb, hc.2.2.2.2.2.2.2.1.below hb, trivial⟩) w1 w2 hc.2 hb⟩), (fun w1 w2 hc hb => ⟨Nat.le_trans hc.1 hb.size, (fun w1 w2 hc hb => ⟨hc.1.trans (hb.mono hc.1.size), hc.2.1.below hb, hc.2.2.1.below hb, hc.2.2.2.1.below hb, hc.2.2.2.2.1.below hb, hc.2.2.2.2.2.1.below hb, hc.2.2.2.2.2.2.1.below hb, hc.2.2.2.2.2.2.2.1.below hb, trivial⟩) w1 w2 hc.2 hb⟩), (fun w1 w2 hc hb => ⟨Nat.le_trans hc.1 hb.size, (fun w1 w2 hc hb => ⟨hc.1.trans (hb.mono hc.1.size), hc.2.1.below hb, hc.2.2.1.below hb, hc.2.2.2.1.below hb, hc.2.2.2.2.1.below hb, hc.2.2.2.2.2.1.below hb, hc.2.2.2.2.2.2.1.below hb, hc.2.2.2.2.2.2.2.1.below hb, trivial⟩) w1 w2 hc.2 hb⟩), (fun w1 w2 hc hb => ⟨Nat.le_trans hc.1 hb.size, (fun w1 w2 hc hb => ⟨hc.1.trans (hb.mono hc.1.size), hc.2.1.below hb, hc.2.2.1.below hb, hc.2.2.2.1.below hb, hc.2.2.2.2.1.below hb, hc.2.2.2.2.2.1.below hb, hc.2.2.2.2.2.2.1.below hb, hc.2.2.2.2.2.2.2.1.below hb, trivial⟩) w1 w2 hc.2 hb⟩), (fun w1 w2 hc hb => ⟨Nat.le_trans hc.1 hb.size, (fun w1 w2 hc hb => ⟨hc.1.trans (hb.mono hc.1.size), hc.2.1.below hb, hc.2.2.1.below hb, hc.2.2.2.1.below hb, hc.2.2.2.2.1.below hb, hc.2.2.2.2.2.1.below hb, hc.2.2.2.2.2.2.1.below hb, hc.2.2.2.2.2.2.2.1.below hb, trivial⟩) w1 w2 hc.2 hb⟩), (fun w1 w2 hc hb => ⟨Nat.le_trans hc.1 hb.size, (fun w1 w2 hc hb => ⟨hc.1.trans (hb.mono hc.1.size), hc.2.1.below hb, hc.2.2.1.below hb, hc.2.2.2.1.below hb, hc.2.2.2.2.1.below hb, hc.2.2.2.2.2.1.below hb, hc.2.2.2.2.2.2.1.below hb, hc.2.2.2.2.2.2.2.1.below hb, trivial⟩) w1 w2 hc.2 hb⟩), (fun w1 w2 hc hb => ⟨Nat.le_trans hc.1 hb.size, (fun w1 w2 hc hb => ⟨hc.1.trans (hb.mono hc.1.size), hc.2.1.below hb, hc.2.2.1.below hb, hc.2.2.2.1.below hb, hc.2.2.2.2.1.below hb, hc.2.2.2.2.2.1.below hb, hc.2.2.2.2.2.2.1.below hb, hc.2.2.2.2.2.2.2.1.below hb, trivial⟩) w1 w2 hc.2 hb⟩), (fun w1 w2 hc hb => ⟨Nat.le_trans hc.1 hb.size, (fun w1 w2 hc hb => ⟨hc.1.trans (hb.mono hc.1.size), hc.2.1.below hb, hc.2.2.1.below hb, hc.2.2.2.1.below hb, hc.2.2.2.2.1.below hb, hc.2.2.2.2.2.1.below hb, hc.2.2.2.2.2.2.1.below hb, hc.2.2.2.2.2.2.2.1.below hb, trivial⟩) w1 w2 hc.2 hb⟩), (fun w1 w2 hc hb => ⟨Nat.le_trans hc.1 hb.size, (fun w1 w2 hc hb => ⟨hc.1.trans (hb.mono hc.1.size), hc.2.1.below hb, hc.2.2.1.below hb, hc.2.2.2.1.below hb, hc.2.2.2.2.1.below hb, hc.2.2.2.2.2.1.below hb, hc.2.2.2.2.2.2.1.below hb, hc.2.2.2.2.2.2.2.1.below hb, trivial⟩) w1 w2 hc.2 hb⟩), (fun w1 w2 hcc hb => ⟨Nat.le_trans hcc.1 hb.1.size, (fun hc => ⟨hc.1.trans (hb.1.mono (by have hlP := LP.out; have hlV := LV.out; have hs0 := LTX.out; have hs1 := LTM.out; have hs2 := LTZ.out; have hs3 := SS1.out; have hs4 := SS2.out; have hs5 := LWP.out; have hs6 := SS3.out; have hs7 := SS4.out; have hs8 := SS5.out; have hs9 := SS6.out; have hs10 := LWV.out; have hs11 := SS7.out; have hs12 := LUX9.out; have hs13 := LUM9.out; have hs14 := LUZ9.out; have hs15 := LUP9.out; have hs16 := LUV9.out; have hk0 := LSX.out; have hk1 := LSM.out; have hk2 := LSZ.out; have hk3 := LSP.out; have hk4 := LSV.out; have hk5 := LSB.out; have hk6 := LSQ.out; have hk7 := LSO.out; have hk8 := LSG.out; omega)), hc.2.1.up hb.1 (by have hlP := LP.out; have hlV := LV.out; have hs0 := LTX.out; have hs1 := LTM.out; have hs2 := LTZ.out; have hs3 := SS1.out; have hs4 := SS2.out; have hs5 := LWP.out; have hs6 := SS3.out; have hs7 := SS4.out; have hs8 := SS5.out; have hs9 := SS6.out; have hs10 := LWV.out; have hs11 := SS7.out; have hs12 := LUX9.out; have hs13 := LUM9.out; have hs14 := LUZ9.out; have hs15 := LUP9.out; have hs16 := LUV9.out; have hk0 := LSX.out; have hk1 := LSM.out; have hk2 := LSZ.out; have hk3 := LSP.out; have hk4 := LSV.out; have hk5 := LSB.out; have hk6 := LSQ.out; have hk7 := LSO.out; have hk8 := LSG.out; omega), hc.2.2.1.up hb.1 (by have hlP := LP.out; have hlV := LV.out; have hs0 := LTX.out; have hs1 := LTM.out; have hs2 := LTZ.out; have hs3 := SS1.out; have hs4 := SS2.out; have hs5 := LWP.out; have hs6 := SS3.out; have hs7 := SS4.out; have hs8 := SS5.out; have hs9 := SS6.out; have hs10 := LWV.out; have hs11 := SS7.out; have hs12 := LUX9.out; have hs13 := LUM9.out; have hs14 := LUZ9.out; have hs15 := LUP9.out; have hs16 := LUV9.out; have hk0 := LSX.out; have hk1 := LSM.out; have hk2 := LSZ.out; have hk3 := LSP.out; have hk4 := LSV.out; have hk5 := LSB.out; have hk6 := LSQ.out; have hk7 := LSO.out; have hk8 := LSG.out; omega), hc.2.2.2.1.up hb.1 (by have hlP := LP.out; have hlV := LV.out; have hs0 := LTX.out; have hs1 := LTM.out; have hs2 := LTZ.out; have hs3 := SS1.out; have hs4 := SS2.out; have hs5 := LWP.out; have hs6 := SS3.out; have hs7 := SS4.out; have hs8 := SS5.out; have hs9 := SS6.out; have hs10 := LWV.out; have hs11 := SS7.out; have hs12 := LUX9.out; have hs13 := LUM9.out; have hs14 := LUZ9.out; have hs15 := LUP9.out; have hs16 := LUV9.out; have hk0 := LSX.out; have hk1 := LSM.out; have hk2 := LSZ.out; have hk3 := LSP.out; have hk4 := LSV.out; have hk5 := LSB.out; have hk6 := LSQ.out; have hk7 := LSO.out; have hk8 := LSG.out; omega), hc.2.2.2.2.1.up hb.1 (by have hlP := LP.out; have hlV := LV.out; have hs0 := LTX.out; have hs1 := LTM.out; have hs2 := LTZ.out; have hs3 := SS1.out; have hs4 := SS2.out; have hs5 := LWP.out; have hs6 := SS3.out; have hs7 := SS4.out; have hs8 := SS5.out; have hs9 := SS6.out; have hs10 := LWV.out; have hs11 := SS7.out; have hs12 := LUX9.out; have hs13 := LUM9.out; have hs14 := LUZ9.out; have hs15 := LUP9.out; have hs16 := LUV9.out; have hk0 := LSX.out; have hk1 := LSM.out; have hk2 := LSZ.out; have hk3 := LSP.out; have hk4 := LSV.out; have hk5 := LSB.out; have hk6 := LSQ.out; have hk7 := LSO.out; have hk8 := LSG.out; omega), hc.2.2.2.2.2.1.up hb.1 (by have hlP := LP.out; have hlV := LV.out; have hs0 := LTX.out; have hs1 := LTM.out; have hs2 := LTZ.out; have hs3 := SS1.out; have hs4 := SS2.out; have hs5 := LWP.out; have hs6 := SS3.out; have hs7 := SS4.out; have hs8 := SS5.out; have hs9 := SS6.out; have hs10 := LWV.out; have hs11 := SS7.out; have hs12 := LUX9.out; have hs13 := LUM9.out; have hs14 := LUZ9.out; have hs15 := LUP9.out; have hs16 := LUV9.out; have hk0 := LSX.out; have hk1 := LSM.out; have hk2 := LSZ.out; have hk3 := LSP.out; have hk4 := LSV.out; have hk5 := LSB.out; have hk6 := LSQ.out; have hk7 := LSO.out; have hk8 := LSG.out; omega), hc.2.2.2.2.2.2.1.same hb.1.size (fun b _ h => hb.1.block b (by have hlP := LP.out; have hlV := LV.out; have hs0 := LTX.out; have hs1 := LTM.out; have hs2 := LTZ.out; have hs3 := SS1.out; have hs4 := SS2.out; have hs5 := LWP.out; have hs6 := SS3.out; have hs7 := SS4.out; have hs8 := SS5.out; have hs9 := SS6.out; have hs10 := LWV.out; have hs11 := SS7.out; have hs12 := LUX9.out; have hs13 := LUM9.out; have hs14 := LUZ9.out; have hs15 := LUP9.out; have hs16 := LUV9.out; have hk0 := LSX.out; have hk1 := LSM.out; have hk2 := LSZ.out; have hk3 := LSP.out; have hk4 := LSV.out; have hk5 := LSB.out; have hk6 := LSQ.out; have hk7 := LSO.out; have hk8 := LSG.out; omega)), hc.2.2.2.2.2.2.2.1.same hb.1.size (fun b _ h => hb.1.block b (by have hlP := LP.out; have hlV := LV.out; have hs0 := LTX.out; have hs1 := LTM.out; have hs2 := LTZ.out; have hs3 := SS1.out; have hs4 := SS2.out; have hs5 := LWP.out; have hs6 := SS3.out; have hs7 := SS4.out; have hs8 := SS5.out; have hs9 := SS6.out; have hs10 := LWV.out; have hs11 := SS7.out; have hs12 := LUX9.out; have hs13 := LUM9.out; have hs14 := LUZ9.out; have hs15 := LUP9.out; have hs16 := LUV9.out; have hk0 := LSX.out; have hk1 := LSM.out; have hk2 := LSZ.out; have hk3 := LSP.out; have hk4 := LSV.out; have hk5 := LSB.out; have hk6 := LSQ.out; have hk7 := LSO.out; have hk8 := LSG.out; omega)), trivial⟩) hcc.2⟩), (fun w1 w2 hc hb => ⟨Nat.le_trans hc.1 hb.size, (fun w1 w2 hc hb => ⟨hc.1.trans (hb.mono hc.1.size), hc.2.1.below hb, hc.2.2.1.below hb, hc.2.2.2.1.below hb, hc.2.2.2.2.1.below hb, hc.2.2.2.2.2.1.below hb, hc.2.2.2.2.2.2.1.below hb, hc.2.2.2.2.2.2.2.1.below hb, trivial⟩) w1 w2 hc.2 hb⟩), trivial⟩
              (⟨by have h9 := HWB.out; show BB ≤ wr.heap.size; omega, ⟨own.below_drew B9.out, X9.out.same rfl, M9.out.same rfl, Z9.out.same rfl, P9.out.same rfl, V9.out.same rfl, Q9.out.same (Nat.le_refl _) (fun _ _ _ => rfl), O9.out.same (Nat.le_refl _) (fun _ _ _ => rfl), trivial⟩⟩) (by kernel_rfl) ⟨?_, ?_, ?_, ?_, ?_, ?_, ?_, ?_, ?_, ?_, ?_, ?_, ?_, trivial⟩ ?_
            · refine fun w8 hcc  K hK => ?_
              obtain ⟨hBw, hc⟩ := hcc
              (try simp only [Act.put, List.setIfInBounds_toArray, List.set_cons_zero, List.set_cons_succ])
              go_simp
              exact hK (.slice (some ⟨w8.heap.size, 0, none⟩) 0 0) _ ⟨w8.heap.size, _, rfl, (Oe.empty msg w8).down (by have hlP := LP.out; have hlV := LV.out; have hs0 := LTX.out; have hs1 := LTM.out; have hs2 := LTZ.out; have hs3 := SS1.out; have hs4 := SS2.out; have hs5 := LWP.out; have hs6 := SS3.out; have hs7 := SS4.out; have hs8 := SS5.out; have hs9 := SS6.out; have hs10 := LWV.out; have hs11 := SS7.out; have hs12 := LUX9.out; have hs13 := LUM9.out; have hs14 := LUZ9.out; have hs15 := LUP9.out; have hs16 := LUV9.out; have hk0 := LSX.out; have hk1 := LSM.out; have hk2 := LSZ.out; have hk3 := LSP.out; have hk4 := LSV.out; have hk5 := LSB.out; have hk6 := LSQ.out; have hk7 := LSO.out; have hk8 := LSG.out; have h7 := hc.2.2.2.2.2.2.2.1.hi_; omega), hBw⟩ (below_box _ _)
            · refine fun w8 hcc  K hK => ?_
              obtain ⟨hBw, hc⟩ := hcc
              (try simp only [Act.put, List.setIfInBounds_toArray, List.set_cons_zero, List.set_cons_succ])
              go_simp
              exact hK (.pointer (some ⟨bp, 0, none⟩)) _ rfl (Below.refl _ _)
            · refine fun w8 hcc v1 h1 K hK => ?_
              obtain ⟨hBw, hc⟩ := hcc
              obtain rfl : v1 = .pointer (some ⟨bp, 0, none⟩) := h1
              (try simp only [Act.put, List.setIfInBounds_toArray, List.set_cons_zero, List.set_cons_succ])
              have c0 : w8.cell? ⟨bp, 0, none⟩ = some (.slice (some ⟨g, 0, none⟩) N c3) := hc.2.2.2.2.1.cell 0
              go_simp
              exact hK (.slice (some ⟨g, 0, none⟩) N c3) _ rfl (Below.refl _ _)
            · refine fun w8 hcc  K hK => ?_
              obtain ⟨hBw, hc⟩ := hcc
              (try simp only [Act.put, List.setIfInBounds_toArray, List.set_cons_zero, List.set_cons_succ])
              go_simp
              exact hK (.int .i64 ((zi : Int))) _ rfl (Below.refl _ _)
            · refine fun w8 hcc v2 h2 v3 h3 K hK => ?_
              obtain ⟨hBw, hc⟩ := hcc
              obtain rfl : v2 = .slice (some ⟨g, 0, none⟩) N c3 := h2
              obtain rfl : v3 = .int .i64 ((zi : Int)) := h3
              (try simp only [Act.put, List.setIfInBounds_toArray, List.set_cons_zero, List.set_cons_succ])
              rw [if_pos (by rfl)]
              refine wp_slice_h 24 _ _ rfl (.slice (some ⟨g, 0, none⟩) N c3) (.int .i64 ((zi : Int))) _ rfl rfl (fun W => by rw [at_slice _ _ Try.underlying24]; exact HS1.out W) ?_
              exact hK _ _ rfl (Below.refl _ _)
            · refine fun w8 hcc v0 h0 v4 h4 K hK => ?_
              obtain ⟨hBw, hc⟩ := hcc
              obtain ⟨q0, hi0_, rfl, hE0, hBq⟩ := h0
              obtain rfl : v4 = .slice (some ⟨g, 0, none⟩) zi c3 := h4
              (try simp only [Act.put, List.setIfInBounds_toArray, List.set_cons_zero, List.set_cons_succ])
              rw [if_pos (by rfl)]
              refine rgf.wp_first _ _ 24 rfl Try.underlying24 HZ.out.1 HZ.out.2.1 HZ.out.2.2.1 (by rw [HZ.out.2.2.2]; omega) rfl rfl rfl hE0 hBq hBw hc.2.2.2.2.2.2.2.1 (by omega) (by have h6 := HN.out; omega) (by have hlP := LP.out; have hlV := LV.out; have hs0 := LTX.out; have hs1 := LTM.out; have hs2 := LTZ.out; have hs3 := SS1.out; have hs4 := SS2.out; have hs5 := LWP.out; have hs6 := SS3.out; have hs7 := SS4.out; have hs8 := SS5.out; have hs9 := SS6.out; have hs10 := LWV.out; have hs11 := SS7.out; have hs12 := LUX9.out; have hs13 := LUM9.out; have hs14 := LUZ9.out; have hs15 := LUP9.out; have hs16 := LUV9.out; have hk0 := LSX.out; have hk1 := LSM.out; have hk2 := LSZ.out; have hk3 := LSP.out; have hk4 := LSV.out; have hk5 := LSB.out; have hk6 := LSQ.out; have hk7 := LSO.out; have hk8 := LSG.out; have h7 := hc.2.2.2.2.2.2.2.1.hi_; omega) ?_
              intro v4 w4 hv4 hb4
              exact hK _ _ hv4 hb4
            · refine fun w8 hcc  K hK => ?_
              obtain ⟨hBw, hc⟩ := hcc
              (try simp only [Act.put, List.setIfInBounds_toArray, List.set_cons_zero, List.set_cons_succ])
              go_simp
              exact hK (.pointer (some ⟨bp, 0, none⟩)) _ rfl (Below.refl _ _)
            · refine fun w8 hcc v6 h6 K hK => ?_
              obtain ⟨hBw, hc⟩ := hcc
              obtain rfl : v6 = .pointer (some ⟨bp, 0, none⟩) := h6
              (try simp only [Act.put, List.setIfInBounds_toArray, List.set_cons_zero, List.set_cons_succ])
              have c0 : w8.cell? ⟨bp, 0, none⟩ = some (.slice (some ⟨g, 0, none⟩) N c3) := hc.2.2.2.2.1.cell 0
              go_simp
              exact hK (.slice (some ⟨g, 0, none⟩) N c3) _ rfl (Below.refl _ _)
            · refine fun w8 hcc  K hK => ?_
              obtain ⟨hBw, hc⟩ := hcc
              (try simp only [Act.put, List.setIfInBounds_toArray, List.set_cons_zero, List.set_cons_succ])
              go_simp
              exact hK (.int .i64 ((zi : Int))) _ rfl (Below.refl _ _)
            · refine fun w8 hcc v8 h8 K hK => ?_
              obtain ⟨hBw, hc⟩ := hcc
              obtain rfl : v8 = .int .i64 ((zi : Int)) := h8
              (try simp only [Act.put, List.setIfInBounds_toArray, List.set_cons_zero, List.set_cons_succ])
              have m0 : (zi : Int) + 1 = (jz : Int) := by have h9 := HJZ.out; omega
              have m1 : IntKind.i64.wrap (jz : Int) = (jz : Int) := IntWalk.i64_in _ (by omega)
              go_simp
              exact hK (.int .i64 ((jz : Int))) _ rfl (Below.refl _ _)
            · refine fun w8 hcc v7 h7 v9 h9 K hK => ?_
              obtain ⟨hBw, hc⟩ := hcc
              obtain rfl : v7 = .slice (some ⟨g, 0, none⟩) N c3 := h7
              obtain rfl : v9 = .int .i64 ((jz : Int)) := h9
              (try simp only [Act.put, List.setIfInBounds_toArray, List.set_cons_zero, List.set_cons_succ])
              rw [if_pos (by rfl)]
              refine wp_slice_l 24 _ _ rfl (.slice (some ⟨g, 0, none⟩) N c3) (.int .i64 ((jz : Int))) _ rfl rfl (fun W => by rw [at_slice _ _ Try.underlying24]; exact HS2.out W) ?_
              exact hK _ _ rfl (Below.refl _ _)
            · refine fun w8 hcc v5 h5 v10 h10 K hK => ?_
              obtain ⟨hBw, hc⟩ := hcc
              obtain ⟨A5, c5, hi5, rfl, hO5, hB5⟩ := h5
              obtain rfl : v10 = .slice (some ad) (N - jz) (c3 - jz) := h10
              (try simp only [Act.put, List.setIfInBounds_toArray, List.set_cons_zero, List.set_cons_succ])
              rw [if_pos (by rfl)]
              refine rgf.wp_second _ _ 24 rfl Try.underlying24 HZ.out.1 HZ.out.2.1 HZ.out.2.2.1 (by rw [HZ.out.2.2.2]; omega) rfl rfl rfl hO5 hB5 hBw hc.2.2.2.2.2.2.2.1 (by omega) (by have h9 := HJZ.out; omega) (fun hh9 => by rw [HAD.out (by have h9 := HJZ.out; omega), ← HJZ.out]; rfl) (by have h6 := HN.out; omega) (by have hlP := LP.out; have hlV := LV.out; have hs0 := LTX.out; have hs1 := LTM.out; have hs2 := LTZ.out; have hs3 := SS1.out; have hs4 := SS2.out; have hs5 := LWP.out; have hs6 := SS3.out; have hs7 := SS4.out; have hs8 := SS5.out; have hs9 := SS6.out; have hs10 := LWV.out; have hs11 := SS7.out; have hs12 := LUX9.out; have hs13 := LUM9.out; have hs14 := LUZ9.out; have hs15 := LUP9.out; have hs16 := LUV9.out; have hk0 := LSX.out; have hk1 := LSM.out; have hk2 := LSZ.out; have hk3 := LSP.out; have hk4 := LSV.out; have hk5 := LSB.out; have hk6 := LSQ.out; have hk7 := LSO.out; have hk8 := LSG.out; have h7 := hc.2.2.2.2.2.2.2.1.hi_; omega) ?_
              intro v4 w4 hv4 hb4
              exact hK _ _ hv4 hb4
            · refine fun w8 hcc  K hK => ?_
              obtain ⟨hBw, hc⟩ := hcc
              (try simp only [Act.put, List.setIfInBounds_toArray, List.set_cons_zero, List.set_cons_succ])
              go_simp
              exact hK (.pointer (some ⟨bp, 0, none⟩)) _ rfl (Below.refl _ _)
            refine fun w9 hcc v0 h0 v1 h1 v2 h2 v3 h3 v4 h4 v5 h5 v6 h6 v7 h7 v8 h8 v9 h9 v10 h10 v11 h11 v12 h12 => ?_
            obtain ⟨hBw, hc⟩ := hcc
            obtain ⟨q0, hi0_, rfl, hE0, hBq⟩ := h0
            obtain rfl : v1 = .pointer (some ⟨bp, 0, none⟩) := h1
            obtain rfl : v2 = .slice (some ⟨g, 0, none⟩) N c3 := h2
            obtain rfl : v3 = .int .i64 ((zi : Int)) := h3
            obtain rfl : v4 = .slice (some ⟨g, 0, none⟩) zi c3 := h4
            obtain ⟨A5, c5, hi5, rfl, hO5, hB5⟩ := h5
            obtain rfl : v6 = .pointer (some ⟨bp, 0, none⟩) := h6
            obtain rfl : v7 = .slice (some ⟨g, 0, none⟩) N c3 := h7
            obtain rfl : v8 = .int .i64 ((zi : Int)) := h8
            obtain rfl : v9 = .int .i64 ((jz : Int)) := h9
            obtain rfl : v10 = .slice (some ad) (N - jz) (c3 - jz) := h10
            obtain ⟨A7, c7, hi7, rfl, hO3, hB3⟩ := h11
            obtain rfl : v12 = .pointer (some ⟨bp, 0, none⟩) := h12
            (try simp only [reg.Obs])
            (try simp only [Act.put, List.setIfInBounds_toArray, List.set_cons_zero, List.set_cons_succ])
            simp only [List.drop_succ_cons, List.drop_zero]
            have B10 := Lib.hid hc.1
            have X10 := Lib.hid hc.2.1
            have M10 := Lib.hid hc.2.2.1
            have Z10 := Lib.hid hc.2.2.2.1
            have P10 := Lib.hid hc.2.2.2.2.1
            have V10 := Lib.hid hc.2.2.2.2.2.1
            have Q10 := Lib.hid hc.2.2.2.2.2.2.1
            have O10 := Lib.hid hO3.up
            clear hE0 hO5 hO3 hc B9 X9 M9 Z9 P9 V9 Q9 O9
            have cP0 : w9.cell? ⟨bp, 0, none⟩ = some (.slice (some ⟨g, 0, none⟩) N c3) := P10.out.cell 0
            have fP0 : w9.frozen? ⟨bp, 0, none⟩ = false := P10.out.free 0
            go_upto_region 15 with fail
            clear cP0 fP0
            have hWW : (w9.setCell ⟨bp, 0, none⟩ (.slice A7 (N - 1) c7)) = (w9.setCell ⟨bp, 0, none⟩ (.slice A7 (N - 1) c7)) := rfl
            obtain ⟨w11, hW⟩ : ∃ wy, (w9.setCell ⟨bp, 0, none⟩ (.slice A7 (N - 1) c7)) = wy := ⟨_, rfl⟩
            rw [hW]
            clear hWW
            have B11 := Lib.hid (show Below w.heap.size w w11 by rw [← hW]; exact (B10.out.setCell (p := ⟨bp, 0, none⟩) (by have hlP := LP.out; have hlV := LV.out; have hs0 := LTX.out; have hs1 := LTM.out; have hs2 := LTZ.out; have hs3 := SS1.out; have hs4 := SS2.out; have hs5 := LWP.out; have hs6 := SS3.out; have hs7 := SS4.out; have hs8 := SS5.out; have hs9 := SS6.out; have hs10 := LWV.out; have hs11 := SS7.out; have hs12 := LUX9.out; have hs13 := LUM9.out; have hs14 := LUZ9.out; have hs15 := LUP9.out; have hs16 := LUV9.out; first | omega | (simp <;> omega)) _))
            have X11 := Lib.hid (show Bx 26 w11 (w.heap.size) #[.slice A n cap, .int .i64 d] by rw [← hW]; exact (X10.out.other (by have hlP := LP.out; have hlV := LV.out; have hs0 := LTX.out; have hs1 := LTM.out; have hs2 := LTZ.out; have hs3 := SS1.out; have hs4 := SS2.out; have hs5 := LWP.out; have hs6 := SS3.out; have hs7 := SS4.out; have hs8 := SS5.out; have hs9 := SS6.out; have hs10 := LWV.out; have hs11 := SS7.out; have hs12 := LUX9.out; have hs13 := LUM9.out; have hs14 := LUZ9.out; have hs15 := LUP9.out; have hs16 := LUV9.out; first | omega | (simp <;> omega)) _ _))
            have M11 := Lib.hid (show Bx 28 w11 (w.heap.size + 1) #[.int .i64 x.1, .int .i64 x.2.1, .int .i64 x.2.2.1, .slice Am nm cm] by rw [← hW]; exact (M10.out.other (by have hlP := LP.out; have hlV := LV.out; have hs0 := LTX.out; have hs1 := LTM.out; have hs2 := LTZ.out; have hs3 := SS1.out; have hs4 := SS2.out; have hs5 := LWP.out; have hs6 := SS3.out; have hs7 := SS4.out; have hs8 := SS5.out; have hs9 := SS6.out; have hs10 := LWV.out; have hs11 := SS7.out; have hs12 := LUX9.out; have hs13 := LUM9.out; have hs14 := LUZ9.out; have hs15 := LUP9.out; have hs16 := LUV9.out; first | omega | (simp <;> omega)) _ _))
            have Z11 := Lib.hid (show Bx 26 w11 (w.heap.size + 1 + 1) #[.slice none 0 0, .int .i64 0] by rw [← hW]; exact (Z10.out.other (by have hlP := LP.out; have hlV := LV.out; have hs0 := LTX.out; have hs1 := LTM.out; have hs2 := LTZ.out; have hs3 := SS1.out; have hs4 := SS2.out; have hs5 := LWP.out; have hs6 := SS3.out; have hs7 := SS4.out; have hs8 := SS5.out; have hs9 := SS6.out; have hs10 := LWV.out; have hs11 := SS7.out; have hs12 := LUX9.out; have hs13 := LUM9.out; have hs14 := LUZ9.out; have hs15 := LUP9.out; have hs16 := LUV9.out; first | omega | (simp <;> omega)) _ _))
            have P11 := Lib.hid (show Bx 26 w11 (bp) #[.slice A7 (N - 1) c7, .int .i64 d] by rw [← hW]; exact (P10.out.set 0 _))
            have V11 := Lib.hid (show Bx 28 w11 (bv) #[.int .i64 x.1, .int .i64 x.2.1, .int .i64 x.2.2.1, .slice A2 n2 c2] by rw [← hW]; exact (V10.out.other (by have hlP := LP.out; have hlV := LV.out; have hs0 := LTX.out; have hs1 := LTM.out; have hs2 := LTZ.out; have hs3 := SS1.out; have hs4 := SS2.out; have hs5 := LWP.out; have hs6 := SS3.out; have hs7 := SS4.out; have hs8 := SS5.out; have hs9 := SS6.out; have hs10 := LWV.out; have hs11 := SS7.out; have hs12 := LUX9.out; have hs13 := LUM9.out; have hs14 := LUZ9.out; have hs15 := LUP9.out; have hs16 := LUV9.out; first | omega | (simp <;> omega)) _ _))
            have Q11 := Lib.hid (show Rq msg w11 lo hi A n cap ms by rw [← hW]; exact (Q10.out.same (by simp [World.setCell]) fun b h1 h2 => by rw [Below.heap_setCell _ _ _ _ (by have hlP := LP.out; have hlV := LV.out; have hs0 := LTX.out; have hs1 := LTM.out; have hs2 := LTZ.out; have hs3 := SS1.out; have hs4 := SS2.out; have hs5 := LWP.out; have hs6 := SS3.out; have hs7 := SS4.out; have hs8 := SS5.out; have hs9 := SS6.out; have hs10 := LWV.out; have hs11 := SS7.out; have hs12 := LUX9.out; have hs13 := LUM9.out; have hs14 := LUZ9.out; have hs15 := LUP9.out; have hs16 := LUV9.out; first | omega | (simp <;> omega))]))
            have O11 := Lib.hid (show Oe msg w11 w0.heap.size w9.heap.size A7 (N - 1) c7 (((es ++ [f3]).eraseIdx zi)) by rw [← hW]; exact (rgp.oe_setCell O10.out P10.out (by decide) (by decide) 0 _))
            clear hW B10 X10 M10 Z10 P10 V10 Q10 O10
            have cX1 : w11.cell? ⟨w.heap.size, 1, none⟩ = some (.int .i64 d) := X11.out.cell 1
            have cP1 : w11.cell? ⟨bp, 1, none⟩ = some (.int .i64 d) := P11.out.cell 1
            have fP1 : w11.frozen? ⟨bp, 1, none⟩ = false := P11.out.free 1
            have hu := HU.out
            go_upto_region 16 with fail
            clear hu
            clear cX1 cP1 fP1
            have hWW : (w11.setCell ⟨bp, 1, none⟩ (.int .i64 u)) = (w11.setCell ⟨bp, 1, none⟩ (.int .i64 u)) := rfl
            obtain ⟨w12, hW⟩ : ∃ wy, (w11.setCell ⟨bp, 1, none⟩ (.int .i64 u)) = wy := ⟨_, rfl⟩
            rw [hW]
            clear hWW
            have B12 := Lib.hid (show Below w.heap.size w w12 by rw [← hW]; exact (B11.out.setCell (p := ⟨bp, 1, none⟩) (by have hlP := LP.out; have hlV := LV.out; have hs0 := LTX.out; have hs1 := LTM.out; have hs2 := LTZ.out; have hs3 := SS1.out; have hs4 := SS2.out; have hs5 := LWP.out; have hs6 := SS3.out; have hs7 := SS4.out; have hs8 := SS5.out; have hs9 := SS6.out; have hs10 := LWV.out; have hs11 := SS7.out; have hs12 := LUX9.out; have hs13 := LUM9.out; have hs14 := LUZ9.out; have hs15 := LUP9.out; have hs16 := LUV9.out; first | omega | (simp <;> omega)) _))
            have X12 := Lib.hid (show Bx 26 w12 (w.heap.size) #[.slice A n cap, .int .i64 d] by rw [← hW]; exact (X11.out.other (by have hlP := LP.out; have hlV := LV.out; have hs0 := LTX.out; have hs1 := LTM.out; have hs2 := LTZ.out; have hs3 := SS1.out; have hs4 := SS2.out; have hs5 := LWP.out; have hs6 := SS3.out; have hs7 := SS4.out; have hs8 := SS5.out; have hs9 := SS6.out; have hs10 := LWV.out; have hs11 := SS7.out; have hs12 := LUX9.out; have hs13 := LUM9.out; have hs14 := LUZ9.out; have hs15 := LUP9.out; have hs16 := LUV9.out; first | omega | (simp <;> omega)) _ _))
            have M12 := Lib.hid (show Bx 28 w12 (w.heap.size + 1) #[.int .i64 x.1, .int .i64 x.2.1, .int .i64 x.2.2.1, .slice Am nm cm] by rw [← hW]; exact (M11.out.other (by have hlP := LP.out; have hlV := LV.out; have hs0 := LTX.out; have hs1 := LTM.out; have hs2 := LTZ.out; have hs3 := SS1.out; have hs4 := SS2.out; have hs5 := LWP.out; have hs6 := SS3.out; have hs7 := SS4.out; have hs8 := SS5.out; have hs9 := SS6.out; have hs10 := LWV.out; have hs11 := SS7.out; have hs12 := LUX9.out; have hs13 := LUM9.out; have hs14 := LUZ9.out; have hs15 := LUP9.out; have hs16 := LUV9.out; first | omega | (simp <;> omega)) _ _))
            have Z12 := Lib.hid (show Bx 26 w12 (w.heap.size + 1 + 1) #[.slice none 0 0, .int .i64 0] by rw [← hW]; exact (Z11.out.other (by have hlP := LP.out; have hlV := LV.out; have hs0 := LTX.out; have hs1 := LTM.out; have hs2 := LTZ.out; have hs3 := SS1.out; have hs4 := SS2.out; have hs5 := LWP.out; have hs6 := SS3.out; have hs7 := SS4.out; have hs8 := SS5.out; have hs9 := SS6.out; have hs10 := LWV.out; have hs11 := SS7.out; have hs12 := LUX9.out; have hs13 := LUM9.out; have hs14 := LUZ9.out; have hs15 := LUP9.out; have hs16 := LUV9.out; first | omega | (simp <;> omega)) _ _))
            have P12 := Lib.hid (show Bx 26 w12 (bp) #[.slice A7 (N - 1) c7, .int .i64 u] by rw [← hW]; exact (P11.out.set 1 _))
            have V12 := Lib.hid (show Bx 28 w12 (bv) #[.int .i64 x.1, .int .i64 x.2.1, .int .i64 x.2.2.1, .slice A2 n2 c2] by rw [← hW]; exact (V11.out.other (by have hlP := LP.out; have hlV := LV.out; have hs0 := LTX.out; have hs1 := LTM.out; have hs2 := LTZ.out; have hs3 := SS1.out; have hs4 := SS2.out; have hs5 := LWP.out; have hs6 := SS3.out; have hs7 := SS4.out; have hs8 := SS5.out; have hs9 := SS6.out; have hs10 := LWV.out; have hs11 := SS7.out; have hs12 := LUX9.out; have hs13 := LUM9.out; have hs14 := LUZ9.out; have hs15 := LUP9.out; have hs16 := LUV9.out; first | omega | (simp <;> omega)) _ _))
            have Q12 := Lib.hid (show Rq msg w12 lo hi A n cap ms by rw [← hW]; exact (Q11.out.same (by simp [World.setCell]) fun b h1 h2 => by rw [Below.heap_setCell _ _ _ _ (by have hlP := LP.out; have hlV := LV.out; have hs0 := LTX.out; have hs1 := LTM.out; have hs2 := LTZ.out; have hs3 := SS1.out; have hs4 := SS2.out; have hs5 := LWP.out; have hs6 := SS3.out; have hs7 := SS4.out; have hs8 := SS5.out; have hs9 := SS6.out; have hs10 := LWV.out; have hs11 := SS7.out; have hs12 := LUX9.out; have hs13 := LUM9.out; have hs14 := LUZ9.out; have hs15 := LUP9.out; have hs16 := LUV9.out; first | omega | (simp <;> omega))]))
            have O12 := Lib.hid (show Oe msg w12 w0.heap.size w9.heap.size A7 (N - 1) c7 (((es ++ [f3]).eraseIdx zi)) by rw [← hW]; exact (rgp.oe_setCell O11.out P11.out (by decide) (by decide) 1 _))
            clear hW B11 X11 M11 Z11 P11 V11 Q11 O11
            go_wp2_with (first | (refine stw.list_load rfl 26 _ rfl (bp) rfl 26 _ P12.out Try.underlying26 rfl szQ ?_) | (refine stw.list_store rfl 26 _ _ rfl (w.heap.size + 1 + 1) #[.slice A7 (N - 1) c7, .int .i64 u] rfl rfl 26 _ Z12.out rfl szQ (oneQ _ _ _ _) ?_; intro wz13 hz))
            have B13 := Lib.hid (hz.on B12.out (by have hlP := LP.out; have hlV := LV.out; have hs0 := LTX.out; have hs1 := LTM.out; have hs2 := LTZ.out; have hs3 := SS1.out; have hs4 := SS2.out; have hs5 := LWP.out; have hs6 := SS3.out; have hs7 := SS4.out; have hs8 := SS5.out; have hs9 := SS6.out; have hs10 := LWV.out; have hs11 := SS7.out; have hs12 := LUX9.out; have hs13 := LUM9.out; have hs14 := LUZ9.out; have hs15 := LUP9.out; have hs16 := LUV9.out; first | omega | (simp <;> omega)))
            have X13 := Lib.hid (hz.keep X12.out (by have hlP := LP.out; have hlV := LV.out; have hs0 := LTX.out; have hs1 := LTM.out; have hs2 := LTZ.out; have hs3 := SS1.out; have hs4 := SS2.out; have hs5 := LWP.out; have hs6 := SS3.out; have hs7 := SS4.out; have hs8 := SS5.out; have hs9 := SS6.out; have hs10 := LWV.out; have hs11 := SS7.out; have hs12 := LUX9.out; have hs13 := LUM9.out; have hs14 := LUZ9.out; have hs15 := LUP9.out; have hs16 := LUV9.out; first | omega | (simp <;> omega)))
            have M13 := Lib.hid (hz.keep M12.out (by have hlP := LP.out; have hlV := LV.out; have hs0 := LTX.out; have hs1 := LTM.out; have hs2 := LTZ.out; have hs3 := SS1.out; have hs4 := SS2.out; have hs5 := LWP.out; have hs6 := SS3.out; have hs7 := SS4.out; have hs8 := SS5.out; have hs9 := SS6.out; have hs10 := LWV.out; have hs11 := SS7.out; have hs12 := LUX9.out; have hs13 := LUM9.out; have hs14 := LUZ9.out; have hs15 := LUP9.out; have hs16 := LUV9.out; first | omega | (simp <;> omega)))
            have Z13 := Lib.hid (hz.box)
            have P13 := Lib.hid (hz.keep P12.out (by have hlP := LP.out; have hlV := LV.out; have hs0 := LTX.out; have hs1 := LTM.out; have hs2 := LTZ.out; have hs3 := SS1.out; have hs4 := SS2.out; have hs5 := LWP.out; have hs6 := SS3.out; have hs7 := SS4.out; have hs8 := SS5.out; have hs9 := SS6.out; have hs10 := LWV.out; have hs11 := SS7.out; have hs12 := LUX9.out; have hs13 := LUM9.out; have hs14 := LUZ9.out; have hs15 := LUP9.out; have hs16 := LUV9.out; first | omega | (simp <;> omega)))
            have V13 := Lib.hid (hz.keep V12.out (by have hlP := LP.out; have hlV := LV.out; have hs0 := LTX.out; have hs1 := LTM.out; have hs2 := LTZ.out; have hs3 := SS1.out; have hs4 := SS2.out; have hs5 := LWP.out; have hs6 := SS3.out; have hs7 := SS4.out; have hs8 := SS5.out; have hs9 := SS6.out; have hs10 := LWV.out; have hs11 := SS7.out; have hs12 := LUX9.out; have hs13 := LUM9.out; have hs14 := LUZ9.out; have hs15 := LUP9.out; have hs16 := LUV9.out; first | omega | (simp <;> omega)))
            have Q13 := Lib.hid (Q12.out.same hz.below.size fun b h1 h2 => hz.other b (by have hlP := LP.out; have hlV := LV.out; have hs0 := LTX.out; have hs1 := LTM.out; have hs2 := LTZ.out; have hs3 := SS1.out; have hs4 := SS2.out; have hs5 := LWP.out; have hs6 := SS3.out; have hs7 := SS4.out; have hs8 := SS5.out; have hs9 := SS6.out; have hs10 := LWV.out; have hs11 := SS7.out; have hs12 := LUX9.out; have hs13 := LUM9.out; have hs14 := LUZ9.out; have hs15 := LUP9.out; have hs16 := LUV9.out; first | omega | (simp <;> omega)))
            have O13 := Lib.hid (rgp.oe_set O12.out Z12.out (by decide) (by decide) hz.below.size (fun k hk => hz.other k hk))
            clear hz B12 X12 M12 Z12 P12 V12 Q12 O12
            (try simp only [Exit.inBlock, Exit.then])
            refine bodyPost_ret (v := .agg #[.slice A7 (N - 1) c7, .int .i64 u]) ?_ rfl ?_
            · rw [results_cell1 rfl]
              exact stw.back Z13.out Try.underlying26 rfl szQ
            · exact by rw [HEE.out]; exact ⟨_, _, _, rfl, ⟨_, by rw [map_erase, HEQ.out], (O13.out).up.down (by have hlP := LP.out; have hlV := LV.out; have hs0 := LTX.out; have hs1 := LTM.out; have hs2 := LTZ.out; have hs3 := SS1.out; have hs4 := SS2.out; have hs5 := LWP.out; have hs6 := SS3.out; have hs7 := SS4.out; have hs8 := SS5.out; have hs9 := SS6.out; have hs10 := LWV.out; have hs11 := SS7.out; have hs12 := LUX9.out; have hs13 := LUM9.out; have hs14 := LUZ9.out; have hs15 := LUP9.out; have hs16 := LUV9.out; first | omega | (simp <;> omega))⟩, B13.out⟩
    | false =>
      have HE := Lib.hid (show enq ms d x = (ms, d) by unfold enq; rw [HQV.out, HMV.out]; rfl)
      go_wp2_with (first | (refine stw.list_load rfl 26 _ rfl (bp) rfl 26 _ P4.out Try.underlying26 rfl szQ ?_) | (refine stw.list_store rfl 26 _ _ rfl (w.heap.size + 1 + 1) #[.slice A1 n c1, .int .i64 d] rfl rfl 26 _ Z4.out rfl szQ (oneQ _ _ _ _) ?_; intro wz5 hz))
      have B5 := Lib.hid (hz.on B4.out (by have hlP := LP.out; have hs0 := LTX.out; have hs1 := LTM.out; have hs2 := LTZ.out; have hs3 := SS1.out; have hs4 := SS2.out; have hs5 := LWP.out; have hs6 := SS3.out; have hs7 := SS4.out; first | omega | (simp <;> omega)))
      have X5 := Lib.hid (hz.keep X4.out (by have hlP := LP.out; have hs0 := LTX.out; have hs1 := LTM.out; have hs2 := LTZ.out; have hs3 := SS1.out; have hs4 := SS2.out; have hs5 := LWP.out; have hs6 := SS3.out; have hs7 := SS4.out; first | omega | (simp <;> omega)))
      have M5 := Lib.hid (hz.keep M4.out (by have hlP := LP.out; have hs0 := LTX.out; have hs1 := LTM.out; have hs2 := LTZ.out; have hs3 := SS1.out; have hs4 := SS2.out; have hs5 := LWP.out; have hs6 := SS3.out; have hs7 := SS4.out; first | omega | (simp <;> omega)))
      have Z5 := Lib.hid (hz.box)
      have P5 := Lib.hid (hz.keep P4.out (by have hlP := LP.out; have hs0 := LTX.out; have hs1 := LTM.out; have hs2 := LTZ.out; have hs3 := SS1.out; have hs4 := SS2.out; have hs5 := LWP.out; have hs6 := SS3.out; have hs7 := SS4.out; first | omega | (simp <;> omega)))
      have Q5 := Lib.hid (Q4.out.same hz.below.size fun b h1 h2 => hz.other b (by have hlP := LP.out; have hs0 := LTX.out; have hs1 := LTM.out; have hs2 := LTZ.out; have hs3 := SS1.out; have hs4 := SS2.out; have hs5 := LWP.out; have hs6 := SS3.out; have hs7 := SS4.out; first | omega | (simp <;> omega)))
      have R5 := Lib.hid (R4.out.same hz.below.size fun b h1 h2 => hz.other b (by have hlP := LP.out; have hs0 := LTX.out; have hs1 := LTM.out; have hs2 := LTZ.out; have hs3 := SS1.out; have hs4 := SS2.out; have hs5 := LWP.out; have hs6 := SS3.out; have hs7 := SS4.out; first | omega | (simp <;> omega)))
      have O5 := Lib.hid (rgp.oe_set O4.out Z4.out (by decide) (by decide) hz.below.size (fun k hk => hz.other k hk))
      clear hz B4 X4 M4 Z4 P4 Q4 R4 O4
      (try simp only [Exit.inBlock, Exit.then])
      refine bodyPost_ret (v := .agg #[.slice A1 n c1, .int .i64 d]) ?_ rfl ?_
      · rw [results_cell1 rfl]
        exact stw.back Z5.out Try.underlying26 rfl szQ
      · exact by rw [HE.out]; exact ⟨_, _, _, rfl, ⟨_, HES.out, (O5.out).up.down (by have hlP := LP.out; have hs0 := LTX.out; have hs1 := LTM.out; have hs2 := LTZ.out; have hs3 := SS1.out; have hs4 := SS2.out; have hs5 := LWP.out; have hs6 := SS3.out; have hs7 := SS4.out; first | omega | (simp <;> omega))⟩, B5.out⟩
  | false =>
    have HE := Lib.hid (show enq ms d x = (ms, d) by unfold enq; rw [HQV.out]; rfl)
    go_wp2_with (first | (refine stw.list_load rfl 26 _ rfl (bp) rfl 26 _ P3.out Try.underlying26 rfl szQ ?_) | (refine stw.list_store rfl 26 _ _ rfl (w.heap.size + 1 + 1) #[.slice A1 n c1, .int .i64 d] rfl rfl 26 _ Z3.out rfl szQ (oneQ _ _ _ _) ?_; intro wz4 hz))
    have B4 := Lib.hid (hz.on B3.out (by have hlP := LP.out; have hs0 := LTX.out; have hs1 := LTM.out; have hs2 := LTZ.out; have hs3 := SS1.out; have hs4 := SS2.out; have hs5 := LWP.out; have hs6 := SS3.out; first | omega | (simp <;> omega)))
    have X4 := Lib.hid (hz.keep X3.out (by have hlP := LP.out; have hs0 := LTX.out; have hs1 := LTM.out; have hs2 := LTZ.out; have hs3 := SS1.out; have hs4 := SS2.out; have hs5 := LWP.out; have hs6 := SS3.out; first | omega | (simp <;> omega)))
    have M4 := Lib.hid (hz.keep M3.out (by have hlP := LP.out; have hs0 := LTX.out; have hs1 := LTM.out; have hs2 := LTZ.out; have hs3 := SS1.out; have hs4 := SS2.out; have hs5 := LWP.out; have hs6 := SS3.out; first | omega | (simp <;> omega)))
    have Z4 := Lib.hid (hz.box)
    have P4 := Lib.hid (hz.keep P3.out (by have hlP := LP.out; have hs0 := LTX.out; have hs1 := LTM.out; have hs2 := LTZ.out; have hs3 := SS1.out; have hs4 := SS2.out; have hs5 := LWP.out; have hs6 := SS3.out; first | omega | (simp <;> omega)))
    have Q4 := Lib.hid (Q3.out.same hz.below.size fun b h1 h2 => hz.other b (by have hlP := LP.out; have hs0 := LTX.out; have hs1 := LTM.out; have hs2 := LTZ.out; have hs3 := SS1.out; have hs4 := SS2.out; have hs5 := LWP.out; have hs6 := SS3.out; first | omega | (simp <;> omega)))
    have R4 := Lib.hid (R3.out.same hz.below.size fun b h1 h2 => hz.other b (by have hlP := LP.out; have hs0 := LTX.out; have hs1 := LTM.out; have hs2 := LTZ.out; have hs3 := SS1.out; have hs4 := SS2.out; have hs5 := LWP.out; have hs6 := SS3.out; first | omega | (simp <;> omega)))
    have O4 := Lib.hid (rgp.oe_set O3.out Z3.out (by decide) (by decide) hz.below.size (fun k hk => hz.other k hk))
    clear hz B3 X3 M3 Z3 P3 Q3 R3 O3
    (try simp only [Exit.inBlock, Exit.then])
    refine bodyPost_ret (v := .agg #[.slice A1 n c1, .int .i64 d]) ?_ rfl ?_
    · rw [results_cell1 rfl]
      exact stw.back Z4.out Try.underlying26 rfl szQ
    · exact by rw [HE.out]; exact ⟨_, _, _, rfl, ⟨_, HES.out, (O4.out).up.down (by have hlP := LP.out; have hs0 := LTX.out; have hs1 := LTM.out; have hs2 := LTZ.out; have hs3 := SS1.out; have hs4 := SS2.out; have hs5 := LWP.out; have hs6 := SS3.out; first | omega | (simp <;> omega))⟩, B4.out⟩
end Go.Proofs.Ytjmenbpalihnnaa.mq
end

section
namespace Go.Proofs.Ytjmenbpalihnnaa.mq
open Go.RowKit sl harn bx mrw
set_option linter.unusedVariables false
set_option linter.unusedSimpArgs false
theorem q_parts2 {l : List Msg} {d : Int} {w w' : World} {e : Ending} (h : QPost (l, d) w e w') : ∃ A n cap es, e = .returned (qV A n cap d) ∧ es.map (·.x) = l ∧ Oe msg w' w.heap.size w'.heap.size A n cap es ∧ Below w.heap.size w w' := q_parts h
theorem rq_of {w : World} {lo hi n cap : Nat} {A : Option Addr} {es : List (El Msg)} {l : List Msg} (he : es.map (·.x) = l) (h : Oe msg w lo hi A n cap es) : Rq msg w lo hi A n cap l := he ▸ h.rq
theorem _root_.Go.Proofs.Ytjmenbpalihnnaa.mrw.Oe.tch {α : Type} {S : Sh α} {w w' : World} {l r n c : Nat} {A : Option Addr} {es : List (El α)} (h : Oe S w l r A n c es) {lo hi : Nat} (hb : Tch lo hi w w') (hd : r ≤ lo ∨ hi ≤ l) : Oe S w' l r A n c es :=
  h.same hb.size fun b h1 h2 => hb.block b (by have := h.hi_; omega) (by omega)
theorem mem_blk {ms : List Msg} {y : Msg} (h : y ∈ ms) : y.2.2.2.length ≤ blk ms := by
  induction ms with
  | nil => cases h
  | cons a r ih =>
    have e : blk (a :: r) = a.2.2.2.length + blk r := by simp [blk]
    rcases List.mem_cons.1 h with rfl | h
    · omega
    · have := ih h; omega
theorem sub_bnd {l ms : List Msg} (h : l.Sublist ms) : l.length ≤ ms.length ∧ blk l ≤ blk ms := by
  induction h with
  | slnil => exact ⟨Nat.le_refl _, Nat.le_refl _⟩
  | @cons l1 l2 a _ ih =>
    have e : blk (a :: l2) = a.2.2.2.length + blk l2 := by simp [blk]
    simp only [List.length_cons]; omega
  | @cons_cons l1 l2 a _ ih =>
    have e : blk (a :: l2) = a.2.2.2.length + blk l2 := by simp [blk]
    have e2 : blk (a :: l1) = a.2.2.2.length + blk l1 := by simp [blk]
    simp only [List.length_cons]; omega
/-- What holds of messages that are together within the bound. -/
def Bd (l : List Msg) : Prop := (∀ y ∈ l, y.2.2.2.length ≤ 67108864) ∧ 1 + tot l ≤ 1099511627776 ∧ 0 ≤ 1 + tot l
theorem bd_of {l ms : List Msg} (h : l.Sublist ms) (hm : ms.length + blk ms ≤ 67108864) : Bd l := by
  have h1 := sub_bnd h
  refine ⟨fun y hy => ?_, ?_, ?_⟩
  · have := mem_blk hy; omega
  · unfold tot; omega
  · unfold tot; omega
theorem Bd.top {l : List Msg} (h : Bd l) : 1 + tot l ≤ 1099511627776 := h.2.1
theorem Bd.body {l : List Msg} (h : Bd l) : ∀ y ∈ l, y.2.2.2.length ≤ 67108864 := h.1
theorem oq_of {w : World} {lo hi n cap : Nat} {A : Option Addr} {es : List (El Msg)} {l : List Msg} (he : es.map (·.x) = l) (h : Oe msg w lo hi A n cap es) : Oq msg w lo hi A n cap l := ⟨es, he, h⟩
theorem keep_sub (t : Int) (ms : List Msg) : ∀ k, k ≤ ms.length → (keep t ms k).Sublist (ms.take k)
  | 0, _ => List.nil_sublist _
  | k + 1, hk => by
    have ih := keep_sub t ms k (by omega)
    have hin : k < ms.length := by omega
    rw [take_snoc (List.getElem?_eq_getElem hin), keep, getD_of (List.getElem?_eq_getElem hin)]
    split
    · exact ih.trans (List.sublist_append_left _ _)
    · exact ih.append (List.Sublist.refl _)
theorem keep_sub2 (t : Int) (ms : List Msg) (n : Nat) (h : ms.length = n) : (keep t ms n).Sublist ms := by
  have := keep_sub t ms n (by omega)
  rwa [List.take_of_length_le (by omega)] at this
theorem enq_sub (ms : List Msg) (d : Int) (x : Msg) : (enq ms d x).1.Sublist (ms ++ [x]) := by
  unfold enq
  split
  · split
    · exact List.Sublist.refl _
    · exact List.eraseIdx_sublist _ _
  · exact List.sublist_append_left _ _
theorem tk_sub (ms : List Msg) (i : Int) : (tk ms i).1.Sublist ms := by
  unfold tk
  split
  · exact List.eraseIdx_sublist _ _
  · exact List.Sublist.refl _
end Go.Proofs.Ytjmenbpalihnnaa.mq
end

section
namespace Go.Proofs.Ytjmenbpalihnnaa.stw
open Go.RowKit sl harn bx
set_option linter.unusedVariables false

/-- A value with a row of numbers in it, that stays as what was there stays. -/
def rowv (k : IntKind) (zs : List Int) (f : Option Addr → Nat → Nat → Value) : reg.Stay reg.Bel :=
  ⟨fun v w => ∃ A n c lo hi, v = f A n c ∧ Rd k w lo hi A n c zs, fun v w w' ⟨A, n, c, lo, hi, e, h⟩ hb => ⟨A, n, c, lo, hi, e, h.below hb⟩⟩
end Go.Proofs.Ytjmenbpalihnnaa.stw
end

section
namespace Go.Proofs.Ytjmenbpalihnnaa.mq
open Go.RowKit sl harn bx mrw
set_option linter.unusedVariables false
set_option linter.unusedSimpArgs false
/-- A queue of the call's own, somewhere. -/
def qrow (l : List Msg) (d : Int) : reg.Stay reg.Bel := ⟨fun v w => ∃ (A : Option Addr) (n c lo hi : Nat) (es : List (El Msg)), v = qV A n c d ∧ es.map (·.x) = l ∧ Oe msg w lo hi A n c es, fun v w w' ⟨A, n, c, lo, hi, es, h1, h2, h3⟩ hb => ⟨A, n, c, lo, hi, es, h1, h2, h3.below hb⟩⟩
end Go.Proofs.Ytjmenbpalihnnaa.mq
end
