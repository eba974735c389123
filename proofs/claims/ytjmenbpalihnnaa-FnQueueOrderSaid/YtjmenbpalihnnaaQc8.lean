/- TakeMessage of the program. Condition: sizes up to 2^26. -/
import Derived.Test.YtjmenbpalihnnaaQc7
import Derived.Test.YtjmenbpalihnnaaRgu
namespace Go.Proofs.Ytjmenbpalihnnaa.mq
open Go.RowKit sl harn bx mrw
set_option linter.unusedVariables false
set_option linter.unusedSimpArgs false

/-- What TakeMessage hands back. -/
def TPost (t : List Msg × Msg × Bool) (d : Int) (w : World) (e : Ending) (w' : World) : Prop :=
  ∃ (A : Option Addr) (n cap : Nat) (es : List (El Msg)) (f : El Msg), e = .returned (.tuple #[qV A n cap d, mV t.2.1 f.A f.n f.c, .bool t.2.2]) ∧ es.map (·.x) = t.1 ∧ Oe msg w' w.heap.size w'.heap.size A n cap es ∧ Ow 5 .u8 w' w.heap.size w'.heap.size f.A f.n f.c t.2.1.2.2.2 ∧ Ds (es ++ [f]) ∧ Below w.heap.size w w'
theorem results_cct {fn : Func} {p q r : Tmp} {t1 t2 : TypeId} (h : fn.results = #[.cell p t1, .cell q t2, .tmp r]) (tmps : Array Value) (P : Program) (w : World) :
    (results fn tmps).run P w = ((asAddr (tmps.getD p undef)).run P w).andThen fun a w₁ => ((loadVar t1 a).run P w₁).andThen fun v w₂ => ((asAddr (tmps.getD q undef)).run P w₂).andThen fun a2 w₃ => ((loadVar t2 a2).run P w₃).andThen fun v2 w₄ => .ok (.tuple #[v, v2, tmps.getD r undef]) w₄ := by
  simp only [results, h]
  simp [Sem.run_bind, Result.andThen]
theorem back_cct {P : Program} {w : World} {b1 b2 : Nat} {t1 t2 T1 T2 : TypeId} {c1 c2 : Array Value} {d1 d2 : TypeDesc} (h1 : Bx T1 w b1 c1) (hu1 : P.underlying t1 = some d1) (hd1 : d1.isRow = true) (hi1 : (P.info? t1).map (·.size) = some c1.size) (h2 : Bx T2 w b2 c2) (hu2 : P.underlying t2 = some d2) (hd2 : d2.isRow = true) (hi2 : (P.info? t2).map (·.size) = some c2.size) (x : Value) :
    (((asAddr (.pointer (some ⟨b1, 0, none⟩))).run P w).andThen fun a w₁ => ((loadVar t1 a).run P w₁).andThen fun v w₂ => ((asAddr (.pointer (some ⟨b2, 0, none⟩))).run P w₂).andThen fun a2 w₃ => ((loadVar t2 a2).run P w₃).andThen fun v2 w₄ => Result.ok (Value.tuple #[v, v2, x]) w₄) = .ok (.tuple #[.agg c1, .agg c2, x]) w := by
  have e1 := run_loadVar_mid w b1 0 t1 c1.toList d1 (stw.range_of h1) hu1 hd1 (by simpa using hi1)
  have e2 := run_loadVar_mid w b2 0 t2 c2.toList d2 (stw.range_of h2) hu2 hd2 (by simpa using hi2)
  simp [asAddr, e1, e2, Result.andThen]
theorem ds_none {es : List (El Msg)} (h : Ds es) (x : Msg) : Ds (es ++ [⟨x, none, 0, 0⟩]) := by
  refine List.pairwise_append.2 ⟨h, List.pairwise_singleton _ _, fun e he f hf a b ha hb => ?_⟩
  obtain rfl : f = ⟨x, none, 0, 0⟩ := by simpa using hf
  cases hb
theorem ds_out {es : List (El Msg)} (h : Ds es) {i : Nat} {e : El Msg} (he : es[i]? = some e) : Ds (es.eraseIdx i ++ [e]) := by
  have hi : i < es.length := (List.getElem?_eq_some_iff.1 he).1
  have hv : es[i] = e := (List.getElem?_eq_some_iff.1 he).2
  refine List.pairwise_append.2 ⟨List.Pairwise.sublist (List.eraseIdx_sublist _ _) h, List.pairwise_singleton _ _, fun x hx f hf a b ha hb => ?_⟩
  obtain rfl : f = e := by simpa using hf
  unfold Ds at h
  rw [List.pairwise_iff_getElem] at h
  obtain ⟨j, hj, hne⟩ := List.mem_eraseIdx_iff_getElem.1 hx
  obtain ⟨hjl, hji, hx2⟩ : ∃ (hjl : j < es.length), j ≠ i ∧ es[j] = x := ⟨hj, hne.1, hne.2⟩
  rcases Nat.lt_or_gt_of_ne hji with hlt | hgt
  · have := h j i hjl hi hlt
    rw [hx2, hv] at this
    exact this a b ha hb
  · have := h i j hi hjl hgt
    rw [hx2, hv] at this
    exact fun e => this b a hb ha e.symm
set_option maxRecDepth 100000 in
set_option maxHeartbeats 4000000 in
theorem implTk (ms : List Msg) (d i : Int) (hi0 : (Lit.int .i64 i).wf = true) (A : Option Addr) (n cap lo hi : Nat) (hn : n ≤ 67108864) (hbd : ∀ y ∈ ms, y.2.2.2.length ≤ 67108864) (w : World) (h : Rq msg w lo hi A n cap ms) :
    Calls Try.prog 24 #[qV A n cap d, .int .i64 i] w (TPost (tk ms i) d w) := by
  obtain ⟨i0, hi0, hz0, hz1, hz2⟩ := info_parts infoM
  have HZ := Lib.hid (And.intro hi0 (And.intro hz0 (And.intro hz1 hz2)))
  clear hi0 hz0 hz1 hz2
  have QW := Lib.hid h
  have hqh := h.hi_
  have hqc := h.cap_
  have HBD := Lib.hid hbd
  clear h hbd
  have HN := Lib.hid hn
  have HLN0 := Lib.hid QW.out.len
  have HIW := Lib.hid hi0
  obtain ⟨v0, h0⟩ : ∃ v, decide (0 ≤ i ∧ i ≤ (n : Int) - 1) = v := ⟨_, rfl⟩
  have HV0 := Lib.hid h0
  have m1 : IntKind.i64.wrap ((n : Int) - 1) = (n : Int) - 1 := IntWalk.i64_in _ (by omega)
  clear hn h0 hi0
  go_enter Try.func24, Try.ntmps24
  go_wp2_with fail
  obtain ⟨w0, hW⟩ : ∃ w0, ((w.alloc (.cells #[.slice A n cap, .int .i64 d] 26)).alloc (.cells #[.slice none 0 0, .int .i64 0] 26)).alloc (.cells #[.int .i64 0, .int .i64 0, .int .i64 0, .slice none 0 0] 28) = w0 := ⟨_, rfl⟩
  rw [hW]
  have B0 := Lib.hid (show Below w.heap.size w w0 by rw [← hW]; exact (((Below.refl _ _).alloc (by simp <;> omega) _).alloc (by simp <;> omega) _).alloc (by simp <;> omega) _)
  have X0 := Lib.hid (show Bx 26 w0 (w.heap.size) #[.slice A n cap, .int .i64 d] by
      rw [← hW]
      have hh := Bx.made 26 w #[.slice A n cap, .int .i64 d]
      exact ((hh.below (below_box _ _)).below (below_box _ _)))
  have Z0 := Lib.hid (show Bx 26 w0 (w.heap.size + 1) #[.slice none 0 0, .int .i64 0] by
      rw [← hW]
      have hh : Bx 26 ((w.alloc (.cells #[.slice A n cap, .int .i64 d] 26)).alloc (.cells #[.slice none 0 0, .int .i64 0] 26)) (w.heap.size + 1) #[.slice none 0 0, .int .i64 0] := by have hh := Bx.made 26 (w.alloc (.cells #[.slice A n cap, .int .i64 d] 26)) #[.slice none 0 0, .int .i64 0]; simpa using hh
      exact (hh.below (below_box _ _)))
  have Y0 := Lib.hid (show Bx 28 w0 (w.heap.size + 1 + 1) #[.int .i64 0, .int .i64 0, .int .i64 0, .slice none 0 0] by
      rw [← hW]
      have hh : Bx 28 (((w.alloc (.cells #[.slice A n cap, .int .i64 d] 26)).alloc (.cells #[.slice none 0 0, .int .i64 0] 26)).alloc (.cells #[.int .i64 0, .int .i64 0, .int .i64 0, .slice none 0 0] 28)) (w.heap.size + 1 + 1) #[.int .i64 0, .int .i64 0, .int .i64 0, .slice none 0 0] := by have hh := Bx.made 28 ((w.alloc (.cells #[.slice A n cap, .int .i64 d] 26)).alloc (.cells #[.slice none 0 0, .int .i64 0] 26)) #[.int .i64 0, .int .i64 0, .int .i64 0, .slice none 0 0]; simpa using hh
      exact hh)
  have Q0 := Lib.hid (show Rq msg w0 lo hi A n cap ms by rw [← hW]; exact (((QW.out.below (below_box _ _)).below (below_box _ _)).below (below_box _ _)))
  clear hW
  have LTX := Lib.hid X0.out.lt
  have LTZ := Lib.hid Z0.out.lt
  have LTY := Lib.hid Y0.out.lt
  (with_reducible refine (implCq ms d A n cap lo hi HN.out HBD.out _ Q0.out).mono ?_)
  rintro e w1 hp
  obtain ⟨A1, n1, c1, es, rfl, gHES, ho, hb⟩ := q_parts hp
  clear hp
  obtain rfl : n = n1 := by have h1 := ho.len; have h2 := congrArg List.length gHES; have h3 := Q0.out.len; simp at h2; omega
  have HES := Lib.hid gHES
  clear gHES
  have SS1 := Lib.hid hb.size
  have B1 := Lib.hid (B0.out.trans (hb.mono B0.out.size))
  have X1 := Lib.hid (X0.out.below hb)
  have Z1 := Lib.hid (Z0.out.below hb)
  have Y1 := Lib.hid (Y0.out.below hb)
  have Q1 := Lib.hid (Q0.out.below hb)
  clear hb B0 X0 Z0 Y0 Q0
  have O1 := Lib.hid ho
  clear ho
  go_upto_region 2 with fail
  obtain ⟨bp, hbb⟩ : ∃ b, w1.heap.size = b := ⟨_, rfl⟩
  generalize hW : w1.alloc (.cells #[.slice A1 n c1, .int .i64 d] 26) = w2
  have LP := Lib.hid (show w.heap.size ≤ bp ∧ w.heap.size < bp ∧ w.heap.size + 1 < bp ∧ w.heap.size + 1 + 1 < bp ∧ hi ≤ bp ∧ w1.heap.size ≤ bp by have h1 := B1.out.size; have h2X := X1.out.lt; have h2Z := Z1.out.lt; have h2Y := Y1.out.lt; have h2Q := Q1.out.hi_; have h2O := O1.out.hi_; have h3 := hbb; omega)
  have P2 := Lib.hid (show Bx 26 w2 bp #[.slice A1 n c1, .int .i64 d] by rw [← hW, ← hbb]; exact Bx.made _ _ _)
  have hb : Below w1.heap.size w1 w2 := by rw [← hW]; exact below_box _ _
  (try rw [hbb])
  clear hW hbb
  have SS2 := Lib.hid hb.size
  have B2 := Lib.hid (B1.out.trans (hb.mono B1.out.size))
  have X2 := Lib.hid (X1.out.below hb)
  have Z2 := Lib.hid (Z1.out.below hb)
  have Y2 := Lib.hid (Y1.out.below hb)
  have Q2 := Lib.hid (Q1.out.below hb)
  have O2 := Lib.hid (O1.out.below hb)
  clear hb B1 X1 Z1 Y1 Q1 O1
  have cX0 : w2.cell? ⟨w.heap.size, 0, none⟩ = some (.slice A n cap) := X2.out.cell 0
  go_wp2_with fail
  clear cX0
  clear m1
  (with_reducible refine (inR i 0 ((n : Int) - 1) v0 _ HV0.out).mono ?_)
  rintro e wq ⟨rfl, rfl⟩
  cases v0 with
  | true =>
    obtain ⟨ii, rfl⟩ : ∃ ii : Nat, i = (ii : Int) := ⟨i.toNat, by have h1 := of_decide_eq_true HV0.out; omega⟩
    have hii : ii < n := by have h1 := of_decide_eq_true HV0.out; omega
    have hii2 : (ii : Int) < n := by omega
    obtain ⟨e0, he0, hey⟩ : ∃ e, es[ii]? = some e ∧ ms[ii]? = some e.x := by
      have hl := O2.out.len
      have h1 : es[ii]? = some (es[ii]'(by omega)) := List.getElem?_eq_getElem (by omega)
      exact ⟨_, h1, by rw [← HES.out, List.getElem?_map, h1]; rfl⟩
    obtain ⟨y, Ay, ny, cy⟩ := e0
    obtain ⟨g, hgA, hg1, hg2, hr⟩ := O2.out.at_ he0
    subst hgA
    have hr0 : w2.cell? ⟨g, ii * 4, none⟩ = some (.int .i64 y.1) := hr 0 _ rfl
    have hr1 : w2.cell? ⟨g, ii * 4 + 1, none⟩ = some (.int .i64 y.2.1) := hr 1 _ rfl
    have hr2 : w2.cell? ⟨g, ii * 4 + 2, none⟩ = some (.int .i64 y.2.2.1) := hr 2 _ rfl
    have hr3 : w2.cell? ⟨g, ii * 4 + 3, none⟩ = some (.slice Ay ny cy) := hr 3 _ rfl
    have HE0 := Lib.hid he0
    have HE := Lib.hid (show tk ms (ii : Int) = (ms.eraseIdx ii, y, true) by unfold tk; rw [if_pos (by rw [HLN0.out]; omega), Int.toNat_natCast, getD_of hey])
    have W2 := Lib.hid (O2.out.body _ (List.mem_of_getElem? he0))
    clear he0 hey hr
    have cP0 : w2.cell? ⟨bp, 0, none⟩ = some (.slice (some ⟨g, 0, none⟩) n c1) := P2.out.cell 0
    go_upto_region 5 with fail
    clear cP0 hr0 hr1 hr2 hr3
    obtain ⟨bv, hbb⟩ : ∃ b, w2.heap.size = b := ⟨_, rfl⟩
    generalize hW : w2.alloc (.cells #[.int .i64 y.1, .int .i64 y.2.1, .int .i64 y.2.2.1, .slice Ay ny cy] 28) = w3
    have LV := Lib.hid (show w.heap.size ≤ bv ∧ w.heap.size < bv ∧ w.heap.size + 1 < bv ∧ w.heap.size + 1 + 1 < bv ∧ bp < bv ∧ hi ≤ bv ∧ w1.heap.size ≤ bv ∧ w1.heap.size ≤ bv by have h1 := B2.out.size; have h2X := X2.out.lt; have h2Z := Z2.out.lt; have h2Y := Y2.out.lt; have h2P := P2.out.lt; have h2Q := Q2.out.hi_; have h2O := O2.out.hi_; have h2W := W2.out.hi_; have h3 := hbb; omega)
    have V3 := Lib.hid (show Bx 28 w3 bv #[.int .i64 y.1, .int .i64 y.2.1, .int .i64 y.2.2.1, .slice Ay ny cy] by rw [← hW, ← hbb]; exact Bx.made _ _ _)
    have hb : Below w2.heap.size w2 w3 := by rw [← hW]; exact below_box _ _
    (try rw [hbb])
    clear hW hbb
    have SS3 := Lib.hid hb.size
    have B3 := Lib.hid (B2.out.trans (hb.mono B2.out.size))
    have X3 := Lib.hid (X2.out.below hb)
    have Z3 := Lib.hid (Z2.out.below hb)
    have Y3 := Lib.hid (Y2.out.below hb)
    have P3 := Lib.hid (P2.out.below hb)
    have Q3 := Lib.hid (Q2.out.below hb)
    have O3 := Lib.hid (O2.out.below hb)
    have W3 := Lib.hid (W2.out.below hb)
    clear hb B2 X2 Z2 Y2 P2 Q2 O2 W2
    refine rgf.region_freeU reg.Bel [reg.Bel, reg.Bel, (fun ua ub => Oe msg ua w0.heap.size w1.heap.size (some ⟨g, 0, none⟩) n c1 es ∧ ua.grownBy ub (some g)), reg.Bel, (fun ua ub => stw.Put 26 ua (w.heap.size + 1) #[.slice (some ⟨g, 0, none⟩) (n - 1) c1, .int .i64 d] ub), (fun ua ub => stw.Put 28 ua (w.heap.size + 1 + 1) #[.int .i64 y.1, .int .i64 y.2.1, .int .i64 y.2.2.1, .slice Ay ny cy] ub), reg.Bel]
      (fun j => match j with | 0 => rgf.pureS (.agg #[.slice (some ⟨g, 0, none⟩) n c1, .int .i64 d]) | 1 => rgf.pureS (.int .i64 ((ii : Int))) | 2 => ⟨fun v ua => v = .agg #[.slice (some ⟨g, 0, none⟩) (n - 1) c1, .int .i64 d] ∧ Oe msg ua w0.heap.size w1.heap.size (some ⟨g, 0, none⟩) (n - 1) c1 (es.eraseIdx ii), fun v ua ub h hb => ⟨h.1, h.2.below hb⟩, fun _ v ua ub h hb => ⟨h.1, h.2.below hb⟩, fun _ v ua ub h hb => ⟨h.1, h.2.below hb⟩, fun h => absurd rfl h, fun _ v ua ub h hb => ⟨h.1, h.2.below hb⟩, fun _ v ua ub h hp => ⟨h.1, h.2.same hp.below.size (fun b h1 h2 => hp.other b (by have hlP := LP.out; have hlV := LV.out; have hs0 := LTX.out; have hs1 := LTZ.out; have hs2 := LTY.out; have hs3 := SS1.out; have hs4 := SS2.out; have hs5 := SS3.out; omega))⟩, fun _ v ua ub h hp => ⟨h.1, h.2.same hp.below.size (fun b h1 h2 => hp.other b (by have hlP := LP.out; have hlV := LV.out; have hs0 := LTX.out; have hs1 := LTZ.out; have hs2 := LTY.out; have hs3 := SS1.out; have hs4 := SS2.out; have hs5 := SS3.out; omega))⟩, fun _ v ua ub h hb => ⟨h.1, h.2.below hb⟩, trivial⟩ | 3 => rgf.pureS (.agg #[.int .i64 y.1, .int .i64 y.2.1, .int .i64 y.2.2.1, .slice Ay ny cy]) | 4 => ⟨fun _ ua => Bx 26 ua (w.heap.size + 1) #[.slice (some ⟨g, 0, none⟩) (n - 1) c1, .int .i64 d], fun v ua ub h hb => h.below hb, fun _ v ua ub h hb => h.below hb, fun _ v ua ub h hb => h.below hb, fun _ v ua ub h h2 => grown_bx h h2.2 (fun e => by have hlP := LP.out; have hlV := LV.out; have hs0 := LTX.out; have hs1 := LTZ.out; have hs2 := LTY.out; have hs3 := SS1.out; have hs4 := SS2.out; have hs5 := SS3.out; have e2 := Option.some.inj e; omega), fun _ v ua ub h hb => h.below hb, fun h => absurd rfl h, fun _ v ua ub h hp => hp.keep h (by omega), fun _ v ua ub h hb => h.below hb, trivial⟩ | 5 => ⟨fun _ ua => Bx 28 ua (w.heap.size + 1 + 1) #[.int .i64 y.1, .int .i64 y.2.1, .int .i64 y.2.2.1, .slice Ay ny cy], fun v ua ub h hb => h.below hb, fun _ v ua ub h hb => h.below hb, fun _ v ua ub h hb => h.below hb, fun _ v ua ub h h2 => grown_bx h h2.2 (fun e => by have hlP := LP.out; have hlV := LV.out; have hs0 := LTX.out; have hs1 := LTZ.out; have hs2 := LTY.out; have hs3 := SS1.out; have hs4 := SS2.out; have hs5 := SS3.out; have e2 := Option.some.inj e; omega), fun _ v ua ub h hb => h.below hb, fun _ v ua ub h hp => hp.keep h (by omega), fun h => absurd rfl h, fun _ v ua ub h hb => h.below hb, trivial⟩ | 6 => rgf.pureS (.bool true) | _ => rgf.freeS)
      2 ⟨fun _ ua => Oe msg ua w0.heap.size w1.heap.size (some ⟨g, 0, none⟩) n c1 es, fun v ua ub h hb => h.below hb, fun _ v ua ub h hb => h.below hb, fun _ v ua ub h hb => h.below hb, fun h => absurd rfl h, fun _ v ua ub h hb => h.below hb, fun _ v ua ub h hp => h.same hp.below.size (fun b h1 h2 => hp.other b (by have hlP := LP.out; have hlV := LV.out; have hs0 := LTX.out; have hs1 := LTZ.out; have hs2 := LTY.out; have hs3 := SS1.out; have hs4 := SS2.out; have hs5 := SS3.out; omega)), fun _ v ua ub h hp => h.same hp.below.size (fun b h1 h2 => hp.other b (by have hlP := LP.out; have hlV := LV.out; have hs0 := LTX.out; have hs1 := LTZ.out; have hs2 := LTY.out; have hs3 := SS1.out; have hs4 := SS2.out; have hs5 := SS3.out; omega)), fun _ v ua ub h hb => h.below hb, trivial⟩
      29 [(4, 27), (5, 28)] [some [], some [], some [(0, 25), (1, 26)], some [], some [(2, 27)], some [(3, 28)], some []] [(0, 25), (1, 26), (2, 27), (3, 28), (6, 6)]
      (fun w' => Below w.heap.size w w' ∧ Bx 26 w' bp #[.slice (some ⟨g, 0, none⟩) n c1, .int .i64 d] ∧ Bx 28 w' bv #[.int .i64 y.1, .int .i64 y.2.1, .int .i64 y.2.2.1, .slice Ay ny cy] ∧ stw.Lies 26 (w.heap.size + 1) 2 w' ∧ stw.Lies 28 (w.heap.size + 1 + 1) 4 w' ∧ Ow 5 .u8 w' w0.heap.size w1.heap.size Ay ny cy y.2.2.2)
      (by kernel_rfl) (by kernel_rfl) rfl
      (fun ua ub hc hb => ⟨hc.1.trans (hb.mono hc.1.size), hc.2.1.below hb, hc.2.2.1.below hb, hc.2.2.2.1.same (hb.block _ hc.2.2.2.1.lt), hc.2.2.2.2.1.same (hb.block _ hc.2.2.2.2.1.lt), hc.2.2.2.2.2.below hb⟩)
      ⟨fun ua ub hc hb => ⟨hc.1.trans (hb.mono hc.1.size), hc.2.1.below hb, hc.2.2.1.below hb, hc.2.2.2.1.same (hb.block _ hc.2.2.2.1.lt), hc.2.2.2.2.1.same (hb.block _ hc.2.2.2.2.1.lt), hc.2.2.2.2.2.below hb⟩, fun ua ub hc hb => ⟨hc.1.trans (hb.mono hc.1.size), hc.2.1.below hb, hc.2.2.1.below hb, hc.2.2.2.1.same (hb.block _ hc.2.2.2.1.lt), hc.2.2.2.2.1.same (hb.block _ hc.2.2.2.2.1.lt), hc.2.2.2.2.2.below hb⟩, fun ua ub hc h2 => ⟨below_grown hc.1 h2.2 (fun q hq => by have hlP := LP.out; have hlV := LV.out; have hs0 := LTX.out; have hs1 := LTZ.out; have hs2 := LTY.out; have hs3 := SS1.out; have hs4 := SS2.out; have hs5 := SS3.out; have := (h2.1.lo_ hq).1; omega) hc.1.size, grown_bx hc.2.1 h2.2 (rgp.ne_type hc.2.1 h2.1 (by decide)), grown_bx hc.2.2.1 h2.2 (fun e => by have hlP := LP.out; have hlV := LV.out; have hs0 := LTX.out; have hs1 := LTZ.out; have hs2 := LTY.out; have hs3 := SS1.out; have hs4 := SS2.out; have hs5 := SS3.out; have e2 := Option.some.inj e; omega), hc.2.2.2.1.same (h2.2.block _ hc.2.2.2.1.lt (fun e => by have hlP := LP.out; have hlV := LV.out; have hs0 := LTX.out; have hs1 := LTZ.out; have hs2 := LTY.out; have hs3 := SS1.out; have hs4 := SS2.out; have hs5 := SS3.out; have e2 := Option.some.inj e; omega)), hc.2.2.2.2.1.same (h2.2.block _ hc.2.2.2.2.1.lt (fun e => by have hlP := LP.out; have hlV := LV.out; have hs0 := LTX.out; have hs1 := LTZ.out; have hs2 := LTY.out; have hs3 := SS1.out; have hs4 := SS2.out; have hs5 := SS3.out; have e2 := Option.some.inj e; omega)), ow_grown h2.1 h2.2 hc.2.2.2.2.2⟩, fun ua ub hc hb => ⟨hc.1.trans (hb.mono hc.1.size), hc.2.1.below hb, hc.2.2.1.below hb, hc.2.2.2.1.same (hb.block _ hc.2.2.2.1.lt), hc.2.2.2.2.1.same (hb.block _ hc.2.2.2.2.1.lt), hc.2.2.2.2.2.below hb⟩, fun ua ub hc hp => ⟨hp.on hc.1 (by have hlP := LP.out; have hlV := LV.out; have hs0 := LTX.out; have hs1 := LTZ.out; have hs2 := LTY.out; have hs3 := SS1.out; have hs4 := SS2.out; have hs5 := SS3.out; omega), hp.keep hc.2.1 (by have hlP := LP.out; have hlV := LV.out; have hs0 := LTX.out; have hs1 := LTZ.out; have hs2 := LTY.out; have hs3 := SS1.out; have hs4 := SS2.out; have hs5 := SS3.out; omega), hp.keep hc.2.2.1 (by have hlP := LP.out; have hlV := LV.out; have hs0 := LTX.out; have hs1 := LTZ.out; have hs2 := LTY.out; have hs3 := SS1.out; have hs4 := SS2.out; have hs5 := SS3.out; omega), hc.2.2.2.1.put hp (fun e => ⟨rfl, rfl⟩), hc.2.2.2.2.1.put hp (fun e => by exfalso; omega), hc.2.2.2.2.2.same hp.below.size (fun b h1 h2 => hp.other b (by have hlP := LP.out; have hlV := LV.out; have hs0 := LTX.out; have hs1 := LTZ.out; have hs2 := LTY.out; have hs3 := SS1.out; have hs4 := SS2.out; have hs5 := SS3.out; omega))⟩, fun ua ub hc hp => ⟨hp.on hc.1 (by have hlP := LP.out; have hlV := LV.out; have hs0 := LTX.out; have hs1 := LTZ.out; have hs2 := LTY.out; have hs3 := SS1.out; have hs4 := SS2.out; have hs5 := SS3.out; omega), hp.keep hc.2.1 (by have hlP := LP.out; have hlV := LV.out; have hs0 := LTX.out; have hs1 := LTZ.out; have hs2 := LTY.out; have hs3 := SS1.out; have hs4 := SS2.out; have hs5 := SS3.out; omega), hp.keep hc.2.2.1 (by have hlP := LP.out; have hlV := LV.out; have hs0 := LTX.out; have hs1 := LTZ.out; have hs2 := LTY.out; have hs3 := SS1.out; have hs4 := SS2.out; have hs5 := SS3.out; omega), hc.2.2.2.1.put hp (fun e => by exfalso; omega), hc.2.2.2.2.1.put hp (fun e => ⟨rfl, rfl⟩), hc.2.2.2.2.2.same hp.below.size (fun b h1 h2 => hp.other b (by have hlP := LP.out; have hlV := LV.out; have hs0 := LTX.out; have hs1 := LTZ.out; have hs2 := LTY.out; have hs3 := SS1.out; have hs4 := SS2.out; have hs5 := SS3.out; omega))⟩, fun ua ub hc hb => ⟨hc.1.trans (hb.mono hc.1.size), hc.2.1.below hb, hc.2.2.1.below hb, hc.2.2.2.1.same (hb.block _ hc.2.2.2.1.lt), hc.2.2.2.2.1.same (hb.block _ hc.2.2.2.2.1.lt), hc.2.2.2.2.2.below hb⟩, trivial⟩
      (⟨own.below_drew B3.out, P3.out.same rfl, V3.out.same rfl, (stw.Lies.of Z3.out).same rfl, (stw.Lies.of Y3.out).same rfl, W3.out.same (Nat.le_refl _) (fun _ _ _ => rfl)⟩) (O3.out.same (Nat.le_refl _) (fun _ _ _ => rfl)) (by kernel_rfl) ⟨?_, ?_, ?_, ?_, ?_, ?_, ?_, trivial⟩ ?_
    · refine fun w8 hc hu  K hK => ?_
      (try simp only [Act.put, List.setIfInBounds_toArray, List.set_cons_zero, List.set_cons_succ])
      rw [if_pos (by rfl)]
      refine stw.wp_load_bx 26 _ rfl bp rfl 26 _ hc.2.1 Try.underlying26 rfl szQ ?_
      exact hK _ _ rfl (Below.refl _ _)
    · refine fun w8 hc hu  K hK => ?_
      (try simp only [Act.put, List.setIfInBounds_toArray, List.set_cons_zero, List.set_cons_succ])
      go_simp
      exact hK (.int .i64 ((ii : Int))) _ rfl (Below.refl _ _)
    · refine fun w8 hc hu v0 h0 v1 h1 K hK => ?_
      obtain rfl : v0 = .agg #[.slice (some ⟨g, 0, none⟩) n c1, .int .i64 d] := h0
      obtain rfl : v1 = .int .i64 ((ii : Int)) := h1
      (try simp only [Act.put, List.setIfInBounds_toArray, List.set_cons_zero, List.set_cons_succ])
      have ho := hu rfl
      go_simp
      (with_reducible refine (withoutM es d g n c1 _ _ ii hii HN.out _ ho).mono ?_)
      rintro e w3 ⟨rfl, ho3, hg3⟩
      exact hK _ _ ⟨rfl, ho3⟩ ⟨ho, hg3⟩
    · refine fun w8 hc hu  K hK => ?_
      (try simp only [Act.put, List.setIfInBounds_toArray, List.set_cons_zero, List.set_cons_succ])
      rw [if_pos (by rfl)]
      refine stw.wp_load_bx 28 _ rfl bv rfl 28 _ hc.2.2.1 Try.underlying28 rfl szM ?_
      exact hK _ _ rfl (Below.refl _ _)
    · refine fun w8 hc hu v2 h2 K hK => ?_
      obtain ⟨rfl, -⟩ := h2
      (try simp only [Act.put, List.setIfInBounds_toArray, List.set_cons_zero, List.set_cons_succ])
      obtain ⟨cur, hcur, hXc⟩ := hc.2.2.2.1
      refine stw.step_store rfl 26 _ _ rfl (w.heap.size + 1) #[.slice (some ⟨g, 0, none⟩) (n - 1) c1, .int .i64 d] rfl rfl 26 _ hXc (by rw [hcur]; rfl) szQ (oneQ _ _ _ _) ?_
      intro wz hz
      exact hK undef _ hz.box hz
    · refine fun w8 hc hu v3 h3 K hK => ?_
      obtain rfl : v3 = .agg #[.int .i64 y.1, .int .i64 y.2.1, .int .i64 y.2.2.1, .slice Ay ny cy] := h3
      (try simp only [Act.put, List.setIfInBounds_toArray, List.set_cons_zero, List.set_cons_succ])
      obtain ⟨cur, hcur, hXc⟩ := hc.2.2.2.2.1
      refine stw.step_store rfl 28 _ _ rfl (w.heap.size + 1 + 1) #[.int .i64 y.1, .int .i64 y.2.1, .int .i64 y.2.2.1, .slice Ay ny cy] rfl rfl 28 _ hXc (by rw [hcur]; rfl) szM (oneM _ _ _ _ _ _) ?_
      intro wz hz
      exact hK undef _ hz.box hz
    · refine fun w8 hc hu  K hK => ?_
      (try simp only [Act.put, List.setIfInBounds_toArray, List.set_cons_zero, List.set_cons_succ])
      go_simp
      exact hK (.bool true) _ rfl (Below.refl _ _)
    refine fun w9 hc v0 h0 v1 h1 v2 h2 v3 h3 v6 h6 => ?_
    obtain rfl : v0 = .agg #[.slice (some ⟨g, 0, none⟩) n c1, .int .i64 d] := h0
    obtain rfl : v1 = .int .i64 ((ii : Int)) := h1
    obtain ⟨rfl, hO⟩ := h2
    obtain rfl : v3 = .agg #[.int .i64 y.1, .int .i64 y.2.1, .int .i64 y.2.2.1, .slice Ay ny cy] := h3
    obtain rfl : v6 = .bool true := h6
    (try simp only [reg.Obs])
    intro hrf
    have g4 : Bx 26 w9 (w.heap.size + 1) #[.slice (some ⟨g, 0, none⟩) (n - 1) c1, .int .i64 d] := hrf (4, 27) (by simp) rfl
    have g5 : Bx 28 w9 (w.heap.size + 1 + 1) #[.int .i64 y.1, .int .i64 y.2.1, .int .i64 y.2.2.1, .slice Ay ny cy] := hrf (5, 28) (by simp) rfl
    clear hrf
    (try simp only [Act.put, List.setIfInBounds_toArray, List.set_cons_zero, List.set_cons_succ])
    (try simp only [Exit.inBlock, Exit.then])
    have G4 := Lib.hid g4
    have G5 := Lib.hid g5
    have HO := Lib.hid hO
    have HC := Lib.hid hc
    clear g4 g5 hO hc
    go_wp2_with fail
    refine bodyPost_ret (v := .tuple #[.agg #[.slice (some ⟨g, 0, none⟩) (n - 1) c1, .int .i64 d], .agg #[.int .i64 y.1, .int .i64 y.2.1, .int .i64 y.2.2.1, .slice Ay ny cy], .bool true]) ?_ rfl ?_
    · rw [results_cct rfl]
      exact back_cct G4.out Try.underlying26 rfl szQ G5.out Try.underlying28 rfl szM _
    · rw [HE.out]
      refine ⟨some ⟨g, 0, none⟩, n - 1, c1, es.eraseIdx ii, ⟨y, Ay, ny, cy⟩, rfl, by rw [map_erase, HES.out], ?_, ?_, ds_out O3.out.ds HE0.out, HC.out.1⟩
      · exact HO.out.up.down (by have hlP := LP.out; have hlV := LV.out; have hs0 := LTX.out; have hs1 := LTZ.out; have hs2 := LTY.out; have hs3 := SS1.out; have hs4 := SS2.out; have hs5 := SS3.out; omega)
      · exact HC.out.2.2.2.2.2.up.down (by have hlP := LP.out; have hlV := LV.out; have hs0 := LTX.out; have hs1 := LTZ.out; have hs2 := LTY.out; have hs3 := SS1.out; have hs4 := SS2.out; have hs5 := SS3.out; omega)
  | false =>
    have HE := Lib.hid (show tk ms i = (ms, zm, false) by unfold tk; rw [if_neg (by have h1 := of_decide_eq_false HV0.out; rw [HLN0.out]; omega)])
    have cP0 : w2.cell? ⟨bp, 0, none⟩ = some (.slice A1 n c1) := P2.out.cell 0
    have cP1 : w2.cell? ⟨bp, 1, none⟩ = some (.int .i64 d) := P2.out.cell 1
    have cZ0 : w2.cell? ⟨w.heap.size + 1, 0, none⟩ = some (.slice none 0 0) := Z2.out.cell 0
    have cZ1 : w2.cell? ⟨w.heap.size + 1, 1, none⟩ = some (.int .i64 0) := Z2.out.cell 1
    have fZ0 : w2.frozen? ⟨w.heap.size + 1, 0, none⟩ = false := Z2.out.free 0
    have fZ1 : w2.frozen? ⟨w.heap.size + 1, 1, none⟩ = false := Z2.out.free 1
    have cY0 : w2.cell? ⟨w.heap.size + 1 + 1, 0, none⟩ = some (.int .i64 0) := Y2.out.cell 0
    have cY1 : w2.cell? ⟨w.heap.size + 1 + 1, 1, none⟩ = some (.int .i64 0) := Y2.out.cell 1
    have cY2 : w2.cell? ⟨w.heap.size + 1 + 1, 2, none⟩ = some (.int .i64 0) := Y2.out.cell 2
    have cY3 : w2.cell? ⟨w.heap.size + 1 + 1, 3, none⟩ = some (.slice none 0 0) := Y2.out.cell 3
    have fY0 : w2.frozen? ⟨w.heap.size + 1 + 1, 0, none⟩ = false := Y2.out.free 0
    have fY1 : w2.frozen? ⟨w.heap.size + 1 + 1, 1, none⟩ = false := Y2.out.free 1
    have fY2 : w2.frozen? ⟨w.heap.size + 1 + 1, 2, none⟩ = false := Y2.out.free 2
    have fY3 : w2.frozen? ⟨w.heap.size + 1 + 1, 3, none⟩ = false := Y2.out.free 3
    have hw0 := LTY.out
    go_wp2_with fail
    (try simp only [Exit.inBlock, Exit.then])
    refine bodyPost_ret (v := .tuple #[qV A1 n c1 d, .agg #[.int .i64 0, .int .i64 0, .int .i64 0, .slice none 0 0], .bool false]) ?_ rfl ?_
    · rw [results_cct rfl]
      go_simp
    · rw [HE.out]
      refine ⟨A1, n, c1, es, ⟨zm, none, 0, 0⟩, rfl, HES.out, ?_, ?_, ds_none O2.out.ds _, ?_⟩
      · exact ((O2.out).same (by simp [World.setCell]) (fun b h1 _ => by rw [Below.heap_setCell _ _ _ _ (show b ≠ w.heap.size + 1 + 1 by omega), Below.heap_setCell _ _ _ _ (show b ≠ w.heap.size + 1 + 1 by omega), Below.heap_setCell _ _ _ _ (show b ≠ w.heap.size + 1 + 1 by omega), Below.heap_setCell _ _ _ _ (show b ≠ w.heap.size + 1 + 1 by omega), Below.heap_setCell _ _ _ _ (show b ≠ w.heap.size + 1 by omega), Below.heap_setCell _ _ _ _ (show b ≠ w.heap.size + 1 by omega)])).up.down (by omega)
      · exact Ow.nil_ _ _ _ _ _ (Nat.le_refl _)
      · exact ((((((B2.out.setCell (p := ⟨w.heap.size + 1, 0, none⟩) (by show w.heap.size ≤ w.heap.size + 1; omega) _).setCell (p := ⟨w.heap.size + 1, 1, none⟩) (by show w.heap.size ≤ w.heap.size + 1; omega) _).setCell (p := ⟨w.heap.size + 1 + 1, 0, none⟩) (by show w.heap.size ≤ w.heap.size + 1 + 1; omega) _).setCell (p := ⟨w.heap.size + 1 + 1, 1, none⟩) (by show w.heap.size ≤ w.heap.size + 1 + 1; omega) _).setCell (p := ⟨w.heap.size + 1 + 1, 2, none⟩) (by show w.heap.size ≤ w.heap.size + 1 + 1; omega) _).setCell (p := ⟨w.heap.size + 1 + 1, 3, none⟩) (by show w.heap.size ≤ w.heap.size + 1 + 1; omega) _)
end Go.Proofs.Ytjmenbpalihnnaa.mq
