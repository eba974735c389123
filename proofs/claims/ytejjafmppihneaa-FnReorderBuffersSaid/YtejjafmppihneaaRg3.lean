/- Copies of buffers, by the specification. Condition: sizes up to 2^26. -/
import Derived.Test.YtejjafmppihneaaRo2
import Derived.Test.YtejjafmppihneaaMs0
namespace Go.Proofs.Ytejjafmppihneaa.ro
open Go.RowKit sl harn bx stw
set_option linter.unusedVariables false
open ux (Nf Rob RR OO row rowB rowNf nf rob)
open mrw (blkOf)
open bs (nsq sqd)
set_option linter.unusedSimpArgs false
open bx
open mrw (blkOf)

theorem app_empty {P : Program} (t ty E : TypeId) (i : TypeInfo) (z : Value) (k : IntKind) (h1 : P.underlying t = some (.slice E)) (h2 : P.info? E = some i) (h3 : i.zero = some z) (h4 : i.size = 1) (h5 : i.bytes ≤ 8) (h6 : z.cells.size = 1)
    {w : World} {lo hi lo2 hi2 m c q : Nat} {B : Option Addr} {ys : List Int} (ho : Ow E k w lo hi (some ⟨q, 0, none⟩) 0 0 []) (hr : Rd k w lo2 hi2 B m c ys) (hn : m ≤ 67108864) (hlo : lo ≤ w.heap.size) :
    ∃ A' cap' w', (Builtin.append_ #[t, t] ty #[.slice (some ⟨q, 0, none⟩) 0 0, .slice B m c]).run P w = .ok (.slice A' m cap') w' ∧ Ow E k w' lo w'.heap.size A' m cap' ys ∧ Below w.heap.size w w' := by
  obtain ⟨A', cap', w', hrun, g1, g2, g3, _⟩ := num_more (P := P) t ty E i z k h1 h2 h3 h4 h5 h6 ho hr (by omega) hlo
  rw [Nat.zero_add] at hrun g1
  rw [List.nil_append] at g1
  refine ⟨A', cap', w', hrun, g1, ⟨g2.os, g2.tape, g2.output, g2.size, fun b hb => ?_⟩⟩
  by_cases e : b = q
  · subst e
    rcases ho.form with ⟨e, _⟩ | ⟨g, cur, e, _, _, r1, _, _, r2, _⟩
    · cases e
    rcases g3.form with ⟨e', _⟩ | ⟨g', cur', e', _, _, s1, _, _, s2, _⟩
    · cases e'
    obtain rfl : b = g := by injection e with e; injection e
    obtain rfl : b = g' := by injection e' with e'; injection e'
    rw [r1, s1, Array.eq_empty_of_size_eq_zero r2, Array.eq_empty_of_size_eq_zero s2]
  · exact g2.block b hb (fun e2 => e (by simpa [blkOf] using e2))
/-- The append at an operation of a region. -/
theorem wp_app0 {P : Program} {o : Oper} {a : Act} {w : World} {K : Act → World → Prop} {Q : Exit → Act → World → Prop} (s x : Operand) (t : TypeId)
    (hop : o.op = .call { callee := .builtin .append, args := #[s, x], argTypes := #[t, t] })
    (E : TypeId) (i : TypeInfo) (z : Value) (k : IntKind) (h1 : P.underlying t = some (.slice E)) (h2 : P.info? E = some i) (h3 : i.zero = some z) (h4 : i.size = 1) (h5 : i.bytes ≤ 8) (h6 : z.cells.size = 1)
    {lo hi lo2 hi2 m c q : Nat} {B : Option Addr} {ys : List Int} (hs : a.eval s = .slice (some ⟨q, 0, none⟩) 0 0) (hx : a.eval x = .slice B m c) (ho : Ow E k w lo hi (some ⟨q, 0, none⟩) 0 0 []) (hr : Rd k w lo2 hi2 B m c ys) (hn : m ≤ 67108864) (hlo : lo ≤ w.heap.size)
    (hK : ∀ A' cap' w', Ow E k w' lo w'.heap.size A' m cap' ys → Below w.heap.size w w' → K (a.put o.dst (.slice A' m cap')) w') : Oper.wp P o a w K Q := by
  obtain ⟨A', cap', w', hrun, g1, g2⟩ := app_empty (P := P) t o.type E i z k h1 h2 h3 h4 h5 h6 ho hr hn hlo
  unfold Oper.wp execOp
  simp only [hop, resolve, invoke, builtin, Sem.run_bind, Sem.run_pure, Result.andThen_ok, List.map_toArray, List.map_cons, List.map_nil, hs, hx, hrun]
  exact hK A' cap' w' g1 g2
/-- A value with a row of the call's own in it, above block B. -/
def ownf (E : TypeId) (k : IntKind) (B : Nat) (zs : List Int) (f : Option Addr → Nat → Nat → Value) : reg.Stay reg.Bel :=
  ⟨fun v w => ∃ (A : Option Addr) (n c lo hi : Nat), v = f A n c ∧ B ≤ lo ∧ Ow E k w lo hi A n c zs, fun v w w' ⟨A, n, c, lo, hi, e, h1, h⟩ hb => ⟨A, n, c, lo, hi, e, h1, h.below hb⟩⟩
/-- An empty row of the call's own, without room. -/
def ownE (E : TypeId) (k : IntKind) (B : Nat) : reg.Stay reg.Bel :=
  ⟨fun v w => ∃ (q lo hi : Nat), v = .slice (some ⟨q, 0, none⟩) 0 0 ∧ B ≤ lo ∧ Ow E k w lo hi (some ⟨q, 0, none⟩) 0 0 [], fun v w w' ⟨q, lo, hi, e, h1, h⟩ hb => ⟨q, lo, hi, e, h1, h.below hb⟩⟩
theorem list_pushU {P : Program} {α : Type} {S : ux.Rep α} {T : TypeId} {w : World} {ops : Array Oper} {rest : List Oper} {o : Oper} {a : Act} {Q : Exit → Act → World → Prop} (hg : o.guard = none) (s x : Operand) (t : TypeId)
    (hop : o.op = .call { callee := .builtin .append, args := #[s, x], argTypes := #[t, t] })
    {i : TypeInfo} {z : Value} (h1 : P.underlying t = some (.slice T)) (h2 : P.info? T = some i) (h3 : i.zero = some z) (h4 : i.size = S.n) (h5 : i.bytes ≤ 128) (h6 : z.cells.size = S.n)
    {hi n cap q c : Nat} {A : Option Addr} {fp : List Nat} {xs : List α} (hs : a.eval s = .slice A n cap) (hx : a.eval x = .slice (some ⟨q, 0, none⟩) 1 c) (h : OO (row T S) w 0 hi fp (.slice A n cap) xs) {u : Value} {f : List Nat} (y : α) {lo2 hi2 : Nat} (hu : OO S w lo2 hi2 f u y) (hl : hi ≤ lo2)
    (hX : Bx T w q u.cells) (hn : n + 1 ≤ 1073741824)
    (hK : ∀ A' cap' w', ux.newU S T hi fp n xs y (.slice A' (n + 1) cap') w' → ux.ApU S T hi fp A n cap xs w w' → wpList P ops Q rest (a.put o.dst (.slice A' (n + 1) cap')) w') : wpList P ops Q (o :: rest) a w :=
  wpList_plain hg fun K hK' => ux.wp_push s x t hop h1 h2 h3 h4 h5 h6 hs hx h y hu hl hX hn fun A' cap' w' g1 g2 => hK' _ _ (hK A' cap' w' g1 g2)
theorem ow_lo {E : TypeId} {k : IntKind} {w : World} {lo hi q n c : Nat} {zs : List Int} (h : Ow E k w lo hi (some ⟨q, 0, none⟩) n c zs) : lo ≤ w.heap.size := by
  have h1 := h.hi_
  rcases h.form with ⟨e, _, _⟩ | ⟨g, cur, _, g1, g2, _⟩
  · cases e
  · omega
theorem not_own {T E : TypeId} {k : IntKind} {w : World} {b lo hi n c : Nat} {A : Option Addr} {cs : Array Value} {zs : List Int} (hX : Bx T w b cs) (h : Ow E k w lo hi A n c zs) (hne : T ≠ E) : b ∉ ux.blks A := fun hm => by
  rcases h.form with ⟨rfl, _, _⟩ | ⟨g, cur, rfl, g1, g2, g3, _⟩
  · cases hm
  · obtain rfl : b = g := by simpa [ux.blks] using hm
    have h9 : w.heap[b]? = some (.cells cs T (0, 0)) := hX
    rw [g3] at h9
    injection h9 with h9
    injection h9 with _ h9 _
    exact hne h9.symm
theorem _root_.Go.Proofs.Ytejjafmppihneaa.ux.OO.lower {α : Type} {S : ux.Rep α} {w : World} {lo lo2 hi : Nat} {fp : List Nat} {v : Value} {x : α} (h : OO S w lo hi fp v x) (hl : lo2 ≤ lo) : OO S w lo2 hi fp v x := ⟨h.1, fun b hb => ⟨by have := (h.2.1 b hb).1; omega, (h.2.1 b hb).2⟩, h.2.2⟩
theorem grown_bx {T : TypeId} {w w' : World} {b : Nat} {cs : Array Value} {r : Option Nat} (h : Bx T w b cs) (hg : w.grownBy w' r) (hne : some b ≠ r) : Bx T w' b cs := h.same (hg.block b h.lt hne)
theorem grown_ks {w w' : World} {A : Option Addr} {H : List Nat} (hg : w.grownBy w' (blkOf A)) (hA : ∀ q, blkOf A = some q → q ∈ H) : KS H w w' :=
  ⟨hg.os, hg.tape, hg.output, hg.size, fun k hk hn => hg.block k hk (fun e => hn (hA k e.symm))⟩
set_option maxRecDepth 100000 in
set_option maxHeartbeats 4000000 in
theorem specCp (s : Int) (xs : List Nf) (lo hi : Nat) (A : Option Addr) (n c : Nat) (w : World) (h : RR rowNf w lo hi (.slice A n c) xs) (hn : n ≤ 67108864) (hbd : ∀ x ∈ xs, x.Body.length ≤ 67108864) :
    Calls Try.prog 125 #[.agg #[.int .i64 s, .slice A n c]] w (RoPost ⟨s, xs⟩ w) := by
  have RW := Lib.hid h
  obtain ⟨hlR, hncR, hcmR⟩ := nf_len h
  have HL := Lib.hid hlR
  have LHR := Lib.hid (show hi ≤ w.heap.size from h.hi_)
  clear hlR h
  have HN := Lib.hid hn
  have HBD := Lib.hid hbd
  clear hn hbd
  obtain ⟨i0, hi0, hz0, hz1, hz2⟩ := info_parts infoNF
  have HZ := Lib.hid (And.intro hi0 (And.intro hz0 (And.intro hz1 hz2)))
  clear hi0 hz0 hz1 hz2
  obtain ⟨j0, hj0, hy0, hy1, hy2⟩ := info_parts u8Info
  have HY8 := Lib.hid (And.intro hj0 (And.intro hy0 (And.intro hy1 hy2)))
  clear hj0 hy0 hy1 hy2
  go_enter Try.func125, Try.ntmps125
  go_upto_region 1 with fail
  obtain ⟨w0, hW⟩ : ∃ w0, (w.alloc (.cells #[.int .i64 s, .slice A n c] 50)).alloc (.cells #[.int .i64 0, .slice none 0 0] 50) = w0 := ⟨_, rfl⟩
  rw [hW]
  have B0 := Lib.hid (show Below w.heap.size w w0 by rw [← hW]; exact ((Below.refl _ _).alloc (by simp <;> omega) _).alloc (by simp <;> omega) _)
  have X0 := Lib.hid (show Bx 50 w0 (w.heap.size) #[.int .i64 s, .slice A n c] by
      rw [← hW]
      have hh := Bx.made 50 w #[.int .i64 s, .slice A n c]
      exact (hh.below (below_box _ _)))
  have Z0 := Lib.hid (show Bx 50 w0 (w.heap.size + 1) #[.int .i64 0, .slice none 0 0] by
      rw [← hW]
      have hh : Bx 50 ((w.alloc (.cells #[.int .i64 s, .slice A n c] 50)).alloc (.cells #[.int .i64 0, .slice none 0 0] 50)) (w.heap.size + 1) #[.int .i64 0, .slice none 0 0] := by have hh := Bx.made 50 (w.alloc (.cells #[.int .i64 s, .slice A n c] 50)) #[.int .i64 0, .slice none 0 0]; simpa using hh
      exact hh)
  have R0 := Lib.hid (show RR rowNf w0 lo hi (.slice A n c) xs by rw [← hW]; exact ((RW.out.below (below_box _ _)).below (below_box _ _)))
  clear hW
  have LTX := Lib.hid X0.out.lt
  have LTZ := Lib.hid Z0.out.lt
  have cX0 : w0.cell? ⟨w.heap.size, 0, none⟩ = some (.int .i64 s) := X0.out.cell 0
  obtain ⟨b1, hbb⟩ : ∃ b, w0.heap.size = b := ⟨_, rfl⟩
  go_upto_region 2 with fail
  generalize hW : w0.alloc (.cells #[.int .i64 s, .slice none 0 0] 50) = w1
  have LK := Lib.hid (show w.heap.size ≤ b1 ∧ w.heap.size < b1 ∧ w.heap.size + 1 < b1 ∧ hi ≤ b1 by have h1 := B0.out.size; have h2X := X0.out.lt; have h2Z := Z0.out.lt; have h2R := R0.out.hi_; have h3 := hbb; omega)
  have K1 := Lib.hid (show Bx 50 w1 b1 #[.int .i64 s, .slice none 0 0] by rw [← hW, ← hbb]; exact Bx.made _ _ _)
  have hb : Below w0.heap.size w0 w1 := by rw [← hW]; exact below_box _ _
  (try rw [hbb])
  clear hW hbb
  have SS1 := Lib.hid hb.size
  have B1 := Lib.hid (B0.out.trans (hb.mono B0.out.size))
  have X1 := Lib.hid (X0.out.below hb)
  have Z1 := Lib.hid (Z0.out.below hb)
  have R1 := Lib.hid (R0.out.below hb)
  clear hb B0 X0 Z0 R0
  have LWK := Lib.hid K1.out.lt
  clear cX0
  have HBK := Lib.hid (show w.heap.size + 1 < b1 by have h1 := LK.out; omega)
  go_wp2_with fail
  have HLK := Lib.hid K1.out.lt
  go_loopw [4] (fun v0 wr => ∃ (k : Nat) (A1 : Option Addr) (c1 : Nat) (f : List Nat), v0 = .int .i64 ((k : Int)) ∧ (k ≤ n) ∧ Below w.heap.size w wr ∧ Bx 50 wr w.heap.size #[.int .i64 s, .slice A n c] ∧ Bx 50 wr (w.heap.size + 1) #[.int .i64 0, .slice none 0 0] ∧ Bx 50 wr b1 #[.int .i64 s, .slice A1 k c1] ∧ RR rowNf wr lo hi (.slice A n c) xs ∧ OO rowNf wr (b1 + 1) wr.heap.size f (.slice A1 k c1) (xs.take k)) (fun i _ => n - (intOf i).toNat)
  case atStart => exact ⟨0, none, 0, [], rfl, by omega, B1.out, X1.out, Z1.out, K1.out, R1.out, (by rw [List.take_zero]; exact ux.row_nil 90 nf _ (Nat.le_refl _))⟩
  case round =>
    obtain ⟨k, A1, c1, f, rfl, ghk, gB2, gX2, gZ2, gK2, gR2, gO2⟩ := hrel
    have B2 := Lib.hid gB2
    have X2 := Lib.hid gX2
    have Z2 := Lib.hid gZ2
    have K2 := Lib.hid gK2
    have R2 := Lib.hid gR2
    have O2 := Lib.hid gO2
    have hk := Lib.hid ghk
    clear gB2 gX2 gZ2 gK2 gR2 gO2 ghk
    have LUX2 := Lib.hid X2.out.lt
    have LUZ2 := Lib.hid Z2.out.lt
    have LUK2 := Lib.hid K2.out.lt
    have SBR2 := Lib.hid B2.out.size
    have hk9 := hk.out
    have hkN := HN.out
    by_cases hlt : k < n
    · have hlt2 : (k : Int) < n := by omega
      obtain ⟨g, off, x, u, hA, hy, hg1, hg2, hru, hxu⟩ := ux.row_at (R2.out : RR (row 90 nf) _ _ _ _ _) hlt
      obtain ⟨A0, n0, c0_, rfl, hb0⟩ := ux.nf_r hxu
      subst hA
      have k0 : wr.cell? ⟨g, off + k * 2, none⟩ = some (.int .i64 x.Seq) := hru 0 _ rfl
      have k1 : wr.cell? ⟨g, off + k * 2 + 1, none⟩ = some (.slice A0 n0 c0_) := hru 1 _ rfl
      have HY := Lib.hid hy
      have HN0 := Lib.hid (ux.rd_of hb0).len
      have hn0 := (ux.rd_of hb0).cap_
      have F2 := Lib.hid hb0
      have HG := Lib.hid (show g < w.heap.size by have h7 := LHR.out; omega)
      clear hy hru hxu hb0 hg1 hg2
      have HBX := Lib.hid (show n0 ≤ 67108864 by have h1 := HBD.out x (List.mem_of_getElem? HY.out); have h2 := HN0.out; omega)
      have HKB0 := Lib.hid ((B2.out.cell (show ((⟨g, off + k * 2, none⟩ : Addr)).block < w.heap.size from HG.out)).symm.trans k0)
      have HKB1 := Lib.hid ((B2.out.cell (show ((⟨g, off + k * 2 + 1, none⟩ : Addr)).block < w.heap.size from HG.out)).symm.trans k1)
      clear k0 k1
      have cX1 : wr.cell? ⟨w.heap.size, 1, none⟩ = some (.slice (some ⟨g, off, none⟩) n c) := X2.out.cell 1
      go_upto_region 5 with fail
      clear cX1
      have HBR := Lib.hid (show 0 < wr.heap.size by have := K2.out.lt; omega)
      refine reg.region_tail reg.Bel 16 38 [some [], some [(0, 16)], some [], some [(1, 17), (2, 18)], some [(3, 19)], some [(4, 20)], some [], some [], some [(7, 23)], some [], some [(8, 24), (9, 25)], some [(10, 26)], some [(11, 27)], some [(6, 22), (12, 28)], some [(5, 21), (13, 29)], some [], none] [(0, 16), (1, 17), (2, 18), (3, 19), (4, 20), (5, 21), (6, 22), (7, 23), (8, 24), (9, 25), (10, 26), (11, 27), (12, 28), (13, 29), (14, 30), (15, 5)]
        (fun w' => Below w.heap.size w w' ∧ Bx 50 w' (w.heap.size) #[.int .i64 s, .slice (some ⟨g, off, none⟩) n c] ∧ Bx 50 w' (w.heap.size + 1) #[.int .i64 0, .slice none 0 0] ∧ Bx 50 w' (b1) #[.int .i64 s, .slice A1 k c1] ∧ RR rowNf w' lo hi (.slice (some ⟨g, off, none⟩) n c) xs ∧ OO rowNf w' (b1 + 1) wr.heap.size f (.slice A1 k c1) (xs.take k) ∧ RR ux.bytes w' lo hi (.slice A0 n0 c0_) x.Body ∧ True)
        (reg.rl [reg.is (.pointer (some ⟨w.heap.size, 1, none⟩)), reg.is (.slice (some ⟨g, off, none⟩) n c), reg.is (.int .i64 ((k : Int))), reg.is (.pointer (some ⟨g, off + k * 2, none⟩)), reg.is (.pointer (some ⟨g, off + k * 2, none⟩)), reg.is (.int .i64 x.Seq), ownE 5 .u8 (wr.heap.size), reg.is (.pointer (some ⟨w.heap.size, 1, none⟩)), reg.is (.slice (some ⟨g, off, none⟩) n c), reg.is (.int .i64 ((k : Int))), reg.is (.pointer (some ⟨g, off + k * 2, none⟩)), reg.is (.pointer (some ⟨g, off + k * 2 + 1, none⟩)), reg.is (.slice A0 n0 c0_), ownf 5 .u8 (wr.heap.size) x.Body (fun A n c => .slice A n c), ownf 5 .u8 (wr.heap.size) x.Body (fun A n c => .agg #[.int .i64 x.Seq, .slice A n c]), stw.mk 90 (wr.heap.size - 1) #[.int .i64 0, .slice none 0 0], reg.free])
        (by kernel_rfl) rfl (by kernel_rfl) (by kernel_rfl) rfl
        (fun w1 w2 hc hb => ⟨hc.1.trans (hb.mono hc.1.size), hc.2.1.below hb, hc.2.2.1.below hb, hc.2.2.2.1.below hb, hc.2.2.2.2.1.below hb, hc.2.2.2.2.2.1.below hb, hc.2.2.2.2.2.2.1.below hb, trivial⟩) (reg.rl_keep _) (⟨own.below_drew B2.out, X2.out.same rfl, Z2.out.same rfl, K2.out.same rfl, R2.out.same (Nat.le_refl _) (fun _ _ _ => rfl), O2.out.same (Nat.le_refl _) (fun _ _ _ => rfl), F2.out.same (Nat.le_refl _) (fun _ _ _ => rfl), trivial⟩) (by kernel_rfl) ⟨?_, ?_, ?_, ?_, ?_, ?_, ?_, ?_, ?_, ?_, ?_, ?_, ?_, ?_, ?_, ?_, trivial⟩ ?_
      · refine fun w8 hc  K hK => ?_
        (try simp only [Act.put, List.setIfInBounds_toArray, List.set_cons_zero, List.set_cons_succ])
        go_simp
        exact hK (.pointer (some ⟨w.heap.size, 1, none⟩)) _ rfl (Below.refl _ _)
      · refine fun w8 hc v0 h0 K hK => ?_
        obtain rfl : v0 = .pointer (some ⟨w.heap.size, 1, none⟩) := h0
        (try simp only [Act.put, List.setIfInBounds_toArray, List.set_cons_zero, List.set_cons_succ])
        have c0 : w8.cell? ⟨w.heap.size, 1, none⟩ = some (.slice (some ⟨g, off, none⟩) n c) := hc.2.1.cell 1
        go_simp
        exact hK (.slice (some ⟨g, off, none⟩) n c) _ rfl (Below.refl _ _)
      · refine fun w8 hc  K hK => ?_
        (try simp only [Act.put, List.setIfInBounds_toArray, List.set_cons_zero, List.set_cons_succ])
        go_simp
        exact hK (.int .i64 ((k : Int))) _ rfl (Below.refl _ _)
      · refine fun w8 hc v1 h1 v2 h2 K hK => ?_
        obtain rfl : v1 = .slice (some ⟨g, off, none⟩) n c := h1
        obtain rfl : v2 = .int .i64 ((k : Int)) := h2
        (try simp only [Act.put, List.setIfInBounds_toArray, List.set_cons_zero, List.set_cons_succ])
        go_simp
        exact hK (.pointer (some ⟨g, off + k * 2, none⟩)) _ rfl (Below.refl _ _)
      · refine fun w8 hc v3 h3 K hK => ?_
        obtain rfl : v3 = .pointer (some ⟨g, off + k * 2, none⟩) := h3
        (try simp only [Act.put, List.setIfInBounds_toArray, List.set_cons_zero, List.set_cons_succ])
        go_simp
        exact hK (.pointer (some ⟨g, off + k * 2, none⟩)) _ rfl (Below.refl _ _)
      · refine fun w8 hc v4 h4 K hK => ?_
        obtain rfl : v4 = .pointer (some ⟨g, off + k * 2, none⟩) := h4
        (try simp only [Act.put, List.setIfInBounds_toArray, List.set_cons_zero, List.set_cons_succ])
        have c0 : w8.cell? ⟨g, off + k * 2, none⟩ = some (.int .i64 x.Seq) := (hc.1.cell (show ((⟨g, off + k * 2, none⟩ : Addr)).block < w.heap.size from HG.out)).trans HKB0.out
        go_simp
        exact hK (.int .i64 x.Seq) _ rfl (Below.refl _ _)
      · refine fun w8 hc  K hK => ?_
        (try simp only [Act.put, List.setIfInBounds_toArray, List.set_cons_zero, List.set_cons_succ])
        have hql : wr.heap.size ≤ w8.heap.size := hc.2.2.2.2.2.1.2.2
        go_simp
        exact hK (.slice (some ⟨w8.heap.size, 0, none⟩) 0 0) _ ⟨_, _, _, rfl, (by omega), (Ow.empty _ _ _)⟩ (below_box _ _)
      · refine fun w8 hc  K hK => ?_
        (try simp only [Act.put, List.setIfInBounds_toArray, List.set_cons_zero, List.set_cons_succ])
        go_simp
        exact hK (.pointer (some ⟨w.heap.size, 1, none⟩)) _ rfl (Below.refl _ _)
      · refine fun w8 hc v7 h7 K hK => ?_
        obtain rfl : v7 = .pointer (some ⟨w.heap.size, 1, none⟩) := h7
        (try simp only [Act.put, List.setIfInBounds_toArray, List.set_cons_zero, List.set_cons_succ])
        have c0 : w8.cell? ⟨w.heap.size, 1, none⟩ = some (.slice (some ⟨g, off, none⟩) n c) := hc.2.1.cell 1
        go_simp
        exact hK (.slice (some ⟨g, off, none⟩) n c) _ rfl (Below.refl _ _)
      · refine fun w8 hc  K hK => ?_
        (try simp only [Act.put, List.setIfInBounds_toArray, List.set_cons_zero, List.set_cons_succ])
        go_simp
        exact hK (.int .i64 ((k : Int))) _ rfl (Below.refl _ _)
      · refine fun w8 hc v8 h8 v9 h9 K hK => ?_
        obtain rfl : v8 = .slice (some ⟨g, off, none⟩) n c := h8
        obtain rfl : v9 = .int .i64 ((k : Int)) := h9
        (try simp only [Act.put, List.setIfInBounds_toArray, List.set_cons_zero, List.set_cons_succ])
        go_simp
        exact hK (.pointer (some ⟨g, off + k * 2, none⟩)) _ rfl (Below.refl _ _)
      · refine fun w8 hc v10 h10 K hK => ?_
        obtain rfl : v10 = .pointer (some ⟨g, off + k * 2, none⟩) := h10
        (try simp only [Act.put, List.setIfInBounds_toArray, List.set_cons_zero, List.set_cons_succ])
        go_simp
        exact hK (.pointer (some ⟨g, off + k * 2 + 1, none⟩)) _ rfl (Below.refl _ _)
      · refine fun w8 hc v11 h11 K hK => ?_
        obtain rfl : v11 = .pointer (some ⟨g, off + k * 2 + 1, none⟩) := h11
        (try simp only [Act.put, List.setIfInBounds_toArray, List.set_cons_zero, List.set_cons_succ])
        have c0 : w8.cell? ⟨g, off + k * 2 + 1, none⟩ = some (.slice A0 n0 c0_) := (hc.1.cell (show ((⟨g, off + k * 2 + 1, none⟩ : Addr)).block < w.heap.size from HG.out)).trans HKB1.out
        go_simp
        exact hK (.slice A0 n0 c0_) _ rfl (Below.refl _ _)
      · refine fun w8 hc v6 h6 v12 h12 K hK => ?_
        obtain ⟨q0, lo0, hi0, rfl, hB0, hO0⟩ := h6
        obtain rfl : v12 = .slice A0 n0 c0_ := h12
        (try simp only [Act.put, List.setIfInBounds_toArray, List.set_cons_zero, List.set_cons_succ])
        have hql : wr.heap.size ≤ w8.heap.size := hc.2.2.2.2.2.1.2.2
        have hol := hO0.hi_
        rw [if_pos (by rfl)]
        refine wp_app0 _ _ 22 rfl 5 _ _ .u8 Try.underlying22 HY8.out.1 HY8.out.2.1 HY8.out.2.2.1 (by rw [HY8.out.2.2.2]; omega) rfl rfl rfl hO0 (ux.rd_of hc.2.2.2.2.2.2.1) HBX.out (by have hh := ow_lo hO0; omega) ?_
        intro A4 c4 w4 ho4 hb4
        exact hK _ _ ⟨A4, _, c4, _, _, rfl, hB0, ho4⟩ hb4
      · refine fun w8 hc v5 h5 v13 h13 K hK => ?_
        obtain rfl : v5 = .int .i64 x.Seq := h5
        obtain ⟨A1_, n1_, c1_, lo1, hi1, rfl, hB1, hO1⟩ := h13
        (try simp only [Act.put, List.setIfInBounds_toArray, List.set_cons_zero, List.set_cons_succ])
        go_simp
        exact hK _ _ ⟨A1_, n1_, c1_, _, _, rfl, hB1, hO1⟩ (Below.refl _ _)
      · refine fun w8 hc  K hK => ?_
        (try simp only [Act.put, List.setIfInBounds_toArray, List.set_cons_zero, List.set_cons_succ])
        rw [if_pos (by rfl)]
        have hql : wr.heap.size ≤ w8.heap.size := hc.2.2.2.2.2.1.2.2
        have hq0 := HBR.out
        go_simp
        exact hK (.pointer (some ⟨w8.heap.size, 0, none⟩)) _ ⟨w8.heap.size, rfl, (by omega), Bx.made _ _ _⟩ (below_box _ _)
      refine fun wg3 hc v0 h0 v1 h1 v2 h2 v3 h3 v4 h4 v5 h5 v6 h6 v7 h7 v8 h8 v9 h9 v10 h10 v11 h11 v12 h12 v13 h13 v14 h14 v15 h15 => ?_
      obtain rfl : v0 = .pointer (some ⟨w.heap.size, 1, none⟩) := h0
      obtain rfl : v1 = .slice (some ⟨g, off, none⟩) n c := h1
      obtain rfl : v2 = .int .i64 ((k : Int)) := h2
      obtain rfl : v3 = .pointer (some ⟨g, off + k * 2, none⟩) := h3
      obtain rfl : v4 = .pointer (some ⟨g, off + k * 2, none⟩) := h4
      obtain rfl : v5 = .int .i64 x.Seq := h5
      obtain ⟨q0, lo0, hi0, rfl, hB0, hO0⟩ := h6
      obtain rfl : v7 = .pointer (some ⟨w.heap.size, 1, none⟩) := h7
      obtain rfl : v8 = .slice (some ⟨g, off, none⟩) n c := h8
      obtain rfl : v9 = .int .i64 ((k : Int)) := h9
      obtain rfl : v10 = .pointer (some ⟨g, off + k * 2, none⟩) := h10
      obtain rfl : v11 = .pointer (some ⟨g, off + k * 2 + 1, none⟩) := h11
      obtain rfl : v12 = .slice A0 n0 c0_ := h12
      obtain ⟨A1_, n1_, c1_, lo1, hi1, rfl, hB1, hO1⟩ := h13
      obtain ⟨A2_, n2_, c2_, lo2, hi2, rfl, hB2, hO2⟩ := h14
      obtain ⟨qV, rfl, hqV, hPV⟩ : ∃ q, v15 = .pointer (some ⟨q, 0, none⟩) ∧ wr.heap.size - 1 < q ∧ Bx 90 wg3 q #[.int .i64 0, .slice none 0 0] := h15
      (try simp only [reg.Obs])
      (try simp only [Act.put, List.setIfInBounds_toArray, List.set_cons_zero, List.set_cons_succ])
      simp only [List.drop_succ_cons, List.drop_zero]
      have B3 := Lib.hid hc.1
      have X3 := Lib.hid hc.2.1
      have Z3 := Lib.hid hc.2.2.1
      have K3 := Lib.hid hc.2.2.2.1
      have R3 := Lib.hid hc.2.2.2.2.1
      have O3 := Lib.hid hc.2.2.2.2.2.1
      have F3 := Lib.hid hc.2.2.2.2.2.2.1
      clear hc B2 X2 Z2 K2 R2 O2 F2
      have LV := Lib.hid (show wr.heap.size ≤ qV by have := HBR.out; omega)
      have V3 := Lib.hid hPV
      have HOB := Lib.hid hO2
      have HB2 := Lib.hid hB2
      have HNQ := Lib.hid (not_own hPV hO2 (by decide))
      (try clear hO0 hB0)
      (try clear hO1 hB1)
      clear hO2 hB2 hqV hPV
      refine stw.list_store rfl 90 _ _ rfl (qV) #[.int .i64 x.Seq, .slice A2_ n2_ c2_] rfl rfl 90 _ V3.out rfl ux.szNf (ux.oneNf _ _ _ _) ?_
      intro wz4 hz
      have HOB2 := Lib.hid (show Ow 5 .u8 wz4 lo2 hi2 A2_ n2_ c2_ x.Body from ux.ow_as HOB.out hz.below.size fun b9 hb9 => hz.other b9 (fun e9 => HNQ.out (by rw [← e9]; exact hb9)))
      (try simp only [Act.put])
      have B4 := Lib.hid (hz.on B3.out (by have hlK := LK.out; have hlV := LV.out; have hs0 := LTX.out; have hs1 := LTZ.out; have hs2 := LHR.out; have hs3 := SS1.out; have hs4 := LWK.out; have hs5 := HBK.out; have hs6 := LUX2.out; have hs7 := LUZ2.out; have hs8 := LUK2.out; have hs9 := SBR2.out; first | omega | (simp <;> omega)))
      have X4 := Lib.hid (hz.keep X3.out (by have hlK := LK.out; have hlV := LV.out; have hs0 := LTX.out; have hs1 := LTZ.out; have hs2 := LHR.out; have hs3 := SS1.out; have hs4 := LWK.out; have hs5 := HBK.out; have hs6 := LUX2.out; have hs7 := LUZ2.out; have hs8 := LUK2.out; have hs9 := SBR2.out; first | omega | (simp <;> omega)))
      have Z4 := Lib.hid (hz.keep Z3.out (by have hlK := LK.out; have hlV := LV.out; have hs0 := LTX.out; have hs1 := LTZ.out; have hs2 := LHR.out; have hs3 := SS1.out; have hs4 := LWK.out; have hs5 := HBK.out; have hs6 := LUX2.out; have hs7 := LUZ2.out; have hs8 := LUK2.out; have hs9 := SBR2.out; first | omega | (simp <;> omega)))
      have K4 := Lib.hid (hz.keep K3.out (by have hlK := LK.out; have hlV := LV.out; have hs0 := LTX.out; have hs1 := LTZ.out; have hs2 := LHR.out; have hs3 := SS1.out; have hs4 := LWK.out; have hs5 := HBK.out; have hs6 := LUX2.out; have hs7 := LUZ2.out; have hs8 := LUK2.out; have hs9 := SBR2.out; first | omega | (simp <;> omega)))
      have V4 := Lib.hid (hz.box)
      have R4 := Lib.hid (R3.out.same hz.below.size fun b h1 h2 => hz.other b (by have hlK := LK.out; have hlV := LV.out; have hs0 := LTX.out; have hs1 := LTZ.out; have hs2 := LHR.out; have hs3 := SS1.out; have hs4 := LWK.out; have hs5 := HBK.out; have hs6 := LUX2.out; have hs7 := LUZ2.out; have hs8 := LUK2.out; have hs9 := SBR2.out; first | omega | (simp <;> omega)))
      have O4 := Lib.hid (O3.out.same hz.below.size fun b h1 h2 => hz.other b (by have hlK := LK.out; have hlV := LV.out; have hs0 := LTX.out; have hs1 := LTZ.out; have hs2 := LHR.out; have hs3 := SS1.out; have hs4 := LWK.out; have hs5 := HBK.out; have hs6 := LUX2.out; have hs7 := LUZ2.out; have hs8 := LUK2.out; have hs9 := SBR2.out; first | omega | (simp <;> omega)))
      have F4 := Lib.hid (F3.out.same hz.below.size fun b h1 h2 => hz.other b (by have hlK := LK.out; have hlV := LV.out; have hs0 := LTX.out; have hs1 := LTZ.out; have hs2 := LHR.out; have hs3 := SS1.out; have hs4 := LWK.out; have hs5 := HBK.out; have hs6 := LUX2.out; have hs7 := LUZ2.out; have hs8 := LUK2.out; have hs9 := SBR2.out; first | omega | (simp <;> omega)))
      clear hz B3 X3 Z3 K3 V3 R3 O3 F3
      have HOE := Lib.hid (show OO nf wz4 wr.heap.size wz4.heap.size (ux.blks A2_) (ux.nfV x (.slice A2_ n2_ c2_)) x from oo_narrow ((ux.nf_mk (x := x) (ux.num_of HOB2.out) (by cases A2_ <;> simp [ux.blks])).wide (Nat.zero_le _)) (fun b9 h9 => by have h8 := ux.ow_in HOB2.out b9 h9; have h7 := HB2.out; omega))
      have HO0 := Lib.hid (show OO (row 90 nf) wz4 0 wr.heap.size f (.slice A1 k c1) (xs.take k) from O4.out.lower (Nat.zero_le _))
      have cK1 : wz4.cell? ⟨b1, 1, none⟩ = some (.slice A1 k c1) := K4.out.cell 1
      have cV0 : wz4.cell? ⟨qV, 0, none⟩ = some (.int .i64 x.Seq) := V4.out.cell 0
      have cV1 : wz4.cell? ⟨qV, 1, none⟩ = some (.slice A2_ n2_ c2_) := V4.out.cell 1
      have hbx := bx.below_box wz4 (.cells #[.int .i64 x.Seq, .slice A2_ n2_ c2_] 90)
      go_wp2_with (first | (refine stw.list_load rfl 90 _ rfl qV rfl 90 _ V4.out Try.underlying90 rfl ux.szNf ?_) | (at_builtin; refine list_pushU rfl _ _ 48 rfl Try.underlying48 HZ.out.1 HZ.out.2.1 HZ.out.2.2.1 (by rw [HZ.out.2.2.2]; omega) rfl rfl rfl (HO0.out.below hbx) x (HOE.out.below hbx) (Nat.le_refl _) (Bx.made _ _ _) (by omega) ?_; intro A3 c3 w9 hn9 ha9; have HN9 := Lib.hid hn9; have HA9 := Lib.hid ha9; have K9 := Lib.hid (show Bx 50 w9 b1 #[.int .i64 s, .slice A1 k c1] from grown_bx (K4.out.below hbx) ha9.2.1 (fun e9 => by have h9 := (ux.row_blk ha9.1 e9.symm).2.2; have h8 := (O4.out.inn _ h9).1; omega)); have cK9 := K9.out.cell 1; have fK9 := K9.out.free 1; clear hn9 ha9))
      clear cK9 fK9 cK1 cV0 cV1
      have HKS := Lib.hid (show KS f wz4 w9 from (ux.ks_below hbx _).trans (grown_ks HA9.out.2.1 (fun q hq => (ux.row_blk HA9.out.1 hq).2.2)))
      have HFI := Lib.hid (show ∀ q, q ∈ f → b1 + 1 ≤ q ∧ q < wr.heap.size from O4.out.inn)
      have X9 := Lib.hid (ux.bx_ks X4.out HKS.out (fun hm => by have := HFI.out _ hm; have hlK := LK.out; have hlV := LV.out; have hs0 := LTX.out; have hs1 := LTZ.out; have hs2 := LHR.out; have hs3 := SS1.out; have hs4 := LWK.out; have hs5 := HBK.out; have hs6 := LUX2.out; have hs7 := LUZ2.out; have hs8 := LUK2.out; have hs9 := SBR2.out; omega))
      have Z9 := Lib.hid (ux.bx_ks Z4.out HKS.out (fun hm => by have := HFI.out _ hm; have hlK := LK.out; have hlV := LV.out; have hs0 := LTX.out; have hs1 := LTZ.out; have hs2 := LHR.out; have hs3 := SS1.out; have hs4 := LWK.out; have hs5 := HBK.out; have hs6 := LUX2.out; have hs7 := LUZ2.out; have hs8 := LUK2.out; have hs9 := SBR2.out; omega))
      have R9 := Lib.hid (R4.out.ks HKS.out (fun b h1 h2 h3 => by have := HFI.out _ h3; have hlK := LK.out; have hlV := LV.out; have hs0 := LTX.out; have hs1 := LTZ.out; have hs2 := LHR.out; have hs3 := SS1.out; have hs4 := LWK.out; have hs5 := HBK.out; have hs6 := LUX2.out; have hs7 := LUZ2.out; have hs8 := LUK2.out; have hs9 := SBR2.out; omega))
      have B9 := Lib.hid (B4.out.trans (ux.ks_bel HKS.out (fun q hm => by have := HFI.out _ hm; have hlK := LK.out; have hlV := LV.out; have hs0 := LTX.out; have hs1 := LTZ.out; have hs2 := LHR.out; have hs3 := SS1.out; have hs4 := LWK.out; have hs5 := HBK.out; have hs6 := LUX2.out; have hs7 := LUZ2.out; have hs8 := LUK2.out; have hs9 := SBR2.out; omega) B4.out.size))
      obtain ⟨A4, c4, f4, hi4, e4, hO4, hf4⟩ := HN9.out
      obtain ⟨rfl, rfl⟩ : A3 = A4 ∧ c3 = c4 := by injection e4 with e1 _ e2; exact ⟨e1, e2⟩
      have HF4 := Lib.hid hf4
      have O9 := Lib.hid (show OO rowNf w9 (b1 + 1) w9.heap.size f4 (.slice A3 (k + 1) c3) (xs.take k ++ [x]) from oo_narrow (hO4.wide (Nat.zero_le _)) (fun b9 h9 => by rcases hf4 b9 h9 with h8 | h8; exact (HFI.out b9 h8).1; have hlK := LK.out; have hlV := LV.out; have hs0 := LTX.out; have hs1 := LTZ.out; have hs2 := LHR.out; have hs3 := SS1.out; have hs4 := LWK.out; have hs5 := HBK.out; have hs6 := LUX2.out; have hs7 := LUZ2.out; have hs8 := LUK2.out; have hs9 := SBR2.out; omega))
      clear e4 hO4 hf4 hbx
      obtain ⟨w10, hW⟩ : ∃ wy, (w9.setCell ⟨b1, 1, none⟩ (.slice A3 (k + 1) c3)) = wy := ⟨_, rfl⟩
      rw [hW]
      have HK10 := Lib.hid (show KS [b1] w9 w10 by rw [← hW]; exact ux.ks_set (List.mem_singleton.2 rfl) 1 _)
      have K10 := Lib.hid (show Bx 50 w10 b1 #[.int .i64 s, .slice A3 (k + 1) c3] by rw [← hW]; exact K9.out.set 1 _)
      clear hW
      have HNM := Lib.hid (show ∀ q, q ∈ [b1] → q = b1 from fun q hq => List.mem_singleton.1 hq)
      have X10 := Lib.hid (ux.bx_ks X9.out HK10.out (fun hm => by have := HNM.out _ hm; have hlK := LK.out; have hlV := LV.out; have hs0 := LTX.out; have hs1 := LTZ.out; have hs2 := LHR.out; have hs3 := SS1.out; have hs4 := LWK.out; have hs5 := HBK.out; have hs6 := LUX2.out; have hs7 := LUZ2.out; have hs8 := LUK2.out; have hs9 := SBR2.out; omega))
      have Z10 := Lib.hid (ux.bx_ks Z9.out HK10.out (fun hm => by have := HNM.out _ hm; have hlK := LK.out; have hlV := LV.out; have hs0 := LTX.out; have hs1 := LTZ.out; have hs2 := LHR.out; have hs3 := SS1.out; have hs4 := LWK.out; have hs5 := HBK.out; have hs6 := LUX2.out; have hs7 := LUZ2.out; have hs8 := LUK2.out; have hs9 := SBR2.out; omega))
      have R10 := Lib.hid (R9.out.ks HK10.out (fun b h1 h2 h3 => by have := HNM.out _ h3; have hlK := LK.out; have hlV := LV.out; have hs0 := LTX.out; have hs1 := LTZ.out; have hs2 := LHR.out; have hs3 := SS1.out; have hs4 := LWK.out; have hs5 := HBK.out; have hs6 := LUX2.out; have hs7 := LUZ2.out; have hs8 := LUK2.out; have hs9 := SBR2.out; omega))
      have B10 := Lib.hid (B9.out.trans (ux.ks_bel HK10.out (fun q hm => by have := HNM.out _ hm; have hlK := LK.out; have hlV := LV.out; have hs0 := LTX.out; have hs1 := LTZ.out; have hs2 := LHR.out; have hs3 := SS1.out; have hs4 := LWK.out; have hs5 := HBK.out; have hs6 := LUX2.out; have hs7 := LUZ2.out; have hs8 := LUK2.out; have hs9 := SBR2.out; omega) B9.out.size))
      have O10 := Lib.hid (O9.out.ks HK10.out (fun q h1 h2 => by have := HNM.out _ h2; have := (O9.out.inn q h1).1; omega))
      have HT := Lib.hid (ux.take_snoc HY.out)
      go_wp2_with fail
      go_roundw
      case rel => exact ⟨k + 1, A3, c3, f4, by go_num, by omega, B10.out, X10.out, Z10.out, K10.out, R10.out, (by rw [HT.out]; exact O10.out.wide (Nat.le_refl _))⟩
      case measure => simp [intOf]; omega
    · have hlt2 : ¬ (k : Int) < n := by omega
      obtain rfl : n = k := by omega
      have HF := Lib.hid (show xs.take n = xs from List.take_of_length_le (by rw [HL.out]; exact Nat.le_refl _))
      have cX1 : wr.cell? ⟨w.heap.size, 1, none⟩ = some (.slice A n c) := X2.out.cell 1
      go_wp2_with (first | (refine stw.list_load rfl 50 _ rfl (b1) rfl 50 _ K2.out Try.underlying50 rfl ux.szRob ?_) | (refine stw.list_store rfl 50 _ _ rfl (w.heap.size + 1) #[.int .i64 s, .slice A1 n c1] rfl rfl 50 _ Z2.out rfl ux.szRob (ux.oneRob _ _ _ _) ?_; intro wz3 hz))
      clear cX1
      have B3 := Lib.hid (hz.on B2.out (by have hlK := LK.out; have hs0 := LTX.out; have hs1 := LTZ.out; have hs2 := LHR.out; have hs3 := SS1.out; have hs4 := LWK.out; have hs5 := HBK.out; have hs6 := LUX2.out; have hs7 := LUZ2.out; have hs8 := LUK2.out; have hs9 := SBR2.out; first | omega | (simp <;> omega)))
      have X3 := Lib.hid (hz.keep X2.out (by have hlK := LK.out; have hs0 := LTX.out; have hs1 := LTZ.out; have hs2 := LHR.out; have hs3 := SS1.out; have hs4 := LWK.out; have hs5 := HBK.out; have hs6 := LUX2.out; have hs7 := LUZ2.out; have hs8 := LUK2.out; have hs9 := SBR2.out; first | omega | (simp <;> omega)))
      have Z3 := Lib.hid (hz.box)
      have K3 := Lib.hid (hz.keep K2.out (by have hlK := LK.out; have hs0 := LTX.out; have hs1 := LTZ.out; have hs2 := LHR.out; have hs3 := SS1.out; have hs4 := LWK.out; have hs5 := HBK.out; have hs6 := LUX2.out; have hs7 := LUZ2.out; have hs8 := LUK2.out; have hs9 := SBR2.out; first | omega | (simp <;> omega)))
      have R3 := Lib.hid (R2.out.same hz.below.size fun b h1 h2 => hz.other b (by have hlK := LK.out; have hs0 := LTX.out; have hs1 := LTZ.out; have hs2 := LHR.out; have hs3 := SS1.out; have hs4 := LWK.out; have hs5 := HBK.out; have hs6 := LUX2.out; have hs7 := LUZ2.out; have hs8 := LUK2.out; have hs9 := SBR2.out; first | omega | (simp <;> omega)))
      have O3 := Lib.hid (O2.out.same hz.below.size fun b h1 h2 => hz.other b (by have hlK := LK.out; have hs0 := LTX.out; have hs1 := LTZ.out; have hs2 := LHR.out; have hs3 := SS1.out; have hs4 := LWK.out; have hs5 := HBK.out; have hs6 := LUX2.out; have hs7 := LUZ2.out; have hs8 := LUK2.out; have hs9 := SBR2.out; first | omega | (simp <;> omega)))
      clear hz B2 X2 Z2 K2 R2 O2
      (try simp only [Exit.inBlock, Exit.then])
      refine bodyPost_ret (v := .agg #[.int .i64 s, .slice A1 n c1]) ?_ rfl ?_
      · rw [results_cell1 rfl]
        exact stw.back Z3.out Try.underlying50 rfl ux.szRob
      · exact ⟨_, _, _, _, rfl, by rw [← HF.out]; exact O3.out.wide (by have hlK := LK.out; have hs0 := LTX.out; have hs1 := LTZ.out; have hs2 := LHR.out; have hs3 := SS1.out; have hs4 := LWK.out; have hs5 := HBK.out; have hs6 := LUX2.out; have hs7 := LUZ2.out; have hs8 := LUK2.out; have hs9 := SBR2.out; omega), B3.out⟩
end Go.Proofs.Ytejjafmppihneaa.ro
