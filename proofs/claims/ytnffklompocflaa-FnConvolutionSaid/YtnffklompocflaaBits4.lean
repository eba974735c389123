/- Bit strings, program and specification: XorBits. Condition: lengths up to 2^26. -/
import Derived.Test.YtnffklompocflaaBits3
namespace Go.Proofs.Ytnffklompocflaa.bits
open Go.RowKit sl harn bm rng

theorem xor_wf (a b : List Int) : Wf .i64 (xorB a b) := Wf.of_i64 fun z hz => by
  obtain ⟨i, hi, rfl⟩ := List.getElem_of_mem hz
  have : (xorB a b)[i] = bits .and .i64 (bits .xor .i64 (a[i]'(by rw [xorB_len] at hi; omega)) (b[i]'(by rw [xorB_len] at hi; omega))) 1 := by simp [xorB]
  rw [this, low1]; omega
theorem xor_at {zs ys : List Int} {k : Nat} {x y v : Int} (h1 : k < zs.length) (h2 : k < ys.length) (hx : zs.getD k 0 = x) (hy : ys.getD k 0 = y) (hv : bits .and .i64 (bits .xor .i64 x y) 1 = v) : (xorB zs ys).getD k 0 = v := by
  rw [xorB_at zs ys h1 h2, hx, hy, hv]
theorem part_below {kd : IntKind} {E : TypeId} {w w1 wr : World} {n k : Nat} {zs : List Int} (h : Part kd E w1 wr n k zs) (hs : w.heap.size ≤ w1.heap.size) : Below w.heap.size w1 wr := by
  obtain ⟨_, _, _, _, h4⟩ := h
  exact h4.mono hs
theorem part_drew {kd : IntKind} {E : TypeId} {w wr : World} {n k : Nat} {zs : List Int} (h : Part kd E w wr n k zs) : Part kd E w wr.drew n k zs := by
  obtain ⟨cs, h1, h2, h3, h4⟩ := h
  exact ⟨cs, h1, h2, h3, h4.trans ⟨rfl, rfl, rfl, Nat.le_refl _, fun _ _ => rfl⟩⟩
theorem slPost_below {E : TypeId} {k : IntKind} {w w1 w2 : World} {zs : List Int} {e : Ending} (hb : Below w.heap.size w w1) (h : SlPost E k w1 zs e w2) : SlPost E k w zs e w2 := by
  obtain ⟨A, n, c, e, ho, hb2⟩ := h
  exact ⟨A, n, c, e, ho.down hb.size, hb.trans (hb2.mono hb.size)⟩
/-- An append onto a slice of the call's own, at a step of a region that draws its order. -/
theorem step_app {P : Program} {ops : Array Oper} {o : Oper} {a : Act} {w : World} {K : Act → World → Prop} {Q : Exit → Act → World → Prop} {X : Prop} (hg : o.guard = none) (s x : Operand) (t : TypeId)
    (hop : o.op = .call { callee := .builtin .append, args := #[s, x], argTypes := #[t, t] })
    (E : TypeId) (i : TypeInfo) (z : Value) (k : IntKind) (h1 : P.underlying t = some (.slice E)) (h2 : P.info? E = some i) (h3 : i.zero = some z) (h4 : i.size = 1) (h5 : i.bytes ≤ 8) (h6 : z.cells.size = 1)
    {lo hi lo2 hi2 n cap m c : Nat} {A B : Option Addr} {zs ys : List Int} (hs : a.eval s = .slice A n cap) (hx : a.eval x = .slice B m c) (ho : Ow E k w lo hi A n cap zs) (hr : Rd k w lo2 hi2 B m c ys) (hn : n + m ≤ 1073741824) (hlo : lo ≤ w.heap.size)
    (hK : ∀ A' cap' w', Ow E k w' lo w'.heap.size A' (n + m) cap' (zs ++ ys) → Below lo w w' → K (a.put o.dst (.slice A' (n + m) cap')) w') :
    if Region.wanted o (yielded ops a.tmps) = true then Oper.wp P o a w K Q else X := by
  have hw : Region.wanted o (yielded ops a.tmps) = true := by simp [Region.wanted, hg]
  rw [if_pos hw]
  obtain ⟨A', cap', w', hrun, g1, g2⟩ := app (P := P) t o.type E i z k h1 h2 h3 h4 h5 h6 ho hr hn hlo
  unfold Oper.wp execOp
  simp only [hop, resolve, invoke, builtin, Sem.run_bind, Sem.run_pure, Result.andThen_ok, List.map_toArray, List.map_cons, List.map_nil, hs, hx, hrun]
  exact hK A' cap' w' g1 g2
theorem cell_same {k : IntKind} {w w' : World} {lo hi n cap : Nat} {b off : Nat} {zs : List Int} (h : Rd k w lo hi (some ⟨b, off, none⟩) n cap zs) (h2 : Rd k w' lo hi (some ⟨b, off, none⟩) n cap zs) {i : Nat} (hi' : i < n) : w'.cell? ⟨b, off + i, none⟩ = w.cell? ⟨b, off + i, none⟩ := by
  obtain ⟨b1, o1, e1, _, _, g1⟩ := h.at_ hi'
  obtain ⟨b2, o2, e2, _, _, g2⟩ := h2.at_ hi'
  injection e1 with e1; injection e1 with e1 e1'; subst e1 e1'
  injection e2 with e2; injection e2 with e2 e2'; subst e2 e2'
  rw [g1, g2]
theorem rd_drew {k : IntKind} {w : World} {lo hi n cap : Nat} {A : Option Addr} {zs : List Int} (h : Rd k w lo hi A n cap zs) : Rd k w.drew lo hi A n cap zs := h.same (Nat.le_refl _) fun _ _ _ => rfl
theorem ow_drew {E : TypeId} {k : IntKind} {w : World} {lo hi n cap : Nat} {A : Option Addr} {zs : List Int} (h : Ow E k w lo hi A n cap zs) : Ow E k w.drew lo hi A n cap zs := h.same (Nat.le_refl _) fun _ _ _ => rfl
theorem below_drew {B : Nat} {a w : World} (h : Below B a w) : Below B a w.drew := h.trans ⟨rfl, rfl, rfl, Nat.le_refl _, fun _ _ => rfl⟩
set_option maxRecDepth 100000 in
set_option maxHeartbeats 4000000 in
theorem specXor (zs ys : List Int) (lo hi lo2 hi2 : Nat) (A B : Option Addr) (n cap n2 cap2 : Nat) (w : World) (h : Rd .i64 w lo hi A n cap zs) (h' : Rd .i64 w lo2 hi2 B n2 cap2 ys) (hn : n ≤ 67108864) :
    Calls Try.prog 17 #[.slice A n cap, .slice B n2 cap2] w (SlPost 3 .i64 w (xorB zs ys)) := by
  have hb := h.cap_
  have hb2 := h'.cap_
  obtain ⟨m, hm⟩ : ∃ m, m = min n n2 := ⟨_, rfl⟩
  have b1 : m ≤ n := by omega
  have b2 : m ≤ n2 := by omega
  have HL := Lib.hid (show (xorB zs ys).length = m by rw [xorB_len, h.len, h'.len, hm])
  have HM := Lib.hid hm
  have HR := Lib.hid h
  have HS := Lib.hid h'
  have HW := Lib.hid (xor_wf zs ys)
  clear h h' hm
  obtain ⟨i0, hi0, hz0, hz1, hz2⟩ := info_parts intInfo
  have HZ := Lib.hid (And.intro hi0 (And.intro hz0 (And.intro hz1 hz2)))
  clear hz2 hz1 hz0 hi0
  go_enter Try.func17, Try.ntmps17
  go_wp2
  go_loopw [5, 6] (fun v i wr => ∃ k : Nat, i = .int .i64 k ∧ k ≤ m ∧ Gath 3 .i64 w wr (xorB zs ys) k v) (fun _ i _ => m - (intOf i).toNat)
  case atStart => exact ⟨0, rfl, by omega, Gath.start _ _ _ _⟩
  case round =>
    obtain ⟨k, rfl, hk, C, c, rfl, ho, hb⟩ := hrel
    have HO := Lib.hid ho
    have HB := Lib.hid hb
    clear ho hb
    by_cases hlt : k < m
    · obtain ⟨b, off, rfl, h1, h2, hc⟩ := (HR.out.below HB.out).at_ (show k < n by omega)
      obtain ⟨b', off', rfl, h1', h2', hc'⟩ := (HS.out.below HB.out).at_ (show k < n2 by omega)
      obtain ⟨x, hx⟩ : ∃ x, zs.getD k 0 = x := ⟨_, rfl⟩
      obtain ⟨y, hy⟩ : ∃ y, ys.getD k 0 = y := ⟨_, rfl⟩
      rw [hx] at hc
      rw [hy] at hc'
      obtain ⟨z, hz⟩ : ∃ z, bits .and .i64 (bits .xor .i64 x y) 1 = z := ⟨_, rfl⟩
      have HX := Lib.hid (show (xorB zs ys).take (k + 1) = (xorB zs ys).take k ++ [z] by rw [take_one (by rw [HL.out]; exact hlt), xor_at (by rw [HR.out.len]; omega) (by rw [HS.out.len]; omega) hx hy hz])
      have HV := Lib.hid (show (Lit.int .i64 z).wf = true by rw [← hz, low1]; exact WalkArith.wf_i64 (by omega))
      clear hx hy
      have hb3 : b < wr.heap.size := by have := HB.out.size; have := HR.out.hi_; omega
      have hb4 : b' < wr.heap.size := by have := HB.out.size; have := HS.out.hi_; omega
      have ne1 := World.new_ne wr ⟨b, off + k, none⟩ hc
      have ne2 := World.new_ne wr ⟨b', off' + k, none⟩ hc'
      have hlt3 : (k : Int) < n := by omega
      have hlt4 : (k : Int) < n2 := by omega
      go_wp2
      go_region_held3 (fun w' => w'.cell? ⟨b, off + k, none⟩ = some (.int .i64 x) ∧ w'.cell? ⟨b', off' + k, none⟩ = some (.int .i64 y)) (go_keep)
        (first
        | (refine step_app rfl _ _ 24 rfl 3 i0 _ .i64 Try.underlying24 HZ.out.1 HZ.out.2.1 HZ.out.2.2.1 (by rw [HZ.out.2.2.2]; omega) rfl rfl rfl ((ow_drew HO.out).alloc _) (Rd.one .i64 _ _ _ HV.out) (by omega) (by have := HB.out.size; simp; omega) ?_; intro A8 c8 w8 ho8 hb8; have O8 := Lib.hid ho8; have B8 := Lib.hid (((below_drew HB.out).alloc HB.out.size _).trans hb8); have k8 := (cell_same (HR.out.below HB.out) (HR.out.below B8.out) (show k < n by omega)).trans hc; have k9 := (cell_same (HS.out.below HB.out) (HS.out.below B8.out) (show k < n2 by omega)).trans hc'; clear ho8 hb8))
      clear k8 k9
      go_wp2
      go_roundw
      case rel => exact ⟨k + 1, by go_num, by omega, A8, c8, rfl, by rw [HX.out]; exact O8.out, B8.out⟩
      case measure => simp [intOf]; omega
    · obtain rfl : k = m := by omega
      by_cases hlt3 : (k : Int) < n
      · have hlt4 : ¬ (k : Int) < n2 := by have := HM.out; omega
        go_wp2
        go_ret
        exact Gath.done HO.out HB.out HL.out
      · go_wp2
        go_ret
        exact Gath.done HO.out HB.out HL.out
end Go.Proofs.Ytnffklompocflaa.bits
