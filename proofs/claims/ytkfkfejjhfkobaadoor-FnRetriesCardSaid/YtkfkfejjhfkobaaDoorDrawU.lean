/- Draws of stage 15: backoffs. Condition: the bytes that are drawn from are a slice that came in. -/
import Derived.Test.YtkfkfejjhfkobaaDoorBo5
import Derived.Test.YtkfkfejjhfkobaaDoorDrawT
import Derived.Deep.Cut
namespace Go.Proofs.YtkfkfejjhfkobaaDoor.draw
open Go.RowKit sl harn bx drk bom stw acm
set_option linter.unusedVariables false
set_option linter.unusedSimpArgs false

/-- A valid backoff; any backoff. -/
def BoPost (p : Nat) (A : Option Addr) (len cap : Nat) (w : World) (e : Ending) (w' : World) : Prop := ∃ q : Bo, Vb q ∧ e = .returned (.agg (bv q)) ∧ Keep p w w' ∧ Cur w' p A len cap
def AnyPost (p : Nat) (A : Option Addr) (len cap : Nat) (w : World) (e : Ending) (w' : World) : Prop := ∃ q : Bo, e = .returned (.agg (bv q)) ∧ Keep p w w' ∧ Cur w' p A len cap
theorem dr_below {p : Nat} {A : Option Addr} {len cap : Nat} {w w' : World} (hc : Cur w p A len cap) (hb : Below w.heap.size w w') : Dr p A len cap w w' := ⟨later (Keep.refl p w) (Nat.le_refl _) hb, cur_below hc hb⟩
/-- A block that holds a valid backoff. -/
def XOk (b : Nat) (w : World) : Prop := ∃ q : Bo, Vb q ∧ Bx 28 w b (bv q)
theorem XOk.keep {p b : Nat} {w w' : World} (h : XOk b w) (k : Keep p w w') (hb : b ≠ p) : XOk b w' := by
  obtain ⟨q, h1, h2⟩ := h; exact ⟨q, h1, bx_keep h2 k hb⟩
theorem XOk.below {b : Nat} {w w' : World} (h : XOk b w) (hb : Below w.heap.size w w') : XOk b w' := by
  obtain ⟨q, h1, h2⟩ := h; exact ⟨q, h1, h2.below hb⟩
/-- Only blocks p and b of what was there may have been written. -/
structure Keep2 (p b : Nat) (w w' : World) : Prop where
  os : w'.os = w.os
  tape : w'.tape = w.tape
  output : w'.output = w.output
  size : w.heap.size ≤ w'.heap.size
  block : ∀ k, k < w.heap.size → k ≠ p → k ≠ b → w'.heap[k]? = w.heap[k]?
theorem k2_of {p b : Nat} {w w' : World} (h : Keep p w w') : Keep2 p b w w' := ⟨h.os, h.tape, h.output, h.size, fun k h1 h2 _ => h.block k h1 h2⟩
theorem keep_k2 {p b : Nat} {w w1 w2 : World} (h : Keep p w w1) (k : Keep2 p b w1 w2) (hb : w.heap.size ≤ b) : Keep p w w2 :=
  ⟨k.os.trans h.os, k.tape.trans h.tape, k.output.trans h.output, Nat.le_trans h.size k.size, fun j hj hn => (k.block j (Nat.lt_of_lt_of_le hj h.size) hn (by omega)).trans (h.block j hj hn)⟩
theorem bx_k2 {p b c : Nat} {U : TypeId} {w w' : World} {cs : Array Value} (h : Bx U w c cs) (k : Keep2 p b w w') (hp : c ≠ p) (hb : c ≠ b) : Bx U w' c cs := h.same (k.block c h.lt hp hb)
theorem k2_put {p b : Nat} {U : TypeId} {w w' : World} {cs : Array Value} (h : Put U w b cs w') : Keep2 p b w w' := ⟨h.below.os, h.below.tape, h.below.output, h.below.size, fun k _ _ hn => h.other k hn⟩
/-- Beside that, block b holds a valid backoff. -/
def D2 (p b : Nat) (A : Option Addr) (len cap : Nat) (w w' : World) : Prop := Keep2 p b w w' ∧ Cur w' p A len cap ∧ XOk b w'

set_option maxRecDepth 100000 in
set_option maxHeartbeats 16000000 in
theorem bof (w : World) (p : Nat) (A : Option Addr) (len cap : Nat) (hc : Cur w p A len cap) :
    Calls Tryd.prog 44 #[.pointer (some ⟨p, 0, none⟩)] w (BoPost p A len cap w) := by
  have CW := Lib.hid hc
  have P0 := Lib.hid hc.lt
  clear hc
  go_enter Tryd.func44, Tryd.ntmps44
  go_wp2_with fail
  generalize hW : w.alloc (.cells #[.int .i64 0, .int .i64 0, .int .i64 0, .int .i64 0, .int .i64 0, .int .i64 0, .int .i64 0, .int .i64 0, .int .i64 0] 28) = w0
  have K0 := Lib.hid (show Keep p w w0 by rw [← hW]; exact (Keep.refl p w).alloc _)
  have C0 := Lib.hid (show Cur w0 p A len cap by rw [← hW]; exact CW.out.alloc _)
  have Z0 := Lib.hid (show Bx 28 w0 w.heap.size #[.int .i64 0, .int .i64 0, .int .i64 0, .int .i64 0, .int .i64 0, .int .i64 0, .int .i64 0, .int .i64 0, .int .i64 0] by rw [← hW]; exact Bx.made _ _ _)
  clear hW
  (with_reducible refine (below 4 (by omega) _ p A len cap C0.out).mono ?_)
  rintro e w1 ⟨x1, rfl, hx0, hx1, hk, hc⟩
  have K1 := Lib.hid (K0.out.trans hk)
  have C1 := Lib.hid (hc)
  have Z1 := Lib.hid (bx_keep Z0.out hk (by have h0 := P0.out; omega))
  clear hk hc  K0 C0 Z0
  have hr4 : 0 ≤ x1 ∧ x1 ≤ 3 := ⟨hx0, by have := hx1 (by omega); omega⟩
  have H4 := Lib.hid hr4
  clear hx0 hx1 hr4
  go_wp2_with fail
  (with_reducible refine (below 50 (by omega) _ p A len cap C1.out).mono ?_)
  rintro e w2 ⟨x2, rfl, hx0, hx1, hk, hc⟩
  have K2 := Lib.hid (K1.out.trans hk)
  have C2 := Lib.hid (hc)
  have Z2 := Lib.hid (bx_keep Z1.out hk (by have h0 := P0.out; omega))
  clear hk hc  K1 C1 Z1
  have W2 := Lib.hid (show (Lit.int .i64 x2).wf = true from WalkArith.wf_i64 (by have := hx1 (by omega); omega))
  clear hx0 hx1
  go_wp2_with fail
  obtain ⟨a0, b0, c0, d0, x0, t0, j0, r0, n0, h0⟩ : ∃ z0 z1 z2 z3 z4 z5 z6 z7 z8, fst x1 x2 = ⟨z0, z1, z2, z3, z4, z5, z6, z7, z8⟩ := ⟨_, _, _, _, _, _, _, _, _, rfl⟩
  have V0 := Lib.hid (show Vb ⟨a0, b0, c0, d0, x0, t0, j0, r0, n0⟩ by rw [← h0]; exact fst_vb H4.out)
  have H0 := Lib.hid h0
  clear h0
  (with_reducible refine (specNb x1 x2 W2.out _).mono ?_)
  rintro e w3 hp
  obtain ⟨rfl, hb⟩ := o_parts H0.out hp
  clear hp
  have K3 := Lib.hid (later K2.out K2.out.size hb)
  have C3 := Lib.hid (cur_below C2.out hb)
  have Z3 := Lib.hid (Z2.out.below hb)
  clear hb K2 C2 Z2
  clear H0 H4 W2
  obtain ⟨b, hbb⟩ : ∃ b, w3.heap.size = b := ⟨_, rfl⟩
  go_wp2_with fail
  generalize hW : w3.alloc (.cells #[.int .i64 a0, .int .i64 b0, .int .i64 c0, .int .i64 d0, .int .i64 x0, .int .i64 t0, .int .i64 j0, .int .i64 r0, .int .i64 n0] 28) = w4
  have LX := Lib.hid (show w.heap.size + 1 ≤ b by have h1 := K3.out.size; have h2Z := Z3.out.lt; have h3 := hbb; omega)
  have X4 := Lib.hid (show Bx 28 w4 b #[.int .i64 a0, .int .i64 b0, .int .i64 c0, .int .i64 d0, .int .i64 x0, .int .i64 t0, .int .i64 j0, .int .i64 r0, .int .i64 n0] by rw [← hW, ← hbb]; exact Bx.made _ _ _)
  have K4 := Lib.hid (show Keep p w w4 by rw [← hW]; exact K3.out.alloc _)
  have C4 := Lib.hid (show Cur w4 p A len cap by rw [← hW]; exact C3.out.alloc _)
  have Z4 := Lib.hid (show Bx 28 w4 (w.heap.size) #[.int .i64 0, .int .i64 0, .int .i64 0, .int .i64 0, .int .i64 0, .int .i64 0, .int .i64 0, .int .i64 0, .int .i64 0] by rw [← hW]; exact Z3.out.below (below_box _ _))
  clear  K3 C3 Z3
  (try rw [hbb])
  clear hW hbb
  (with_reducible refine (below 20 (by omega) _ p A len cap C4.out).mono ?_)
  rintro e w5 ⟨x3, rfl, hx0, hx1, hk, hc⟩
  have K5 := Lib.hid (K4.out.trans hk)
  have C5 := Lib.hid (hc)
  have Z5 := Lib.hid (bx_keep Z4.out hk (by have h0 := P0.out; have hlX := LX.out; omega))
  have X5 := Lib.hid (bx_keep X4.out hk (by have h0 := P0.out; have hlX := LX.out; omega))
  clear hk hc  K4 C4 Z4 X4
  have h20 : x3 ≤ 20 := by have := hx1 (by omega); omega
  clear hx1
  go_wp2_with fail
  go_loopw [4] (fun i wr => ∃ (k : Int) (q : Bo), i = .int .i64 k ∧ 0 ≤ k ∧ k ≤ 20 ∧ Vb q ∧ Keep p w wr ∧ Cur wr p A len cap ∧ Bx 28 wr w.heap.size #[.int .i64 0, .int .i64 0, .int .i64 0, .int .i64 0, .int .i64 0, .int .i64 0, .int .i64 0, .int .i64 0, .int .i64 0] ∧ Bx 28 wr b (bv q)) (fun i _ => (intOf i).toNat)
  case atStart => exact ⟨x3, ⟨a0, b0, c0, d0, x0, t0, j0, r0, n0⟩, rfl, hx0, h20, V0.out, K5.out, C5.out, Z5.out, X5.out⟩
  case round =>
    clear V0 hx0 h20 K5 C5 Z5 X5
    obtain ⟨k, ⟨a1, b1, c1, d1, x1, t1, j1, r1, n1⟩, rfl, hk0, hk1, hv, hK, hC, hZ, hX⟩ := hrel
    have V1 := Lib.hid hv
    have K9 := Lib.hid hK
    have C9 := Lib.hid hC
    have Z9 := Lib.hid hZ
    have X9 := Lib.hid (show Bx 28 wr b #[.int .i64 a1, .int .i64 b1, .int .i64 c1, .int .i64 d1, .int .i64 x1, .int .i64 t1, .int .i64 j1, .int .i64 r1, .int .i64 n1] from hX)
    clear hv hK hC hZ hX
    by_cases hkp : k > 0
    · obtain ⟨g, hg⟩ : ∃ g, k - 1 = g := ⟨_, rfl⟩
      have m1 : IntKind.i64.wrap g = g := IntWalk.i64_in _ (by omega)
      have HG := Lib.hid (show 0 ≤ g ∧ g ≤ 20 ∧ g.toNat < k.toNat by omega)
      have M1 := Lib.hid m1
      clear m1 hk0 hk1
      go_wp2_with fail
      clear hkp
      (with_reducible refine (below 6 (by omega) _ p A len cap C9.out).mono ?_)
      rintro e w10 ⟨y, rfl, hx0, hx1, hk, hc⟩
      have K10 := Lib.hid (K9.out.trans hk)
      have C10 := Lib.hid (hc)
      have Z10 := Lib.hid (bx_keep Z9.out hk (by have h0 := P0.out; have hlX := LX.out; omega))
      have X10 := Lib.hid (bx_keep X9.out hk (by have h0 := P0.out; have hlX := LX.out; omega))
      clear hk hc hx0 hx1 K9 C9 Z9 X9
      by_cases h0 : y = 0
      · subst h0
        obtain ⟨a2, b2, c2, d2, x2, t2, j2, r2, n2, h2⟩ : ∃ z0 z1 z2 z3 z4 z5 z6 z7 z8, tik ⟨a1, b1, c1, d1, x1, t1, j1, r1, n1⟩ true = ⟨z0, z1, z2, z3, z4, z5, z6, z7, z8⟩ := ⟨_, _, _, _, _, _, _, _, _, rfl⟩
        have V2 := Lib.hid (show Vb ⟨a2, b2, c2, d2, x2, t2, j2, r2, n2⟩ by rw [← h2]; exact tik_vb V1.out true)
        have H2 := Lib.hid h2
        clear h2
        go_wp2_with (refine list_load rfl 28 _ rfl (b) rfl 28 _ X10.out Tryd.underlying28 rfl szB ?_)
        (with_reducible refine (specTi a1 b1 c1 d1 x1 t1 j1 r1 n1 true _).mono ?_)
        rintro e w11 hp
        obtain ⟨rfl, hb⟩ := o_parts H2.out hp
        clear hp
        have K11 := Lib.hid (later K10.out K10.out.size hb)
        have C11 := Lib.hid (cur_below C10.out hb)
        have Z11 := Lib.hid (Z10.out.below hb)
        have X11 := Lib.hid (X10.out.below hb)
        clear hb K10 C10 Z10 X10
        have m1 := M1.out
        have hg2 := hg
        go_wp2_with (refine list_store rfl 28 _ _ rfl (b) #[.int .i64 a2, .int .i64 b2, .int .i64 c2, .int .i64 d2, .int .i64 x2, .int .i64 t2, .int .i64 j2, .int .i64 r2, .int .i64 n2] rfl rfl 28 _ X11.out rfl szB (one9 _ _ _ _ _ _ _ _ _) ?_; intro wz hz)
        have K12 := Lib.hid (later K11.out (by have hlX := LX.out; omega) hz.below)
        have C12 := Lib.hid (cur_later CW.out K11.out C11.out (by have hlX := LX.out; omega) hz.below)
        have Z12 := Lib.hid (hz.keep Z11.out (by have hlX := LX.out; omega))
        have X12 := Lib.hid (hz.box)
        clear hz K11 C11 Z11 X11
        go_roundw
        case rel => exact ⟨g, ⟨a2, b2, c2, d2, x2, t2, j2, r2, n2⟩, by go_num, HG.out.1, HG.out.2.1, V2.out, K12.out, C12.out, Z12.out, X12.out⟩
        case measure => have := HG.out.2.2; simp [intOf]; omega
      · by_cases h1 : y = 1
        · subst h1
          go_wp2_with fail
          refine reg.region_plain (D2 p b A len cap) 42 [some [], some [], some [(1, 28)], some [(0, 27), (2, 29)], some [(3, 30)], some [(4, 26)], some [(4, 26)], some [(5, 31)]] [(0, 27), (1, 28), (2, 29), (3, 30), (4, 26), (5, 31), (6, 32)]
            (fun w' => Keep p w w' ∧ Cur w' p A len cap ∧ Bx 28 w' w.heap.size #[.int .i64 0, .int .i64 0, .int .i64 0, .int .i64 0, .int .i64 0, .int .i64 0, .int .i64 0, .int .i64 0, .int .i64 0] ∧ XOk b w')
            (reg.rl [reg.val (fun v => ∃ q : Bo, v = .agg (bv q) ∧ Vb q), reg.is (.pointer (some ⟨p, 0, none⟩)), reg.val (fun v => ∃ x : Int, v = .int .i64 x ∧ 0 ≤ x ∧ x < 50), reg.val (fun v => ∃ (q : Bo) (g : Bool), v = .tuple #[.agg (bv q), .bool g] ∧ Vb q), reg.val (fun v => ∃ (q : Bo) (g : Bool), v = .tuple #[.agg (bv q), .bool g] ∧ Vb q), reg.val (fun v => ∃ q : Bo, v = .agg (bv q) ∧ Vb q), reg.free, reg.free])
            (by kernel_rfl) (by kernel_rfl) rfl
            (fun w1 w2 hc hb => ⟨keep_k2 hc.1 hb.1 (by have h1 := LX.out; omega), hb.2.1, bx_k2 hc.2.2.1 hb.1 (by have h1 := P0.out; omega) (by have h1 := LX.out; omega), hb.2.2⟩) (reg.rl_keep _) (⟨Keep.drew K10.out, show Cur w10.drew p A len cap from C10.out, Z10.out.same rfl, ⟨⟨a1, b1, c1, d1, x1, t1, j1, r1, n1⟩, V1.out, X10.out.same rfl⟩⟩) (by kernel_rfl) ⟨?_, ?_, ?_, ?_, ?_, ?_, ?_, ?_, trivial⟩ ?_
          · refine fun w8 hc  K hK => ?_
            (try simp only [Act.put, List.setIfInBounds_toArray, List.set_cons_zero, List.set_cons_succ])
            obtain ⟨⟨a6, b6, c6, d6, x6, t6, j6, r6, n6⟩, hvx, hX⟩ := hc.2.2.2
            refine step_load rfl 28 _ rfl b rfl 28 _ hX Tryd.underlying28 rfl szB ?_
            exact hK _ _ ⟨⟨a6, b6, c6, d6, x6, t6, j6, r6, n6⟩, rfl, hvx⟩ ⟨k2_of (Keep.refl _ _), hc.2.1, hc.2.2.2⟩
          · refine fun w8 hc  K hK => ?_
            (try simp only [Act.put, List.setIfInBounds_toArray, List.set_cons_zero, List.set_cons_succ])
            go_simp
            exact hK (.pointer (some ⟨p, 0, none⟩)) _ rfl ⟨k2_of (Keep.refl _ _), hc.2.1, hc.2.2.2⟩
          · refine fun w8 hc v1 h1 K hK => ?_
            obtain rfl : v1 = .pointer (some ⟨p, 0, none⟩) := h1
            (try simp only [Act.put, List.setIfInBounds_toArray, List.set_cons_zero, List.set_cons_succ])
            go_simp
            (with_reducible refine (below 50 (by omega) _ p A len cap hc.2.1).mono ?_)
            rintro e w3 ⟨x, rfl, hx0, hx1, hk, hcc⟩
            exact hK (.int .i64 x) _ ⟨x, rfl, hx0, hx1 (by omega)⟩ ⟨k2_of hk, hcc, hc.2.2.2.keep hk (by have h1 := LX.out; have h2 := P0.out; omega)⟩
          · refine fun w8 hc v0 h0 v2 h2 K hK => ?_
            obtain ⟨⟨a6, b6, c6, d6, x6, t6, j6, r6, n6⟩, rfl, hva6⟩ : ∃ q : Bo, v0 = .agg (bv q) ∧ Vb q := h0
            obtain ⟨x5, rfl, hx0, hx1⟩ : ∃ x : Int, v2 = .int .i64 x ∧ 0 ≤ x ∧ x < 50 := h2
            (try simp only [Act.put, List.setIfInBounds_toArray, List.set_cons_zero, List.set_cons_succ])
            go_simp
            (with_reducible refine (specFl a6 b6 c6 d6 x6 t6 j6 r6 n6 x5 (WalkArith.wf_i64 (by omega)) _).mono ?_)
            rintro e w3 ⟨rfl, hb⟩
            exact hK _ _ ⟨_, _, rfl, fai_vb hva6 x5⟩ ⟨k2_of (later (Keep.refl p w8) (Nat.le_refl _) hb), cur_below hc.2.1 hb, hc.2.2.2.below hb⟩
          · refine fun w8 hc v3 h3 K hK => ?_
            obtain ⟨⟨a3, b3, c3, d3, x3, t3, j3, r3, n3⟩, ga3, rfl, hva3⟩ : ∃ (q : Bo) (g : Bool), v3 = .tuple #[.agg (bv q), .bool g] ∧ Vb q := h3
            (try simp only [Act.put, List.setIfInBounds_toArray, List.set_cons_zero, List.set_cons_succ])
            go_simp
            exact hK (.tuple #[.agg #[.int .i64 a3, .int .i64 b3, .int .i64 c3, .int .i64 d3, .int .i64 x3, .int .i64 t3, .int .i64 j3, .int .i64 r3, .int .i64 n3], .bool ga3]) _ ⟨⟨a3, b3, c3, d3, x3, t3, j3, r3, n3⟩, _, rfl, hva3⟩ ⟨k2_of (Keep.refl _ _), hc.2.1, hc.2.2.2⟩
          · refine fun w8 hc v4 h4 K hK => ?_
            obtain ⟨⟨a4, b4, c4, d4, x4, t4, j4, r4, n4⟩, ga4, rfl, hva4⟩ : ∃ (q : Bo) (g : Bool), v4 = .tuple #[.agg (bv q), .bool g] ∧ Vb q := h4
            (try simp only [Act.put, List.setIfInBounds_toArray, List.set_cons_zero, List.set_cons_succ])
            go_simp
            exact hK (.agg #[.int .i64 a4, .int .i64 b4, .int .i64 c4, .int .i64 d4, .int .i64 x4, .int .i64 t4, .int .i64 j4, .int .i64 r4, .int .i64 n4]) _ ⟨⟨a4, b4, c4, d4, x4, t4, j4, r4, n4⟩, rfl, hva4⟩ ⟨k2_of (Keep.refl _ _), hc.2.1, hc.2.2.2⟩
          · refine fun w8 hc v4 h4 K hK => ?_
            obtain ⟨⟨a4, b4, c4, d4, x4, t4, j4, r4, n4⟩, ga4, rfl, hva4⟩ : ∃ (q : Bo) (g : Bool), v4 = .tuple #[.agg (bv q), .bool g] ∧ Vb q := h4
            (try simp only [Act.put, List.setIfInBounds_toArray, List.set_cons_zero, List.set_cons_succ])
            go_simp
            exact hK (.bool ga4) _ trivial ⟨k2_of (Keep.refl _ _), hc.2.1, hc.2.2.2⟩
          · refine fun w8 hc v5 h5 K hK => ?_
            obtain ⟨⟨a5, b5, c5, d5, x5, t5, j5, r5, n5⟩, rfl, hva5⟩ : ∃ q : Bo, v5 = .agg (bv q) ∧ Vb q := h5
            (try simp only [Act.put, List.setIfInBounds_toArray, List.set_cons_zero, List.set_cons_succ])
            obtain ⟨⟨a6, b6, c6, d6, x6, t6, j6, r6, n6⟩, hvx, hX⟩ := hc.2.2.2
            refine step_store rfl 28 _ _ rfl b #[.int .i64 a5, .int .i64 b5, .int .i64 c5, .int .i64 d5, .int .i64 x5, .int .i64 t5, .int .i64 j5, .int .i64 r5, .int .i64 n5] rfl rfl 28 _ hX rfl szB (one9 _ _ _ _ _ _ _ _ _) ?_
            intro wz hz
            exact hK undef _ trivial ⟨k2_put hz, cur_later CW.out hc.1 hc.2.1 (by have h1 := LX.out; omega) hz.below, ⟨⟨a5, b5, c5, d5, x5, t5, j5, r5, n5⟩, hva5, hz.box⟩⟩
          refine fun w9 hc v0 h0 v1 h1 v2 h2 v3 h3 v4 h4 v5 h5 v6 h6 => ?_
          obtain ⟨⟨a6, b6, c6, d6, x6, t6, j6, r6, n6⟩, rfl, hva6⟩ : ∃ q : Bo, v0 = .agg (bv q) ∧ Vb q := h0
          obtain rfl : v1 = .pointer (some ⟨p, 0, none⟩) := h1
          obtain ⟨x5, rfl, hx0, hx1⟩ : ∃ x : Int, v2 = .int .i64 x ∧ 0 ≤ x ∧ x < 50 := h2
          obtain ⟨⟨a3, b3, c3, d3, x3, t3, j3, r3, n3⟩, ga3, rfl, hva3⟩ : ∃ (q : Bo) (g : Bool), v3 = .tuple #[.agg (bv q), .bool g] ∧ Vb q := h3
          obtain ⟨⟨a4, b4, c4, d4, x4, t4, j4, r4, n4⟩, ga4, rfl, hva4⟩ : ∃ (q : Bo) (g : Bool), v4 = .tuple #[.agg (bv q), .bool g] ∧ Vb q := h4
          obtain ⟨⟨a5, b5, c5, d5, x5, t5, j5, r5, n5⟩, rfl, hva5⟩ : ∃ q : Bo, v5 = .agg (bv q) ∧ Vb q := h5
          clear h6
          (try simp only [reg.Obs])
          (try simp only [Act.put, List.setIfInBounds_toArray, List.set_cons_zero, List.set_cons_succ])
          obtain ⟨⟨a7, b7, c7, d7, x7, t7, j7, r7, n7⟩, hv7, hX⟩ := hc.2.2.2
          have V5 := Lib.hid hv7
          have K11 := Lib.hid hc.1
          have C11 := Lib.hid hc.2.1
          have Z11 := Lib.hid hc.2.2.1
          have X11 := Lib.hid (show Bx 28 w9 b #[.int .i64 a7, .int .i64 b7, .int .i64 c7, .int .i64 d7, .int .i64 x7, .int .i64 t7, .int .i64 j7, .int .i64 r7, .int .i64 n7] from hX)
          clear hc hX hv7 hx0 hx1 K10 C10 Z10 X10
          have m1 := M1.out
          have hg2 := hg
          go_wp2_with fail
          go_roundw
          case rel => exact ⟨g, ⟨a7, b7, c7, d7, x7, t7, j7, r7, n7⟩, by go_num, HG.out.1, HG.out.2.1, V5.out, K11.out, C11.out, Z11.out, X11.out⟩
          case measure => have := HG.out.2.2; simp [intOf]; omega
        · by_cases h2 : y = 2
          · subst h2
            obtain ⟨vr, hvr⟩ : ∃ vr, rdy ⟨a1, b1, c1, d1, x1, t1, j1, r1, n1⟩ = vr := ⟨_, rfl⟩
            have HR := Lib.hid hvr
            clear hvr
            go_wp2_with (refine list_load rfl 28 _ rfl (b) rfl 28 _ X10.out Tryd.underlying28 rfl szB ?_)
            (with_reducible refine (specRy a1 b1 c1 d1 x1 t1 j1 r1 n1 _).mono ?_)
            rintro e w11 hp
            obtain ⟨rfl, hb⟩ := b_parts HR.out hp
            clear hp
            have K11 := Lib.hid (later K10.out K10.out.size hb)
            have C11 := Lib.hid (cur_below C10.out hb)
            have Z11 := Lib.hid (Z10.out.below hb)
            have X11 := Lib.hid (X10.out.below hb)
            clear hb K10 C10 Z10 X10
            clear HR
            cases vr with
            | true =>
              go_wp2_with fail
              refine reg.region_tail (drk.Dr p A len cap) 4 42 [some [], some [], some [(1, 38)], some [(0, 37), (2, 39)], none] [(0, 37), (1, 38), (2, 39), (3, 40)]
                (fun w' => Keep p w w' ∧ Cur w' p A len cap ∧ Bx 28 w' (w.heap.size) #[.int .i64 0, .int .i64 0, .int .i64 0, .int .i64 0, .int .i64 0, .int .i64 0, .int .i64 0, .int .i64 0, .int .i64 0] ∧ Bx 28 w' (b) #[.int .i64 a1, .int .i64 b1, .int .i64 c1, .int .i64 d1, .int .i64 x1, .int .i64 t1, .int .i64 j1, .int .i64 r1, .int .i64 n1])
                (reg.rl [reg.is (.agg #[.int .i64 a1, .int .i64 b1, .int .i64 c1, .int .i64 d1, .int .i64 x1, .int .i64 t1, .int .i64 j1, .int .i64 r1, .int .i64 n1]), reg.is (.pointer (some ⟨p, 0, none⟩)), reg.val (fun v => ∃ x : Int, v = .int .i64 x ∧ 0 ≤ x ∧ x < 50), reg.val (fun v => ∃ q : Bo, v = .agg (bv q) ∧ Vb q), reg.free])
                (by kernel_rfl) rfl (by kernel_rfl) (by kernel_rfl) rfl
                (fun w1 w2 hc hb => ⟨hc.1.trans hb.1, hb.2, bx_keep hc.2.2.1 hb.1 (by have h0 := P0.out; have hlX := LX.out; omega), bx_keep hc.2.2.2 hb.1 (by have h0 := P0.out; have hlX := LX.out; omega)⟩) (reg.rl_keep _) (⟨Keep.drew K11.out, show Cur w11.drew p A len cap from C11.out, Z11.out.same rfl, X11.out.same rfl⟩) (by kernel_rfl) ⟨?_, ?_, ?_, ?_, trivial⟩ ?_
              · refine fun w8 hc  K hK => ?_
                (try simp only [Act.put, List.setIfInBounds_toArray, List.set_cons_zero, List.set_cons_succ])
                refine step_load rfl 28 _ rfl (b) rfl 28 _ hc.2.2.2 Tryd.underlying28 rfl szB ?_
                exact hK _ _ rfl ⟨Keep.refl _ _, hc.2.1⟩
              · refine fun w8 hc  K hK => ?_
                (try simp only [Act.put, List.setIfInBounds_toArray, List.set_cons_zero, List.set_cons_succ])
                go_simp
                exact hK (.pointer (some ⟨p, 0, none⟩)) _ rfl ⟨Keep.refl _ _, hc.2.1⟩
              · refine fun w8 hc v1 h1 K hK => ?_
                obtain rfl : v1 = .pointer (some ⟨p, 0, none⟩) := h1
                (try simp only [Act.put, List.setIfInBounds_toArray, List.set_cons_zero, List.set_cons_succ])
                go_simp
                (with_reducible refine (below 50 (by omega) _ p A len cap hc.2.1).mono ?_)
                rintro e w3 ⟨x, rfl, hx0, hx1, hk, hcc⟩
                exact hK (.int .i64 x) _ ⟨x, rfl, hx0, hx1 (by omega)⟩ ⟨hk, hcc⟩
              · refine fun w8 hc v0 h0 v2 h2 K hK => ?_
                obtain rfl : v0 = .agg #[.int .i64 a1, .int .i64 b1, .int .i64 c1, .int .i64 d1, .int .i64 x1, .int .i64 t1, .int .i64 j1, .int .i64 r1, .int .i64 n1] := h0
                obtain ⟨x5, rfl, hx0, hx1⟩ : ∃ x : Int, v2 = .int .i64 x ∧ 0 ≤ x ∧ x < 50 := h2
                (try simp only [Act.put, List.setIfInBounds_toArray, List.set_cons_zero, List.set_cons_succ])
                go_simp
                (with_reducible refine (specSc a1 b1 c1 d1 x1 t1 j1 r1 n1 x5 (WalkArith.wf_i64 (by omega)) _).mono ?_)
                rintro e w3 ⟨rfl, hb⟩
                exact hK _ _ ⟨_, rfl, suc_vb V1.out x5⟩ (dr_below hc.2.1 hb)
              refine fun w9 hc v0 h0 v1 h1 v2 h2 v3 h3 => ?_
              obtain rfl : v0 = .agg #[.int .i64 a1, .int .i64 b1, .int .i64 c1, .int .i64 d1, .int .i64 x1, .int .i64 t1, .int .i64 j1, .int .i64 r1, .int .i64 n1] := h0
              obtain rfl : v1 = .pointer (some ⟨p, 0, none⟩) := h1
              obtain ⟨x5, rfl, hx0, hx1⟩ : ∃ x : Int, v2 = .int .i64 x ∧ 0 ≤ x ∧ x < 50 := h2
              obtain ⟨⟨a5, b5, c5, d5, x5, t5, j5, r5, n5⟩, rfl, hv5⟩ : ∃ q : Bo, v3 = .agg (bv q) ∧ Vb q := h3
              (try simp only [reg.Obs])
              (try simp only [Act.put, List.setIfInBounds_toArray, List.set_cons_zero, List.set_cons_succ])
              simp only [List.drop_succ_cons, List.drop_zero]
              have K12 := Lib.hid hc.1
              have C12 := Lib.hid hc.2.1
              have Z12 := Lib.hid hc.2.2.1
              have X12 := Lib.hid hc.2.2.2
              clear hc K11 C11 Z11 X11
              have V5 := Lib.hid hv5
              clear hv5 hx0 hx1
              refine list_store rfl 28 _ _ rfl (b) #[.int .i64 a5, .int .i64 b5, .int .i64 c5, .int .i64 d5, .int .i64 x5, .int .i64 t5, .int .i64 j5, .int .i64 r5, .int .i64 n5] rfl rfl 28 _ X12.out rfl szB (one9 _ _ _ _ _ _ _ _ _) ?_
              intro wz hz
              (try simp only [Act.put])
              have K13 := Lib.hid (later K12.out (by have hlX := LX.out; omega) hz.below)
              have C13 := Lib.hid (cur_later CW.out K12.out C12.out (by have hlX := LX.out; omega) hz.below)
              have Z13 := Lib.hid (hz.keep Z12.out (by have hlX := LX.out; omega))
              have X13 := Lib.hid (hz.box)
              clear hz K12 C12 Z12 X12
              have m1 := M1.out
              have hg2 := hg
              go_wp2_with fail
              go_roundw
              case rel => exact ⟨g, ⟨a5, b5, c5, d5, x5, t5, j5, r5, n5⟩, by go_num, HG.out.1, HG.out.2.1, V5.out, K13.out, C13.out, Z13.out, X13.out⟩
              case measure => have := HG.out.2.2; simp [intOf]; omega
            | false =>
              have m1 := M1.out
              have hg2 := hg
              go_wp2_with fail
              go_roundw
              case rel => exact ⟨g, ⟨a1, b1, c1, d1, x1, t1, j1, r1, n1⟩, by go_num, HG.out.1, HG.out.2.1, V1.out, K11.out, C11.out, Z11.out, X11.out⟩
              case measure => have := HG.out.2.2; simp [intOf]; omega
          · have e0 : (y == 0) = false := by simpa using h0
            have e1 : (y == 1) = false := by simpa using h1
            have e2 : (y == 2) = false := by simpa using h2
            clear h0 h1 h2
            obtain ⟨a2, b2, c2, d2, x2, t2, j2, r2, n2, h2⟩ : ∃ z0 z1 z2 z3 z4 z5 z6 z7 z8, tik ⟨a1, b1, c1, d1, x1, t1, j1, r1, n1⟩ false = ⟨z0, z1, z2, z3, z4, z5, z6, z7, z8⟩ := ⟨_, _, _, _, _, _, _, _, _, rfl⟩
            have V2 := Lib.hid (show Vb ⟨a2, b2, c2, d2, x2, t2, j2, r2, n2⟩ by rw [← h2]; exact tik_vb V1.out false)
            have H2 := Lib.hid h2
            clear h2
            go_wp2_with (refine list_load rfl 28 _ rfl (b) rfl 28 _ X10.out Tryd.underlying28 rfl szB ?_)
            (with_reducible refine (specTi a1 b1 c1 d1 x1 t1 j1 r1 n1 false _).mono ?_)
            rintro e w11 hp
            obtain ⟨rfl, hb⟩ := o_parts H2.out hp
            clear hp
            have K11 := Lib.hid (later K10.out K10.out.size hb)
            have C11 := Lib.hid (cur_below C10.out hb)
            have Z11 := Lib.hid (Z10.out.below hb)
            have X11 := Lib.hid (X10.out.below hb)
            clear hb K10 C10 Z10 X10
            have m1 := M1.out
            have hg2 := hg
            go_wp2_with (refine list_store rfl 28 _ _ rfl (b) #[.int .i64 a2, .int .i64 b2, .int .i64 c2, .int .i64 d2, .int .i64 x2, .int .i64 t2, .int .i64 j2, .int .i64 r2, .int .i64 n2] rfl rfl 28 _ X11.out rfl szB (one9 _ _ _ _ _ _ _ _ _) ?_; intro wz hz)
            have K12 := Lib.hid (later K11.out (by have hlX := LX.out; omega) hz.below)
            have C12 := Lib.hid (cur_later CW.out K11.out C11.out (by have hlX := LX.out; omega) hz.below)
            have Z12 := Lib.hid (hz.keep Z11.out (by have hlX := LX.out; omega))
            have X12 := Lib.hid (hz.box)
            clear hz K11 C11 Z11 X11
            go_roundw
            case rel => exact ⟨g, ⟨a2, b2, c2, d2, x2, t2, j2, r2, n2⟩, by go_num, HG.out.1, HG.out.2.1, V2.out, K12.out, C12.out, Z12.out, X12.out⟩
            case measure => have := HG.out.2.2; simp [intOf]; omega
    · go_wp2_with (first
        | (refine list_load rfl 28 _ rfl (b) rfl 28 _ X9.out Tryd.underlying28 rfl szB ?_)
        | (refine list_store rfl 28 _ _ rfl (w.heap.size) #[.int .i64 a1, .int .i64 b1, .int .i64 c1, .int .i64 d1, .int .i64 x1, .int .i64 t1, .int .i64 j1, .int .i64 r1, .int .i64 n1] rfl rfl 28 _ Z9.out rfl szB (one9 _ _ _ _ _ _ _ _ _) ?_; intro wz hz))
      have K10 := Lib.hid (later K9.out (by have hlX := LX.out; omega) hz.below)
      have C10 := Lib.hid (cur_later CW.out K9.out C9.out (by have hlX := LX.out; omega) hz.below)
      have Z10 := Lib.hid (hz.box)
      have X10 := Lib.hid (hz.keep X9.out (by have hlX := LX.out; omega))
      clear hz K9 C9 Z9 X9
      (try simp only [Exit.inBlock, Exit.then])
      refine bodyPost_ret (v := .agg #[.int .i64 a1, .int .i64 b1, .int .i64 c1, .int .i64 d1, .int .i64 x1, .int .i64 t1, .int .i64 j1, .int .i64 r1, .int .i64 n1]) ?_ rfl ?_
      · rw [results_cell1 rfl]
        exact back Z10.out Tryd.underlying28 rfl szB
      · exact ⟨⟨a1, b1, c1, d1, x1, t1, j1, r1, n1⟩, V1.out, rfl, K10.out, C10.out⟩
set_option maxRecDepth 100000 in
set_option maxHeartbeats 16000000 in
theorem boa (w : World) (p : Nat) (A : Option Addr) (len cap : Nat) (hc : Cur w p A len cap) :
    Calls Tryd.prog 37 #[.pointer (some ⟨p, 0, none⟩)] w (AnyPost p A len cap w) := by
  have CW := Lib.hid hc
  have P0 := Lib.hid hc.lt
  clear hc
  go_enter Tryd.func37, Tryd.ntmps37
  go_wp2_with fail
  generalize hW : w.alloc (.cells #[.int .i64 0, .int .i64 0, .int .i64 0, .int .i64 0, .int .i64 0, .int .i64 0, .int .i64 0, .int .i64 0, .int .i64 0] 28) = w0
  have K0 := Lib.hid (show Keep p w w0 by rw [← hW]; exact (Keep.refl p w).alloc _)
  have C0 := Lib.hid (show Cur w0 p A len cap by rw [← hW]; exact CW.out.alloc _)
  have Z0 := Lib.hid (show Bx 28 w0 w.heap.size #[.int .i64 0, .int .i64 0, .int .i64 0, .int .i64 0, .int .i64 0, .int .i64 0, .int .i64 0, .int .i64 0, .int .i64 0] by rw [← hW]; exact Bx.made _ _ _)
  clear hW
  (with_reducible refine (bof _ p A len cap C0.out).mono ?_)
  rintro e w1 ⟨⟨a1, b1, c1, d1, x1, t1, j1, r1, n1⟩, hv, rfl, hk, hc⟩
  have K1 := Lib.hid (K0.out.trans hk)
  have C1 := Lib.hid (hc)
  have Z1 := Lib.hid (bx_keep Z0.out hk (by have h0 := P0.out; omega))
  clear hk hc  K0 C0 Z0
  have V1 := Lib.hid hv
  clear hv
  obtain ⟨b, hbb⟩ : ∃ b, w1.heap.size = b := ⟨_, rfl⟩
  go_wp2_with fail
  generalize hW : w1.alloc (.cells #[.int .i64 a1, .int .i64 b1, .int .i64 c1, .int .i64 d1, .int .i64 x1, .int .i64 t1, .int .i64 j1, .int .i64 r1, .int .i64 n1] 28) = w2
  have LX := Lib.hid (show w.heap.size + 1 ≤ b by have h1 := K1.out.size; have h2Z := Z1.out.lt; have h3 := hbb; omega)
  have X2 := Lib.hid (show Bx 28 w2 b #[.int .i64 a1, .int .i64 b1, .int .i64 c1, .int .i64 d1, .int .i64 x1, .int .i64 t1, .int .i64 j1, .int .i64 r1, .int .i64 n1] by rw [← hW, ← hbb]; exact Bx.made _ _ _)
  have K2 := Lib.hid (show Keep p w w2 by rw [← hW]; exact K1.out.alloc _)
  have C2 := Lib.hid (show Cur w2 p A len cap by rw [← hW]; exact C1.out.alloc _)
  have Z2 := Lib.hid (show Bx 28 w2 (w.heap.size) #[.int .i64 0, .int .i64 0, .int .i64 0, .int .i64 0, .int .i64 0, .int .i64 0, .int .i64 0, .int .i64 0, .int .i64 0] by rw [← hW]; exact Z1.out.below (below_box _ _))
  clear  K1 C1 Z1
  (try rw [hbb])
  clear hW hbb
  (with_reducible refine (below 12 (by omega) _ p A len cap C2.out).mono ?_)
  rintro e w3 ⟨y, rfl, hx0, hx1, hk, hc⟩
  have K3 := Lib.hid (K2.out.trans hk)
  have C3 := Lib.hid (hc)
  have Z3 := Lib.hid (bx_keep Z2.out hk (by have h0 := P0.out; have hlX := LX.out; omega))
  have X3 := Lib.hid (bx_keep X2.out hk (by have h0 := P0.out; have hlX := LX.out; omega))
  clear hk hc hx0 hx1 K2 C2 Z2 X2
  by_cases h0 : y = 0
  · subst h0
    go_wp2_with fail
    (with_reducible refine (par _ p A len cap C3.out).mono ?_)
    rintro e w4 ⟨z0, z1, z2, z3, rfl, hk, hc⟩
    have K4 := Lib.hid (K3.out.trans hk)
    have C4 := Lib.hid (hc)
    have Z4 := Lib.hid (bx_keep Z3.out hk (by have h0 := P0.out; have hlX := LX.out; omega))
    have X4 := Lib.hid (bx_keep X3.out hk (by have h0 := P0.out; have hlX := LX.out; omega))
    clear hk hc  K3 C3 Z3 X3
    have cX0 : w4.cell? ⟨b, 0, none⟩ = some (.int .i64 a1) := X4.out.cell 0
    have cX1 : w4.cell? ⟨b, 1, none⟩ = some (.int .i64 b1) := X4.out.cell 1
    have cX2 : w4.cell? ⟨b, 2, none⟩ = some (.int .i64 c1) := X4.out.cell 2
    have cX3 : w4.cell? ⟨b, 3, none⟩ = some (.int .i64 d1) := X4.out.cell 3
    have fX0 : w4.frozen? ⟨b, 0, none⟩ = false := X4.out.free 0
    have fX1 : w4.frozen? ⟨b, 1, none⟩ = false := X4.out.free 1
    have fX2 : w4.frozen? ⟨b, 2, none⟩ = false := X4.out.free 2
    have fX3 : w4.frozen? ⟨b, 3, none⟩ = false := X4.out.free 3
    go_upto_region 15 with fail
    clear cX0 cX1 cX2 cX3 fX0 fX1 fX2 fX3
    have BB := Lib.hid (show Below w.heap.size w4 ((((w4.setCell ⟨b, 0, none⟩ (.int .i64 z0)).setCell ⟨b, 1, none⟩ (.int .i64 z1)).setCell ⟨b, 2, none⟩ (.int .i64 z2)).setCell ⟨b, 3, none⟩ (.int .i64 z3)) from ((((Below.refl _ _).setCell (p := ⟨b, 0, none⟩) (by have hlX := LX.out; (try simp only []); omega) _).setCell (p := ⟨b, 1, none⟩) (by have hlX := LX.out; (try simp only []); omega) _).setCell (p := ⟨b, 2, none⟩) (by have hlX := LX.out; (try simp only []); omega) _).setCell (p := ⟨b, 3, none⟩) (by have hlX := LX.out; (try simp only []); omega) _)
    have K5 := Lib.hid (later K4.out (Nat.le_refl _) BB.out)
    have C5 := Lib.hid (cur_later CW.out K4.out C4.out (Nat.le_refl _) BB.out)
    have Z5 := Lib.hid (show Bx 28 ((((w4.setCell ⟨b, 0, none⟩ (.int .i64 z0)).setCell ⟨b, 1, none⟩ (.int .i64 z1)).setCell ⟨b, 2, none⟩ (.int .i64 z2)).setCell ⟨b, 3, none⟩ (.int .i64 z3)) (w.heap.size) #[.int .i64 0, .int .i64 0, .int .i64 0, .int .i64 0, .int .i64 0, .int .i64 0, .int .i64 0, .int .i64 0, .int .i64 0] from ((((Z4.out.other (by have hlX := LX.out; omega) _ _).other (by have hlX := LX.out; omega) _ _).other (by have hlX := LX.out; omega) _ _).other (by have hlX := LX.out; omega) _ _))
    have X5 := Lib.hid (show Bx 28 ((((w4.setCell ⟨b, 0, none⟩ (.int .i64 z0)).setCell ⟨b, 1, none⟩ (.int .i64 z1)).setCell ⟨b, 2, none⟩ (.int .i64 z2)).setCell ⟨b, 3, none⟩ (.int .i64 z3)) (b) #[.int .i64 z0, .int .i64 z1, .int .i64 z2, .int .i64 z3, .int .i64 x1, .int .i64 t1, .int .i64 j1, .int .i64 r1, .int .i64 n1] from ((((X4.out.set 0 _).set 1 _).set 2 _).set 3 _))
    clear BB K4 C4 Z4 X4
    obtain ⟨w5, hW⟩ : ∃ w9, ((((w4.setCell ⟨b, 0, none⟩ (.int .i64 z0)).setCell ⟨b, 1, none⟩ (.int .i64 z1)).setCell ⟨b, 2, none⟩ (.int .i64 z2)).setCell ⟨b, 3, none⟩ (.int .i64 z3)) = w9 := ⟨_, rfl⟩
    rw [hW] at K5 C5 Z5 X5 ⊢
    clear hW
    go_wp2_with (first
      | (refine list_load rfl 28 _ rfl (b) rfl 28 _ X5.out Tryd.underlying28 rfl szB ?_)
      | (refine list_store rfl 28 _ _ rfl (w.heap.size) #[.int .i64 z0, .int .i64 z1, .int .i64 z2, .int .i64 z3, .int .i64 x1, .int .i64 t1, .int .i64 j1, .int .i64 r1, .int .i64 n1] rfl rfl 28 _ Z5.out rfl szB (one9 _ _ _ _ _ _ _ _ _) ?_; intro wz hz))
    have K6 := Lib.hid (later K5.out (by have hlX := LX.out; omega) hz.below)
    have C6 := Lib.hid (cur_later CW.out K5.out C5.out (by have hlX := LX.out; omega) hz.below)
    have Z6 := Lib.hid (hz.box)
    have X6 := Lib.hid (hz.keep X5.out (by have hlX := LX.out; omega))
    clear hz K5 C5 Z5 X5
    (try simp only [Exit.inBlock, Exit.then])
    refine bodyPost_ret (v := .agg #[.int .i64 z0, .int .i64 z1, .int .i64 z2, .int .i64 z3, .int .i64 x1, .int .i64 t1, .int .i64 j1, .int .i64 r1, .int .i64 n1]) ?_ rfl ?_
    · rw [results_cell1 rfl]
      exact back Z6.out Tryd.underlying28 rfl szB
    · exact ⟨⟨z0, z1, z2, z3, x1, t1, j1, r1, n1⟩, rfl, K6.out, C6.out⟩
  · by_cases h1 : y = 1
    · subst h1
      go_wp2_with fail
      (with_reducible refine (pickIn 0 2047 6 (by omega) (by omega) _ p A len cap C3.out #[.int .i64 0, .int .i64 6, .int .i64 7, .int .i64 15, .int .i64 1023, .int .i64 2047] rfl (by decide)).mono ?_)
      rintro e w4 ⟨v, rfl, hv0, hv1, hk, hc⟩
      have K4 := Lib.hid (K3.out.trans hk)
      have C4 := Lib.hid (hc)
      have Z4 := Lib.hid (bx_keep Z3.out hk (by have h0 := P0.out; have hlX := LX.out; omega))
      have X4 := Lib.hid (bx_keep X3.out hk (by have h0 := P0.out; have hlX := LX.out; omega))
      clear hk hc hv0 hv1 K3 C3 Z3 X3
      have cX4 : w4.cell? ⟨b, 4, none⟩ = some (.int .i64 x1) := X4.out.cell 4
      have fX4 : w4.frozen? ⟨b, 4, none⟩ = false := X4.out.free 4
      go_upto_region 15 with fail
      clear cX4 fX4
      have BB := Lib.hid (show Below w.heap.size w4 (w4.setCell ⟨b, 4, none⟩ (.int .i64 v)) from (Below.refl _ _).setCell (p := ⟨b, 4, none⟩) (by have hlX := LX.out; (try simp only []); omega) _)
      have K5 := Lib.hid (later K4.out (Nat.le_refl _) BB.out)
      have C5 := Lib.hid (cur_later CW.out K4.out C4.out (Nat.le_refl _) BB.out)
      have Z5 := Lib.hid (show Bx 28 (w4.setCell ⟨b, 4, none⟩ (.int .i64 v)) (w.heap.size) #[.int .i64 0, .int .i64 0, .int .i64 0, .int .i64 0, .int .i64 0, .int .i64 0, .int .i64 0, .int .i64 0, .int .i64 0] from (Z4.out.other (by have hlX := LX.out; omega) _ _))
      have X5 := Lib.hid (show Bx 28 (w4.setCell ⟨b, 4, none⟩ (.int .i64 v)) (b) #[.int .i64 a1, .int .i64 b1, .int .i64 c1, .int .i64 d1, .int .i64 v, .int .i64 t1, .int .i64 j1, .int .i64 r1, .int .i64 n1] from (X4.out.set 4 _))
      clear BB K4 C4 Z4 X4
      obtain ⟨w5, hW⟩ : ∃ w9, (w4.setCell ⟨b, 4, none⟩ (.int .i64 v)) = w9 := ⟨_, rfl⟩
      rw [hW] at K5 C5 Z5 X5 ⊢
      clear hW
      go_wp2_with (first
        | (refine list_load rfl 28 _ rfl (b) rfl 28 _ X5.out Tryd.underlying28 rfl szB ?_)
        | (refine list_store rfl 28 _ _ rfl (w.heap.size) #[.int .i64 a1, .int .i64 b1, .int .i64 c1, .int .i64 d1, .int .i64 v, .int .i64 t1, .int .i64 j1, .int .i64 r1, .int .i64 n1] rfl rfl 28 _ Z5.out rfl szB (one9 _ _ _ _ _ _ _ _ _) ?_; intro wz hz))
      have K6 := Lib.hid (later K5.out (by have hlX := LX.out; omega) hz.below)
      have C6 := Lib.hid (cur_later CW.out K5.out C5.out (by have hlX := LX.out; omega) hz.below)
      have Z6 := Lib.hid (hz.box)
      have X6 := Lib.hid (hz.keep X5.out (by have hlX := LX.out; omega))
      clear hz K5 C5 Z5 X5
      (try simp only [Exit.inBlock, Exit.then])
      refine bodyPost_ret (v := .agg #[.int .i64 a1, .int .i64 b1, .int .i64 c1, .int .i64 d1, .int .i64 v, .int .i64 t1, .int .i64 j1, .int .i64 r1, .int .i64 n1]) ?_ rfl ?_
      · rw [results_cell1 rfl]
        exact back Z6.out Tryd.underlying28 rfl szB
      · exact ⟨⟨a1, b1, c1, d1, v, t1, j1, r1, n1⟩, rfl, K6.out, C6.out⟩
    · by_cases h2 : y = 2
      · subst h2
        have q5 : 1 ≤ x1 ∧ x1 ≤ 1023 := by exact win_in V1.out.win
        obtain ⟨g, hg⟩ : ∃ g, x1 + 1 = g := ⟨_, rfl⟩
        have m1 : IntKind.i64.wrap g = g := IntWalk.i64_in _ (by omega)
        have HO := Lib.hid (show [.int .i64 (-1), .int .i64 0, .int .i64 x1, .int .i64 g].all (okInt (-1) 2000) = true by simp [okInt]; omega)
        clear q5
        have cX4 : w3.cell? ⟨b, 4, none⟩ = some (.int .i64 x1) := X3.out.cell 4
        go_wp2_with fail
        clear cX4
        clear m1 hg
        (with_reducible refine (pickIn (-1) 2000 4 (by omega) (by omega) _ p A len cap C3.out #[.int .i64 (-1), .int .i64 0, .int .i64 x1, .int .i64 g] rfl HO.out).mono ?_)
        rintro e w4 ⟨v, rfl, hv0, hv1, hk, hc⟩
        have K4 := Lib.hid (K3.out.trans hk)
        have C4 := Lib.hid (hc)
        have Z4 := Lib.hid (bx_keep Z3.out hk (by have h0 := P0.out; have hlX := LX.out; omega))
        have X4 := Lib.hid (bx_keep X3.out hk (by have h0 := P0.out; have hlX := LX.out; omega))
        clear hk hc hv0 hv1 K3 C3 Z3 X3
        have cX5 : w4.cell? ⟨b, 5, none⟩ = some (.int .i64 t1) := X4.out.cell 5
        have fX5 : w4.frozen? ⟨b, 5, none⟩ = false := X4.out.free 5
        go_upto_region 15 with fail
        clear cX5 fX5
        have BB := Lib.hid (show Below w.heap.size w4 (w4.setCell ⟨b, 5, none⟩ (.int .i64 v)) from (Below.refl _ _).setCell (p := ⟨b, 5, none⟩) (by have hlX := LX.out; (try simp only []); omega) _)
        have K5 := Lib.hid (later K4.out (Nat.le_refl _) BB.out)
        have C5 := Lib.hid (cur_later CW.out K4.out C4.out (Nat.le_refl _) BB.out)
        have Z5 := Lib.hid (show Bx 28 (w4.setCell ⟨b, 5, none⟩ (.int .i64 v)) (w.heap.size) #[.int .i64 0, .int .i64 0, .int .i64 0, .int .i64 0, .int .i64 0, .int .i64 0, .int .i64 0, .int .i64 0, .int .i64 0] from (Z4.out.other (by have hlX := LX.out; omega) _ _))
        have X5 := Lib.hid (show Bx 28 (w4.setCell ⟨b, 5, none⟩ (.int .i64 v)) (b) #[.int .i64 a1, .int .i64 b1, .int .i64 c1, .int .i64 d1, .int .i64 x1, .int .i64 v, .int .i64 j1, .int .i64 r1, .int .i64 n1] from (X4.out.set 5 _))
        clear BB K4 C4 Z4 X4
        obtain ⟨w5, hW⟩ : ∃ w9, (w4.setCell ⟨b, 5, none⟩ (.int .i64 v)) = w9 := ⟨_, rfl⟩
        rw [hW] at K5 C5 Z5 X5 ⊢
        clear hW
        go_wp2_with (first
          | (refine list_load rfl 28 _ rfl (b) rfl 28 _ X5.out Tryd.underlying28 rfl szB ?_)
          | (refine list_store rfl 28 _ _ rfl (w.heap.size) #[.int .i64 a1, .int .i64 b1, .int .i64 c1, .int .i64 d1, .int .i64 x1, .int .i64 v, .int .i64 j1, .int .i64 r1, .int .i64 n1] rfl rfl 28 _ Z5.out rfl szB (one9 _ _ _ _ _ _ _ _ _) ?_; intro wz hz))
        have K6 := Lib.hid (later K5.out (by have hlX := LX.out; omega) hz.below)
        have C6 := Lib.hid (cur_later CW.out K5.out C5.out (by have hlX := LX.out; omega) hz.below)
        have Z6 := Lib.hid (hz.box)
        have X6 := Lib.hid (hz.keep X5.out (by have hlX := LX.out; omega))
        clear hz K5 C5 Z5 X5
        (try simp only [Exit.inBlock, Exit.then])
        refine bodyPost_ret (v := .agg #[.int .i64 a1, .int .i64 b1, .int .i64 c1, .int .i64 d1, .int .i64 x1, .int .i64 v, .int .i64 j1, .int .i64 r1, .int .i64 n1]) ?_ rfl ?_
        · rw [results_cell1 rfl]
          exact back Z6.out Tryd.underlying28 rfl szB
        · exact ⟨⟨a1, b1, c1, d1, x1, v, j1, r1, n1⟩, rfl, K6.out, C6.out⟩
      · by_cases h3 : y = 3
        · subst h3
          have q5 : 1 ≤ a1 ∧ a1 ≤ 1023 := by have h : 1 ≤ a1 ∧ a1 ≤ 15 := V1.out.par.aifs; omega
          obtain ⟨g, hg⟩ : ∃ g, a1 + 1 = g := ⟨_, rfl⟩
          have m1 : IntKind.i64.wrap g = g := IntWalk.i64_in _ (by omega)
          have HO := Lib.hid (show [.int .i64 (-1), .int .i64 a1, .int .i64 g].all (okInt (-1) 2000) = true by simp [okInt]; omega)
          clear q5
          have cX0 : w3.cell? ⟨b, 0, none⟩ = some (.int .i64 a1) := X3.out.cell 0
          go_wp2_with fail
          clear cX0
          clear m1 hg
          (with_reducible refine (pickIn (-1) 2000 3 (by omega) (by omega) _ p A len cap C3.out #[.int .i64 (-1), .int .i64 a1, .int .i64 g] rfl HO.out).mono ?_)
          rintro e w4 ⟨v, rfl, hv0, hv1, hk, hc⟩
          have K4 := Lib.hid (K3.out.trans hk)
          have C4 := Lib.hid (hc)
          have Z4 := Lib.hid (bx_keep Z3.out hk (by have h0 := P0.out; have hlX := LX.out; omega))
          have X4 := Lib.hid (bx_keep X3.out hk (by have h0 := P0.out; have hlX := LX.out; omega))
          clear hk hc hv0 hv1 K3 C3 Z3 X3
          have cX6 : w4.cell? ⟨b, 6, none⟩ = some (.int .i64 j1) := X4.out.cell 6
          have fX6 : w4.frozen? ⟨b, 6, none⟩ = false := X4.out.free 6
          go_upto_region 15 with fail
          clear cX6 fX6
          have BB := Lib.hid (show Below w.heap.size w4 (w4.setCell ⟨b, 6, none⟩ (.int .i64 v)) from (Below.refl _ _).setCell (p := ⟨b, 6, none⟩) (by have hlX := LX.out; (try simp only []); omega) _)
          have K5 := Lib.hid (later K4.out (Nat.le_refl _) BB.out)
          have C5 := Lib.hid (cur_later CW.out K4.out C4.out (Nat.le_refl _) BB.out)
          have Z5 := Lib.hid (show Bx 28 (w4.setCell ⟨b, 6, none⟩ (.int .i64 v)) (w.heap.size) #[.int .i64 0, .int .i64 0, .int .i64 0, .int .i64 0, .int .i64 0, .int .i64 0, .int .i64 0, .int .i64 0, .int .i64 0] from (Z4.out.other (by have hlX := LX.out; omega) _ _))
          have X5 := Lib.hid (show Bx 28 (w4.setCell ⟨b, 6, none⟩ (.int .i64 v)) (b) #[.int .i64 a1, .int .i64 b1, .int .i64 c1, .int .i64 d1, .int .i64 x1, .int .i64 t1, .int .i64 v, .int .i64 r1, .int .i64 n1] from (X4.out.set 6 _))
          clear BB K4 C4 Z4 X4
          obtain ⟨w5, hW⟩ : ∃ w9, (w4.setCell ⟨b, 6, none⟩ (.int .i64 v)) = w9 := ⟨_, rfl⟩
          rw [hW] at K5 C5 Z5 X5 ⊢
          clear hW
          go_wp2_with (first
            | (refine list_load rfl 28 _ rfl (b) rfl 28 _ X5.out Tryd.underlying28 rfl szB ?_)
            | (refine list_store rfl 28 _ _ rfl (w.heap.size) #[.int .i64 a1, .int .i64 b1, .int .i64 c1, .int .i64 d1, .int .i64 x1, .int .i64 t1, .int .i64 v, .int .i64 r1, .int .i64 n1] rfl rfl 28 _ Z5.out rfl szB (one9 _ _ _ _ _ _ _ _ _) ?_; intro wz hz))
          have K6 := Lib.hid (later K5.out (by have hlX := LX.out; omega) hz.below)
          have C6 := Lib.hid (cur_later CW.out K5.out C5.out (by have hlX := LX.out; omega) hz.below)
          have Z6 := Lib.hid (hz.box)
          have X6 := Lib.hid (hz.keep X5.out (by have hlX := LX.out; omega))
          clear hz K5 C5 Z5 X5
          (try simp only [Exit.inBlock, Exit.then])
          refine bodyPost_ret (v := .agg #[.int .i64 a1, .int .i64 b1, .int .i64 c1, .int .i64 d1, .int .i64 x1, .int .i64 t1, .int .i64 v, .int .i64 r1, .int .i64 n1]) ?_ rfl ?_
          · rw [results_cell1 rfl]
            exact back Z6.out Tryd.underlying28 rfl szB
          · exact ⟨⟨a1, b1, c1, d1, x1, t1, v, r1, n1⟩, rfl, K6.out, C6.out⟩
        · by_cases h4 : y = 4
          · subst h4
            go_wp2_with fail
            (with_reducible refine (pickIn (-1) 8 3 (by omega) (by omega) _ p A len cap C3.out #[.int .i64 (-1), .int .i64 7, .int .i64 8] rfl (by decide)).mono ?_)
            rintro e w4 ⟨v, rfl, hv0, hv1, hk, hc⟩
            have K4 := Lib.hid (K3.out.trans hk)
            have C4 := Lib.hid (hc)
            have Z4 := Lib.hid (bx_keep Z3.out hk (by have h0 := P0.out; have hlX := LX.out; omega))
            have X4 := Lib.hid (bx_keep X3.out hk (by have h0 := P0.out; have hlX := LX.out; omega))
            clear hk hc hv0 hv1 K3 C3 Z3 X3
            have cX7 : w4.cell? ⟨b, 7, none⟩ = some (.int .i64 r1) := X4.out.cell 7
            have fX7 : w4.frozen? ⟨b, 7, none⟩ = false := X4.out.free 7
            go_upto_region 15 with fail
            clear cX7 fX7
            have BB := Lib.hid (show Below w.heap.size w4 (w4.setCell ⟨b, 7, none⟩ (.int .i64 v)) from (Below.refl _ _).setCell (p := ⟨b, 7, none⟩) (by have hlX := LX.out; (try simp only []); omega) _)
            have K5 := Lib.hid (later K4.out (Nat.le_refl _) BB.out)
            have C5 := Lib.hid (cur_later CW.out K4.out C4.out (Nat.le_refl _) BB.out)
            have Z5 := Lib.hid (show Bx 28 (w4.setCell ⟨b, 7, none⟩ (.int .i64 v)) (w.heap.size) #[.int .i64 0, .int .i64 0, .int .i64 0, .int .i64 0, .int .i64 0, .int .i64 0, .int .i64 0, .int .i64 0, .int .i64 0] from (Z4.out.other (by have hlX := LX.out; omega) _ _))
            have X5 := Lib.hid (show Bx 28 (w4.setCell ⟨b, 7, none⟩ (.int .i64 v)) (b) #[.int .i64 a1, .int .i64 b1, .int .i64 c1, .int .i64 d1, .int .i64 x1, .int .i64 t1, .int .i64 j1, .int .i64 v, .int .i64 n1] from (X4.out.set 7 _))
            clear BB K4 C4 Z4 X4
            obtain ⟨w5, hW⟩ : ∃ w9, (w4.setCell ⟨b, 7, none⟩ (.int .i64 v)) = w9 := ⟨_, rfl⟩
            rw [hW] at K5 C5 Z5 X5 ⊢
            clear hW
            go_wp2_with (first
              | (refine list_load rfl 28 _ rfl (b) rfl 28 _ X5.out Tryd.underlying28 rfl szB ?_)
              | (refine list_store rfl 28 _ _ rfl (w.heap.size) #[.int .i64 a1, .int .i64 b1, .int .i64 c1, .int .i64 d1, .int .i64 x1, .int .i64 t1, .int .i64 j1, .int .i64 v, .int .i64 n1] rfl rfl 28 _ Z5.out rfl szB (one9 _ _ _ _ _ _ _ _ _) ?_; intro wz hz))
            have K6 := Lib.hid (later K5.out (by have hlX := LX.out; omega) hz.below)
            have C6 := Lib.hid (cur_later CW.out K5.out C5.out (by have hlX := LX.out; omega) hz.below)
            have Z6 := Lib.hid (hz.box)
            have X6 := Lib.hid (hz.keep X5.out (by have hlX := LX.out; omega))
            clear hz K5 C5 Z5 X5
            (try simp only [Exit.inBlock, Exit.then])
            refine bodyPost_ret (v := .agg #[.int .i64 a1, .int .i64 b1, .int .i64 c1, .int .i64 d1, .int .i64 x1, .int .i64 t1, .int .i64 j1, .int .i64 v, .int .i64 n1]) ?_ rfl ?_
            · rw [results_cell1 rfl]
              exact back Z6.out Tryd.underlying28 rfl szB
            · exact ⟨⟨a1, b1, c1, d1, x1, t1, j1, v, n1⟩, rfl, K6.out, C6.out⟩
          · by_cases h5 : y = 5
            · subst h5
              go_wp2_with fail
              (with_reducible refine (pickIn (-1) 1000000000001 3 (by omega) (by omega) _ p A len cap C3.out #[.int .i64 (-1), .int .i64 1000000000000, .int .i64 1000000000001] rfl (by decide)).mono ?_)
              rintro e w4 ⟨v, rfl, hv0, hv1, hk, hc⟩
              have K4 := Lib.hid (K3.out.trans hk)
              have C4 := Lib.hid (hc)
              have Z4 := Lib.hid (bx_keep Z3.out hk (by have h0 := P0.out; have hlX := LX.out; omega))
              have X4 := Lib.hid (bx_keep X3.out hk (by have h0 := P0.out; have hlX := LX.out; omega))
              clear hk hc hv0 hv1 K3 C3 Z3 X3
              have cX8 : w4.cell? ⟨b, 8, none⟩ = some (.int .i64 n1) := X4.out.cell 8
              have fX8 : w4.frozen? ⟨b, 8, none⟩ = false := X4.out.free 8
              go_upto_region 15 with fail
              clear cX8 fX8
              have BB := Lib.hid (show Below w.heap.size w4 (w4.setCell ⟨b, 8, none⟩ (.int .i64 v)) from (Below.refl _ _).setCell (p := ⟨b, 8, none⟩) (by have hlX := LX.out; (try simp only []); omega) _)
              have K5 := Lib.hid (later K4.out (Nat.le_refl _) BB.out)
              have C5 := Lib.hid (cur_later CW.out K4.out C4.out (Nat.le_refl _) BB.out)
              have Z5 := Lib.hid (show Bx 28 (w4.setCell ⟨b, 8, none⟩ (.int .i64 v)) (w.heap.size) #[.int .i64 0, .int .i64 0, .int .i64 0, .int .i64 0, .int .i64 0, .int .i64 0, .int .i64 0, .int .i64 0, .int .i64 0] from (Z4.out.other (by have hlX := LX.out; omega) _ _))
              have X5 := Lib.hid (show Bx 28 (w4.setCell ⟨b, 8, none⟩ (.int .i64 v)) (b) #[.int .i64 a1, .int .i64 b1, .int .i64 c1, .int .i64 d1, .int .i64 x1, .int .i64 t1, .int .i64 j1, .int .i64 r1, .int .i64 v] from (X4.out.set 8 _))
              clear BB K4 C4 Z4 X4
              obtain ⟨w5, hW⟩ : ∃ w9, (w4.setCell ⟨b, 8, none⟩ (.int .i64 v)) = w9 := ⟨_, rfl⟩
              rw [hW] at K5 C5 Z5 X5 ⊢
              clear hW
              go_wp2_with (first
                | (refine list_load rfl 28 _ rfl (b) rfl 28 _ X5.out Tryd.underlying28 rfl szB ?_)
                | (refine list_store rfl 28 _ _ rfl (w.heap.size) #[.int .i64 a1, .int .i64 b1, .int .i64 c1, .int .i64 d1, .int .i64 x1, .int .i64 t1, .int .i64 j1, .int .i64 r1, .int .i64 v] rfl rfl 28 _ Z5.out rfl szB (one9 _ _ _ _ _ _ _ _ _) ?_; intro wz hz))
              have K6 := Lib.hid (later K5.out (by have hlX := LX.out; omega) hz.below)
              have C6 := Lib.hid (cur_later CW.out K5.out C5.out (by have hlX := LX.out; omega) hz.below)
              have Z6 := Lib.hid (hz.box)
              have X6 := Lib.hid (hz.keep X5.out (by have hlX := LX.out; omega))
              clear hz K5 C5 Z5 X5
              (try simp only [Exit.inBlock, Exit.then])
              refine bodyPost_ret (v := .agg #[.int .i64 a1, .int .i64 b1, .int .i64 c1, .int .i64 d1, .int .i64 x1, .int .i64 t1, .int .i64 j1, .int .i64 r1, .int .i64 v]) ?_ rfl ?_
              · rw [results_cell1 rfl]
                exact back Z6.out Tryd.underlying28 rfl szB
              · exact ⟨⟨a1, b1, c1, d1, x1, t1, j1, r1, v⟩, rfl, K6.out, C6.out⟩
            · have e0 : (y == 0) = false := by simpa using h0
              have e1 : (y == 1) = false := by simpa using h1
              have e2 : (y == 2) = false := by simpa using h2
              have e3 : (y == 3) = false := by simpa using h3
              have e4 : (y == 4) = false := by simpa using h4
              have e5 : (y == 5) = false := by simpa using h5
              clear h0 h1 h2 h3 h4 h5
              go_wp2_with (first
                | (refine list_load rfl 28 _ rfl (b) rfl 28 _ X3.out Tryd.underlying28 rfl szB ?_)
                | (refine list_store rfl 28 _ _ rfl (w.heap.size) #[.int .i64 a1, .int .i64 b1, .int .i64 c1, .int .i64 d1, .int .i64 x1, .int .i64 t1, .int .i64 j1, .int .i64 r1, .int .i64 n1] rfl rfl 28 _ Z3.out rfl szB (one9 _ _ _ _ _ _ _ _ _) ?_; intro wz hz))
              have K4 := Lib.hid (later K3.out (by have hlX := LX.out; omega) hz.below)
              have C4 := Lib.hid (cur_later CW.out K3.out C3.out (by have hlX := LX.out; omega) hz.below)
              have Z4 := Lib.hid (hz.box)
              have X4 := Lib.hid (hz.keep X3.out (by have hlX := LX.out; omega))
              clear hz K3 C3 Z3 X3
              (try simp only [Exit.inBlock, Exit.then])
              refine bodyPost_ret (v := .agg #[.int .i64 a1, .int .i64 b1, .int .i64 c1, .int .i64 d1, .int .i64 x1, .int .i64 t1, .int .i64 j1, .int .i64 r1, .int .i64 n1]) ?_ rfl ?_
              · rw [results_cell1 rfl]
                exact back Z4.out Tryd.underlying28 rfl szB
              · exact ⟨⟨a1, b1, c1, d1, x1, t1, j1, r1, n1⟩, rfl, K4.out, C4.out⟩
/-- Any backoff, of a draw. -/
def DwPost (w : World) (e : Ending) (w' : World) : Prop := ∃ q : Bo, e = .returned (.agg (bv q)) ∧ Below w.heap.size w w'
/-- .. and a seed. -/
def DsPost (w : World) (e : Ending) (w' : World) : Prop := ∃ (q : Bo) (n : Int), e = .returned (.tuple #[.agg (bv q), .int .i64 n]) ∧ (Lit.int .i64 n).wf = true ∧ Below w.heap.size w w'
end Go.Proofs.YtkfkfejjhfkobaaDoor.draw
