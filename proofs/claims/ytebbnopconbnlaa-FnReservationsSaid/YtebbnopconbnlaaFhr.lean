/- The harness's functions over frames: copy, size, comparison, marks. Condition: sizes up to 2^26. -/
import Derived.Test.YtebbnopconbnlaaFbx
namespace Go.Proofs.Ytebbnopconbnlaa.fbx
open Go.RowKit sl harn rng frm
set_option linter.unusedVariables false
/-- A frame that a function hands back: its body is the call's own. -/
def FPost (x : Fm) (w : World) (e : Ending) (w' : World) : Prop :=
  ∃ A n cap, e = .returned (.agg #[.int .i64 x.k, .int .i64 x.f, .int .i64 x.t, .int .i64 x.s, .int .i64 x.g, .bool x.m, .bool x.r, .int .i64 x.d, .slice A n cap]) ∧ Ow 5 .u8 w' w.heap.size w'.heap.size A n cap x.z ∧ Below w.heap.size w w'
/-- The same with a bool. -/
def DPost (t : Fm × Bool) (w : World) (e : Ending) (w' : World) : Prop :=
  ∃ A n cap, e = .returned (.tuple #[.agg #[.int .i64 t.1.k, .int .i64 t.1.f, .int .i64 t.1.t, .int .i64 t.1.s, .int .i64 t.1.g, .bool t.1.m, .bool t.1.r, .int .i64 t.1.d, .slice A n cap], .bool t.2]) ∧ Ow 5 .u8 w' w.heap.size w'.heap.size A n cap t.1.z ∧ Below w.heap.size w w'
theorem DPost.parts {t : Fm × Bool} {k f t' s g : Int} {m r : Bool} {d : Int} {z : List Int} {b : Bool} (ht : t = (⟨k, f, t', s, g, m, r, d, z⟩, b)) {w w' : World} {e : Ending} (h : DPost t w e w') :
    ∃ A n cap, e = .returned (.tuple #[.agg #[.int .i64 k, .int .i64 f, .int .i64 t', .int .i64 s, .int .i64 g, .bool m, .bool r, .int .i64 d, .slice A n cap], .bool b]) ∧ Ow 5 .u8 w' w.heap.size w'.heap.size A n cap z ∧ Below w.heap.size w w' := by
  subst ht; exact h
theorem DPost.make {t : Fm × Bool} {k f t' s g : Int} {m r : Bool} {d : Int} {z : List Int} {b : Bool} (ht : t = (⟨k, f, t', s, g, m, r, d, z⟩, b)) {w w' : World} {A : Option Addr} {n cap hi : Nat} (ho : Ow 5 .u8 w' w.heap.size hi A n cap z) (h : Below w.heap.size w w') :
    DPost t w (.returned (.tuple #[.agg #[.int .i64 k, .int .i64 f, .int .i64 t', .int .i64 s, .int .i64 g, .bool m, .bool r, .int .i64 d, .slice A n cap], .bool b])) w' := by
  subst ht; exact ⟨_, _, _, rfl, ho.up, h⟩
theorem ow_none (E : TypeId) (k : IntKind) (w : World) (lo hi : Nat) (h : hi ≤ w.heap.size) : Ow E k w lo hi none 0 0 [] :=
  ⟨⟨by simp, .inl ⟨rfl, rfl⟩⟩, Wf.nil k, h, fun _ _ e => by cases e⟩
/-- Nine cells written into one block. -/
theorem below_nine {B c : Nat} {a w : World} (h : Below B a w) (hc : B ≤ c) (v0 v1 v2 v3 v4 v5 v6 v7 v8 : Value) :
    Below B a (((((((((w.setCell ⟨c, 0, none⟩ v0).setCell ⟨c, 1, none⟩ v1).setCell ⟨c, 2, none⟩ v2).setCell ⟨c, 3, none⟩ v3).setCell ⟨c, 4, none⟩ v4).setCell ⟨c, 5, none⟩ v5).setCell ⟨c, 6, none⟩ v6).setCell ⟨c, 7, none⟩ v7).setCell ⟨c, 8, none⟩ v8) :=
  ((((((((h.setCell (p := ⟨c, 0, none⟩) hc v0).setCell (p := ⟨c, 1, none⟩) hc v1).setCell (p := ⟨c, 2, none⟩) hc v2).setCell (p := ⟨c, 3, none⟩) hc v3).setCell (p := ⟨c, 4, none⟩) hc v4).setCell (p := ⟨c, 5, none⟩) hc v5).setCell (p := ⟨c, 6, none⟩) hc v6).setCell (p := ⟨c, 7, none⟩) hc v7).setCell (p := ⟨c, 8, none⟩) hc v8
theorem size_nine (w : World) (c : Nat) (v0 v1 v2 v3 v4 v5 v6 v7 v8 : Value) :
    (((((((((w.setCell ⟨c, 0, none⟩ v0).setCell ⟨c, 1, none⟩ v1).setCell ⟨c, 2, none⟩ v2).setCell ⟨c, 3, none⟩ v3).setCell ⟨c, 4, none⟩ v4).setCell ⟨c, 5, none⟩ v5).setCell ⟨c, 6, none⟩ v6).setCell ⟨c, 7, none⟩ v7).setCell ⟨c, 8, none⟩ v8).heap.size = w.heap.size := by simp [World.setCell]
theorem block_nine (w : World) (c b : Nat) (h : b ≠ c) (v0 v1 v2 v3 v4 v5 v6 v7 v8 : Value) :
    (((((((((w.setCell ⟨c, 0, none⟩ v0).setCell ⟨c, 1, none⟩ v1).setCell ⟨c, 2, none⟩ v2).setCell ⟨c, 3, none⟩ v3).setCell ⟨c, 4, none⟩ v4).setCell ⟨c, 5, none⟩ v5).setCell ⟨c, 6, none⟩ v6).setCell ⟨c, 7, none⟩ v7).setCell ⟨c, 8, none⟩ v8).heap[b]? = w.heap[b]? := by
  rw [Below.heap_setCell _ _ _ _ h, Below.heap_setCell _ _ _ _ h, Below.heap_setCell _ _ _ _ h, Below.heap_setCell _ _ _ _ h, Below.heap_setCell _ _ _ _ h, Below.heap_setCell _ _ _ _ h, Below.heap_setCell _ _ _ _ h, Below.heap_setCell _ _ _ _ h, Below.heap_setCell _ _ _ _ h]
theorem ow_nine {E : TypeId} {k : IntKind} {w : World} {lo hi n cap : Nat} {A : Option Addr} {zs : List Int} (h : Ow E k w lo hi A n cap zs) {c : Nat} (hc : c < lo) (v0 v1 v2 v3 v4 v5 v6 v7 v8 : Value) :
    Ow E k (((((((((w.setCell ⟨c, 0, none⟩ v0).setCell ⟨c, 1, none⟩ v1).setCell ⟨c, 2, none⟩ v2).setCell ⟨c, 3, none⟩ v3).setCell ⟨c, 4, none⟩ v4).setCell ⟨c, 5, none⟩ v5).setCell ⟨c, 6, none⟩ v6).setCell ⟨c, 7, none⟩ v7).setCell ⟨c, 8, none⟩ v8) lo hi A n cap zs :=
  h.same (by rw [size_nine]; exact Nat.le_refl _) fun b h1 h2 => block_nine w c b (by omega) v0 v1 v2 v3 v4 v5 v6 v7 v8

set_option maxRecDepth 100000 in
set_option maxHeartbeats 4000000 in
theorem toMac (k f t s g : Int) (m r : Bool) (d : Int) (A : Option Addr) (n cap : Nat) (z : List Int) (lo hi : Nat) (w : World) (h : Rd .u8 w lo hi A n cap z) (hn : n ≤ 67108864) :
    Calls Try.prog 30 #[.agg #[.int .i64 k, .int .i64 f, .int .i64 t, .int .i64 s, .int .i64 g, .bool m, .bool r, .int .i64 d, .slice A n cap]] w (FPost ⟨k, f, t, s, g, m, r, d, z⟩ w) := by
  have HR := Lib.hid h
  clear h
  go_enter Try.func30, Try.ntmps30
  go_wp2_with fail
  obtain ⟨w0, hW⟩ : ∃ w0, ((w.alloc (.cells #[.int .i64 k, .int .i64 f, .int .i64 t, .int .i64 s, .int .i64 g, .bool m, .bool r, .int .i64 d, .slice A n cap] 43)).alloc (.cells #[.int .i64 0, .int .i64 0, .int .i64 0, .int .i64 0, .int .i64 0, .bool false, .bool false, .int .i64 0, .slice none 0 0] 27)).alloc (.cells #[.int .i64 k, .int .i64 f, .int .i64 t, .int .i64 s, .int .i64 g, .bool m, .bool r, .int .i64 d, .slice none 0 0] 27) = w0 := ⟨_, rfl⟩
  rw [hW]
  have B0 := Lib.hid (show Below w.heap.size w w0 by rw [← hW]; exact (below_box2 w _ _).alloc (by simp; omega) _)
  have X0 := Lib.hid (show Bx 27 w0 (w.heap.size + 1 + 1) #[.int .i64 k, .int .i64 f, .int .i64 t, .int .i64 s, .int .i64 g, .bool m, .bool r, .int .i64 d, .slice none 0 0] by rw [← hW]; have hh := Bx.made 27 ((w.alloc (.cells #[.int .i64 k, .int .i64 f, .int .i64 t, .int .i64 s, .int .i64 g, .bool m, .bool r, .int .i64 d, .slice A n cap] 43)).alloc (.cells #[.int .i64 0, .int .i64 0, .int .i64 0, .int .i64 0, .int .i64 0, .bool false, .bool false, .int .i64 0, .slice none 0 0] 27)) #[.int .i64 k, .int .i64 f, .int .i64 t, .int .i64 s, .int .i64 g, .bool m, .bool r, .int .i64 d, .slice none 0 0]; simpa using hh)
  have Z0 := Lib.hid (show Bx 27 w0 (w.heap.size + 1) #[.int .i64 0, .int .i64 0, .int .i64 0, .int .i64 0, .int .i64 0, .bool false, .bool false, .int .i64 0, .slice none 0 0] by rw [← hW]; have hh := (Bx.made 27 (w.alloc (.cells #[.int .i64 k, .int .i64 f, .int .i64 t, .int .i64 s, .int .i64 g, .bool m, .bool r, .int .i64 d, .slice A n cap] 43)) #[.int .i64 0, .int .i64 0, .int .i64 0, .int .i64 0, .int .i64 0, .bool false, .bool false, .int .i64 0, .slice none 0 0]).below (below_box _ (.cells #[.int .i64 k, .int .i64 f, .int .i64 t, .int .i64 s, .int .i64 g, .bool m, .bool r, .int .i64 d, .slice none 0 0] 27)); simpa using hh)
  have R0 := Lib.hid (HR.out.below B0.out)
  clear hW HR
  (with_reducible refine (harn.toByteS z _ _ A n cap _ R0.out hn).mono ?_)
  rintro e w1 ⟨A1, n1, cap1, rfl, ho, hb⟩
  have O1 := Lib.hid ho
  have B1 := Lib.hid (B0.out.trans (hb.mono B0.out.size))
  have X1 := Lib.hid (X0.out.below hb)
  have Z1 := Lib.hid (Z0.out.below hb)
  have L1 := Lib.hid (show w.heap.size + 1 + 1 < w0.heap.size from X0.out.lt)
  clear ho hb B0 X0 Z0 R0
  have x0 : w1.cell? ⟨w.heap.size + 1 + 1, 0, none⟩ = some (.int .i64 k) := X1.out.cell 0
  have x1 : w1.cell? ⟨w.heap.size + 1 + 1, 1, none⟩ = some (.int .i64 f) := X1.out.cell 1
  have x2 : w1.cell? ⟨w.heap.size + 1 + 1, 2, none⟩ = some (.int .i64 t) := X1.out.cell 2
  have x3 : w1.cell? ⟨w.heap.size + 1 + 1, 3, none⟩ = some (.int .i64 s) := X1.out.cell 3
  have x4 : w1.cell? ⟨w.heap.size + 1 + 1, 4, none⟩ = some (.int .i64 g) := X1.out.cell 4
  have x5 : w1.cell? ⟨w.heap.size + 1 + 1, 5, none⟩ = some (.bool m) := X1.out.cell 5
  have x6 : w1.cell? ⟨w.heap.size + 1 + 1, 6, none⟩ = some (.bool r) := X1.out.cell 6
  have x7 : w1.cell? ⟨w.heap.size + 1 + 1, 7, none⟩ = some (.int .i64 d) := X1.out.cell 7
  have x8 : w1.cell? ⟨w.heap.size + 1 + 1, 8, none⟩ = some (.slice none 0 0) := X1.out.cell 8
  have fx : w1.frozen? ⟨w.heap.size + 1 + 1, 8, none⟩ = false := X1.out.free 8
  have y0 : w1.cell? ⟨w.heap.size + 1, 0, none⟩ = some (.int .i64 0) := Z1.out.cell 0
  have y1 : w1.cell? ⟨w.heap.size + 1, 1, none⟩ = some (.int .i64 0) := Z1.out.cell 1
  have y2 : w1.cell? ⟨w.heap.size + 1, 2, none⟩ = some (.int .i64 0) := Z1.out.cell 2
  have y3 : w1.cell? ⟨w.heap.size + 1, 3, none⟩ = some (.int .i64 0) := Z1.out.cell 3
  have y4 : w1.cell? ⟨w.heap.size + 1, 4, none⟩ = some (.int .i64 0) := Z1.out.cell 4
  have y5 : w1.cell? ⟨w.heap.size + 1, 5, none⟩ = some (.bool false) := Z1.out.cell 5
  have y6 : w1.cell? ⟨w.heap.size + 1, 6, none⟩ = some (.bool false) := Z1.out.cell 6
  have y7 : w1.cell? ⟨w.heap.size + 1, 7, none⟩ = some (.int .i64 0) := Z1.out.cell 7
  have y8 : w1.cell? ⟨w.heap.size + 1, 8, none⟩ = some (.slice none 0 0) := Z1.out.cell 8
  have fy0 : w1.frozen? ⟨w.heap.size + 1, 0, none⟩ = false := Z1.out.free 0
  have fy1 : w1.frozen? ⟨w.heap.size + 1, 1, none⟩ = false := Z1.out.free 1
  have fy2 : w1.frozen? ⟨w.heap.size + 1, 2, none⟩ = false := Z1.out.free 2
  have fy3 : w1.frozen? ⟨w.heap.size + 1, 3, none⟩ = false := Z1.out.free 3
  have fy4 : w1.frozen? ⟨w.heap.size + 1, 4, none⟩ = false := Z1.out.free 4
  have fy5 : w1.frozen? ⟨w.heap.size + 1, 5, none⟩ = false := Z1.out.free 5
  have fy6 : w1.frozen? ⟨w.heap.size + 1, 6, none⟩ = false := Z1.out.free 6
  have fy7 : w1.frozen? ⟨w.heap.size + 1, 7, none⟩ = false := Z1.out.free 7
  have fy8 : w1.frozen? ⟨w.heap.size + 1, 8, none⟩ = false := Z1.out.free 8
  go_wp2_with fail
  (try simp only [Exit.inBlock, Exit.then])
  refine bodyPost_ret (v := .agg #[.int .i64 k, .int .i64 f, .int .i64 t, .int .i64 s, .int .i64 g, .bool m, .bool r, .int .i64 d, .slice A1 n1 cap1]) ?_ rfl ⟨A1, n1, cap1, rfl, ?_, ?_⟩
  · rw [results_cell1 rfl]
    go_simp
  · exact (ow_nine (O1.out.same (by simp [World.setCell]) (fun b h1 _ => Below.heap_setCell _ _ _ _ (by show b ≠ w.heap.size + 1 + 1; have := L1.out; omega))) (by have := L1.out; omega) _ _ _ _ _ _ _ _ _).up.down (by have := L1.out; omega)
  · exact below_nine (B1.out.setCell (p := ⟨w.heap.size + 1 + 1, 8, none⟩) (by show w.heap.size ≤ w.heap.size + 1 + 1; omega) _) (by omega) _ _ _ _ _ _ _ _ _
theorem szB_in (A : Option Addr) (n cap : Nat) (left : Int) (hl : 0 ≤ left ∧ left ≤ 1048576) (hn : (n : Int) ≤ 9223372036854775807) (hle : (n : Int) ≤ left) (w : World) :
    Calls Try.prog 54 #[.slice A n cap, .int .i64 left] w fun e w' => e = .returned (.int .i64 (left - n)) ∧ w = w' := by
  obtain ⟨h0, h1⟩ := hl
  have hd : IntKind.i64.wrap (left - n) = left - n := IntWalk.i64_in _ (by omega)
  have hq : ¬ left - n < 0 := by omega
  go_enter Try.func54, Try.ntmps54
  go_wp2
  go_ret
  exact ⟨rfl, rfl⟩
theorem szB_out (A : Option Addr) (n cap : Nat) (left : Int) (hl : 0 ≤ left ∧ left ≤ 1048576) (hn : (n : Int) ≤ 9223372036854775807) (hle : left < (n : Int)) (w : World) :
    Calls Try.prog 54 #[.slice A n cap, .int .i64 left] w fun e w' => e = .returned (.int .i64 (-1)) ∧ w = w' := by
  obtain ⟨h0, h1⟩ := hl
  have hd : IntKind.i64.wrap (left - n) = left - n := IntWalk.i64_in _ (by omega)
  have hq : left - n < 0 := by omega
  go_enter Try.func54, Try.ntmps54
  go_wp2
  go_ret
  exact ⟨rfl, rfl⟩
theorem sz_in (k f t s g : Int) (m r : Bool) (d : Int) (A : Option Addr) (n cap : Nat) (left : Int) (hl : 0 ≤ left ∧ left ≤ 1048576) (hn : (n : Int) ≤ 9223372036854775807) (hle : (n : Int) ≤ left) (w : World) :
    Calls Try.prog 28 #[.agg #[.int .i64 k, .int .i64 f, .int .i64 t, .int .i64 s, .int .i64 g, .bool m, .bool r, .int .i64 d, .slice A n cap], .int .i64 left] w (NPost (left - n) w) := by
  have HL := Lib.hid hl
  have HN := Lib.hid hn
  have HE := Lib.hid hle
  have hq : ¬ left - n < 0 := by omega
  clear hl hn hle
  go_enter Try.func28, Try.ntmps28
  go_wp2_with fail
  (with_reducible refine (szB_in A n cap left HL.out HN.out HE.out _).mono ?_)
  rintro e w1 ⟨rfl, rfl⟩
  go_wp2_with fail
  go_ret
  exact ⟨rfl, below_box _ _⟩
theorem sz_out (k f t s g : Int) (m r : Bool) (d : Int) (A : Option Addr) (n cap : Nat) (left : Int) (hl : 0 ≤ left ∧ left ≤ 1048576) (hn : (n : Int) ≤ 9223372036854775807) (hle : left < (n : Int)) (w : World) :
    Calls Try.prog 28 #[.agg #[.int .i64 k, .int .i64 f, .int .i64 t, .int .i64 s, .int .i64 g, .bool m, .bool r, .int .i64 d, .slice A n cap], .int .i64 left] w (NPost (-1) w) := by
  have HL := Lib.hid hl
  have HN := Lib.hid hn
  have HE := Lib.hid hle
  skip
  clear hl hn hle
  go_enter Try.func28, Try.ntmps28
  go_wp2_with fail
  (with_reducible refine (szB_out A n cap left HL.out HN.out HE.out _).mono ?_)
  rintro e w1 ⟨rfl, rfl⟩
  go_wp2_with fail
  go_ret
  exact ⟨rfl, below_box _ _⟩
set_option maxRecDepth 100000 in
set_option maxHeartbeats 4000000 in
theorem eqMac (k f t s g : Int) (m r : Bool) (d : Int) (A : Option Addr) (n cap : Nat) (A' : Option Addr) (n' cap' : Nat) (z : List Int) (lo hi lo2 hi2 : Nat) (w : World) (h : Rd .u8 w lo hi A n cap z) (h2 : Rd .u8 w lo2 hi2 A' n' cap' z) :
    Calls Try.prog 32 #[.agg #[.int .i64 k, .int .i64 f, .int .i64 t, .int .i64 s, .int .i64 g, .bool m, .bool r, .int .i64 d, .slice A n cap], .agg #[.int .i64 k, .int .i64 f, .int .i64 t, .int .i64 s, .int .i64 g, .bool m, .bool r, .int .i64 d, .slice A' n' cap']] w (BPost true w) := by
  have HR := Lib.hid (h.below (below_box2 w (.cells #[.int .i64 k, .int .i64 f, .int .i64 t, .int .i64 s, .int .i64 g, .bool m, .bool r, .int .i64 d, .slice A n cap] 27) (.cells #[.int .i64 k, .int .i64 f, .int .i64 t, .int .i64 s, .int .i64 g, .bool m, .bool r, .int .i64 d, .slice A' n' cap'] 27)))
  have HS := Lib.hid (h2.below (below_box2 w (.cells #[.int .i64 k, .int .i64 f, .int .i64 t, .int .i64 s, .int .i64 g, .bool m, .bool r, .int .i64 d, .slice A n cap] 27) (.cells #[.int .i64 k, .int .i64 f, .int .i64 t, .int .i64 s, .int .i64 g, .bool m, .bool r, .int .i64 d, .slice A' n' cap'] 27)))
  clear h h2
  go_enter Try.func32, Try.ntmps32
  go_wp2_with fail
  (with_reducible refine (harn.eqByteS_yes z _ _ _ _ A A' n cap n' cap' _ HR.out HS.out).mono ?_)
  rintro e w1 ⟨rfl, hb⟩
  have B1 := Lib.hid ((below_box2 w _ _).trans (hb.mono (by simp; omega)))
  clear hb
  go_wp2_with fail
  go_ret
  exact ⟨rfl, B1.out⟩
def MPost (w : World) (lo hi : Nat) (A : Option Addr) (n cap : Nat) (q : Int) (e : Ending) (w' : World) : Prop :=
  e = .returned (.int .i64 (q + n)) ∧ Ow 5 .u8 w' lo hi A n cap (marks .u8 q n) ∧ Tch lo hi w w'
end Go.Proofs.Ytebbnopconbnlaa.fbx
