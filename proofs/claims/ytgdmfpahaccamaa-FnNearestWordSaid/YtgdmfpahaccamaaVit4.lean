/- The bits of the best path, read from the table of survivors. Condition: at most 1000 bits. -/
import Derived.Test.YtgdmfpahaccamaaVit3
import Derived.Test.YtgdmfpahaccamaaBk
import Derived.Test.YtgdmfpahaccamaaScst
namespace Go.Proofs.Ytgdmfpahaccamaa.vts
open Go.RowKit sl harn bm rng cvm cvs vit tab

/-- The step of the node that a pointer leads to. -/
def stepAt (v : Value) (w : World) : Nat := match v with
  | .pointer (some a) => match w.cell? a with
    | some (.int _ j) => j.toNat
    | _ => 0
  | _ => 0
/-- A node in a block of its own. -/
def Node (w : World) (b : Nat) (j t : Int) : Prop := w.heap[b]? = some (.cells #[.int .i64 j, .int .i64 t] 50 (0, 0))
theorem Node.c0 {w : World} {b : Nat} {j t : Int} (h : Node w b j t) : w.cell? ⟨b, 0, none⟩ = some (.int .i64 j) := by unfold Node at h; simp [World.cell?, h]
theorem Node.c1 {w : World} {b : Nat} {j t : Int} (h : Node w b j t) : w.cell? ⟨b, 1, none⟩ = some (.int .i64 t) := by unfold Node at h; simp [World.cell?, h]
theorem Node.same {w w' : World} {b : Nat} {j t : Int} (h : Node w b j t) (hb : w'.heap[b]? = w.heap[b]?) : Node w' b j t := by unfold Node at h ⊢; rw [hb]; exact h
theorem Node.lt {w : World} {b : Nat} {j t : Int} (h : Node w b j t) : b < w.heap.size := lt_of_block h
theorem Node.alloc {w : World} {b : Nat} {j t : Int} (h : Node w b j t) (o : Obj) : Node (w.alloc o) b j t := h.same (Below.heap_alloc _ _ _ h.lt)
theorem Node.other {w : World} {b : Nat} {j t : Int} (h : Node w b j t) {p : Addr} (hp : b ≠ p.block) (u : Value) : Node (w.setCell p u) b j t := h.same (Below.heap_setCell _ _ _ _ hp)
theorem Node.made (w : World) (j t : Int) : Node (w.alloc (.cells #[.int .i64 j, .int .i64 t] 50)) w.heap.size j t := heap_alloc_new w _
theorem Node.turned {w : World} {b : Nat} {j t : Int} (h : Node w b j t) (j' t' : Int) : Node ((w.setCell ⟨b, 0, none⟩ (.int .i64 j')).setCell ⟨b, 1, none⟩ (.int .i64 t')) b j' t' := by
  have h1 := heap_setCell_same w b 0 _ _ (.int .i64 j') h
  have h2 := heap_setCell_same _ b 1 _ _ (.int .i64 t') h1
  exact h2
theorem stepAt_node {w : World} {b : Nat} {j : Nat} {t : Int} (h : Node w b j t) : stepAt (.pointer (some ⟨b, 0, none⟩)) w = j := by
  unfold stepAt; simp [h.c0]
theorem field_from (c j p : Int) (w : World) : (Instr.field 52 (.agg #[.int .i64 c, .int .i64 j, .int .i64 p]) 1).run Try.prog w = .ok (.agg #[.int .i64 j, .int .i64 p]) w := by kernel_rfl
set_option maxRecDepth 100000 in
set_option maxHeartbeats 4000000 in
theorem implPath (zs : List Int) (n : Nat) (hz : zs.length = 2 * (n + 2)) (hn : n ≤ 1000) (B u : Nat) (w : World) (hT : Tab w B u (srv zs (n + 2) 0 0)) :
    Calls Try.prog 43 #[.map (some B), .agg #[.int .i64 ((n : Int) + 2), .int .i64 0]] w (SlPost 3 .i64 w (dec zs n)) := by
  obtain ⟨i0, hi0, hz0, hz1, hz2⟩ := info_parts intInfo
  have hmk := fun W => run_make1 (P := Try.prog) 24 3 i0 _ Try.underlying24 hi0 hz0 hz1 n (by omega) (by omega) W
  have HZ := Lib.hid hz
  have T0 := Lib.hid hT
  have HB := Lib.hid hT.lt
  clear hz2 hz1 hz0 hi0 hz hT
  go_enter Try.func43, Try.ntmps43
  go_wp2_with fail
  go_loopw [7] (fun v wr => ∃ (j : Nat) (t : Int) (b7 : Nat), v = .pointer (some ⟨b7, 0, none⟩) ∧ On zs (n + 2) j t ∧ Node wr b7 j t ∧ w.heap.size + 2 < b7 ∧ Node wr (w.heap.size + 1 + 1) 0 0 ∧ Bk 3 .i64 (w.heap.size + 1) wr n j (path zs (n + 2) 0) ∧ Below w.heap.size w wr) (fun v wr => stepAt v wr)
  case atStart =>
    refine ⟨n + 2, 0, w.heap.size + 1 + 1 + 1, rfl, On.start HZ.out, ?_, by omega, ?_, ?_, ?_⟩
    · have := Node.made (((w.alloc (.cells #[.int .i64 ((n : Int) + 2), .int .i64 0] 50)).alloc (.cells (madeCells #[.int .i64 0] n) 3)).alloc (.cells #[.int .i64 0, .int .i64 0] 50)) ((n : Int) + 2) 0
      simpa using this
    · have := (Node.made ((w.alloc (.cells #[.int .i64 ((n : Int) + 2), .int .i64 0] 50)).alloc (.cells (madeCells #[.int .i64 0] n) 3)) 0 0).alloc (.cells #[.int .i64 ((n : Int) + 2), .int .i64 0] 50)
      simpa using this
    · have := ((Bk.start 3 .i64 (w.alloc (.cells #[.int .i64 ((n : Int) + 2), .int .i64 0] 50)) n (j := n + 2) (by omega) (path zs (n + 2) 0) #[.int .i64 0]).alloc (.cells #[.int .i64 0, .int .i64 0] 50)).alloc (.cells #[.int .i64 ((n : Int) + 2), .int .i64 0] 50)
      simpa using this
    · exact ((((Below.refl _ _).alloc (Nat.le_refl _) _).alloc (by simp) _).alloc (by simp; omega) _).alloc (by simp; omega) _
  case round =>
    clear hmk
    obtain ⟨j, t, b7, rfl, hon, hnd, hb7, hns, hbk, hbl⟩ := hrel
    have ON := Lib.hid hon
    have ND := Lib.hid hnd
    have NS := Lib.hid hns
    have BK := Lib.hid hbk
    have BL := Lib.hid hbl
    have hc0 := hnd.c0
    have hc1 := hnd.c1
    have hs0 := hns.c0
    have hs1 := hns.c1
    have h7s := hnd.lt
    clear hon hnd hns hbk hbl
    rcases j with _ | j
    · obtain rfl := ON.out.zero
      go_wp2_with fail
      go_ret
      exact ⟨_, _, _, rfl, BK.out.done (dec_len zs n) (fun i hi => dec_at zs hi) (Wf.of_i64 fun z hz => by have := isb_all (dec_bit HZ.out) z hz; omega) (by unfold maxLen; omega) (by omega), BL.out⟩
    · have ht := ON.out.1.1
      obtain ⟨h1, h2⟩ := ON.out.next
      have hjm := ON.out.2.1
      obtain ⟨p, hp⟩ : ∃ p, pre zs j t = p := ⟨_, rfl⟩
      rw [hp] at h1
      have NX := Lib.hid h1
      have N1 := Lib.hid (show Nd ((j : Int) + 1) t from ⟨by omega, ht⟩)
      have M1 := Lib.hid (show srv zs (n + 2) 0 0 ((j : Int) + 1) t = some (cost zs (j + 1) t, (j : Int), p) by
        rw [srv_low (i := j + 1) (by omega) hjm, back, ent_yes (by have := ON.out.1.2; omega), hp])
      obtain ⟨c, hc⟩ : ∃ c, cost zs (j + 1) t = c := ⟨_, rfl⟩
      rw [hc] at M1
      have hne : ¬ b7 = w.heap.size + 1 := by omega
      have hnn : ((j : Int) + 1 == 0) = false := by
        have : ¬ (j : Int) + 1 = 0 := by omega
        simpa using this
      clear hc hp h1
      by_cases hlt : j < n
      · have hlt2 : (j : Int) + 1 ≤ n := by omega
        obtain ⟨v, hv⟩ : ∃ v, bits .and .i64 t 1 = v := ⟨_, rfl⟩
        have HV := Lib.hid (show (path zs (n + 2) 0).getD j 0 = v by rw [h2, ← hv]; exact (draw.low_bits 1 (by omega) t).symm)
        obtain ⟨v0, hv0⟩ := BK.out.cell hlt
        have hfr := BK.out.free j
        have HK := Lib.hid (BK.out.step hlt HV.out)
        have hfd := fun W => field_from c j p W
        have hsz := BL.out.size
        clear h2
        go_wp2_with (at_lookup; refine wpList_lookup_run _ rfl _ _ 53 false rfl (Tab.at_ (T0.out.block (by simp [World.setCell]; omega) (((BL.out.setCell (p := ⟨w.heap.size + 1, j, none⟩) (Nat.le_succ _) _).alloc (by simpa [World.setCell] using hsz) _).block B HB.out)) N1.out M1.out) rfl rfl ?_)
        have NM := Lib.hid (show Node ((wr.setCell ⟨w.heap.size + 1, j, none⟩ (.int .i64 v)).alloc (.cells #[.int .i64 j, .int .i64 p] 50)) wr.heap.size j p by
          have := Node.made (wr.setCell ⟨w.heap.size + 1, j, none⟩ (.int .i64 v)) j p
          simpa [World.setCell] using this)
        go_roundw
        case rel => exact ⟨j, p, wr.heap.size, rfl, NX.out, NM.out, by omega, (NS.out.other (p := ⟨w.heap.size + 1, j, none⟩) (by simp) _).alloc _, HK.out.alloc _, (BL.out.setCell (p := ⟨w.heap.size + 1, j, none⟩) (Nat.le_succ _) _).alloc (by simpa [World.setCell] using hsz) _⟩
        case measure => rw [stepAt_node NM.out, stepAt_node ND.out]; omega
      · have hlt2 : ¬ (j : Int) + 1 ≤ n := by omega
        have hfd := fun W => field_from c j p W
        have hsz := BL.out.size
        clear h2
        go_wp2_with (at_lookup; refine wpList_lookup_run _ rfl _ _ 53 false rfl (Tab.at_ (T0.out.block (by simp; omega) ((BL.out.alloc hsz _).block B HB.out)) N1.out M1.out) rfl rfl ?_)
        have NM := Lib.hid (Node.made wr j p)
        go_roundw
        case rel => exact ⟨j, p, wr.heap.size, rfl, NX.out, NM.out, by omega, NS.out.alloc _, (BK.out.skip (by omega)).alloc _, BL.out.alloc hsz _⟩
        case measure => rw [stepAt_node NM.out, stepAt_node ND.out]; omega
end Go.Proofs.Ytgdmfpahaccamaa.vts
