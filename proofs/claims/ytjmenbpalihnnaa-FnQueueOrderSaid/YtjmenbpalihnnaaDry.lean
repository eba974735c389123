/- Draws of stage 17: a queue. Condition: the bytes that are drawn from are a slice that came in. -/
import Derived.Test.YtjmenbpalihnnaaDrx
namespace Go.Proofs.Ytjmenbpalihnnaa.mq
open Go.RowKit sl harn bx mrw drk stw draw
set_option linter.unusedVariables false
set_option linter.unusedSimpArgs false

theorem oe_keep {w w' : World} {p lo hi n c : Nat} {A : Option Addr} {es : List (El Msg)} (h : Oe msg w lo hi A n c es) (hk : Keep p w w') (hp : p < lo) : Oe msg w' lo hi A n c es :=
  h.same hk.size fun b h1 h2 => hk.block b (by have := h.hi_; omega) (by omega)
theorem rd_of_ow {w : World} {lo hi n c : Nat} {A : Option Addr} {zs : List Int} (h : Ow 5 .u8 w lo hi A n c zs) : Rd .u8 w lo hi A n c zs := h.rd
/-- A drawn message, as a value of a region. -/
def mrowK (p B : Nat) (a : Option Addr) (len cap : Nat) : reg.Stay (Dr p a len cap) :=
  ⟨fun v w => ∃ (x : Msg) (A : Option Addr) (n c lo hi : Nat), v = mV x A n c ∧ n ≤ 101 ∧ p < lo ∧ B ≤ lo ∧ Ow 5 .u8 w lo hi A n c x.2.2.2, fun v w w' ⟨x, A, n, c, lo, hi, e, h1, h2, h3, h4⟩ hb => ⟨x, A, n, c, lo, hi, e, h1, h2, h3, ow_keep h4 hb.1 h2⟩⟩
/-- A queue within bounds, as a value of a region. -/
def qrowK (p B : Nat) (a : Option Addr) (len cap : Nat) (P : List Msg → Int → Prop) : reg.Stay (Dr p a len cap) :=
  ⟨fun v w => ∃ (A : Option Addr) (n c lo hi : Nat) (es : List (El Msg)) (d : Int), v = qV A n c d ∧ P (es.map (fun e : El Msg => e.x)) d ∧ p < lo ∧ B ≤ lo ∧ Oe msg w lo hi A n c es, fun v w w' ⟨A, n, c, lo, hi, es, d, e, h1, h2, h3, h4⟩ hb => ⟨A, n, c, lo, hi, es, d, e, h1, h2, h3, oe_keep h4 hb.1 h2⟩⟩
/-- Queues that m messages were put into. -/
def Qin (m : Nat) (ms : List Msg) (d : Int) : Prop := ms.length ≤ 12 ∧ (∀ y ∈ ms, y.2.2.2.length ≤ 101) ∧ 0 ≤ d ∧ d ≤ m
theorem enq_qin {m : Nat} {ms : List Msg} {d : Int} {x : Msg} (h : Qin m ms d) (hx : x.2.2.2.length ≤ 101) (hm : m ≤ 1000) : Qin (m + 1) (enq ms d x).1 (enq ms d x).2 := by
  obtain ⟨h1, h2, h3, h4⟩ := h
  have hb : ∀ y ∈ ms ++ [x], y.2.2.2.length ≤ 101 := fun y hy => by
    rcases List.mem_append.1 hy with hy | hy
    · exact h2 y hy
    · obtain rfl : y = x := by simpa using hy
      exact hx
  unfold enq
  split
  · split
    · rename_i hl
      exact ⟨hl, hb, h3, by dsimp only; omega⟩
    · refine ⟨?_, fun y hy => hb y (List.mem_of_mem_eraseIdx hy), ?_⟩
      · have hr := bst_range le (ms ++ [x]) (ms ++ [x]).length
        have h5 : (ms ++ [x]).length = ms.length + 1 := by simp
        have h6 := hr.2.2 (by omega)
        rw [List.length_eraseIdx, if_pos (by omega)]
        omega
      · have e : IntKind.i64.wrap (d + 1) = d + 1 := IntWalk.i64_in _ (by omega)
        rw [e]
        constructor <;> omega
  · exact ⟨h1, h2, h3, by dsimp only; omega⟩
/-- Drawn queues. -/
def Qdr (ms : List Msg) (d : Int) : Prop := ms.length ≤ 13 ∧ (∀ y ∈ ms, y.2.2.2.length ≤ 101) ∧ -1 ≤ d ∧ d ≤ 14
theorem Qdr.bd {ms : List Msg} {d : Int} (h : Qdr ms d) : ∀ y ∈ ms, y.2.2.2.length ≤ 67108864 := fun y hy => by have := h.2.1 y hy; omega
def QdPost (p : Nat) (a : Option Addr) (len cap : Nat) (w : World) (e : Ending) (w' : World) : Prop :=
  ∃ (A : Option Addr) (n c : Nat) (es : List (El Msg)) (d : Int), e = .returned (qV A n c d) ∧ Qdr (es.map (fun e : El Msg => e.x)) d ∧ Oe msg w' w.heap.size w'.heap.size A n c es ∧ Keep p w w' ∧ Cur w' p a len cap
/-- An element that is drawn while a row may grow. -/
def elK (p lo hi : Nat) (a : Option Addr) (len cap : Nat) (A : Option Addr) (n c : Nat) (es : List (El Msg)) : rgp.St (Dr p a len cap) (rgp.Ap msg lo hi A n c es) :=
  ⟨fun v w => ∃ (x : Msg) (A2 : Option Addr) (n2 c2 lo2 hi2 : Nat), v = mV x A2 n2 c2 ∧ n2 ≤ 101 ∧ p < lo2 ∧ hi ≤ lo2 ∧ lo ≤ lo2 ∧ Ow 5 .u8 w lo2 hi2 A2 n2 c2 x.2.2.2, fun v w w' ⟨x, A2, n2, c2, lo2, hi2, e, h0, hp, h1, h2, h⟩ hb => by
    rcases hb with hb | hb
    · exact ⟨x, A2, n2, c2, lo2, hi2, e, h0, hp, h1, h2, ow_keep h hb.1 hp⟩
    · exact ⟨x, A2, n2, c2, lo2, hi2, e, h0, hp, h1, h2, ow_grown hb.1 hb.2.1 h⟩⟩
def oneK (p lo hi : Nat) (a : Option Addr) (len cap : Nat) (A : Option Addr) (n c : Nat) (es : List (El Msg)) : rgp.St (Dr p a len cap) (rgp.Ap msg lo hi A n c es) :=
  ⟨fun v w => ∃ (q : Nat) (x : Msg) (A2 : Option Addr) (n2 c2 lo2 hi2 : Nat), v = .slice (some ⟨q, 0, none⟩) 1 1 ∧ n2 ≤ 101 ∧ p < q ∧ hi ≤ q ∧ Bx 28 w q #[.int .i64 x.1, .int .i64 x.2.1, .int .i64 x.2.2.1, .slice A2 n2 c2] ∧ p < lo2 ∧ hi ≤ lo2 ∧ lo ≤ lo2 ∧ Ow 5 .u8 w lo2 hi2 A2 n2 c2 x.2.2.2, fun v w w' ⟨q, x, A2, n2, c2, lo2, hi2, e, h0, hpq, hq, hX, hp, h1, h2, h⟩ hb => by
    rcases hb with hb | hb
    · exact ⟨q, x, A2, n2, c2, lo2, hi2, e, h0, hpq, hq, bx_keep hX hb.1 (by omega), hp, h1, h2, ow_keep h hb.1 hp⟩
    · exact ⟨q, x, A2, n2, c2, lo2, hi2, e, h0, hpq, hq, grown_bx hX hb.2.1 (fun e => by have := hb.1.lo_ e.symm; omega), hp, h1, h2, ow_grown hb.1 hb.2.1 h⟩⟩
/-- The row behind the append of something drawn. -/
def newK (lo n : Nat) (es : List (El Msg)) (v : Value) (w : World) : Prop := ∃ A3 c3 f hi3, v = .slice A3 (n + 1) c3 ∧ f.x.2.2.2.length ≤ 101 ∧ Oe msg w lo hi3 A3 (n + 1) c3 (es ++ [f])
theorem newK_keep {p lo n : Nat} {a : Option Addr} {len cap : Nat} {es : List (El Msg)} (hp : p < lo) : ∀ v w w', newK lo n es v w → Dr p a len cap w w' → newK lo n es v w' := fun v w w' ⟨A3, c3, f, hi3, e, hf, h⟩ hb => ⟨A3, c3, f, hi3, e, hf, oe_keep h hb.1 hp⟩
set_option maxRecDepth 100000 in
set_option maxHeartbeats 4000000 in
theorem l17queue (w : World) (p : Nat) (a : Option Addr) (len cap : Nat) (hc : Cur w p a len cap) :
    Calls Try.prog 60 #[.pointer (some ⟨p, 0, none⟩)] w (QdPost p a len cap w) := by
  obtain ⟨i0, hi0, hz0, hz1, hz2⟩ := info_parts infoM
  have HZ := Lib.hid (And.intro hi0 (And.intro hz0 (And.intro hz1 hz2)))
  clear hi0 hz0 hz1 hz2
  have CW := Lib.hid hc
  have P0 := Lib.hid hc.lt
  clear hc
  go_enter Try.func60, Try.ntmps60
  go_upto_region 2 with fail
  obtain ⟨w0, hW⟩ : ∃ w0, (w.alloc (.cells #[.slice none 0 0, .int .i64 0] 26)).alloc (.cells #[.slice none 0 0, .int .i64 0] 26) = w0 := ⟨_, rfl⟩
  rw [hW]
  have K0 := Lib.hid (show Keep p w w0 by rw [← hW]; exact ((Keep.refl p w).alloc _).alloc _)
  have C0 := Lib.hid (show Cur w0 p a len cap by rw [← hW]; exact ((CW.out).alloc _).alloc _)
  have Z0 := Lib.hid (show Bx 26 w0 (w.heap.size) #[.slice none 0 0, .int .i64 0] by
      rw [← hW]
      have hh := Bx.made 26 w #[.slice none 0 0, .int .i64 0]
      exact (hh.below (below_box _ _)))
  have Q0 := Lib.hid (show Bx 26 w0 (w.heap.size + 1) #[.slice none 0 0, .int .i64 0] by
      rw [← hW]
      have hh : Bx 26 ((w.alloc (.cells #[.slice none 0 0, .int .i64 0] 26)).alloc (.cells #[.slice none 0 0, .int .i64 0] 26)) (w.heap.size + 1) #[.slice none 0 0, .int .i64 0] := by have hh := Bx.made 26 (w.alloc (.cells #[.slice none 0 0, .int .i64 0] 26)) #[.slice none 0 0, .int .i64 0]; simpa using hh
      exact hh)
  clear hW
  have LTZ := Lib.hid Z0.out.lt
  have LTQ := Lib.hid Q0.out.lt
  go_wp2_with fail
  (with_reducible refine (draw.pickIn 0 14 5 (by omega) (by omega) _ p a len cap C0.out #[.int .i64 0, .int .i64 2, .int .i64 5, .int .i64 12, .int .i64 14] rfl (by decide)).mono ?_)
  rintro e w1 ⟨j0, rfl, hx0, hx1, hk, hc⟩
  have Hj0 := Lib.hid (show 0 ≤ j0 ∧ j0 ≤ 14 from ⟨hx0, hx1⟩)
  have SS1 := Lib.hid hk.size
  have K1 := Lib.hid (K0.out.trans hk)
  have C1 := Lib.hid (hc)
  have Z1 := Lib.hid (drk.bx_keep Z0.out hk (by have h0 := P0.out; have hs0 := LTZ.out; have hs1 := LTQ.out; have hs2 := SS1.out; first | omega | (simp <;> omega)))
  have Q1 := Lib.hid (drk.bx_keep Q0.out hk (by have h0 := P0.out; have hs0 := LTZ.out; have hs1 := LTQ.out; have hs2 := SS1.out; first | omega | (simp <;> omega)))
  clear hk hc hx0 hx1 K0 C0 Z0 Q0
  have HLO := Lib.hid (show w.heap.size + 1 + 1 ≤ w1.heap.size by have h := Q1.out.lt; omega)
  have O1 := Lib.hid (Oe.nil_ msg w1 (w.heap.size + 1 + 1) w1.heap.size (Nat.le_refl _))
  go_wp2_with fail
  go_loopw [4] (fun v0 wr => ∃ (j : Int) (m : Nat) (A1 : Option Addr) (n : Nat) (c1 : Nat) (es : List (El Msg)) (d : Int), v0 = .int .i64 j ∧ (0 ≤ j ∧ j ≤ 14 ∧ (m : Int) + j ≤ 14) ∧ (Qin m (es.map (·.x)) d) ∧ Keep p w wr ∧ Cur wr p a len cap ∧ Bx 26 wr w.heap.size #[.slice none 0 0, .int .i64 0] ∧ Bx 26 wr (w.heap.size + 1) #[.slice A1 n c1, .int .i64 d] ∧ Oe msg wr (w.heap.size + 1 + 1) wr.heap.size A1 n c1 es) (fun i _ => (intOf i).toNat)
  case atStart => exact ⟨j0, 0, none, 0, 0, [], 0, rfl, by have h := Hj0.out; omega, ⟨by simp, by simp, by omega, by omega⟩, K1.out, C1.out, Z1.out, Q1.out, O1.out⟩
  case round =>
    obtain ⟨j, m, A1, n, c1, es, d, rfl, ghj, ghqn, gK2, gC2, gZ2, gQ2, gO2⟩ := hrel
    have K2 := Lib.hid gK2
    have C2 := Lib.hid gC2
    have Z2 := Lib.hid gZ2
    have Q2 := Lib.hid gQ2
    have O2 := Lib.hid gO2
    have hj := Lib.hid ghj
    have hqn := Lib.hid ghqn
    clear gK2 gC2 gZ2 gQ2 gO2 ghj ghqn
    have LUZ2 := Lib.hid Z2.out.lt
    have LUQ2 := Lib.hid Q2.out.lt
    have hj2 := hj.out
    by_cases hlt : 0 < j
    · have hm14 : m ≤ 14 := by omega
      have HN := Lib.hid (show n ≤ 67108864 by have h1 := hqn.out.1; have h2 := O2.out.len; simp at h1; omega)
      have HBD := Lib.hid (show ∀ y ∈ es.map (·.x), y.2.2.2.length ≤ 67108864 from fun y hy => by have := hqn.out.2.1 y hy; omega)
      go_upto_region 5 with fail
      refine reg.region_tail (drk.Dr p a len cap) 4 32 [some [], some [], some [(1, 14)], some [(0, 13), (2, 15)], none] [(0, 13), (1, 14), (2, 15), (3, 16)]
        (fun w' => Keep p w w' ∧ Cur w' p a len cap ∧ Bx 26 w' (w.heap.size) #[.slice none 0 0, .int .i64 0] ∧ Bx 26 w' (w.heap.size + 1) #[.slice A1 n c1, .int .i64 d] ∧ Oe msg w' (w.heap.size + 1 + 1) wr.heap.size A1 n c1 es ∧ True)
        (reg.rl [reg.is (.agg #[.slice A1 n c1, .int .i64 d]), reg.is (.pointer (some ⟨p, 0, none⟩)), mrowK p (w.heap.size + 1 + 1) a len cap, qrowK p (w.heap.size + 1 + 1) a len cap (Qin (m + 1)), reg.free])
        (by kernel_rfl) rfl (by kernel_rfl) (by kernel_rfl) rfl
        (fun w1 w2 hc hb => ⟨hc.1.trans hb.1, hb.2, drk.bx_keep hc.2.2.1 hb.1 (by have h0 := P0.out; have hs0 := LTZ.out; have hs1 := LTQ.out; have hs2 := SS1.out; have hs3 := LUZ2.out; have hs4 := LUQ2.out; first | omega | (simp <;> omega)), drk.bx_keep hc.2.2.2.1 hb.1 (by have h0 := P0.out; have hs0 := LTZ.out; have hs1 := LTQ.out; have hs2 := SS1.out; have hs3 := LUZ2.out; have hs4 := LUQ2.out; first | omega | (simp <;> omega)), oe_keep hc.2.2.2.2.1 hb.1 (by have h0 := P0.out; have hs0 := LTZ.out; have hs1 := LTQ.out; have hs2 := SS1.out; have hs3 := LUZ2.out; have hs4 := LUQ2.out; first | omega | (simp <;> omega)), trivial⟩) (reg.rl_keep _) (⟨Keep.drew K2.out, show Cur wr.drew p a len cap from C2.out, Z2.out.same rfl, Q2.out.same rfl, O2.out.same (Nat.le_refl _) (fun _ _ _ => rfl), trivial⟩) (by kernel_rfl) ⟨?_, ?_, ?_, ?_, trivial⟩ ?_
      · refine fun w8 hc  K hK => ?_
        (try simp only [Act.put, List.setIfInBounds_toArray, List.set_cons_zero, List.set_cons_succ])
        rw [if_pos (by rfl)]
        refine stw.wp_load_bx 26 _ rfl (w.heap.size + 1) rfl 26 _ hc.2.2.2.1 Try.underlying26 rfl szQ ?_
        exact hK _ _ rfl ⟨Keep.refl _ _, hc.2.1⟩
      · refine fun w8 hc  K hK => ?_
        (try simp only [Act.put, List.setIfInBounds_toArray, List.set_cons_zero, List.set_cons_succ])
        go_simp
        exact hK (.pointer (some ⟨p, 0, none⟩)) _ rfl ⟨Keep.refl _ _, hc.2.1⟩
      · refine fun w8 hc v1 h1 K hK => ?_
        obtain rfl : v1 = .pointer (some ⟨p, 0, none⟩) := h1
        (try simp only [Act.put, List.setIfInBounds_toArray, List.set_cons_zero, List.set_cons_succ])
        go_simp
        have hpl := hc.2.1.lt
        have hql := hc.2.2.2.1.lt
        (with_reducible refine (l17any _ p a len cap hc.2.1).mono ?_)
        rintro e w3 ⟨x, A, n3, c3, rfl, hn, ho, hk, hcc⟩
        exact hK _ _ ⟨x, A, n3, c3, _, _, rfl, hn, hpl, (by omega), ho⟩ ⟨hk, hcc⟩
      · refine fun w8 hc v0 h0 v2 h2 K hK => ?_
        obtain rfl : v0 = .agg #[.slice A1 n c1, .int .i64 d] := h0
        obtain ⟨x2, A2, n2, c2, lo2, hi2, rfl, hn2, hp2, hB2, hO2⟩ := h2
        (try simp only [Act.put, List.setIfInBounds_toArray, List.set_cons_zero, List.set_cons_succ])
        go_simp
        have hpl := hc.2.1.lt
        have hql := hc.2.2.2.1.lt
        have hxl : x2.2.2.2.length ≤ 101 := by have := hO2.len; omega
        have hqx := enq_qin hqn.out hxl (by omega)
        (with_reducible refine (specEn x2 A2 n2 c2 lo2 hi2 (es.map (·.x)) d A1 n c1 _ _ HN.out HBD.out _ hc.2.2.2.2.1.rq hO2.rd (by omega)).mono ?_)
        rintro e w3 hp
        obtain ⟨A5, n5, c5, es5, rfl, g5, ho, hb⟩ := q_parts hp
        exact hK _ _ ⟨A5, n5, c5, _, _, es5, _, rfl, (by rw [g5]; exact hqx), hpl, (by omega), ho⟩ ⟨drk.later (Keep.refl _ w8) (Nat.le_refl _) hb, drk.cur_below hc.2.1 hb⟩
      refine fun wg3 hc v0 h0 v1 h1 v2 h2 v3 h3 => ?_
      obtain rfl : v0 = .agg #[.slice A1 n c1, .int .i64 d] := h0
      obtain rfl : v1 = .pointer (some ⟨p, 0, none⟩) := h1
      obtain ⟨x2, A2, n2, c2, lo2, hi2, rfl, hn2, hp2, hB2, hO2⟩ := h2
      obtain ⟨A4, n4, c4, lo4, hi4, es4, d4, rfl, hE4, hp4, hB4, hO4⟩ := h3
      (try simp only [reg.Obs])
      (try simp only [Act.put, List.setIfInBounds_toArray, List.set_cons_zero, List.set_cons_succ])
      simp only [List.drop_succ_cons, List.drop_zero]
      have K3 := Lib.hid hc.1
      have C3 := Lib.hid hc.2.1
      have Z3 := Lib.hid hc.2.2.1
      have Q3 := Lib.hid hc.2.2.2.1
      have O3 := Lib.hid hc.2.2.2.2.1
      clear hc K2 C2 Z2 Q2 O2
      clear O3
      have O3 := Lib.hid hO4
      have HE4 := Lib.hid hE4
      have HP4 := Lib.hid hp4
      have HB4 := Lib.hid hB4
      clear hE4 hp4 hB4 hO4 hO2 hn2 hp2 hB2
      refine stw.list_store rfl 26 _ _ rfl (w.heap.size + 1) #[.slice A4 n4 c4, .int .i64 d4] rfl rfl 26 _ Q3.out rfl szQ (oneQ _ _ _ _) ?_
      intro wz4 hz
      (try simp only [Act.put])
      have K4 := Lib.hid (drk.later K3.out (by have h0 := P0.out; have hs0 := LTZ.out; have hs1 := LTQ.out; have hs2 := SS1.out; have hs3 := LUZ2.out; have hs4 := LUQ2.out; have hs5 := HP4.out; have hs6 := HB4.out; first | omega | (simp <;> omega)) hz.below)
      have C4 := Lib.hid (drk.cur_later CW.out K3.out C3.out (by have h0 := P0.out; have hs0 := LTZ.out; have hs1 := LTQ.out; have hs2 := SS1.out; have hs3 := LUZ2.out; have hs4 := LUQ2.out; have hs5 := HP4.out; have hs6 := HB4.out; first | omega | (simp <;> omega)) hz.below)
      have Z4 := Lib.hid (hz.keep Z3.out (by have h0 := P0.out; have hs0 := LTZ.out; have hs1 := LTQ.out; have hs2 := SS1.out; have hs3 := LUZ2.out; have hs4 := LUQ2.out; have hs5 := HP4.out; have hs6 := HB4.out; first | omega | (simp <;> omega)))
      have Q4 := Lib.hid (hz.box)
      have O4 := Lib.hid (rgp.oe_set O3.out Q3.out (by decide) (by decide) hz.below.size (fun k hk => hz.other k hk))
      clear hz K3 C3 Z3 Q3 O3
      have m1 : IntKind.i64.wrap (j - 1) = j - 1 := IntWalk.i64_in _ (by omega)
      go_wp2_with fail
      go_roundw
      case rel => exact ⟨j - 1, m + 1, A4, n4, c4, es4, d4, rfl, by omega, HE4.out, K4.out, C4.out, Z4.out, Q4.out, O4.out.up.down HB4.out⟩
      case measure => simp [intOf]; omega
    · go_wp2_with fail
      (with_reducible refine (draw.below 12 (by omega) _ p a len cap C2.out).mono ?_)
      rintro e w3 ⟨q, rfl, hx0, hx1, hk, hc⟩
      have Hq := Lib.hid (show 0 ≤ q ∧ q < 12 from ⟨hx0, hx1 (by omega)⟩)
      have SS3 := Lib.hid hk.size
      have K3 := Lib.hid (K2.out.trans hk)
      have C3 := Lib.hid (hc)
      have Z3 := Lib.hid (drk.bx_keep Z2.out hk (by have h0 := P0.out; have hs0 := LTZ.out; have hs1 := LTQ.out; have hs2 := SS1.out; have hs3 := LUZ2.out; have hs4 := LUQ2.out; have hs5 := SS3.out; first | omega | (simp <;> omega)))
      have Q3 := Lib.hid (drk.bx_keep Q2.out hk (by have h0 := P0.out; have hs0 := LTZ.out; have hs1 := LTQ.out; have hs2 := SS1.out; have hs3 := LUZ2.out; have hs4 := LUQ2.out; have hs5 := SS3.out; first | omega | (simp <;> omega)))
      have O3 := Lib.hid (oe_keep O2.out hk (by have h0 := P0.out; have hs0 := LTZ.out; have hs1 := LTQ.out; have hs2 := SS1.out; have hs3 := LUZ2.out; have hs4 := LUQ2.out; have hs5 := SS3.out; first | omega | (simp <;> omega)))
      clear hk hc hx0 hx1 K2 C2 Z2 Q2 O2
      have hm14 : m ≤ 14 := by omega
      by_cases h0 : q = 0
      · subst h0
        have cQ1 : w3.cell? ⟨w.heap.size + 1, 1, none⟩ = some (.int .i64 d) := Q3.out.cell 1
        have fQ1 : w3.frozen? ⟨w.heap.size + 1, 1, none⟩ = false := Q3.out.free 1
        go_upto_region 11 with fail
        clear cQ1 fQ1
        have BB := Lib.hid (show Below w.heap.size w3 (w3.setCell ⟨w.heap.size + 1, 1, none⟩ (.int .i64 (-1))) from (Below.refl _ _).setCell (p := ⟨w.heap.size + 1, 1, none⟩) (by have h0 := P0.out; have hs0 := LTZ.out; have hs1 := LTQ.out; have hs2 := SS1.out; have hs3 := LUZ2.out; have hs4 := LUQ2.out; have hs5 := SS3.out; (try simp only []); omega) _)
        have hWW : (w3.setCell ⟨w.heap.size + 1, 1, none⟩ (.int .i64 (-1))) = (w3.setCell ⟨w.heap.size + 1, 1, none⟩ (.int .i64 (-1))) := rfl
        obtain ⟨w4, hW⟩ : ∃ wy, (w3.setCell ⟨w.heap.size + 1, 1, none⟩ (.int .i64 (-1))) = wy := ⟨_, rfl⟩
        rw [hW]
        clear hWW
        have K4 := Lib.hid (drk.later K3.out (Nat.le_refl _) (hW ▸ BB.out))
        have C4 := Lib.hid (drk.cur_later CW.out K3.out C3.out (Nat.le_refl _) (hW ▸ BB.out))
        have Z4 := Lib.hid (show Bx 26 w4 (w.heap.size) #[.slice none 0 0, .int .i64 0] by rw [← hW]; exact (Z3.out.other (by have h0 := P0.out; have hs0 := LTZ.out; have hs1 := LTQ.out; have hs2 := SS1.out; have hs3 := LUZ2.out; have hs4 := LUQ2.out; have hs5 := SS3.out; first | omega | (simp <;> omega)) _ _))
        have Q4 := Lib.hid (show Bx 26 w4 (w.heap.size + 1) #[.slice A1 n c1, .int .i64 (-1)] by rw [← hW]; exact (Q3.out.set 1 _))
        have O4 := Lib.hid (show Oe msg w4 (w.heap.size + 1 + 1) wr.heap.size A1 n c1 es by rw [← hW]; exact (rgp.oe_setCell O3.out Q3.out (by decide) (by decide) 1 _))
        clear hW BB K3 C3 Z3 Q3 O3
        go_wp2_with (first | (refine stw.list_load rfl 26 _ rfl (w.heap.size + 1) rfl 26 _ Q4.out Try.underlying26 rfl szQ ?_) | (refine stw.list_store rfl 26 _ _ rfl (w.heap.size) #[.slice A1 n c1, .int .i64 (-1)] rfl rfl 26 _ Z4.out rfl szQ (oneQ _ _ _ _) ?_; intro wz5 hz))
        have K5 := Lib.hid (drk.later K4.out (by have h0 := P0.out; have hs0 := LTZ.out; have hs1 := LTQ.out; have hs2 := SS1.out; have hs3 := LUZ2.out; have hs4 := LUQ2.out; have hs5 := SS3.out; first | omega | (simp <;> omega)) hz.below)
        have C5 := Lib.hid (drk.cur_later CW.out K4.out C4.out (by have h0 := P0.out; have hs0 := LTZ.out; have hs1 := LTQ.out; have hs2 := SS1.out; have hs3 := LUZ2.out; have hs4 := LUQ2.out; have hs5 := SS3.out; first | omega | (simp <;> omega)) hz.below)
        have Z5 := Lib.hid (hz.box)
        have Q5 := Lib.hid (hz.keep Q4.out (by have h0 := P0.out; have hs0 := LTZ.out; have hs1 := LTQ.out; have hs2 := SS1.out; have hs3 := LUZ2.out; have hs4 := LUQ2.out; have hs5 := SS3.out; first | omega | (simp <;> omega)))
        have O5 := Lib.hid (rgp.oe_set O4.out Z4.out (by decide) (by decide) hz.below.size (fun k hk => hz.other k hk))
        clear hz K4 C4 Z4 Q4 O4
        (try simp only [Exit.inBlock, Exit.then])
        refine bodyPost_ret (v := .agg #[.slice A1 n c1, .int .i64 (-1)]) ?_ rfl ?_
        · rw [results_cell1 rfl]
          exact stw.back Z5.out Try.underlying26 rfl szQ
        · exact ⟨_, _, _, _, _, rfl, ⟨by have := hqn.out.1; omega, hqn.out.2.1, by omega, by omega⟩, (O5.out).up.down (by have h0 := P0.out; have hs0 := LTZ.out; have hs1 := LTQ.out; have hs2 := SS1.out; have hs3 := LUZ2.out; have hs4 := LUQ2.out; have hs5 := SS3.out; first | omega | (simp <;> omega)), K5.out, C5.out⟩
      · by_cases h1 : q = 1
        · subst h1
          go_upto_region 10 with fail
          refine rgp.region_tailE (rgp.EA 5 (Dr p a len cap) (rgp.Ap msg (w.heap.size + 1 + 1) wr.heap.size A1 n c1 es)) 7 32 [some [], some [(0, 24)], some [], some [(2, 26)], some [(3, 27)], some [(1, 25), (4, 28)], some [], none] [(0, 24), (1, 25), (2, 26), (3, 27), (4, 28), (5, 29), (6, 30)]
            (fun w' => Keep p w w' ∧ Cur w' p a len cap ∧ Bx 26 w' (w.heap.size) #[.slice none 0 0, .int .i64 0] ∧ Bx 26 w' (w.heap.size + 1) #[.slice A1 n c1, .int .i64 d] ∧ Oe msg w' (w.heap.size + 1 + 1) wr.heap.size A1 n c1 es ∧ True)
            (rgp.RA 5 [rgp.is (.pointer (some ⟨w.heap.size + 1, 0, none⟩)), rgp.is (.slice A1 n c1), rgp.is (.pointer (some ⟨p, 0, none⟩)), elK p (w.heap.size + 1 + 1) wr.heap.size a len cap A1 n c1 es, oneK p (w.heap.size + 1 + 1) wr.heap.size a len cap A1 n c1 es, rgp.val fun _ => True, rgp.is (.pointer (some ⟨w.heap.size + 1, 0, none⟩))] (newK (w.heap.size + 1 + 1) n es))
            (by kernel_rfl) rfl (by kernel_rfl) (by kernel_rfl) rfl
            (fun i w1 w2 hc he => rgp.ea_cases he (fun hb => ⟨hc.1.trans hb.1, hb.2, bx_keep hc.2.2.1 hb.1 (by have h0 := P0.out; have hs0 := LTZ.out; have hs1 := LTQ.out; have hs2 := SS1.out; have hs3 := LUZ2.out; have hs4 := LUQ2.out; have hs5 := SS3.out; first | omega | (simp <;> omega)), bx_keep hc.2.2.2.1 hb.1 (by have h0 := P0.out; have hs0 := LTZ.out; have hs1 := LTQ.out; have hs2 := SS1.out; have hs3 := LUZ2.out; have hs4 := LUQ2.out; have hs5 := SS3.out; first | omega | (simp <;> omega)), oe_keep hc.2.2.2.2.1 hb.1 (by have h0 := P0.out; have hs0 := LTZ.out; have hs1 := LTQ.out; have hs2 := SS1.out; have hs3 := LUZ2.out; have hs4 := LUQ2.out; have hs5 := SS3.out; first | omega | (simp <;> omega)), trivial⟩) (fun h2 => by have hb2 : Below w.heap.size w1 w2 := below_grown (Below.refl _ _) h2.2.1 (fun q hq => by have := (h2.1.lo_ hq).1; omega) (by have := h2.1.hi_; have := hc.1.size; omega); exact ⟨later hc.1 (Nat.le_refl _) hb2, cur_later CW.out hc.1 hc.2.1 (Nat.le_refl _) hb2, grown_bx hc.2.2.1 h2.2.1 (rgp.ne_type hc.2.2.1 h2.1 (by decide)), grown_bx hc.2.2.2.1 h2.2.1 (rgp.ne_type hc.2.2.2.1 h2.1 (by decide)), h2.2.2, trivial⟩))
            (rgp.ra_keep (newK_keep (by have h0 := P0.out; have hs0 := LTZ.out; have hs1 := LTQ.out; have hs2 := SS1.out; have hs3 := LUZ2.out; have hs4 := LUQ2.out; have hs5 := SS3.out; omega))) (⟨Keep.drew K3.out, show Cur w3.drew p a len cap from C3.out, Z3.out.same rfl, Q3.out.same rfl, O3.out.same (Nat.le_refl _) (fun _ _ _ => rfl), trivial⟩) (by kernel_rfl) ⟨?_, ?_, ?_, ?_, ?_, ?_, ?_, trivial⟩ ?_
          · refine fun w8 hc  K hK => ?_
            (try simp only [Act.put, List.setIfInBounds_toArray, List.set_cons_zero, List.set_cons_succ])
            go_simp
            exact hK (.pointer (some ⟨w.heap.size + 1, 0, none⟩)) _ (rgp.ra1 rfl rfl) (rgp.ea1 rfl ⟨Keep.refl _ _, hc.2.1⟩)
          · refine fun w8 hc v0 h0 K hK => ?_
            have h0 := rgp.ra1_out rfl h0
            obtain rfl : v0 = .pointer (some ⟨w.heap.size + 1, 0, none⟩) := h0
            (try simp only [Act.put, List.setIfInBounds_toArray, List.set_cons_zero, List.set_cons_succ])
            rw [if_pos (by rfl)]
            have c0 : w8.cell? ⟨w.heap.size + 1, 0, none⟩ = some (.slice A1 n c1) := hc.2.2.2.1.cell 0
            go_simp
            exact hK (.slice A1 n c1) _ (rgp.ra1 rfl rfl) (rgp.ea1 rfl ⟨Keep.refl _ _, hc.2.1⟩)
          · refine fun w8 hc  K hK => ?_
            (try simp only [Act.put, List.setIfInBounds_toArray, List.set_cons_zero, List.set_cons_succ])
            go_simp
            exact hK (.pointer (some ⟨p, 0, none⟩)) _ (rgp.ra1 rfl rfl) (rgp.ea1 rfl ⟨Keep.refl _ _, hc.2.1⟩)
          · refine fun w8 hc v2 h2 K hK => ?_
            have h2 := rgp.ra1_out rfl h2
            obtain rfl : v2 = .pointer (some ⟨p, 0, none⟩) := h2
            (try simp only [Act.put, List.setIfInBounds_toArray, List.set_cons_zero, List.set_cons_succ])
            go_simp
            have hpl := hc.2.1.lt
            have hol := hc.2.2.2.2.1.hi_
            have hql := hc.2.2.2.1.lt
            (with_reducible refine (l17any _ p a len cap hc.2.1).mono ?_)
            rintro e w3 ⟨x, A, n3, c3, rfl, hn, ho, hk, hcc⟩
            exact hK _ _ (rgp.ra1 rfl ⟨x, A, n3, c3, _, _, rfl, hn, hpl, hol, (by omega), ho⟩) (rgp.ea1 rfl ⟨hk, hcc⟩)
          · refine fun w8 hc v3 h3 K hK => ?_
            have h3 := rgp.ra1_out rfl h3
            obtain ⟨x2, A2, n2, c2, lo2, hi2, rfl, hn2, hp2, hq1, hq2, hO2⟩ := h3
            (try simp only [Act.put, List.setIfInBounds_toArray, List.set_cons_zero, List.set_cons_succ])
            rw [if_pos (by rfl)]
            have hpl := hc.2.1.lt
            have hol := hc.2.2.2.2.1.hi_
            go_simp
            exact hK (.slice (some ⟨w8.heap.size, 0, none⟩) 1 1) _ (rgp.ra1 rfl ⟨w8.heap.size, x2, A2, n2, c2, lo2, hi2, rfl, hn2, hpl, hol, Bx.made _ _ _, hp2, hq1, hq2, hO2.below (below_box _ _)⟩) (rgp.ea1 rfl (dr_below hc.2.1 (below_box _ _)))
          · refine fun w8 hc v1 h1 v4 h4 K hK => ?_
            have h1 := rgp.ra1_out rfl h1
            obtain rfl : v1 = .slice A1 n c1 := h1
            have h4 := rgp.ra1_out rfl h4
            obtain ⟨q1, x1, A1_, n1_, c1_, lo1_, hi1_, rfl, hn1, hpq, hqq, hX1, hp1, hq3, hq4, hO1⟩ := h4
            (try simp only [Act.put, List.setIfInBounds_toArray, List.set_cons_zero, List.set_cons_succ])
            rw [if_pos (by rfl)]
            have hql := hc.2.2.2.1.lt
            refine rgp.wp_push _ _ 24 rfl Try.underlying24 HZ.out.1 HZ.out.2.1 HZ.out.2.2.1 (by rw [HZ.out.2.2.2]; omega) rfl rfl rfl hc.2.2.2.2.1 x1 hX1 hO1 hq3 hq4 (by have h1 := hqn.out.1; have h2 := hc.2.2.2.2.1.len; simp at h1; omega) (by omega) ?_
            intro A4 c4 w4 hn4 hp4
            have hx1 : x1.2.2.2.length ≤ 101 := by have := hO1.len; omega
            exact hK _ _ (rgp.ra2 (by obtain ⟨B3, d3, f, hi3, e1, e2, h3⟩ := hn4; exact ⟨B3, d3, f, hi3, e1, (by rw [e2]; exact hx1), h3⟩)) (rgp.ea2 hp4)
          · refine fun w8 hc  K hK => ?_
            (try simp only [Act.put, List.setIfInBounds_toArray, List.set_cons_zero, List.set_cons_succ])
            go_simp
            exact hK (.pointer (some ⟨w.heap.size + 1, 0, none⟩)) _ (rgp.ra1 rfl rfl) (rgp.ea1 rfl ⟨Keep.refl _ _, hc.2.1⟩)
          refine fun w9 hc v0 h0 v1 h1 v2 h2 v3 h3 v4 h4 v5 h5 v6 h6 => ?_
          have h0 := rgp.ra1_out rfl h0
          obtain rfl : v0 = .pointer (some ⟨w.heap.size + 1, 0, none⟩) := h0
          have h1 := rgp.ra1_out rfl h1
          obtain rfl : v1 = .slice A1 n c1 := h1
          have h2 := rgp.ra1_out rfl h2
          obtain rfl : v2 = .pointer (some ⟨p, 0, none⟩) := h2
          have h3 := rgp.ra1_out rfl h3
          obtain ⟨x2, A2, n2, c2, lo2, hi2, rfl, hn2, hp2, hq1, hq2, hO2⟩ := h3
          have h4 := rgp.ra1_out rfl h4
          obtain ⟨q1, x1, A1_, n1_, c1_, lo1_, hi1_, rfl, hn1, hpq, hqq, hX1, hp1, hq3, hq4, hO1⟩ := h4
          have h5 := rgp.ra2_out h5
          obtain ⟨A3, c3, f3, hi3, rfl, hfx, hO3⟩ := h5
          have h6 := rgp.ra1_out rfl h6
          obtain rfl : v6 = .pointer (some ⟨w.heap.size + 1, 0, none⟩) := h6
          (try simp only [reg.Obs])
          (try simp only [Act.put, List.setIfInBounds_toArray, List.set_cons_zero, List.set_cons_succ])
          simp only [List.drop_succ_cons, List.drop_zero]
          have K4 := Lib.hid hc.1
          have C4 := Lib.hid hc.2.1
          have Z4 := Lib.hid hc.2.2.1
          have Q4 := Lib.hid hc.2.2.2.1
          have O4 := Lib.hid hO3.up
          have HFX := Lib.hid hfx
          clear hO3 hO2 hO1 hX1 hfx hc K3 C3 Z3 Q3 O3
          have cQ0 : w9.cell? ⟨w.heap.size + 1, 0, none⟩ = some (.slice A1 n c1) := Q4.out.cell 0
          have fQ0 : w9.frozen? ⟨w.heap.size + 1, 0, none⟩ = false := Q4.out.free 0
          go_upto_region 11 with fail
          clear cQ0 fQ0
          have BB := Lib.hid (show Below w.heap.size w9 (w9.setCell ⟨w.heap.size + 1, 0, none⟩ (.slice A3 (n + 1) c3)) from (Below.refl _ _).setCell (p := ⟨w.heap.size + 1, 0, none⟩) (by have h0 := P0.out; have hs0 := LTZ.out; have hs1 := LTQ.out; have hs2 := SS1.out; have hs3 := LUZ2.out; have hs4 := LUQ2.out; have hs5 := SS3.out; (try simp only []); omega) _)
          have hWW : (w9.setCell ⟨w.heap.size + 1, 0, none⟩ (.slice A3 (n + 1) c3)) = (w9.setCell ⟨w.heap.size + 1, 0, none⟩ (.slice A3 (n + 1) c3)) := rfl
          obtain ⟨w5, hW⟩ : ∃ wy, (w9.setCell ⟨w.heap.size + 1, 0, none⟩ (.slice A3 (n + 1) c3)) = wy := ⟨_, rfl⟩
          rw [hW]
          clear hWW
          have K5 := Lib.hid (drk.later K4.out (Nat.le_refl _) (hW ▸ BB.out))
          have C5 := Lib.hid (drk.cur_later CW.out K4.out C4.out (Nat.le_refl _) (hW ▸ BB.out))
          have Z5 := Lib.hid (show Bx 26 w5 (w.heap.size) #[.slice none 0 0, .int .i64 0] by rw [← hW]; exact (Z4.out.other (by have h0 := P0.out; have hs0 := LTZ.out; have hs1 := LTQ.out; have hs2 := SS1.out; have hs3 := LUZ2.out; have hs4 := LUQ2.out; have hs5 := SS3.out; first | omega | (simp <;> omega)) _ _))
          have Q5 := Lib.hid (show Bx 26 w5 (w.heap.size + 1) #[.slice A3 (n + 1) c3, .int .i64 d] by rw [← hW]; exact (Q4.out.set 0 _))
          have O5 := Lib.hid (show Oe msg w5 (w.heap.size + 1 + 1) w9.heap.size A3 (n + 1) c3 (es ++ [f3]) by rw [← hW]; exact (rgp.oe_setCell O4.out Q4.out (by decide) (by decide) 0 _))
          clear hW BB K4 C4 Z4 Q4 O4
          have HQD := Lib.hid (show Qdr ((es ++ [f3]).map (·.x)) d from ⟨by have h1 := hqn.out.1; simp at h1 ⊢; omega, fun y hy => by rw [List.map_append] at hy; rcases List.mem_append.1 hy with hy | hy; exact hqn.out.2.1 y hy; (obtain rfl : y = f3.x := by simpa using hy); exact HFX.out, by have := hqn.out.2.2.1; omega, by have := hqn.out.2.2.2; omega⟩)
          go_wp2_with (first | (refine stw.list_load rfl 26 _ rfl (w.heap.size + 1) rfl 26 _ Q5.out Try.underlying26 rfl szQ ?_) | (refine stw.list_store rfl 26 _ _ rfl (w.heap.size) #[.slice A3 (n + 1) c3, .int .i64 d] rfl rfl 26 _ Z5.out rfl szQ (oneQ _ _ _ _) ?_; intro wz6 hz))
          have K6 := Lib.hid (drk.later K5.out (by have h0 := P0.out; have hs0 := LTZ.out; have hs1 := LTQ.out; have hs2 := SS1.out; have hs3 := LUZ2.out; have hs4 := LUQ2.out; have hs5 := SS3.out; first | omega | (simp <;> omega)) hz.below)
          have C6 := Lib.hid (drk.cur_later CW.out K5.out C5.out (by have h0 := P0.out; have hs0 := LTZ.out; have hs1 := LTQ.out; have hs2 := SS1.out; have hs3 := LUZ2.out; have hs4 := LUQ2.out; have hs5 := SS3.out; first | omega | (simp <;> omega)) hz.below)
          have Z6 := Lib.hid (hz.box)
          have Q6 := Lib.hid (hz.keep Q5.out (by have h0 := P0.out; have hs0 := LTZ.out; have hs1 := LTQ.out; have hs2 := SS1.out; have hs3 := LUZ2.out; have hs4 := LUQ2.out; have hs5 := SS3.out; first | omega | (simp <;> omega)))
          have O6 := Lib.hid (rgp.oe_set O5.out Z5.out (by decide) (by decide) hz.below.size (fun k hk => hz.other k hk))
          clear hz K5 C5 Z5 Q5 O5
          (try simp only [Exit.inBlock, Exit.then])
          refine bodyPost_ret (v := .agg #[.slice A3 (n + 1) c3, .int .i64 d]) ?_ rfl ?_
          · rw [results_cell1 rfl]
            exact stw.back Z6.out Try.underlying26 rfl szQ
          · exact ⟨_, _, _, _, _, rfl, HQD.out, (O6.out).up.down (by have h0 := P0.out; have hs0 := LTZ.out; have hs1 := LTQ.out; have hs2 := SS1.out; have hs3 := LUZ2.out; have hs4 := LUQ2.out; have hs5 := SS3.out; first | omega | (simp <;> omega)), K6.out, C6.out⟩
        · have e0 : (q == 0) = false := by simpa using h0
          have e1 : (q == 1) = false := by simpa using h1
          go_wp2_with (first | (refine stw.list_load rfl 26 _ rfl (w.heap.size + 1) rfl 26 _ Q3.out Try.underlying26 rfl szQ ?_) | (refine stw.list_store rfl 26 _ _ rfl (w.heap.size) #[.slice A1 n c1, .int .i64 d] rfl rfl 26 _ Z3.out rfl szQ (oneQ _ _ _ _) ?_; intro wz4 hz))
          have K4 := Lib.hid (drk.later K3.out (by have h0 := P0.out; have hs0 := LTZ.out; have hs1 := LTQ.out; have hs2 := SS1.out; have hs3 := LUZ2.out; have hs4 := LUQ2.out; have hs5 := SS3.out; first | omega | (simp <;> omega)) hz.below)
          have C4 := Lib.hid (drk.cur_later CW.out K3.out C3.out (by have h0 := P0.out; have hs0 := LTZ.out; have hs1 := LTQ.out; have hs2 := SS1.out; have hs3 := LUZ2.out; have hs4 := LUQ2.out; have hs5 := SS3.out; first | omega | (simp <;> omega)) hz.below)
          have Z4 := Lib.hid (hz.box)
          have Q4 := Lib.hid (hz.keep Q3.out (by have h0 := P0.out; have hs0 := LTZ.out; have hs1 := LTQ.out; have hs2 := SS1.out; have hs3 := LUZ2.out; have hs4 := LUQ2.out; have hs5 := SS3.out; first | omega | (simp <;> omega)))
          have O4 := Lib.hid (rgp.oe_set O3.out Z3.out (by decide) (by decide) hz.below.size (fun k hk => hz.other k hk))
          clear hz K3 C3 Z3 Q3 O3
          (try simp only [Exit.inBlock, Exit.then])
          refine bodyPost_ret (v := .agg #[.slice A1 n c1, .int .i64 d]) ?_ rfl ?_
          · rw [results_cell1 rfl]
            exact stw.back Z4.out Try.underlying26 rfl szQ
          · exact ⟨_, _, _, _, _, rfl, ⟨by have := hqn.out.1; omega, hqn.out.2.1, by have := hqn.out.2.2.1; omega, by have := hqn.out.2.2.2; omega⟩, (O4.out).up.down (by have h0 := P0.out; have hs0 := LTZ.out; have hs1 := LTQ.out; have hs2 := SS1.out; have hs3 := LUZ2.out; have hs4 := LUQ2.out; have hs5 := SS3.out; first | omega | (simp <;> omega)), K4.out, C4.out⟩
end Go.Proofs.Ytjmenbpalihnnaa.mq
