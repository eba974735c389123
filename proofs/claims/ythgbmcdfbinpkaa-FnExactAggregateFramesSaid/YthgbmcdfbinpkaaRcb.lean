/- Slices of slices of bytes: as the walks tell them (Rq, Oe), as the harness tells them (RR, OO). Condition: none. -/
import Derived.Test.YthgbmcdfbinpkaaAg6
import Derived.Test.YthgbmcdfbinpkaaUw20
namespace Go.Proofs.Ythgbmcdfbinpkaa.ag
open Go.RowKit sl harn bx mrw drk stw
set_option linter.unusedVariables false
set_option linter.unusedSimpArgs false
open ux (RR OO Rep Ue fps blks rowB)
theorem blks_one {A : Option Addr} : (blks A).Nodup := by cases A <;> simp [blks]
/-- Any list of elements, the blocks of their slices one behind the other. -/
def ueb (es : List (El (List Int))) : List (Ue (List Int)) := es.map fun e => ⟨blks e.A, .slice e.A e.n e.c, e.x⟩
theorem nd_b : ∀ {es : List (El (List Int))}, Ds es → (fps (ueb es)).Nodup
  | [], _ => List.nodup_nil
  | e :: r, h => by
    have h2 := List.pairwise_cons.1 h
    have e1 : fps (ueb (e :: r)) = blks e.A ++ fps (ueb r) := rfl
    rw [e1]
    refine List.nodup_append.2 ⟨blks_one, nd_b h2.2, fun b hb c hc hbc => ?_⟩
    subst hbc
    obtain ⟨u, hu, hb2⟩ := List.mem_flatMap.1 hc
    obtain ⟨f, hf, rfl⟩ := List.mem_map.1 hu
    cases hA1 : e.A with
    | none => rw [hA1] at hb; cases hb
    | some a =>
      cases hA2 : f.A with
      | none => simp only [hA2] at hb2; cases hb2
      | some a2 =>
        rw [hA1] at hb; simp only [hA2] at hb2
        have k1 : b = a.block := by simpa [blks] using hb
        have k2 : b = a2.block := by simpa [blks] using hb2
        exact h2.1 f hf a a2 hA1 hA2 (k1.symm.trans k2)
theorem mem_b {es : List (El (List Int))} {b : Nat} (h : b ∈ fps (ueb es)) : ∃ e ∈ es, b ∈ blks e.A := by
  obtain ⟨u, hu, hb⟩ := List.mem_flatMap.1 h
  obtain ⟨f, hf, rfl⟩ := List.mem_map.1 hu
  exact ⟨f, hf, hb⟩
section
variable {w : World} {lo hi n c : Nat} {A : Option Addr} {l : List (List Int)} {es : List (El (List Int))}
theorem flt_b : ∀ es : List (El (List Int)), flat bsS es = ux.flt (ueb es)
  | [] => rfl
  | e :: r => by
    have e1 : flat bsS (e :: r) = cells bsS e ++ flat bsS r := rfl
    have e2 : ux.flt (ueb (e :: r)) = cells bsS e ++ ux.flt (ueb r) := rfl
    rw [e1, e2, flt_b r]
theorem row_rq (h : RR rowB w lo hi (.slice A n c) l) : Rq bsS w lo hi A n c l := by
  obtain ⟨A', n', c', e, h1, h2, h3, h4, h5⟩ := h
  injection e with e1 e2 e3
  subst e1 e2 e3
  refine ⟨h1, h2, h3, h4, fun hn => ?_⟩
  obtain ⟨b, off, e, g1, g2, g3⟩ := h5 hn
  refine ⟨b, off, e, g1, g2, fun i x hx => ?_⟩
  obtain ⟨u, r1, A0, n0, c0, rfl, hb⟩ := g3 i x hx
  exact ⟨A0, n0, c0, r1, hb⟩
theorem row_rr (h : Rq bsS w lo hi A n c l) : RR rowB w lo hi (.slice A n c) l := by
  obtain ⟨h1, h2, h3, h4, h5⟩ := h
  refine ⟨A, n, c, rfl, h1, h2, h3, h4, fun hn => ?_⟩
  obtain ⟨b, off, e, g1, g2, g3⟩ := h5 hn
  refine ⟨b, off, e, g1, g2, fun i x hx => ?_⟩
  obtain ⟨A0, n0, c0, r1, r2⟩ := g3 i x hx
  exact ⟨.slice A0 n0 c0, r1, A0, n0, c0, rfl, r2⟩
theorem row_oo (h : Oe bsS w lo hi A n c es) (he : es.map (fun e : El (List Int) => e.x) = l) : ∃ fp, OO rowB w lo hi fp (.slice A n c) l := by
  have hes : (ueb es).map (fun u : Ue (List Int) => u.x) = l := by rw [← he]; simp [ueb]
  have hel : ∀ u ∈ ueb es, ux.bytes.O w u.fp u.v u.x ∧ u.v.cells.size = ux.bytes.n ∧ u.v.cells.all (·.oneCell') = true := by
    intro u hu
    obtain ⟨f, hf, rfl⟩ := List.mem_map.1 hu
    have hb := h.body f hf
    exact ⟨(ux.num_of hb).1, rfl, ux.sl_one _ _ _⟩
  rcases h.form with ⟨rfl, rfl, rfl⟩ | ⟨g, cur, rfl, g1, g2, g3, g4, g5, g6, g7⟩
  · have hl := h.len
    obtain rfl : es = [] := List.length_eq_zero_iff.1 hl
    exact ⟨[], ⟨none, 0, 0, [], rfl, by rw [← he]; rfl, fun _ h => (by cases h), List.nodup_nil, .inl ⟨rfl, rfl, rfl, rfl, rfl⟩⟩, fun b hb => (by cases hb), h.hi_⟩
  · have hin : ∀ b, b ∈ fps (ueb es) → (lo ≤ b ∧ b < hi) ∧ b ≠ g := by
      intro b hb
      obtain ⟨e, hem, hbe⟩ := mem_b hb
      have ho := h.body e hem
      refine ⟨ux.ow_in ho b hbe, fun hbg => ?_⟩
      rcases ho.form with ⟨e0, _⟩ | ⟨q, cur2, e0, _, _, q3, _⟩
      · rw [e0] at hbe; cases hbe
      · rw [e0] at hbe
        have : b = q := ux.mem_one hbe
        subst this
        rw [hbg, g3] at q3
        injection q3 with q4
        injection q4 with _ q5
        exact bsS.ne q5
    refine ⟨g :: fps (ueb es), ⟨_, n, c, ueb es, rfl, hes, hel, List.nodup_cons.2 ⟨fun hm => (hin g hm).2 rfl, nd_b h.ds⟩, .inr ⟨g, cur, rfl, g3, by rw [ueb, List.length_map]; exact h.len, g4, g5, g6, ?_, rfl⟩⟩, fun b hb => ?_, h.hi_⟩
    · exact g7.trans (flt_b es)
    · rcases List.mem_cons.1 hb with rfl | hb
      · exact ⟨g1, g2⟩
      · exact (hin b hb).1
end
theorem rowB_bd (l : List (List Int)) : rowB.tot l ≤ 64 * rowB.sz l := ux.rowB_tot l
theorem bytes_bd (l : List Int) : ux.bytes.tot l ≤ 64 * ux.bytes.sz l := ux.bytes_tot l
theorem sumT_lecB (B : Nat) : ∀ l : List (List Int), (∀ x ∈ l, x.length ≤ B) → ux.sumT ux.bytes.sz l ≤ l.length * B
  | [], _ => by simp [ux.sumT]
  | x :: r, h => by
    have h1 := h x List.mem_cons_self
    have h2 := sumT_lecB B r fun y hy => h y (List.mem_cons_of_mem _ hy)
    have h3 : ux.bytes.sz x = x.length := rfl
    rw [ux.sumT_cons, List.length_cons, Nat.add_mul, Nat.one_mul]; omega
theorem split_sz (zs : List Int) : rowB.sz (split 8 zs) ≤ 67108864 := by
  have hb := split_bd 8 zs
  have h1 := sumT_lecB 200 _ hb.2
  have h2 : rowB.sz (split 8 zs) = (split 8 zs).length + ux.sumT ux.bytes.sz (split 8 zs) := rfl
  have h3 := Nat.mul_le_mul_right 200 hb.1
  omega
theorem rows_len {l : List (List Int)} (h : rowB.sz l ≤ 1048576) : l.length ≤ 1048576 := by
  have h2 : rowB.sz l = l.length + ux.sumT ux.bytes.sz l := rfl
  omega
end Go.Proofs.Ythgbmcdfbinpkaa.ag
