/- Reassemblies and frames: rows as the walks tell them (Rq, Oe), as the harness tells them (RR, OO). Condition: none. -/
import Derived.Test.YtjmenbpalihnnaaRa5
import Derived.Test.YtjmenbpalihnnaaUv18
import Derived.Test.YtjmenbpalihnnaaUw18
namespace Go.Proofs.Ytjmenbpalihnnaa.fr
open Go.RowKit sl harn bx mrw drk stw
set_option linter.unusedVariables false
set_option linter.unusedSimpArgs false
open ux (Rea Fra rea fra rowRea rowFra RR OO Rep Ue fps blks bytes)
theorem blks_two {A : Option Addr} : (blks A).Nodup := by cases A <;> simp [blks]
theorem sumT_sub {α : Type} (f : α → Nat) {a b : List α} (h : a.Sublist b) : ux.sumT f a ≤ ux.sumT f b := by
  induction h with
  | slnil => exact Nat.le_refl _
  | cons x _ ih => rw [ux.sumT_cons]; omega
  | cons_cons x _ ih => rw [ux.sumT_cons, ux.sumT_cons]; omega
theorem row_sub {α : Type} {T : TypeId} {S : Rep α} {a b : List α} (h : a.Sublist b) : (ux.row T S).sz a ≤ (ux.row T S).sz b := by
  have h1 := h.length_le
  have h2 := sumT_sub S.sz h
  show a.length + ux.sumT S.sz a ≤ b.length + ux.sumT S.sz b
  omega
theorem row_mem {α : Type} {T : TypeId} {S : Rep α} {a : List α} {x : α} (h : x ∈ a) : S.sz x ≤ (ux.row T S).sz a := by
  have h1 := ux.sumT_mem S.sz h
  show S.sz x ≤ a.length + ux.sumT S.sz a
  omega
/-- Any list of elements, the blocks of their slices one behind the other. -/
def ues {α : Type} (v : α → Value → Value) (es : List (El α)) : List (Ue α) := es.map fun e => ⟨blks e.A, v e.x (.slice e.A e.n e.c), e.x⟩
theorem nd_bodies {α : Type} {v : α → Value → Value} : ∀ {es : List (El α)}, Ds es → (fps (ues v es)).Nodup
  | [], _ => List.nodup_nil
  | e :: r, h => by
    have h2 := List.pairwise_cons.1 h
    have e1 : fps (ues v (e :: r)) = blks e.A ++ fps (ues v r) := rfl
    rw [e1]
    refine List.nodup_append.2 ⟨blks_two, nd_bodies h2.2, fun b hb c hc hbc => ?_⟩
    subst hbc
    obtain ⟨u, hu, hb2⟩ := List.mem_flatMap.1 hc
    obtain ⟨f, hf, rfl⟩ := List.mem_map.1 hu
    obtain ⟨A, n, cc, hA⟩ : ∃ A n c, (⟨e.x, A, n, c⟩ : El α) = e := ⟨_, _, _, rfl⟩
    cases hA1 : e.A with
    | none => rw [hA1] at hb; cases hb
    | some a =>
      cases hA2 : f.A with
      | none => simp only [hA2] at hb2; cases hb2
      | some a2 =>
        rw [hA1] at hb; simp only [hA2] at hb2
        have k1 : b = a.block := by simpa [blks] using hb
        have k2 : b = a2.block := by simpa [blks] using hb2
        exact h2.1 f hf a a2 hA1 hA2 (k1.symm.trans k2)
theorem mem_body {α : Type} {v : α → Value → Value} {es : List (El α)} {b : Nat} (h : b ∈ fps (ues v es)) : ∃ e ∈ es, b ∈ blks e.A := by
  obtain ⟨u, hu, hb⟩ := List.mem_flatMap.1 h
  obtain ⟨f, hf, rfl⟩ := List.mem_map.1 hu
  exact ⟨f, hf, hb⟩
section
variable {w : World} {lo hi n c : Nat} {A : Option Addr} {l : List Rea} {es : List (El Rea)}
theorem rea_flt : ∀ es : List (El Rea), flat reaS es = ux.flt (ues ux.reaV es)
  | [] => rfl
  | e :: r => by
    have e1 : flat reaS (e :: r) = cells reaS e ++ flat reaS r := rfl
    have e2 : ux.flt (ues ux.reaV (e :: r)) = cells reaS e ++ ux.flt (ues ux.reaV r) := rfl
    rw [e1, e2, rea_flt r]
theorem rea_rq (h : RR rowRea w lo hi (.slice A n c) l) : Rq reaS w lo hi A n c l := by
  obtain ⟨A', n', c', e, h1, h2, h3, h4, h5⟩ := h
  injection e with e1 e2 e3
  subst e1 e2 e3
  refine ⟨h1, h2, h3, h4, fun hn => ?_⟩
  obtain ⟨b, off, e, g1, g2, g3⟩ := h5 hn
  refine ⟨b, off, e, g1, g2, fun i x hx => ?_⟩
  obtain ⟨u, r1, r2⟩ := g3 i x hx
  obtain ⟨A0, n0, c0, rfl, hb⟩ := ux.rea_r (r2 : RR rea w lo hi u x)
  exact ⟨A0, n0, c0, r1, ux.rd_of hb⟩
theorem rea_rr (h : Rq reaS w lo hi A n c l) : RR rowRea w lo hi (.slice A n c) l := by
  obtain ⟨h1, h2, h3, h4, h5⟩ := h
  refine ⟨A, n, c, rfl, h1, h2, h3, h4, fun hn => ?_⟩
  obtain ⟨b, off, e, g1, g2, g3⟩ := h5 hn
  refine ⟨b, off, e, g1, g2, fun i x hx => ?_⟩
  obtain ⟨A0, n0, c0, r1, r2⟩ := g3 i x hx
  exact ⟨ux.reaV x (.slice A0 n0 c0), r1, h4, _, rfl, ux.num_rd r2⟩
theorem rea_oo (h : Oe reaS w lo hi A n c es) (he : es.map (fun e : El Rea => e.x) = l) : ∃ fp, OO rowRea w lo hi fp (.slice A n c) l := by
  have hes : (ues ux.reaV es).map (fun u : Ue Rea => u.x) = l := by rw [← he]; simp [ues]
  have hel : ∀ u ∈ ues ux.reaV es, rea.O w u.fp u.v u.x ∧ u.v.cells.size = rea.n ∧ u.v.cells.all (·.oneCell') = true := by
    intro u hu
    obtain ⟨f, hf, rfl⟩ := List.mem_map.1 hu
    have hb := h.body f hf
    exact ⟨⟨_, _, rfl, (ux.num_of hb).1, rfl, blks_two⟩, rfl, rea.one (w := w) (lo := lo) (hi := hi) ⟨h.hi_, _, rfl, ux.num_rd hb.rd⟩⟩
  rcases h.form with ⟨rfl, rfl, rfl⟩ | ⟨g, cur, rfl, g1, g2, g3, g4, g5, g6, g7⟩
  · have hl := h.len
    obtain rfl : es = [] := List.length_eq_zero_iff.1 hl
    exact ⟨[], ⟨none, 0, 0, [], rfl, by rw [← he]; rfl, fun _ h => (by cases h), List.nodup_nil, .inl ⟨rfl, rfl, rfl, rfl, rfl⟩⟩, fun b hb => (by cases hb), h.hi_⟩
  · have hin : ∀ b, b ∈ fps (ues ux.reaV es) → (lo ≤ b ∧ b < hi) ∧ b ≠ g := by
      intro b hb
      obtain ⟨e, hem, hbe⟩ := mem_body hb
      have ho := h.body e hem
      refine ⟨ux.ow_in ho b hbe, fun hbg => ?_⟩
      rcases ho.form with ⟨e0, _⟩ | ⟨q, cur2, e0, _, _, q3, _⟩
      · rw [e0] at hbe; cases hbe
      · rw [e0] at hbe
        have : b = q := ux.mem_one hbe
        subst this
        rw [hbg, g3] at q3
        injection q3 with q4
        injection q4 with _ q5
        exact reaS.ne q5
    refine ⟨g :: fps (ues ux.reaV es), ⟨_, n, c, ues ux.reaV es, rfl, hes, hel, List.nodup_cons.2 ⟨fun hm => (hin g hm).2 rfl, nd_bodies h.ds⟩, .inr ⟨g, cur, rfl, g3, by rw [ues, List.length_map]; exact h.len, g4, g5, g6, ?_, rfl⟩⟩, fun b hb => ?_, h.hi_⟩
    · exact g7.trans (rea_flt es)
    · rcases List.mem_cons.1 hb with rfl | hb
      · exact ⟨g1, g2⟩
      · exact (hin b hb).1
end
section
variable {w : World} {lo hi n c : Nat} {A : Option Addr} {l : List Fra} {es : List (El Fra)}
theorem fra_flt : ∀ es : List (El Fra), flat fraS es = ux.flt (ues ux.fraV es)
  | [] => rfl
  | e :: r => by
    have e1 : flat fraS (e :: r) = cells fraS e ++ flat fraS r := rfl
    have e2 : ux.flt (ues ux.fraV (e :: r)) = cells fraS e ++ ux.flt (ues ux.fraV r) := rfl
    rw [e1, e2, fra_flt r]
theorem fra_rq (h : RR rowFra w lo hi (.slice A n c) l) : Rq fraS w lo hi A n c l := by
  obtain ⟨A', n', c', e, h1, h2, h3, h4, h5⟩ := h
  injection e with e1 e2 e3
  subst e1 e2 e3
  refine ⟨h1, h2, h3, h4, fun hn => ?_⟩
  obtain ⟨b, off, e, g1, g2, g3⟩ := h5 hn
  refine ⟨b, off, e, g1, g2, fun i x hx => ?_⟩
  obtain ⟨u, r1, r2⟩ := g3 i x hx
  obtain ⟨A0, n0, c0, rfl, hb⟩ := ux.fra_r (r2 : RR fra w lo hi u x)
  exact ⟨A0, n0, c0, r1, ux.rd_of hb⟩
theorem fra_rr (h : Rq fraS w lo hi A n c l) : RR rowFra w lo hi (.slice A n c) l := by
  obtain ⟨h1, h2, h3, h4, h5⟩ := h
  refine ⟨A, n, c, rfl, h1, h2, h3, h4, fun hn => ?_⟩
  obtain ⟨b, off, e, g1, g2, g3⟩ := h5 hn
  refine ⟨b, off, e, g1, g2, fun i x hx => ?_⟩
  obtain ⟨A0, n0, c0, r1, r2⟩ := g3 i x hx
  exact ⟨ux.fraV x (.slice A0 n0 c0), r1, h4, _, rfl, ux.num_rd r2⟩
theorem fra_oo (h : Oe fraS w lo hi A n c es) (he : es.map (fun e : El Fra => e.x) = l) : ∃ fp, OO rowFra w lo hi fp (.slice A n c) l := by
  have hes : (ues ux.fraV es).map (fun u : Ue Fra => u.x) = l := by rw [← he]; simp [ues]
  have hel : ∀ u ∈ ues ux.fraV es, fra.O w u.fp u.v u.x ∧ u.v.cells.size = fra.n ∧ u.v.cells.all (·.oneCell') = true := by
    intro u hu
    obtain ⟨f, hf, rfl⟩ := List.mem_map.1 hu
    have hb := h.body f hf
    exact ⟨⟨_, _, rfl, (ux.num_of hb).1, rfl, blks_two⟩, rfl, fra.one (w := w) (lo := lo) (hi := hi) ⟨h.hi_, _, rfl, ux.num_rd hb.rd⟩⟩
  rcases h.form with ⟨rfl, rfl, rfl⟩ | ⟨g, cur, rfl, g1, g2, g3, g4, g5, g6, g7⟩
  · have hl := h.len
    obtain rfl : es = [] := List.length_eq_zero_iff.1 hl
    exact ⟨[], ⟨none, 0, 0, [], rfl, by rw [← he]; rfl, fun _ h => (by cases h), List.nodup_nil, .inl ⟨rfl, rfl, rfl, rfl, rfl⟩⟩, fun b hb => (by cases hb), h.hi_⟩
  · have hin : ∀ b, b ∈ fps (ues ux.fraV es) → (lo ≤ b ∧ b < hi) ∧ b ≠ g := by
      intro b hb
      obtain ⟨e, hem, hbe⟩ := mem_body hb
      have ho := h.body e hem
      refine ⟨ux.ow_in ho b hbe, fun hbg => ?_⟩
      rcases ho.form with ⟨e0, _⟩ | ⟨q, cur2, e0, _, _, q3, _⟩
      · rw [e0] at hbe; cases hbe
      · rw [e0] at hbe
        have : b = q := ux.mem_one hbe
        subst this
        rw [hbg, g3] at q3
        injection q3 with q4
        injection q4 with _ q5
        exact fraS.ne q5
    refine ⟨g :: fps (ues ux.fraV es), ⟨_, n, c, ues ux.fraV es, rfl, hes, hel, List.nodup_cons.2 ⟨fun hm => (hin g hm).2 rfl, nd_bodies h.ds⟩, .inr ⟨g, cur, rfl, g3, by rw [ues, List.length_map]; exact h.len, g4, g5, g6, ?_, rfl⟩⟩, fun b hb => ?_, h.hi_⟩
    · exact g7.trans (fra_flt es)
    · rcases List.mem_cons.1 hb with rfl | hb
      · exact ⟨g1, g2⟩
      · exact (hin b hb).1
end
theorem rowRea_bd (l : List Rea) : rowRea.tot l ≤ 64 * rowRea.sz l := ux.rowRea_tot l
theorem rowFra_bd (l : List Fra) : rowFra.tot l ≤ 64 * rowFra.sz l := ux.rowFra_tot l
theorem rea_bd (l : Rea) : ux.rea_tv l ≤ 64 * rea.sz l + 64 := by have h := ux.bytes_tot l.Body; show ux.bytes.tot l.Body ≤ 64 * ux.bytes.sz l.Body + 64; omega
theorem fra_bd (l : Fra) : ux.fra_tv l ≤ 64 * fra.sz l + 64 := by have h := ux.bytes_tot l.Body; show ux.bytes.tot l.Body ≤ 64 * ux.bytes.sz l.Body + 64; omega
theorem bytes_bd (l : List Int) : ux.bytes.tot l ≤ 64 * ux.bytes.sz l := ux.bytes_tot l
/-- What holds of a list within the harness's bound. -/
theorem list_bd {l : List Rea} (h : rowRea.sz l ≤ 67108864) : l.length ≤ 67108864 ∧ ∀ y ∈ l, y.Body.length ≤ 67108864 := by
  have e : rowRea.sz l = l.length + ux.sumT rea.sz l := rfl
  exact ⟨by omega, fun y hy => by have h1 : rea.sz y ≤ rowRea.sz l := row_mem hy; have h2 : rea.sz y = y.Body.length := rfl; omega⟩
theorem fra_rd {w : World} {lo hi n c : Nat} {A : Option Addr} {f : Fra} (h : RR fra w lo hi (ux.fraV f (.slice A n c)) f) : Rd .u8 w lo hi A n c f.Body := by
  obtain ⟨A0, n0, c0, e, h0⟩ := ux.fra_r h
  have e2 : Value.slice A n c = Value.slice A0 n0 c0 := by simpa [ux.fraV] using e
  rw [← e2] at h0
  exact ux.rd_of h0
theorem fra_of {w : World} {lo hi n c : Nat} {A : Option Addr} {f : Fra} (h : Rd .u8 w lo hi A n c f.Body) : RR fra w lo hi (ux.fraV f (.slice A n c)) f := ⟨h.hi_, _, rfl, ux.num_rd h⟩
theorem bx_ks {T : TypeId} {w w' : World} {b : Nat} {cs : Array Value} {F : List Nat} (h : Bx T w b cs) (hk : KS F w w') (hb : b ∉ F) : Bx T w' b cs := h.same (hk.block b h.lt hb)
end Go.Proofs.Ytjmenbpalihnnaa.fr
