/- More of interleaving as numbers: the positions are a permutation, bursts hit no neighbours, and how many they hit. Condition: none. -/
import Derived.Test.YtpompggakhnflaaItm
namespace Go.Proofs.Ytpompggakhnflaa.itm
open Go.RowKit sl bm

/-- The first k positions. -/
def plist (n c k : Nat) : List Int := (List.range k).map fun i => ((pos n c i : Nat) : Int)
theorem plist_zero (n c : Nat) : plist n c 0 = [] := rfl
theorem plist_len (n c k : Nat) : (plist n c k).length = k := by simp [plist]
theorem plist_succ {n c k z : Nat} (h : pos n c k = z) : plist n c (k + 1) = plist n c k ++ [(z : Int)] := by
  subst h; unfold plist; rw [List.range_succ, List.map_append]; rfl
theorem mem_plist {n c k : Nat} {z : Int} (h : z ∈ plist n c k) : ∃ i, i < k ∧ z = (pos n c i : Nat) := by
  obtain ⟨i, h1, rfl⟩ := List.mem_map.1 h
  exact ⟨i, List.mem_range.1 h1, rfl⟩
theorem plist_nodup {n c : Nat} (hc : 0 < c) : ∀ k, k ≤ n → (plist n c k).Nodup
  | 0, _ => by simp [plist_zero]
  | k + 1, h => by
    rw [plist_succ rfl, List.nodup_append]
    refine ⟨plist_nodup hc k (by omega), by simp, fun a ha b hb e => ?_⟩
    have e1 : b = (pos n c k : Nat) := by simpa using hb
    obtain ⟨i, h1, h2⟩ := mem_plist ha
    have := pos_inj hc (show i < n by omega) (show k < n by omega) (by omega)
    omega
theorem plist_pm {n c : Nat} (hc : 0 < c) : pm (plist n c n) = true := pm_yes ⟨fun z hz => by
  obtain ⟨i, h1, h2⟩ := mem_plist hz
  have := pos_lt hc h1
  rw [plist_len]; omega, plist_nodup hc n (Nat.le_refl _)⟩
theorem plist_not (n c k : Nat) : pm (plist n c k ++ [0, 0]) = false := pm_no fun h => by
  have h2 := h.2
  rw [List.nodup_append] at h2
  simp at h2

theorem mem_hitN {n c : Nat} {s e : Int} {k : Nat} {z : Int} (h : z ∈ hitN n c s e k) : ∃ i : Nat, i < k ∧ z = i ∧ s ≤ (pos n c i : Nat) ∧ (pos n c i : Nat) ≤ e := by
  unfold hitN at h
  obtain ⟨i, h1, rfl⟩ := List.mem_map.1 h
  rw [List.mem_filter] at h1
  exact ⟨i, List.mem_range.1 h1.1, rfl, of_decide_eq_true h1.2⟩
theorem getD_mem {l : List Int} {i : Nat} (h : i < l.length) : l.getD i 0 ∈ l := by
  rw [List.getD_eq_getElem?_getD, List.getElem?_eq_getElem h]; exact List.getElem_mem h
theorem getD_left {a b : List Int} {i : Nat} (h : i < a.length) : (a ++ b).getD i 0 = a.getD i 0 := by
  rw [List.getD_eq_getElem?_getD, List.getElem?_append_left h, List.getD_eq_getElem?_getD]
theorem getD_end (a : List Int) (x : Int) : (a ++ [x]).getD a.length 0 = x := by
  rw [List.getD_eq_getElem?_getD, List.getElem?_append_right (Nat.le_refl _), Nat.sub_self]; rfl
/-- No two neighbours are hit. -/
theorem hit_gap {n c sp : Nat} {s e : Int} (hsp : ∀ i, i + 1 < n → sp ≤ dist n c i) (he : e = s + sp - 1) : ∀ k, k ≤ n → ∀ i, i + 1 < (hitN n c s e k).length → (hitN n c s e k).getD i 0 + 1 < (hitN n c s e k).getD (i + 1) 0
  | 0, _, i, h => by rw [hitN_zero] at h; simp at h
  | k + 1, hk, i, h => by
    have ih := hit_gap hsp he k (by omega) i
    rw [hitN_succ] at h ⊢
    by_cases hin : s ≤ (pos n c k : Nat) ∧ (pos n c k : Nat) ≤ e
    · rw [if_pos hin] at h ⊢
      rw [List.length_append, List.length_singleton] at h
      rcases Nat.lt_or_ge (i + 1) (hitN n c s e k).length with hlt | hge
      · rw [getD_left (by omega), getD_left hlt]; exact ih hlt
      · have el : i + 1 = (hitN n c s e k).length := by omega
        have hi : i < (hitN n c s e k).length := by omega
        rw [getD_left hi, el, getD_end]
        obtain ⟨j, h1, h2, h3, h4⟩ := mem_hitN (getD_mem hi)
        rw [h2]
        have hne : j + 1 ≠ k := fun e2 => by
          have := hsp j (by omega)
          unfold dist at this
          rw [e2] at this
          omega
        omega
    · rw [if_neg hin, List.append_nil] at h ⊢
      exact ih h
/-- One position more is one hit more. -/
theorem hit_step {n c : Nat} (hc : 0 < c) (s t : Nat) : ∀ k, k ≤ n → (hitN n c s ((s : Int) + t) k).length = (hitN n c s ((s : Int) + t - 1) k).length + (if ∃ i, i < k ∧ pos n c i = s + t then 1 else 0)
  | 0, _ => by
    rw [if_neg (by rintro ⟨i, h, _⟩; omega)]; rfl
  | k + 1, hk => by
    have ih := hit_step (n := n) hc s t k (by omega)
    rw [hitN_succ, hitN_succ, List.length_append, List.length_append, ih]
    by_cases h : pos n c k = s + t
    · rw [if_pos (show (s : Int) ≤ (pos n c k : Nat) ∧ ((pos n c k : Nat) : Int) ≤ s + t by omega), if_neg (show ¬ ((s : Int) ≤ (pos n c k : Nat) ∧ ((pos n c k : Nat) : Int) ≤ (s : Int) + t - 1) by omega),
        if_neg (show ¬ ∃ i, i < k ∧ pos n c i = s + t by
          rintro ⟨i, h1, h2⟩
          have := pos_inj (n := n) (i := i) (j := k) hc (by omega) (by omega) (by omega)
          omega), if_pos (show ∃ i, i < k + 1 ∧ pos n c i = s + t from ⟨k, by omega, h⟩)]
      simp
    · have e1 : (∃ i, i < k + 1 ∧ pos n c i = s + t) ↔ (∃ i, i < k ∧ pos n c i = s + t) := by
        refine ⟨fun ⟨i, h1, h2⟩ => ⟨i, ?_, h2⟩, fun ⟨i, h1, h2⟩ => ⟨i, by omega, h2⟩⟩
        have : i ≠ k := fun e => h (e ▸ h2)
        omega
      have e2 : ((s : Int) ≤ (pos n c k : Nat) ∧ ((pos n c k : Nat) : Int) ≤ (s : Int) + t - 1) ↔ ((s : Int) ≤ (pos n c k : Nat) ∧ ((pos n c k : Nat) : Int) ≤ (s : Int) + t) := by omega
      simp only [e1, e2]
      omega
theorem hit_count {n c : Nat} (hc : 0 < c) (s : Nat) : ∀ t : Nat, (hitN n c s ((s : Int) + t - 1) n).length = min t (n - s)
  | 0 => by
    have : ∀ k, (hitN n c s ((s : Int) + (0 : Nat) - 1) k).length = 0 := by
      intro k
      induction k with
      | zero => rfl
      | succ k ih => rw [hitN_succ, List.length_append, ih, if_neg (by omega)]; rfl
    rw [this]; omega
  | t + 1 => by
    have ih := hit_count (n := n) hc s t
    have e : (s : Int) + ((t + 1 : Nat) : Int) - 1 = (s : Int) + t := by omega
    rw [e, hit_step hc s t n (Nat.le_refl _), ih]
    by_cases h : s + t < n
    · rw [if_pos (pos_onto hc h)]; omega
    · rw [if_neg (by rintro ⟨i, h1, h2⟩; have := pos_lt hc h1; omega)]; omega
theorem clamp_nat {d : Nat} (h : d ≤ 10000) : clamp (d : Int) = d := by
  unfold clamp
  split
  · omega
  · split <;> omega
theorem hits_nat {n c s d : Nat} (hc : 1 ≤ c ∧ c ≤ 64) (hn : n ≤ 10000) (hs : s ≤ 10000) (hd : d ≤ 10000) : hits n c s d = hitN n c s ((s : Int) + d - 1) n := by
  rw [hits_yes ⟨by omega, by omega⟩ (by omega), clamp_nat hd]
end Go.Proofs.Ytpompggakhnflaa.itm
