/- Regions that draw their order, each operation with a relation of its own, told in a list: what is right of each value and stays so under what the others may do. Condition: the region's form. -/
import Derived.Test.YtbkdbdhbmabgcaaRgp
import Derived.Test.YtbkdbdhbmabgcaaRgk
namespace Go.Proofs.Ytbkdbdhbmabgcaa.rgf
open Go Go.RowKit sl harn bx mrw
set_option linter.unusedVariables false

abbrev Rel := World → World → Prop
def Sb (p : Value → World → Prop) (e : Rel) : Prop := ∀ v w w', p v w → e w w' → p v w'
def AllC (C : World → Prop) : List Rel → Prop
  | [] => True
  | e :: r => (∀ w w', C w → e w w' → C w') ∧ AllC C r
def AllS (p : Value → World → Prop) (j : Nat) : Nat → List Rel → Prop
  | _, [] => True
  | k, e :: r => (k ≠ j → Sb p e) ∧ AllS p j (k + 1) r
/-- What is right of the value of operation j and stays so under what the others may do. -/
structure Sx (d : Rel) (Es : List Rel) (j : Nat) where
  p : Value → World → Prop
  hd : Sb p d
  hs : AllS p j 0 Es
theorem allS_pure {p : Value → Prop} {j : Nat} : ∀ (k : Nat) (Es : List Rel), AllS (fun v _ => p v) j k Es
  | _, [] => trivial
  | k, e :: r => ⟨fun _ _ _ _ h _ => h, allS_pure (k + 1) r⟩
def pureS {d : Rel} {Es : List Rel} {j : Nat} (x : Value) : Sx d Es j := ⟨fun v _ => v = x, fun _ _ _ h _ => h, allS_pure (p := fun v => v = x) 0 Es⟩
def freeS {d : Rel} {Es : List Rel} {j : Nat} : Sx d Es j := ⟨fun _ _ => True, fun _ _ _ h _ => h, allS_pure (p := fun _ => True) 0 Es⟩
theorem allS_get {p : Value → World → Prop} {j : Nat} : ∀ {Es : List Rel} {k i : Nat} {e : Rel}, AllS p j k Es → Es[i]? = some e → k + i ≠ j → Sb p e
  | [], _, _, _, _, h, _ => by simp at h
  | e :: r, k, 0, e', h, he, hne => by
    obtain rfl : e = e' := by simpa using he
    exact h.1 hne
  | e :: r, k, i + 1, e', h, he, hne => allS_get (k := k + 1) (i := i) h.2 (by simpa using he) (by omega)
theorem allC_get {C : World → Prop} : ∀ {Es : List Rel} {i : Nat} {e : Rel}, AllC C Es → Es[i]? = some e → ∀ w w', C w → e w w' → C w'
  | [], _, _, _, h => by simp at h
  | e :: r, 0, e', h, he => by
    obtain rfl : e = e' := by simpa using he
    exact h.1
  | e :: r, i + 1, e', h, he => allC_get (i := i) h.2 (by simpa using he)
section
variable {d : Rel} {Es : List Rel} {f : (j : Nat) → Sx d Es j}
theorem stab : ∀ i j v w w', i ≠ j → (f j).p v w → (Es.getD i d) w w' → (f j).p v w' := by
  intro i j v w w' hij hp he
  cases hi : Es[i]? with
  | none =>
    rw [List.getD_eq_getElem?_getD, hi] at he
    exact (f j).hd v w w' hp he
  | some e =>
    rw [List.getD_eq_getElem?_getD, hi] at he
    exact allS_get (k := 0) (f j).hs hi (by omega) v w w' hp he
theorem stabC {C : World → Prop} (h0 : ∀ w w', C w → d w w' → C w') (h : AllC C Es) : ∀ i w w', C w → (Es.getD i d) w w' → C w' := by
  intro i w w' hc he
  cases hi : Es[i]? with
  | none => rw [List.getD_eq_getElem?_getD, hi] at he; exact h0 w w' hc he
  | some e => rw [List.getD_eq_getElem?_getD, hi] at he; exact allC_get h hi w w' hc he
end
variable {P : Program} {Q : Exit → Act → World → Prop} {a0 : Act}
theorem region_tail {id : Nat} {l : List Oper} {w : World} (d : Rel) (Es : List Rel) (f : (j : Nat) → Sx d Es j) (s N : Nat) (nd : List (Option (List (Nat × Tmp)))) (hd : List (Nat × Tmp)) (C : World → Prop) (hm : P.follows .mixedOrders = true) (hs : decide (s < l.length) = true) (hB : reg.okB l.toArray s N [] nd = true)
    (hT : Region.seqB .any l.toArray (l.length - s) s (reg.upTo l.length s) = true) (hN : a0.tmps.size = N) (h0C : ∀ w w', C w → d w w' → C w') (hC : AllC C Es) (h0 : C w.drew) (hH : reg.heads l.toArray s = hd) (hA : reg.All (fun i => Es.getD i d) [] P l.toArray (fun j v w => (f j).p v w) C a0 0 l nd)
    (hF : ∀ w, C w → reg.Obs l.toArray (fun j v w => (f j).p v w) w (fun c => wpList P l.toArray Q (l.drop s) c w) hd a0) : (Code.region id l.toArray true).wp P Q a0 w :=
  rgp.region_tailE (fun i => Es.getD i d) s N nd hd C _ hm hs hB hT hN (stabC h0C hC) stab h0 hH hA hF
theorem region_free {id : Nat} {l : List Oper} {w : World} (d : Rel) (Es : List Rel) (f : (j : Nat) → Sx d Es j) (N : Nat) (rf : List (Nat × Tmp)) (nd : List (Option (List (Nat × Tmp)))) (hd : List (Nat × Tmp)) (C : World → Prop) (hm : P.follows .mixedOrders = true) (hB : reg.okB l.toArray l.length N rf nd = true) (hN : a0.tmps.size = N)
    (h0C : ∀ w w', C w → d w w' → C w') (hC : AllC C Es) (h0 : C w.drew) (hH : reg.heads l.toArray l.length = hd) (hA : reg.All (fun i => Es.getD i d) rf P l.toArray (fun j v w => (f j).p v w) C a0 0 l nd)
    (hF : ∀ w, C w → reg.Obs l.toArray (fun j v w => (f j).p v w) w (fun c => (∀ x ∈ rf, rf.lookup x.1 = some x.2 → (f x.1).p (reg.look c (some x.2)) w) → Q .normal c w) hd a0) : (Code.region id l.toArray true).wp P Q a0 w :=
  reg.region_free (fun i => Es.getD i d) N rf nd hd C _ hm hB hN (stabC h0C hC) stab h0 hH hA hF
end Go.Proofs.Ytbkdbdhbmabgcaa.rgf
