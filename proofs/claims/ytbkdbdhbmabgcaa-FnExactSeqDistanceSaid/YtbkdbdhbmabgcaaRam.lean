/- Reassemblies and frames as data. Condition: none. -/
import Derived.Test.YtbkdbdhbmabgcaaUs18
import Derived.Test.YtbkdbdhbmabgcaaQc6
import Derived.Test.YtbkdbdhbmabgcaaRgk
namespace Go.Proofs.Ytbkdbdhbmabgcaa.fr
open Go.RowKit sl harn bx mrw drk stw
set_option linter.unusedVariables false
set_option linter.unusedSimpArgs false

open ux (Rea Fra rea fra)
def zr : Rea := ⟨0, 0, 0, [], 0⟩
abbrev rV (x : Rea) (A : Option Addr) (n c : Nat) : Value := .agg #[.int .i64 x.From, .int .i64 x.Seq, .int .i64 x.Next, .slice A n c, .int .i64 x.Started]
abbrev fV (x : Fra) (A : Option Addr) (n c : Nat) : Value := .agg #[.int .i64 x.Kind, .int .i64 x.From, .int .i64 x.To, .int .i64 x.Seq, .int .i64 x.Fragment, .bool x.More, .bool x.Retry, .int .i64 x.Duration, .slice A n c]
def reaS : Sh Rea where
  T := 38
  s := 5
  C := fun x A n c => [.int .i64 x.From, .int .i64 x.Seq, .int .i64 x.Next, .slice A n c, .int .i64 x.Started]
  B := fun x => x.Body
  len := fun _ _ _ _ => rfl
  one := fun x A n c u hu => by
    simp only [List.mem_cons, List.not_mem_nil, or_false] at hu
    rcases hu with rfl | rfl | rfl | rfl | rfl <;> rfl
  pos := by omega
  ne := by decide
def fraS : Sh Fra where
  T := 25
  s := 9
  C := fun x A n c => [.int .i64 x.Kind, .int .i64 x.From, .int .i64 x.To, .int .i64 x.Seq, .int .i64 x.Fragment, .bool x.More, .bool x.Retry, .int .i64 x.Duration, .slice A n c]
  B := fun x => x.Body
  len := fun _ _ _ _ => rfl
  one := fun x A n c u hu => by
    simp only [List.mem_cons, List.not_mem_nil, or_false] at hu
    rcases hu with rfl | rfl | rfl | rfl | rfl | rfl | rfl | rfl | rfl <;> rfl
  pos := by omega
  ne := by decide
/-- The fragment number i of n. -/
def frag (f : Fra) (t : Int) (n : Int) (i : Nat) : Fra := { f with Fragment := i, More := decide ((i : Int) < n - 1), Body := (f.Body.drop (i * t.toNat)).take (min (i * t.toNat + t.toNat) f.Body.length - i * t.toNat) }
def fcnt (b t : Int) : Int := if (1 ≤ t ∧ t ≤ 100) ∧ (0 ≤ b ∧ b ≤ t * 16) then (if 1 < (b + t - 1) / t then (b + t - 1) / t else 1) else 0
def frs (f : Fra) (t : Int) : List Fra := (List.range (fcnt f.Body.length t).toNat).map (frag f t (fcnt f.Body.length t))
def start (f : Fra) (now : Int) : Rea := ⟨f.From, f.Seq, 1, f.Body, now⟩
/-- The first reassembly of the sender; the list's length if there is none. -/
def fst (l : List Rea) (x : Int) : Nat := l.findIdx fun r => r.From == x
def cont (r : Rea) (f : Fra) : Bool := r.Seq == f.Seq && (r.Next == f.Fragment && decide ((r.Body.length : Int) + f.Body.length ≤ 100))
def without (l : List Rea) (x : Int) : List Rea := l.eraseIdx (fst l x)
def add (l : List Rea) (f : Fra) (now : Int) : List Rea × List Int × Bool :=
  if f.Fragment = 0 then (if f.More = true then (without l f.From ++ [start f now], [], false) else (without l f.From, f.Body, true))
  else if 0 < f.Fragment ∧ fst l f.From < l.length ∧ cont (l.getD (fst l f.From) zr) f = true then
    (if f.More = true then (l.set (fst l f.From) { l.getD (fst l f.From) zr with Body := (l.getD (fst l f.From) zr).Body ++ f.Body, Next := IntKind.i64.wrap (f.Fragment + 1) }, [], false)
     else (without l f.From, (l.getD (fst l f.From) zr).Body ++ f.Body, true))
  else (l, [], false)
def live (now : Int) (r : Rea) : Bool := decide (now ≤ IntKind.i64.wrap (r.Started + 50))
theorem getD_of {l : List Rea} {i : Nat} {x : Rea} (h : l[i]? = some x) : l.getD i zr = x := by rw [List.getD_eq_getElem?_getD, h]; rfl
theorem take_snoc {α : Type} {l : List α} {i : Nat} {x : α} (h : l[i]? = some x) : l.take (i + 1) = l.take i ++ [x] := by rw [List.take_add_one, h]; rfl
section
variable {w w' : World} {lo hi n cap : Nat} {A : Option Addr} {ms : List Rea}
theorem at_ {k : Nat} (h : Rq reaS w lo hi A n cap ms) (hk : k < n) : ∃ b off x, A = some ⟨b, off, none⟩ ∧ ms[k]? = some x ∧ lo ≤ b ∧ b < hi ∧ ∃ A' n' c', Rd .u8 w lo hi A' n' c' x.Body ∧
    w.cell? ⟨b, off + k * 5, none⟩ = some (.int .i64 x.From) ∧ w.cell? ⟨b, off + k * 5 + 1, none⟩ = some (.int .i64 x.Seq) ∧ w.cell? ⟨b, off + k * 5 + 2, none⟩ = some (.int .i64 x.Next) ∧ w.cell? ⟨b, off + k * 5 + 3, none⟩ = some (.slice A' n' c') ∧ w.cell? ⟨b, off + k * 5 + 4, none⟩ = some (.int .i64 x.Started) := by
  obtain ⟨b, off, x, e, hx, h1, h2, A', n', c', hr, hb⟩ := h.at_ hk
  exact ⟨b, off, x, e, hx, h1, h2, A', n', c', hb, hr 0 _ rfl, hr 1 _ rfl, hr 2 _ rfl, hr 3 _ rfl, hr 4 _ rfl⟩
end
/-- What hands back one reassembly; a slice of them. -/
def XPost (x : Rea) (w : World) (e : Ending) (w' : World) : Prop :=
  ∃ A n cap, e = .returned (rV x A n cap) ∧ Ow 5 .u8 w' w.heap.size w'.heap.size A n cap x.Body ∧ Below w.heap.size w w'
theorem x_parts {x : Rea} {w w' : World} {e : Ending} (h : XPost x w e w') : ∃ A n cap, e = .returned (rV x A n cap) ∧ Ow 5 .u8 w' w.heap.size w'.heap.size A n cap x.Body ∧ Below w.heap.size w w' := h
def SPost (l : List Rea) (w : World) (e : Ending) (w' : World) : Prop := ∃ A n cap es, e = .returned (.slice A n cap) ∧ es.map (fun e : El Rea => e.x) = l ∧ Oe reaS w' w.heap.size w'.heap.size A n cap es ∧ Below w.heap.size w w'
theorem s_parts {l : List Rea} {w w' : World} {e : Ending} (h : SPost l w e w') : ∃ A n cap es, e = .returned (.slice A n cap) ∧ es.map (fun e : El Rea => e.x) = l ∧ Oe reaS w' w.heap.size w'.heap.size A n cap es ∧ Below w.heap.size w w' := h
section cuts
variable {P : Program} (t e : TypeId) (i0 : TypeInfo) (s : Nat) (hu : P.underlying t = some (.slice e)) (hi : P.info? e = some i0) (hs : i0.size = s)
include hu hi hs
set_option linter.unusedSectionVars false in
theorem sliceQ_pre (b off n cap j : Nat) (hj : j ≤ cap) (W : World) : (Instr.slice t (.slice (some ⟨b, off, none⟩) n cap) none (some (.int .i64 j)) none).run P W = .ok (.slice (some ⟨b, off, none⟩) j cap) W := by
  have hj2 : (j : Int) ≤ cap := by omega
  simp [Instr.slice, run_underlying hu, Instr.sliceBounds, Instr.sliceBound, sizeOf, typeInfo, hi, hs, go_sem]
  intro h; omega
theorem sliceQ_mid (b off n cap j m : Nat) (hj : j < m) (hm : m ≤ cap) (W : World) : (Instr.slice t (.slice (some ⟨b, off, none⟩) n cap) (some (.int .i64 j)) (some (.int .i64 m)) none).run P W = .ok (.slice (some ⟨b, off + j * s, none⟩) (m - j) (cap - j)) W := by
  have hj2 : (j : Int) ≤ m := by omega
  have hj3 : (m : Int) ≤ cap := by omega
  simp [Instr.slice, run_underlying hu, Instr.sliceBounds, Instr.sliceBound, sizeOf, typeInfo, hi, hs, go_sem]
  rw [if_pos hm, if_pos (by omega), if_neg (by omega)]
theorem sliceQ_post (b off n cap j : Nat) (hj : j ≤ n) (hc : n ≤ cap) : ∃ ad : Addr, (j < n → ad = ⟨b, off + j * s, none⟩) ∧ ∀ W, (Instr.slice t (.slice (some ⟨b, off, none⟩) n cap) (some (.int .i64 j)) none none).run P W = .ok (.slice (some ad) (n - j) (cap - j)) W := by
  refine ⟨if cap = j then ⟨b, off, none⟩ else ⟨b, off + j * s, none⟩, fun h => ?_, fun W => ?_⟩
  · rw [if_neg (by omega)]
  · have hj2 : (j : Int) ≤ n := by omega
    simp [Instr.slice, run_underlying hu, Instr.sliceBounds, Instr.sliceBound, sizeOf, typeInfo, hi, hs, go_sem]
    rw [if_pos hj]
    congr 2
    split
    · rfl
    · rfl
end cuts
theorem rq_cut {α : Type} {S : Sh α} {w : World} {lo hi n cap : Nat} {A A' : Option Addr} {xs : List α} (h : Rq S w lo hi A n cap xs) (i j c : Nat) (hA : ∀ b off, A = some ⟨b, off, none⟩ → i < j → A' = some ⟨b, off + i * S.s, none⟩) (hij : i ≤ j) (hj : j ≤ n) (hc : j - i ≤ c) (hcm : c ≤ maxLen) : Rq S w lo hi A' (j - i) c ((xs.drop i).take (j - i)) := by
  obtain ⟨h1, h2, h3, h4, h5⟩ := h
  refine ⟨by simp; omega, hc, hcm, h4, fun hn => ?_⟩
  obtain ⟨b, off, e, g1, g2, g3⟩ := h5 (by omega)
  refine ⟨b, off + i * S.s, hA b off e (by omega), g1, g2, fun k x hx => ?_⟩
  rw [List.getElem?_take] at hx
  split at hx
  · rw [List.getElem?_drop] at hx
    have h9 := g3 (i + k) x hx
    rw [Nat.add_mul, ← Nat.add_assoc] at h9
    exact h9
  · cases hx
theorem oe_some {w : World} {lo hi n c : Nat} {A : Option Addr} {es : List (El Rea)} (h : Oe reaS w lo hi A n c es) (hn : 0 < n) : ∃ g, A = some ⟨g, 0, none⟩ := by
  rcases h.form with ⟨_, h0, _⟩ | ⟨g, cur, h0, _⟩
  · omega
  · exact ⟨g, h0⟩
/-- A copied list: it has an address. -/
def CPost (l : List Rea) (w : World) (e : Ending) (w' : World) : Prop := ∃ g n cap es, e = .returned (.slice (some ⟨g, 0, none⟩) n cap) ∧ es.map (fun e : El Rea => e.x) = l ∧ Oe reaS w' w.heap.size w'.heap.size (some ⟨g, 0, none⟩) n cap es ∧ Below w.heap.size w w'
theorem c_parts {l : List Rea} {w w' : World} {e : Ending} (h : CPost l w e w') : ∃ g n cap es, e = .returned (.slice (some ⟨g, 0, none⟩) n cap) ∧ es.map (fun e : El Rea => e.x) = l ∧ Oe reaS w' w.heap.size w'.heap.size (some ⟨g, 0, none⟩) n cap es ∧ Below w.heap.size w w' := h
/-- Two rows of the call's own, one above the other. -/
theorem ds_two {w w2 : World} {l1 h1 l2 h2 n c n2 c2 : Nat} {A A2 : Option Addr} {es fs : List (El Rea)} (a : Oe reaS w l1 h1 A n c es) (b : Oe reaS w2 l2 h2 A2 n2 c2 fs) (h : h1 ≤ l2) : Ds (es ++ fs) := by
  refine List.pairwise_append.2 ⟨a.ds, b.ds, fun e he f hf x y hx hy => ?_⟩
  rcases (a.body e he).form with ⟨e0, _⟩ | ⟨g, cur, e0, _, g2, _⟩
  · rw [e0] at hx; cases hx
  · rcases (b.body f hf).form with ⟨k0, _⟩ | ⟨g', cur', k0, k1, _⟩
    · rw [k0] at hy; cases hy
    · rw [e0] at hx; rw [k0] at hy
      obtain rfl := Option.some.inj hx
      obtain rfl := Option.some.inj hy
      show g ≠ g'
      omega
theorem infoR : (Try.prog.info? 38).map (fun i => (i.zero, i.size, i.bytes)) = some (some (.agg #[.int .i64 0, .int .i64 0, .int .i64 0, .slice none 0 0, .int .i64 0]), 5, 56) := by kernel_rfl
theorem infoF : (Try.prog.info? 25).map (fun i => (i.zero, i.size, i.bytes)) = some (some (.agg #[.int .i64 0, .int .i64 0, .int .i64 0, .int .i64 0, .int .i64 0, .bool false, .bool false, .int .i64 0, .slice none 0 0]), 9, 80) := by kernel_rfl
theorem szRea : (Try.prog.info? 38).map (·.size) = some 5 := by kernel_rfl
theorem szFra : (Try.prog.info? 25).map (·.size) = some 9 := by kernel_rfl
theorem oneRea (a b c : Int) (A : Option Addr) (n k : Nat) (d : Int) : (#[.int .i64 a, .int .i64 b, .int .i64 c, .slice A n k, .int .i64 d] : Array Value).all (·.oneCell') = true := ux.oneRea a b c A n k d
theorem oneFra (a b c d e : Int) (m r : Bool) (g : Int) (A : Option Addr) (n k : Nat) : (#[.int .i64 a, .int .i64 b, .int .i64 c, .int .i64 d, .int .i64 e, .bool m, .bool r, .int .i64 g, .slice A n k] : Array Value).all (·.oneCell') = true := ux.oneFra a b c d e m r g A n k
theorem ow_lo {E : TypeId} {k : IntKind} {w : World} {lo hi q n c : Nat} {zs : List Int} (h : Ow E k w lo hi (some ⟨q, 0, none⟩) n c zs) : lo ≤ w.heap.size := by
  rcases h.form with ⟨e, _⟩ | ⟨g, cur, _, h1, h2, _⟩
  · cases e
  · have := h.hi_; omega
theorem oe_box {α : Type} {S : Sh α} {w : World} {b : Nat} (h : Bx S.T w b #[]) : Oe S w b w.heap.size (some ⟨b, 0, none⟩) 0 0 [] := mq.oe_box h
theorem ow_box {w : World} {b : Nat} (h : Bx 5 w b #[]) : Ow 5 .u8 w b w.heap.size (some ⟨b, 0, none⟩) 0 0 [] :=
  ⟨⟨by simp, .inr ⟨b, 0, #[], rfl, Nat.le_refl _, h, Nat.le_refl _, by unfold maxLen; omega, by simp, by simp⟩⟩, Wf.nil _, Nat.le_refl _, fun g o e => by injection e with e; injection e with e _; subst e; exact h.lt⟩

end Go.Proofs.Ytbkdbdhbmabgcaa.fr
