import Derived.Test.YtejjafmppihneaaRo2
import Derived.Test.YtejjafmppihneaaRo1
import Derived.BigQuiet
/- Rows of frames and of bodies whose blocks meet a predicate (shared slices, parts of slices). Condition: none. -/
namespace Go.Proofs.Ytejjafmppihneaa.ro
open Go.RowKit sl harn bx stw
open ux (Nf Rob RR OO row rowB rowNf nf rob own_more)
open mrw (blkOf grown_below)
set_option linter.unusedVariables false
set_option linter.unusedSimpArgs false

/-- A slice of bytes that is read; its block meets F. -/
def BF (F : Nat → Prop) (w : World) (A : Option Addr) (n c : Nat) (zs : List Int) : Prop :=
  zs.length = n ∧ n ≤ c ∧ c ≤ maxLen ∧ Wf .u8 zs ∧ (0 < n → ∃ b off, A = some ⟨b, off, none⟩ ∧ F b ∧ b < w.heap.size ∧ ∀ i, i < n → w.cell? ⟨b, off + i, none⟩ = some (.int .u8 (zs.getD i 0)))
/-- The block of a slice of frames reaches as far as the slice's capacity; no body lies in it. -/
def Rm (F : Nat → Prop) (w : World) (A : Option Addr) (n c : Nat) : Prop :=
  0 < c → ∃ b off cur, A = some ⟨b, off, none⟩ ∧ F b ∧ w.heap[b]? = some (.cells cur 90 (0, 0)) ∧ off + c * 2 ≤ cur.size ∧
    ∀ j b0 o0 n0 c0, j < off + n * 2 → cur[j]? = some (Value.slice (some ⟨b0, o0, none⟩) n0 c0) → 0 < n0 → b0 ≠ b
/-- A slice of frames that is read; all its blocks meet F. -/
def NF (F : Nat → Prop) (w : World) (A : Option Addr) (n c : Nat) (xs : List Nf) : Prop :=
  xs.length = n ∧ n ≤ c ∧ c ≤ maxLen ∧ (0 < n → ∃ b off, A = some ⟨b, off, none⟩ ∧ F b ∧ b < w.heap.size ∧ ∀ i x, xs[i]? = some x → ∃ A0 n0 c0, w.cell? ⟨b, off + i * 2, none⟩ = some (.int .i64 x.Seq) ∧ w.cell? ⟨b, off + i * 2 + 1, none⟩ = some (Value.slice A0 n0 c0) ∧ BF F w A0 n0 c0 x.Body) ∧ Rm F w A n c
/-- A slice of bodies: its cells lie in a block of the call's own, the bodies' blocks meet F. -/
def OF (F : Nat → Prop) (w : World) (lo : Nat) (A : Option Addr) (n c : Nat) (l : List (List Int)) : Prop :=
  ∃ vs : List Value, w.ownsRow lo 22 1 (.slice A n c) n vs ∧ l.length = n ∧ ∀ (i : Nat) (y : List Int), l[i]? = some y → ∃ (A0 : Option Addr) (n0 c0 : Nat), vs[i]? = some (Value.slice A0 n0 c0) ∧ BF F w A0 n0 c0 y
section
variable {F G : Nat → Prop} {w w' : World} {lo hi n c : Nat} {A : Option Addr} {zs : List Int} {xs : List Nf} {l : List (List Int)} {H : List Nat}
theorem BF.ks (h : BF F w A n c zs) (hk : KS H w w') (hd : ∀ b, F b → b ∉ H) : BF F w' A n c zs := by
  obtain ⟨h1, h2, h3, h4, h5⟩ := h
  refine ⟨h1, h2, h3, h4, fun hn => ?_⟩
  obtain ⟨b, off, e, g1, g2, g3⟩ := h5 hn
  exact ⟨b, off, e, g1, Nat.lt_of_lt_of_le g2 hk.size, fun i hi => (World.cell?_of_block (hk.block b g2 (hd b g1))).trans (g3 i hi)⟩
theorem BF.mono (h : BF F w A n c zs) (hf : ∀ b, F b → G b) : BF G w A n c zs := by
  obtain ⟨h1, h2, h3, h4, h5⟩ := h
  refine ⟨h1, h2, h3, h4, fun hn => ?_⟩
  obtain ⟨b, off, e, g1, g2⟩ := h5 hn
  exact ⟨b, off, e, hf b g1, g2⟩
theorem BF.rd (h : BF F w A n c zs) (hf : ∀ b, F b → lo ≤ b ∧ b < hi) (hh : hi ≤ w.heap.size) : Rd .u8 w lo hi A n c zs := by
  obtain ⟨h1, h2, h3, h4, h5⟩ := h
  refine ⟨h1, h2, h3, hh, h4, fun hn => ?_⟩
  obtain ⟨b, off, e, g1, g2, g3⟩ := h5 hn
  exact ⟨b, off, e, (hf b g1).1, (hf b g1).2, g3⟩
theorem BF.of_rd (h : Rd .u8 w lo hi A n c zs) (hf : ∀ b, lo ≤ b → b < hi → F b) : BF F w A n c zs := by
  obtain ⟨h1, h2, h3, h4, h5, h6⟩ := h
  refine ⟨h1, h2, h3, h5, fun hn => ?_⟩
  obtain ⟨b, off, e, g1, g2, g3⟩ := h6 hn
  exact ⟨b, off, e, hf b g1 g2, by omega, g3⟩
theorem Rm.ks (h : Rm F w A n c) (hk : KS H w w') (hd : ∀ b, F b → b ∉ H) : Rm F w' A n c := fun hc => by
  obtain ⟨b, off, cur, e, g1, g2, g3⟩ := h hc
  exact ⟨b, off, cur, e, g1, (hk.block b (lt_of_block g2) (hd b g1)).trans g2, g3⟩
theorem Rm.mono (h : Rm F w A n c) (hf : ∀ b, F b → G b) : Rm G w A n c := fun hc => by
  obtain ⟨b, off, cur, e, g1, g2⟩ := h hc
  exact ⟨b, off, cur, e, hf b g1, g2⟩
theorem Rm.same (h : Rm F w A n c) (hb : ∀ b, F b → w'.heap[b]? = w.heap[b]?) : Rm F w' A n c := fun hc => by
  obtain ⟨b, off, cur, e, g1, g2, g3⟩ := h hc
  exact ⟨b, off, cur, e, g1, (hb b g1).trans g2, g3⟩
theorem Rm.zero (F : Nat → Prop) (w : World) (A : Option Addr) (n : Nat) : Rm F w A n 0 := fun h => absurd h (by omega)
/-- A part that begins k frames later. -/
theorem Rm.drop {A' : Option Addr} {k : Nat} (h : Rm F w A n c) (hk : k ≤ n) (hA : k < c → A' = A.map (·.add (k * 2))) : Rm F w A' (n - k) (c - k) := fun hc => by
  obtain ⟨b, off, cur, e, g1, g2, g3, g4⟩ := h (by omega)
  refine ⟨b, off + k * 2, cur, ?_, g1, g2, by omega, fun j b0 o0 n0 c0 hj => g4 j b0 o0 n0 c0 (by omega)⟩
  rw [hA (by omega), e, Option.map_some]
  unfold Addr.add
  split <;> simp_all
theorem Rm.take {A' : Option Addr} {k : Nat} (h : Rm F w A n c) (hk : k ≤ n) (hA : 0 < c → A' = A) : Rm F w A' k c := fun hc => by
  obtain ⟨b, off, cur, e, g1, g2, g3, g4⟩ := h hc
  exact ⟨b, off, cur, (hA hc).trans e, g1, g2, g3, fun j b0 o0 n0 c0 hj => g4 j b0 o0 n0 c0 (by omega)⟩
theorem NF.rm (h : NF F w A n c xs) : Rm F w A n c := h.2.2.2.2
theorem NF.ks (h : NF F w A n c xs) (hk : KS H w w') (hd : ∀ b, F b → b ∉ H) : NF F w' A n c xs := by
  obtain ⟨h1, h2, h3, h5, h6⟩ := h
  refine ⟨h1, h2, h3, fun hn => ?_, h6.ks hk hd⟩
  obtain ⟨b, off, e, g1, g2, g3⟩ := h5 hn
  refine ⟨b, off, e, g1, Nat.lt_of_lt_of_le g2 hk.size, fun i x hx => ?_⟩
  obtain ⟨A0, n0, c0, r1, r2, r3⟩ := g3 i x hx
  exact ⟨A0, n0, c0, (World.cell?_of_block (hk.block b g2 (hd b g1))).trans r1, (World.cell?_of_block (hk.block b g2 (hd b g1))).trans r2, r3.ks hk hd⟩
theorem NF.below (h : NF F w A n c xs) (hb : Below w.heap.size w w') : NF F w' A n c xs := h.ks (H := []) (ux.ks_below hb []) fun _ _ h => by cases h
theorem BF.below (h : BF F w A n c zs) (hb : Below w.heap.size w w') : BF F w' A n c zs := h.ks (H := []) (ux.ks_below hb []) fun _ _ h => by cases h
theorem NF.mono (h : NF F w A n c xs) (hf : ∀ b, F b → G b) : NF G w A n c xs := by
  obtain ⟨h1, h2, h3, h5, h6⟩ := h
  refine ⟨h1, h2, h3, fun hn => ?_, h6.mono hf⟩
  obtain ⟨b, off, e, g1, g2, g3⟩ := h5 hn
  refine ⟨b, off, e, hf b g1, g2, fun i x hx => ?_⟩
  obtain ⟨A0, n0, c0, r1, r2, r3⟩ := g3 i x hx
  exact ⟨A0, n0, c0, r1, r2, r3.mono hf⟩
theorem NF.rr (h : NF F w A n c xs) (hf : ∀ b, F b → lo ≤ b ∧ b < hi) (hh : hi ≤ w.heap.size) : RR rowNf w lo hi (.slice A n c) xs := by
  obtain ⟨h1, h2, h3, h5, _⟩ := h
  refine ⟨A, n, c, rfl, h1, h2, h3, hh, fun hn => ?_⟩
  obtain ⟨b, off, e, g1, g2, g3⟩ := h5 hn
  refine ⟨b, off, e, (hf b g1).1, (hf b g1).2, fun i x hx => ?_⟩
  obtain ⟨A0, n0, c0, r1, r2, r3⟩ := g3 i x hx
  refine ⟨ux.nfV x (.slice A0 n0 c0), fun j v hj => ?_, hh, _, rfl, ux.num_rd (r3.rd hf hh)⟩
  match j, hj with
  | 0, hj => exact r1.trans hj
  | 1, hj => exact r2.trans hj
  | j + 2, hj => simp [ux.nfV, Value.cells] at hj
theorem NF.of_rr (h : RR rowNf w lo hi (.slice A n c) xs) (hf : ∀ b, lo ≤ b → b < hi → F b) (hr : Rm F w A n c) : NF F w A n c xs := by
  obtain ⟨A', n', c', e, h1, h2, h3, h4, h5⟩ := h
  injection e with e1 e2 e3
  subst e1 e2 e3
  refine ⟨h1, h2, h3, fun hn => ?_, hr⟩
  obtain ⟨b, off, e, g1, g2, g3⟩ := h5 hn
  refine ⟨b, off, e, hf b g1 g2, by omega, fun i x hx => ?_⟩
  obtain ⟨u, r1, r2⟩ := g3 i x hx
  obtain ⟨A0, n0, c0, rfl, hb⟩ := ux.nf_r (show RR nf w lo hi u x from r2)
  exact ⟨A0, n0, c0, r1 0 _ rfl, r1 1 _ rfl, BF.of_rd (ux.rd_of hb) hf⟩
/-- All but the first. -/
theorem NF.tail {x : Nf} {b off : Nat} {ad : Addr} (h : NF F w (some ⟨b, off, none⟩) (n + 1) c (x :: xs)) (had : 0 < c - 1 → ad = ⟨b, off + 2, none⟩) : NF F w (some ad) n (c - 1) xs := by
  obtain ⟨h1, h2, h3, h5, h6⟩ := h
  refine ⟨by simpa using h1, by omega, by omega, fun hn => ?_, h6.drop (k := 1) (by omega) fun hc => by rw [had (by omega), Option.map_some]; congr 1⟩
  obtain ⟨b', off', e, g1, g2, g3⟩ := h5 (by omega)
  obtain ⟨rfl, rfl⟩ : b = b' ∧ off = off' := by injection e with e; injection e with e1 e2; exact ⟨e1, e2⟩
  refine ⟨b, off + 2, by rw [had (by omega)], g1, g2, fun i y hy => ?_⟩
  obtain ⟨A0, n0, c0, r1, r2, r3⟩ := g3 (i + 1) y (by simpa using hy)
  exact ⟨A0, n0, c0, by rw [show off + 2 + i * 2 = off + (i + 1) * 2 by omega]; exact r1, by rw [show off + 2 + i * 2 + 1 = off + (i + 1) * 2 + 1 by omega]; exact r2, r3⟩
theorem NF.nil (F : Nat → Prop) (w : World) (A : Option Addr) {c : Nat} (hc : c ≤ maxLen) (hr : Rm F w A 0 c) : NF F w A 0 c [] := ⟨rfl, Nat.zero_le _, hc, (fun h => by omega), hr⟩
theorem NF.at_ (h : NF F w A n c xs) {i : Nat} (hi : i < n) : ∃ b off x A0 n0 c0, A = some ⟨b, off, none⟩ ∧ F b ∧ b < w.heap.size ∧ xs[i]? = some x ∧ w.cell? ⟨b, off + i * 2, none⟩ = some (.int .i64 x.Seq) ∧ w.cell? ⟨b, off + i * 2 + 1, none⟩ = some (Value.slice A0 n0 c0) ∧ BF F w A0 n0 c0 x.Body := by
  obtain ⟨h1, h2, h3, h5, _⟩ := h
  obtain ⟨b, off, e, g1, g2, g3⟩ := h5 (by omega)
  have hx : xs[i]? = some xs[i] := List.getElem?_eq_getElem (by omega)
  obtain ⟨A0, n0, c0, r1, r2, r3⟩ := g3 i _ hx
  exact ⟨b, off, _, A0, n0, c0, e, g1, g2, hx, r1, r2, r3⟩
theorem OF.ks (h : OF F w lo A n c l) (hk : KS H w w') (hd : ∀ b, F b → b ∉ H) (hA : ∀ q, blkOf A = some q → q ∉ H) : OF F w' lo A n c l := by
  obtain ⟨vs, ⟨h1, h2⟩, h3, h4⟩ := h
  refine ⟨vs, ⟨h1, ?_⟩, h3, fun i y hy => ?_⟩
  · rcases h2 with h2 | ⟨g, c', cur, e, g1, g2, g3⟩
    · exact .inl h2
    · injection e with e1 e2 e3
      subst e1 e3
      exact .inr ⟨g, _, cur, rfl, g1, (hk.block g (lt_of_block g2) (hA g rfl)).trans g2, g3⟩
  · obtain ⟨A0, n0, c0, r1, r2⟩ := h4 i y hy
    exact ⟨A0, n0, c0, r1, r2.ks hk hd⟩
theorem OF.below (h : OF F w lo A n c l) (hb : Below w.heap.size w w') : OF F w' lo A n c l := h.ks (H := []) (ux.ks_below hb []) (fun _ _ h => by cases h) (fun _ _ h => by cases h)
theorem OF.lt (h : OF F w lo A n c l) {q : Nat} (hq : blkOf A = some q) : lo ≤ q ∧ q < w.heap.size := by
  obtain ⟨vs, ⟨h1, h2⟩, h3, h4⟩ := h
  rcases h2 with ⟨e, _⟩ | ⟨g, c', cur, e, g1, g2, g3⟩
  · injection e with e1 _ _; subst e1; cases hq
  · injection e with e1 _ _; subst e1
    obtain rfl : g = q := by simpa [blkOf] using hq
    exact ⟨g1, lt_of_block g2⟩
theorem OF.rr (h : OF F w lo A n c l) (hl : hi ≤ w.heap.size) (hf : ∀ b, F b → lo ≤ b ∧ b < hi) (hA : ∀ q, blkOf A = some q → q < hi) : RR rowB w lo hi (.slice A n c) l := by
  obtain ⟨vs, ⟨h1, h2⟩, h3, h4⟩ := h
  rcases h2 with ⟨e, rfl⟩ | ⟨g, c', cur, e, g1, g2, g3, g4, g5, g6⟩
  · injection e with e1 e2 e3; subst e1 e3
    exact ⟨none, 0, 0, rfl, h3, Nat.le_refl _, by unfold maxLen; omega, hl, fun h => by omega⟩
  · injection e with e1 e2 e3; subst e1 e3
    refine ⟨_, n, c, rfl, h3, g3, g4, hl, fun hn => ⟨g, 0, rfl, g1, hA g rfl, fun i x hx => ?_⟩⟩
    obtain ⟨A0, n0, c0, r1, r2⟩ := h4 i x hx
    refine ⟨.slice A0 n0 c0, fun j v hj => ?_, ux.num_rd (r2.rd hf hl)⟩
    match j, hj with
    | 0, hj =>
      have hv : v = .slice A0 n0 c0 := by simpa [Value.cells] using hj.symm
      subst hv
      have hin : i < n := by have := (List.getElem?_eq_some_iff.1 hx).1; omega
      have hc : cur.toList[i]? = some (.slice A0 n0 c0) := by
        have := r1
        rw [← g6, Nat.mul_one, List.getElem?_take_of_lt hin] at this
        exact this
      have hs := (List.getElem?_eq_some_iff.1 hc).1
      simp [World.cell?, g2]
      rw [Array.getElem?_toList] at hc
      rw [show i * ux.bytes.n = i from Nat.mul_one i]
      simpa using hc
    | j + 1, hj => simp [Value.cells] at hj
theorem OF.mono (h : OF F w lo A n c l) (hf : ∀ b, F b → G b) : OF G w lo A n c l := by
  obtain ⟨vs, h1, h3, h4⟩ := h
  refine ⟨vs, h1, h3, fun i y hy => ?_⟩
  obtain ⟨A0, n0, c0, r1, r2⟩ := h4 i y hy
  exact ⟨A0, n0, c0, r1, r2.mono hf⟩
theorem OF.of_bx {b : Nat} (F : Nat → Prop) (h : Bx 22 w b #[]) (hb : lo ≤ b) : OF F w lo (some ⟨b, 0, none⟩) 0 0 [] := ⟨[], ⟨rfl, .inr ⟨b, 0, #[], rfl, hb, h, Nat.le_refl _, by unfold maxLen; omega, rfl, rfl⟩⟩, rfl, fun i y hy => by simp at hy⟩
theorem bytes_fp {f0 : List Nat} {b0 o0 n0 c0 : Nat} {y : List Int} (h : ux.bytes.O w f0 (.slice (some ⟨b0, o0, none⟩) n0 c0) y) (h0 : 0 < n0) : b0 ∈ f0 := by
  obtain ⟨A, n, c, e, _, hf⟩ := h
  injection e with e1 _ _
  rw [hf, ← e1]
  simp [ux.blks]
theorem rm_oo {fp : List Nat} (h : OO rowNf w lo hi fp (.slice A n c) xs) : Rm (fun b => lo ≤ b ∧ b < hi) w A n c := fun hc => by
  obtain ⟨⟨A', n', c', es, e, _, he, hnd, h5⟩, h6, h7⟩ := h
  injection e with e1 e2 e3
  subst e1 e2 e3
  rcases h5 with ⟨_, _, e, _⟩ | ⟨g, cur, e, g1, g2, g3, g4, g5, g6, g7⟩
  · omega
  · refine ⟨g, 0, cur, e, h6 g (by rw [g7]; exact List.mem_cons_self), g1, (by have : cur.size = c * 2 := g5; omega), fun j b0 o0 n0 c0 hj hv h0 => ?_⟩
    have hm : Value.slice (some ⟨b0, o0, none⟩) n0 c0 ∈ ux.flt es := by
      have g6' : cur.toList.take (n * 2) = ux.flt es := g6
      rw [← g6']
      refine List.mem_of_getElem? (i := j) ?_
      rw [List.getElem?_take_of_lt (by omega), Array.getElem?_toList]
      exact hv
    obtain ⟨e', he', hm'⟩ := List.mem_flatMap.1 hm
    obtain ⟨v0, f0, ev, hO, hf0, _⟩ := (he e' he').1
    rw [ev] at hm'
    have hv0 : v0 = Value.slice (some ⟨b0, o0, none⟩) n0 c0 := by
      have : Value.slice (some ⟨b0, o0, none⟩) n0 c0 ∈ [Value.int .i64 e'.x.Seq, v0] := by simpa [ux.nfV, Value.cells] using hm'
      rcases List.mem_cons.1 this with h | h
      · cases h
      · exact (List.mem_singleton.1 h).symm
    subst hv0
    have hb : b0 ∈ f0 := bytes_fp hO h0
    have hb2 : b0 ∈ ux.fps es := List.mem_flatMap.2 ⟨e', he', by rw [hf0]; exact hb⟩
    rw [g7] at hnd
    exact fun e9 => (List.nodup_cons.1 hnd).1 (e9 ▸ hb2)
end
/-- The blocks from L up to H. -/
def In (L H : Nat) (b : Nat) : Prop := L ≤ b ∧ b < H
theorem NF.rrm {F : Nat → Prop} {w : World} {lo n c : Nat} {A : Option Addr} {xs : List Nf} (h : NF F w A n c xs) (hf : ∀ b, F b → lo ≤ b ∧ b < w.heap.size) : RR rowNf w lo w.heap.size (.slice A n c) xs ∧ Rm (In lo w.heap.size) w A n c := ⟨h.rr hf (Nat.le_refl _), h.rm.mono hf⟩
/-- The room of a slice as something that is carried from world to world. -/
def Rmr (L H : Nat) (w : World) (A : Option Addr) (n c : Nat) : Prop := Rm (In L H) w A n c ∧ H ≤ w.heap.size
section
variable {w w' : World} {L H n c : Nat} {A : Option Addr}
theorem Rmr.hi_ (h : Rmr L H w A n c) : H ≤ w.heap.size := h.2
theorem Rmr.same (h : Rmr L H w A n c) (hs : w.heap.size ≤ w'.heap.size) (hb : ∀ b, L ≤ b → b < H → w'.heap[b]? = w.heap[b]?) : Rmr L H w' A n c := ⟨h.1.same fun b hf => hb b hf.1 hf.2, Nat.le_trans h.2 hs⟩
theorem Rmr.below (h : Rmr L H w A n c) (hb : Below w.heap.size w w') : Rmr L H w' A n c := h.same hb.size fun b _ h2 => hb.block b (by have := h.2; omega)
theorem Rmr.of_oo {fp : List Nat} {xs : List Nf} (h : OO rowNf w L H fp (.slice A n c) xs) : Rmr L H w A n c := ⟨rm_oo h, h.2.2⟩
end
/-- One body more behind the slice. -/
theorem list_body {F : Nat → Prop} (w : World) {ops : Array Oper} {rest : List Oper} {o : Oper} {a : Act} {Q : Exit → Act → World → Prop} (hg : o.guard = none) (s x : Operand)
    (hop : o.op = .call { callee := .builtin .append, args := #[s, x], argTypes := #[53, 53] }) {lo n cap q c : Nat} {A : Option Addr} {l : List (List Int)} {A0 : Option Addr} {n0 c0 : Nat} {y : List Int} (hs : a.eval s = .slice A n cap) (hx : a.eval x = .slice (some ⟨q, 0, none⟩) 1 c)
    (h : OF F w lo A n cap l) (hA : ∀ g, blkOf A = some g → ¬ F g) (hF : ∀ b, F b → b < w.heap.size) (hq : Bx 22 w q #[.slice A0 n0 c0]) (hy : BF F w A0 n0 c0 y) (hn : n + 1 ≤ 1073741824) (hlo : lo ≤ w.heap.size)
    (hK : ∀ A' cap' w', OF F w' lo A' (n + 1) cap' (l ++ [y]) → KS (ux.blks A) w w' → (∀ g, blkOf A' = some g → blkOf A = some g ∨ w.heap.size ≤ g) → (∀ g, blkOf A' = some g → ¬ F g) → wpList Try.prog ops Q rest (a.put o.dst (.slice A' (n + 1) cap')) w') : wpList Try.prog ops Q (o :: rest) a w := by
  refine wpList_plain hg fun K hK' => ?_
  obtain ⟨vs, hr, hln, hel⟩ := h
  have hi := ux.infoB
  cases hq0 : Try.prog.info? 22 with
  | none => simp [hq0] at hi
  | some i0 =>
    simp only [hq0, Option.map_some, Option.some.injEq, Prod.mk.injEq] at hi
    obtain ⟨hz0, hz1, hz2⟩ := hi
    obtain ⟨A', cap', w', hrun, g1, g2, g3, g4⟩ := own_more (P := Try.prog) 53 o.type i0 (.slice none 0 0) Try.underlying53 hq0 hz0 hz1 (by omega) rfl (by omega) hr (M := [.slice A0 n0 c0]) (fun u hu => by rw [List.mem_singleton.1 hu]; rfl) ⟨q, 0, none⟩ 1 c rfl (fun j u hj => by
      match j, hj with
      | 0, hj => have e : u = .slice A0 n0 c0 := by simpa using hj.symm
                 subst e; exact hq.cell 0
      | j + 1, hj => simp at hj) hn hlo
    unfold Oper.wp execOp
    simp only [hop, resolve, invoke, builtin, Sem.run_bind, Sem.run_pure, Result.andThen_ok, List.map_toArray, List.map_cons, List.map_nil, hs, hx, hrun]
    have hks : KS (ux.blks A) w w' := ⟨g2.os, g2.tape, g2.output, g2.size, fun k hk hm => g2.block k hk fun e => hm (by
      cases A with
      | none => cases e
      | some ad => have e2 : k = ad.block := by simpa [blkOf] using e
                   subst e2; exact List.mem_singleton.2 rfl)⟩
    have hFk : ∀ b, F b → b ∉ ux.blks A := fun b hb hm => by
      cases A with
      | none => cases hm
      | some ad => have e2 : b = ad.block := by simpa [ux.blks] using hm
                   subst e2; exact hA _ rfl hb
    refine hK' _ _ (hK A' cap' w' ⟨vs ++ [.slice A0 n0 c0], g1, by simp [hln], fun i y2 hy2 => ?_⟩ hks (fun g hg => ?_) (fun g hg => ?_))
    · have hvl : vs.length = n := by have := hr.1; omega
      rcases Nat.lt_or_ge i n with hlt | hge
      · rw [List.getElem?_append_left (by omega)] at hy2
        obtain ⟨B0, m0, d0, r1, r2⟩ := hel i y2 hy2
        exact ⟨B0, m0, d0, by rw [List.getElem?_append_left (by omega)]; exact r1, r2.ks hks hFk⟩
      · rw [List.getElem?_append_right (by omega), hln] at hy2
        have e0 : i - n = 0 := by
          rcases Nat.eq_zero_or_pos (i - n) with h0 | h0
          · exact h0
          · rw [List.getElem?_eq_none (by simp; omega)] at hy2; cases hy2
        rw [e0] at hy2
        obtain rfl : y = y2 := by simpa using hy2
        exact ⟨A0, n0, c0, by rw [List.getElem?_append_right (by omega), hvl, e0]; rfl, hy.ks hks hFk⟩
    · rcases g4 with h4 | h4
      · exact .inl (h4 ▸ hg)
      · exact .inr (h4 g hg)
    · rcases g4 with h4 | h4
      · exact hA g (h4 ▸ hg)
      · exact fun hb => by have h5 := hF g hb; have h6 := h4 g hg; omega
end Go.Proofs.Ytejjafmppihneaa.ro

/- What stands at the start is delivered, by the specification. Condition: the blocks that are read meet a predicate. -/
namespace Go.Proofs.Ytejjafmppihneaa.ro
open Go.RowKit sl harn bx stw
set_option linter.unusedVariables false
open ux (Nf Rob RR OO row rowB rowNf nf rob)
open mrw (blkOf)
open bs (nsq sqd)
set_option linter.unusedSimpArgs false
open mrw (blkOf)
open bx

theorem slice_1 (b off : Nat) {n c : Nat} (hn : 0 < n) (hnc : n ≤ c) : ∃ ad : Addr, (0 < c - 1 → ad = ⟨b, off + 2, none⟩) ∧ ∀ W, (Instr.sliceAt 48 (.slice (some ⟨b, off, none⟩) n c) (some (.int .i64 1)) none none).run Try.prog W = .ok (.slice (some ad) (n - 1) (c - 1)) W := by
  have h1 : (1 : Int) ≤ (n : Int) := by omega
  have h2 : n ≤ c := hnc
  have h3 : 1 ≤ n := hn
  cases hq : Try.prog.info? 90 with
  | none => have := ux.szNf; simp [hq] at this
  | some i =>
    have hi : i.size = 2 := by have := ux.szNf; simpa [hq] using this
    refine ⟨if c = 1 then ⟨b, off, none⟩ else (⟨b, off, none⟩ : Addr).add (1 * 2), fun h => ?_, fun W => ?_⟩
    · rw [if_neg (by omega)]; simp [Addr.add]
    · simp [Instr.sliceAt, Instr.slice, run_underlying Try.underlying48, Instr.sureAddr, Instr.sliceBounds, Instr.sliceBound, sizeOf, typeInfo, hq, hi, go_sem, h1, h2, h3]
      split <;> rfl
def sliceN : Value → Nat
  | .slice _ n _ => n
  | _ => 0
/-- What is handed back: a buffer that is read, and what is delivered. -/
def RlPost (F : Nat → Prop) (lo : Nat) (Ao : Option Addr) (t : St) (w : World) (e : Ending) (w' : World) : Prop := ∃ A n c A2 n2 c2, e = .returned (.tuple #[.agg #[.int .i64 t.s, .slice A n c], .slice A2 n2 c2]) ∧ NF F w' A n c (pend t.s t.ws) ∧ OF F w' lo A2 n2 c2 t.out ∧ (∀ g, blkOf A2 = some g → ¬ F g) ∧ KS (ux.blks Ao) w w'
theorem rl_parts {F : Nat → Prop} {lo : Nat} {Ao : Option Addr} {t : St} {w : World} {e : Ending} {w' : World} (h : RlPost F lo Ao t w e w') : ∃ A n c A2 n2 c2, e = .returned (.tuple #[.agg #[.int .i64 t.s, .slice A n c], .slice A2 n2 c2]) ∧ NF F w' A n c (pend t.s t.ws) ∧ OF F w' lo A2 n2 c2 t.out ∧ (∀ g, blkOf A2 = some g → ¬ F g) ∧ KS (ux.blks Ao) w w' := h
theorem rdy_end_at {ws : Win} {k : Nat} (hk : k ≤ rdy ws) (h : ∀ b, ws[k]? ≠ some (some b)) : k = rdy ws := by
  rcases Nat.lt_or_ge k (rdy ws) with h1 | h1
  · obtain ⟨b, hb⟩ := rdy_at h1; exact absurd hb (h b)
  · omega
theorem run_at {t : St} {k : Nat} (hk : k = rdy t.ws) : (runS t).s = (t.s + (k : Int)) % 4096 ∧ pend (runS t).s (runS t).ws = pend (t.s + (k : Int)) (t.ws.drop k) ∧ (runS t).out = t.out ++ bods (t.ws.take k) := by
  subst hk
  refine ⟨rfl, ?_, rfl⟩
  show pend ((t.s + (rdy t.ws : Int)) % 4096) (t.ws.drop (rdy t.ws) ++ List.replicate _ none) = _
  rw [pend_rep]
  exact pend_mod _ _ _ (by omega)
theorem drop_head {ws : Win} {k : Nat} {o : Option (List Int)} {r : Win} (h : ws.drop k = o :: r) : ws[k]? = some o ∧ ws.drop (k + 1) = r := by
  have h1 : (ws.drop k)[0]? = some o := by rw [h]; rfl
  rw [List.getElem?_drop] at h1
  refine ⟨by simpa using h1, ?_⟩
  have h2 : (ws.drop k).drop 1 = r := by rw [h]; rfl
  rw [List.drop_drop] at h2
  exact h2
theorem af_cellR {w : World} {ad : Addr} {v : Value} (h : w.cell? ad = some v) : ∀ m : bx.Af w, m.w.cell? ad = some v := fun m => by rw [m.below.cell (World.block_lt_of_cell? _ _ h)]; exact h
theorem blk_in {A : Option Addr} {q : Nat} (h : blkOf A = some q) : q ∈ ux.blks A := by
  cases A with
  | none => cases h
  | some a => have : a.block = q := by simpa [blkOf] using h
              subst this; exact List.mem_singleton.2 rfl
theorem nsq_at (s : Int) (p : Nat) : nsq ((s + (p : Int)) % 4096) = (s + ((p + 1 : Nat) : Int)) % 4096 := by
  unfold nsq
  rw [if_pos (by omega)]
  push_cast
  omega
set_option maxRecDepth 100000 in
set_option maxHeartbeats 4000000 in
theorem specRel (F : Nat → Prop) (t : St) (lo : Nat) (A : Option Addr) (n c : Nat) (Ao : Option Addr) (no co : Nat) (w : World) (h : NF F w A n c (pend t.s t.ws)) (hO : OF F w lo Ao no co t.out) (hA : ∀ g, blkOf Ao = some g → ¬ F g) (hF : ∀ b, F b → b < w.heap.size) (hs : 0 ≤ t.s ∧ t.s ≤ 4095) (hl : t.ws.length = 16) (hq : no ≤ 1000) (hlo : lo ≤ w.heap.size) :
    Calls Try.prog 127 #[.agg #[.int .i64 t.s, .slice A n c], .slice Ao no co] w (RlPost F lo Ao (runS t) w) := by
  have NW := Lib.hid h
  have HOW := Lib.hid hO
  have OW := HOW
  have HA := Lib.hid hA
  have HF := Lib.hid hF
  have HS := Lib.hid hs
  have HL := Lib.hid hl
  have HQ := Lib.hid (And.intro hq hlo)
  have HRD := Lib.hid (rdy_le t.ws)
  clear h hO hA hF hs hl hq hlo
  go_enter Try.func127, Try.ntmps127
  go_wp2_with fail
  obtain ⟨w0, hW⟩ : ∃ w0, (w.alloc (.cells #[.int .i64 t.s, .slice A n c] 50)).alloc (.cells #[.int .i64 0, .slice none 0 0] 50) = w0 := ⟨_, rfl⟩
  rw [hW]
  have B0 := Lib.hid (show Below w.heap.size w w0 by rw [← hW]; exact ((Below.refl _ _).alloc (by simp <;> omega) _).alloc (by simp <;> omega) _)
  have X0 := Lib.hid (show Bx 50 w0 (w.heap.size) #[.int .i64 t.s, .slice A n c] by
      rw [← hW]
      have hh := Bx.made 50 w #[.int .i64 t.s, .slice A n c]
      exact (hh.below (below_box _ _)))
  have Z0 := Lib.hid (show Bx 50 w0 (w.heap.size + 1) #[.int .i64 0, .slice none 0 0] by
      rw [← hW]
      have hh : Bx 50 ((w.alloc (.cells #[.int .i64 t.s, .slice A n c] 50)).alloc (.cells #[.int .i64 0, .slice none 0 0] 50)) (w.heap.size + 1) #[.int .i64 0, .slice none 0 0] := by have hh := Bx.made 50 (w.alloc (.cells #[.int .i64 t.s, .slice A n c] 50)) #[.int .i64 0, .slice none 0 0]; simpa using hh
      exact hh)
  have N0 := Lib.hid (show NF F w0 A n c (pend t.s t.ws) by rw [← hW]; exact ((NW.out.below (below_box _ _)).below (below_box _ _)))
  have O0 := Lib.hid (show OF F w0 lo Ao no co t.out by rw [← hW]; exact ((OW.out.below (below_box _ _)).below (below_box _ _)))
  clear hW
  have LTX := Lib.hid X0.out.lt
  have LTZ := Lib.hid Z0.out.lt
  have HSZ0 := Lib.hid (show w.heap.size + 2 ≤ w0.heap.size by have := Z0.out.lt; omega)
  go_loopw [1] (fun v0 wr => ∃ (k n1 c1 c2 : Nat) (A1 A2 : Option Addr), v0 = .slice A2 (no + k) c2 ∧ k ≤ rdy t.ws ∧ Bx 50 wr w.heap.size #[.int .i64 (((t.s + (k : Int)) % 4096)), .slice A1 n1 c1] ∧ Bx 50 wr (w.heap.size + 1) #[.int .i64 0, .slice none 0 0] ∧ NF F wr A1 n1 c1 (pend (t.s + (k : Int)) (t.ws.drop k)) ∧ OF F wr lo A2 (no + k) c2 (t.out ++ bods (t.ws.take k)) ∧ (∀ g, blkOf A2 = some g → ¬ F g) ∧ (∀ g, blkOf A2 = some g → blkOf Ao = some g ∨ w.heap.size + 2 ≤ g) ∧ KS (ux.blks Ao) w wr ∧ w.heap.size + 2 ≤ wr.heap.size) (fun v _ => no + 17 - sliceN v)
  case atStart => exact ⟨0, n, c, co, A, Ao, rfl, Nat.zero_le _, (by have e : (t.s + ((0 : Nat) : Int)) % 4096 = t.s := (by have := HS.out; omega); rw [e]; exact X0.out), Z0.out, (by have e : t.s + ((0 : Nat) : Int) = t.s := (by omega); rw [e, List.drop_zero]; exact N0.out), (by rw [List.take_zero]; show OF F w0 lo Ao no co (t.out ++ []); rw [List.append_nil]; exact O0.out), HA.out, fun g hg => .inl hg, ux.ks_below B0.out _, HSZ0.out⟩
  case round =>
    obtain ⟨k, n1, c1, c2, A1, A2, rfl, hk, hX, hZ, hN, hO, hA2, hG, hks, hsz⟩ := hrel
    have HK := Lib.hid hk
    have X1 := Lib.hid hX
    have Z1 := Lib.hid hZ
    have N1 := Lib.hid hN
    have O1 := Lib.hid hO
    have A2N := Lib.hid hA2
    have A2G := Lib.hid hG
    have KS1 := Lib.hid hks
    have SZ1 := Lib.hid hsz
    clear hk hX hZ hN hO hA2 hG hks hsz
    have HLN := Lib.hid (show (pend (t.s + (k : Int)) (t.ws.drop k)).length = n1 ∧ n1 ≤ c1 ∧ c1 ≤ 9223372036854775807 by obtain ⟨h1, h2, h3, _⟩ := N1.out; exact ⟨h1, h2, by unfold maxLen at h3; omega⟩)
    have HK16 := Lib.hid (show k ≤ 16 by have := HK.out; have := HRD.out; have := HL.out; omega)
    have hncn := HLN.out.2
    by_cases hn : n1 = 0
    · have HE := Lib.hid (show k = rdy t.ws from rdy_end_at HK.out (fun b hb => by have h1 := pend_none_of _ _ (List.eq_nil_of_length_eq_zero (HLN.out.1.trans hn)) (some b) (by rw [drop_at hb]; exact List.mem_cons_self); cases h1))
      have g0 : decide ((n1 : Int) > 0) = false := decide_eq_false (by omega)
      have g0b : decide ((0 : Int) < (n1 : Int)) = false := decide_eq_false (by omega)
      have g0c : decide (0 < n1) = false := decide_eq_false (by omega)
      clear hn
      have mX1 : ∀ m : bx.Af wr, m.w.cell? ⟨w.heap.size, 1, none⟩ = some (.slice A1 n1 c1) := fun m => (bx.Af.cells X1.out m).cell 1
      go_upto_region 1 with fail
      refine bx.region_after (by kernel_rfl) (by kernel_rfl) ?_
      repeat (go_big_quiet_step (fail))
      refine wpQuiet_nil ?_
      intro _ hw'
      obtain ⟨nq9, hw''⟩ := hw'
      subst hw''
      clear mX1 g0 g0b
      obtain ⟨w5, hw5⟩ : ∃ w5, nq9.w = w5 := ⟨_, rfl⟩
      have hb := nq9.below
      rw [hw5] at hb
      (try rw [hw5])
      clear hw5
      have X5 := Lib.hid (X1.out.below hb)
      have Z5 := Lib.hid (Z1.out.below hb)
      have N5 := Lib.hid (N1.out.below hb)
      have O5 := Lib.hid (O1.out.below hb)
      have KS5 := Lib.hid (KS1.out.trans (ux.ks_below hb _))
      have SZ5 := Lib.hid (show w.heap.size + 2 ≤ w5.heap.size by have h1 := SZ1.out; have h2 := hb.size; omega)
      clear hb
      have hsz := ux.szRob
      go_wp2_with (first | (refine stw.list_load rfl 50 _ rfl (w.heap.size) rfl 50 _ X5.out Try.underlying50 rfl ux.szRob ?_) | (refine stw.list_store rfl 50 _ _ rfl (w.heap.size + 1) #[.int .i64 (((t.s + (k : Int)) % 4096)), .slice A1 n1 c1] rfl rfl 50 _ Z5.out rfl ux.szRob (ux.oneRob _ _ _ _) ?_; intro wz hz))
      have HZ9 := Lib.hid hz.box
      have HZ9 := Lib.hid hz.box
      have HKZ := Lib.hid (show KS [w.heap.size + 1] w5 wz from ⟨hz.below.os, hz.below.tape, hz.below.output, hz.below.size, fun q h1 h2 => hz.other q (fun e => h2 (List.mem_singleton.2 e))⟩)
      have HK9 := Lib.hid (show KS (ux.blks Ao) w wz from ⟨HKZ.out.os.trans KS5.out.os, HKZ.out.tape.trans KS5.out.tape, HKZ.out.output.trans KS5.out.output, Nat.le_trans KS5.out.size HKZ.out.size, fun q h1 h2 => (HKZ.out.block q (Nat.lt_of_lt_of_le h1 KS5.out.size) (fun hm => by have := List.mem_singleton.1 hm; omega)).trans (KS5.out.block q h1 h2)⟩)
      have HN9 := Lib.hid (N5.out.ks HKZ.out (fun q hq hm => by have h1 := List.mem_singleton.1 hm; have h2 := HF.out q hq; omega))
      have HO9 := Lib.hid (O5.out.ks HKZ.out (fun q hq hm => by have h1 := List.mem_singleton.1 hm; have h2 := HF.out q hq; omega) (fun q hq hm => by have h1 := List.mem_singleton.1 hm; rcases A2G.out q hq with h2 | h2; (have h3 := (HOW.out.lt h2).2; omega); omega))
      clear hz hsz
      (try simp only [Exit.inBlock, Exit.then])
      refine bodyPost_ret (v := .tuple #[.agg #[.int .i64 (((t.s + (k : Int)) % 4096)), .slice A1 n1 c1], .slice A2 (no + k) c2]) ?_ rfl ?_
      · rw [results_cell_tmp1 rfl]
        exact stw.back2 HZ9.out Try.underlying50 rfl ux.szRob _
      · obtain ⟨r1, r2, r3⟩ := run_at HE.out
        exact ⟨A1, n1, c1, A2, _, c2, by rw [r1], by rw [r2]; exact HN9.out, by rw [r3]; exact HO9.out, A2N.out, HK9.out⟩
    · obtain ⟨b, off, x, A0, n0, c0, rfl, hFb, hbl, hx, k0, k1, hB⟩ := N1.out.at_ (i := 0) (by omega)
      have hph := pend_head (by rw [List.length_drop]; have := HL.out; omega) hx
      have HFB := Lib.hid (And.intro hFb hbl)
      have HB := Lib.hid hB
      have HX := Lib.hid hx
      rw [Nat.zero_mul, Nat.add_zero] at k0 k1
      clear hFb hbl hB hx
      have hnp : 0 < n1 := by omega
      have g0 : decide ((n1 : Int) > 0) = true := decide_eq_true (by omega)
      have g0b : decide ((0 : Int) < (n1 : Int)) = true := decide_eq_true (by omega)
      have mX1 : ∀ m : bx.Af wr, m.w.cell? ⟨w.heap.size, 1, none⟩ = some (.slice (some ⟨b, off, none⟩) n1 c1) := fun m => (bx.Af.cells X1.out m).cell 1
      have mX0 : ∀ m : bx.Af wr, m.w.cell? ⟨w.heap.size, 0, none⟩ = some (.int .i64 ((t.s + (k : Int)) % 4096)) := fun m => (bx.Af.cells X1.out m).cell 0
      rcases hph with hph | hph
      · obtain ⟨e1, e2⟩ := hph
        have HW := Lib.hid (drop_head e2).1
        rw [e1] at k0
        have mk0 := af_cellR k0
        have HDR := Lib.hid (show NF F wr (some ⟨b, off, none⟩) (n1 - 1 + 1) c1 (⟨x.Seq, x.Body⟩ :: pend (t.s + ((k + 1 : Nat) : Int)) (t.ws.drop (k + 1))) from by
          have h1 := N1.out
          rw [e2, pend] at h1
          have h2 : (t.ws.drop k).drop 1 = t.ws.drop (k + 1) := by rw [List.drop_drop]
          rw [h2, show t.s + (k : Int) + 1 = t.s + ((k + 1 : Nat) : Int) by push_cast; omega, ← e1] at h1
          rw [show n1 - 1 + 1 = n1 by omega]
          exact h1)
        clear e1 e2
        go_upto_region 1 with fail
        refine bx.region_after (by kernel_rfl) (by kernel_rfl) ?_
        repeat (go_big_quiet_step (fail))
        refine wpQuiet_nil ?_
        intro _ hw'
        obtain ⟨nq9, hw''⟩ := hw'
        subst hw''
        clear mX1 mX0 mk0 g0 g0b k0
        obtain ⟨w5, hw5⟩ : ∃ w5, nq9.w = w5 := ⟨_, rfl⟩
        have hb := nq9.below
        rw [hw5] at hb
        (try rw [hw5])
        clear hw5
        have X5 := Lib.hid (X1.out.below hb)
        have Z5 := Lib.hid (Z1.out.below hb)
        have N5 := Lib.hid (N1.out.below hb)
        have O5 := Lib.hid (O1.out.below hb)
        have KS5 := Lib.hid (KS1.out.trans (ux.ks_below hb _))
        have SZ5 := Lib.hid (show w.heap.size + 2 ≤ w5.heap.size by have h1 := SZ1.out; have h2 := hb.size; omega)
        have K1 := Lib.hid (show w5.cell? ⟨b, off + 1, none⟩ = some (.slice A0 n0 c0) from (hb.cell (World.block_lt_of_cell? _ _ k1)).trans k1)
        have HB5 := Lib.hid (HB.out.below hb)
        have HD5 := Lib.hid (HDR.out.below hb)
        have HF5 := Lib.hid (fun q (hq : F q) => (show q < w5.heap.size by have h1 := HF.out q hq; have h2 := SZ5.out; omega))
        clear hb k1
        have cX1 : w5.cell? ⟨w.heap.size, 1, none⟩ = some (.slice (some ⟨b, off, none⟩) n1 c1) := X5.out.cell 1
        have ck1 := K1.out
        have hbx := bx.below_box w5 (.cells #[.slice A0 n0 c0] 22)
        go_upto_region 3 with (at_builtin; refine list_body _ rfl _ _ rfl rfl rfl (O5.out.below hbx) A2N.out (fun q hq => by have h1 := HF5.out q hq; have h2 := hbx.size; omega) (Bx.made _ _ _) (HB5.out.below hbx) (by have := HQ.out; have := HK16.out; omega) (by have h1 := HQ.out; have h2 := SZ5.out; have h3 := hbx.size; omega) ?_; intro A3 c3 w6 ho hk6 hg6 hf6)
        have HKA := Lib.hid (show KS (ux.blks A2) w5 w6 from (ux.ks_below hbx _).trans hk6)
        have HA6 := Lib.hid (show ∀ g, blkOf A3 = some g → blkOf Ao = some g ∨ w.heap.size + 2 ≤ g from fun g hg => by rcases hg6 g hg with h1 | h1; exact A2G.out g h1; (right; have h2 := hbx.size; have h3 := SZ5.out; omega))
        have HO6 := Lib.hid ho
        have HF6 := Lib.hid hf6
        clear hbx ho hk6 hg6 hf6 cX1 ck1
        have HA2X := Lib.hid (show ∀ q, q ∈ ux.blks A2 → blkOf A2 = some q from fun q hm => by cases A2 with | none => cases hm | some ad => (have e2 : q = ad.block := by simpa [ux.blks] using hm); rw [e2]; rfl)
        have X6 := Lib.hid (ux.bx_ks X5.out HKA.out (fun hm => by rcases A2G.out _ (HA2X.out _ hm) with h1 | h1; (have h2 := (HOW.out.lt h1).2; omega); omega))
        have Z6 := Lib.hid (ux.bx_ks Z5.out HKA.out (fun hm => by rcases A2G.out _ (HA2X.out _ hm) with h1 | h1; (have h2 := (HOW.out.lt h1).2; omega); omega))
        have HD6 := Lib.hid (HD5.out.ks HKA.out (fun q hq hm => A2N.out q (HA2X.out q hm) hq))
        have KS6 := Lib.hid (show KS (ux.blks Ao) w w6 from ⟨HKA.out.os.trans KS5.out.os, HKA.out.tape.trans KS5.out.tape, HKA.out.output.trans KS5.out.output, Nat.le_trans KS5.out.size HKA.out.size, fun q h1 h2 => (HKA.out.block q (Nat.lt_of_lt_of_le h1 KS5.out.size) (fun hm => by rcases A2G.out _ (HA2X.out _ hm) with h3 | h3; (exact h2 (blk_in h3)); omega)).trans (KS5.out.block q h1 h2)⟩)
        have SZ6 := Lib.hid (show w.heap.size + 2 ≤ w6.heap.size by have h1 := SZ5.out; have h2 := HKA.out.size; omega)
        obtain ⟨ad, had, hsl⟩ := slice_1 b off hnp HLN.out.2.1
        have HAD := Lib.hid had
        clear had
        have cX1 : w6.cell? ⟨w.heap.size, 1, none⟩ = some (.slice (some ⟨b, off, none⟩) n1 c1) := X6.out.cell 1
        have fX1 : w6.frozen? ⟨w.heap.size, 1, none⟩ = false := X6.out.free 1
        go_upto_region 4 with fail
        clear cX1 fX1 hsl
        obtain ⟨w7, hW⟩ : ∃ wy, (w6.setCell ⟨w.heap.size, 1, none⟩ (.slice (some ad) (n1 - 1) (c1 - 1))) = wy := ⟨_, rfl⟩
        rw [hW]
        have HK7 := Lib.hid (show KS [w.heap.size] w6 w7 by rw [← hW]; exact ux.ks_set (List.mem_singleton.2 rfl) 1 _)
        have X7 := Lib.hid (show Bx 50 w7 w.heap.size #[.int .i64 (((t.s + (k : Int)) % 4096)), .slice (some ad) (n1 - 1) (c1 - 1)] by rw [← hW]; exact X6.out.set 1 _)
        clear hW
        have cX0 : w7.cell? ⟨w.heap.size, 0, none⟩ = some (.int .i64 ((t.s + (k : Int)) % 4096)) := X7.out.cell 0
        have fX0 : w7.frozen? ⟨w.heap.size, 0, none⟩ = false := X7.out.free 0
        obtain ⟨S1, hS1⟩ : ∃ y, (t.s + ((k + 1 : Nat) : Int)) % 4096 = y := ⟨_, rfl⟩
        have HS1 := Lib.hid hS1
        have HNX := Lib.hid ((nsq_at t.s k).trans hS1)
        clear hS1
        go_wp2_with fail
        (with_reducible refine (bs.specNs ((t.s + (k : Int)) % 4096) _).mono ?_)
        rw [HNX.out]
        rintro e wq ⟨rfl, rfl⟩
        go_wp2_with fail
        clear cX0 fX0
        obtain ⟨w8, hW⟩ : ∃ wy, (w7.setCell ⟨w.heap.size, 0, none⟩ (.int .i64 S1)) = wy := ⟨_, rfl⟩
        rw [hW]
        have HK8 := Lib.hid (show KS [w.heap.size] w7 w8 by rw [← hW]; exact ux.ks_set (List.mem_singleton.2 rfl) 0 _)
        have X8 := Lib.hid (show Bx 50 w8 w.heap.size #[.int .i64 S1, .slice (some ad) (n1 - 1) (c1 - 1)] by rw [← hW]; exact X7.out.set 0 _)
        clear hW
        have HKK := Lib.hid (HK7.out.trans HK8.out)
        have HNM := Lib.hid (show ∀ q, q ∈ [w.heap.size] → q = w.heap.size from fun q hq => List.mem_singleton.1 hq)
        have Z8 := Lib.hid (ux.bx_ks Z6.out HKK.out (fun hm => by have := HNM.out _ hm; omega))
        have HD8 := Lib.hid (HD6.out.ks HKK.out (fun q hq hm => by have h1 := HNM.out _ hm; have h2 := HF.out q hq; omega))
        have HO8 := Lib.hid (HO6.out.ks HKK.out (fun q hq hm => by have h1 := HNM.out _ hm; have h2 := HF.out q hq; omega) (fun q hq hm => by have h1 := HNM.out _ hm; rcases HA6.out q hq with h2 | h2; (have h3 := (HOW.out.lt h2).2; omega); omega))
        have KS8 := Lib.hid (show KS (ux.blks Ao) w w8 from ⟨HKK.out.os.trans KS6.out.os, HKK.out.tape.trans KS6.out.tape, HKK.out.output.trans KS6.out.output, Nat.le_trans KS6.out.size HKK.out.size, fun q h1 h2 => (HKK.out.block q (Nat.lt_of_lt_of_le h1 KS6.out.size) (fun hm => by have := HNM.out _ hm; omega)).trans (KS6.out.block q h1 h2)⟩)
        have HBO := Lib.hid (bods_snoc_some HW.out)
        have HKR := Lib.hid (show k + 1 ≤ rdy t.ws by have h1 := HK.out; rcases Nat.lt_or_ge k (rdy t.ws) with h2 | h2; exact h2; exact absurd HW.out (by rw [show k = rdy t.ws by omega]; exact rdy_end _ _))
        go_roundw
        case rel => exact ⟨k + 1, n1 - 1, c1 - 1, c3, some ad, A3, rfl, HKR.out, (by rw [HS1.out]; exact X8.out), Z8.out, HD8.out.tail HAD.out, (by rw [HBO.out, ← List.append_assoc]; exact HO8.out), HF6.out, HA6.out, KS8.out, (by have h1 := SZ6.out; have h2 := HKK.out.size; omega)⟩
        case measure => (simp only [sliceN]; have := HK16.out; omega)
      · obtain ⟨e1, r, e2⟩ := hph
        have HE := Lib.hid (show k = rdy t.ws from rdy_end_at HK.out (fun b hb => by have h1 := (drop_head e2).1; rw [hb] at h1; cases h1))
        have g1 : (x.Seq == ((t.s + (k : Int)) % 4096)) = false := beq_false_of_ne e1
        have mk0 := af_cellR k0
        clear e1 e2
        go_upto_region 1 with fail
        refine bx.region_after (by kernel_rfl) (by kernel_rfl) ?_
        repeat (go_big_quiet_step (fail))
        refine wpQuiet_nil ?_
        intro _ hw'
        obtain ⟨nq9, hw''⟩ := hw'
        subst hw''
        clear mX1 mX0 mk0 g0 g0b g1 k0 k1
        obtain ⟨w5, hw5⟩ : ∃ w5, nq9.w = w5 := ⟨_, rfl⟩
        have hb := nq9.below
        rw [hw5] at hb
        (try rw [hw5])
        clear hw5
        have X5 := Lib.hid (X1.out.below hb)
        have Z5 := Lib.hid (Z1.out.below hb)
        have N5 := Lib.hid (N1.out.below hb)
        have O5 := Lib.hid (O1.out.below hb)
        have KS5 := Lib.hid (KS1.out.trans (ux.ks_below hb _))
        have SZ5 := Lib.hid (show w.heap.size + 2 ≤ w5.heap.size by have h1 := SZ1.out; have h2 := hb.size; omega)
        clear hb
        have hsz := ux.szRob
        go_wp2_with (first | (refine stw.list_load rfl 50 _ rfl (w.heap.size) rfl 50 _ X5.out Try.underlying50 rfl ux.szRob ?_) | (refine stw.list_store rfl 50 _ _ rfl (w.heap.size + 1) #[.int .i64 (((t.s + (k : Int)) % 4096)), .slice (some ⟨b, off, none⟩) n1 c1] rfl rfl 50 _ Z5.out rfl ux.szRob (ux.oneRob _ _ _ _) ?_; intro wz hz))
        have HZ9 := Lib.hid hz.box
        have HZ9 := Lib.hid hz.box
        have HKZ := Lib.hid (show KS [w.heap.size + 1] w5 wz from ⟨hz.below.os, hz.below.tape, hz.below.output, hz.below.size, fun q h1 h2 => hz.other q (fun e => h2 (List.mem_singleton.2 e))⟩)
        have HK9 := Lib.hid (show KS (ux.blks Ao) w wz from ⟨HKZ.out.os.trans KS5.out.os, HKZ.out.tape.trans KS5.out.tape, HKZ.out.output.trans KS5.out.output, Nat.le_trans KS5.out.size HKZ.out.size, fun q h1 h2 => (HKZ.out.block q (Nat.lt_of_lt_of_le h1 KS5.out.size) (fun hm => by have := List.mem_singleton.1 hm; omega)).trans (KS5.out.block q h1 h2)⟩)
        have HN9 := Lib.hid (N5.out.ks HKZ.out (fun q hq hm => by have h1 := List.mem_singleton.1 hm; have h2 := HF.out q hq; omega))
        have HO9 := Lib.hid (O5.out.ks HKZ.out (fun q hq hm => by have h1 := List.mem_singleton.1 hm; have h2 := HF.out q hq; omega) (fun q hq hm => by have h1 := List.mem_singleton.1 hm; rcases A2G.out q hq with h2 | h2; (have h3 := (HOW.out.lt h2).2; omega); omega))
        clear hz hsz
        (try simp only [Exit.inBlock, Exit.then])
        refine bodyPost_ret (v := .tuple #[.agg #[.int .i64 (((t.s + (k : Int)) % 4096)), .slice (some ⟨b, off, none⟩) n1 c1], .slice A2 (no + k) c2]) ?_ rfl ?_
        · rw [results_cell_tmp1 rfl]
          exact stw.back2 HZ9.out Try.underlying50 rfl ux.szRob _
        · obtain ⟨r1, r2, r3⟩ := run_at HE.out
          exact ⟨(some ⟨b, off, none⟩), n1, c1, A2, _, c2, by rw [r1], by rw [r2]; exact HN9.out, by rw [r3]; exact HO9.out, A2N.out, HK9.out⟩
end Go.Proofs.Ytejjafmppihneaa.ro

/- What lies before a number is given up, by the specification. Condition: the blocks that are read meet a predicate. -/
namespace Go.Proofs.Ytejjafmppihneaa.ro
open Go.RowKit sl harn bx stw
set_option linter.unusedVariables false
open ux (Nf Rob RR OO row rowB rowNf nf rob)
open mrw (blkOf)
open bs (nsq sqd)
set_option linter.unusedSimpArgs false
open mrw (blkOf)
open bx

/-- What a call hands back: a buffer that is read, and what is delivered, in memory of its own. -/
def MvPost (F : Nat → Prop) (lo : Nat) (t : St) (w : World) (e : Ending) (w' : World) : Prop := ∃ A n c A2 n2 c2, e = .returned (.tuple #[.agg #[.int .i64 t.s, .slice A n c], .slice A2 n2 c2]) ∧ NF F w' A n c (pend t.s t.ws) ∧ OF F w' lo A2 n2 c2 t.out ∧ (∀ g, blkOf A2 = some g → ¬ F g) ∧ Below w.heap.size w w'
theorem mv_parts {F : Nat → Prop} {lo : Nat} {t : St} {w : World} {e : Ending} {w' : World} (h : MvPost F lo t w e w') : ∃ A n c A2 n2 c2, e = .returned (.tuple #[.agg #[.int .i64 t.s, .slice A n c], .slice A2 n2 c2]) ∧ NF F w' A n c (pend t.s t.ws) ∧ OF F w' lo A2 n2 c2 t.out ∧ (∀ g, blkOf A2 = some g → ¬ F g) ∧ Below w.heap.size w w' := h
theorem adv_pend (s : Int) (ws : Win) (d : Nat) : pend (advS ⟨s, ws, []⟩ d).s (advS ⟨s, ws, []⟩ d).ws = pend (s + (d : Int)) (ws.drop d) := by
  show pend ((s + (d : Int)) % 4096) (ws.drop d ++ List.replicate _ none) = _
  rw [pend_rep]
  exact pend_mod _ _ _ (by omega)
theorem blks_of {A : Option Addr} {q : Nat} (hm : q ∈ ux.blks A) : blkOf A = some q := by
  cases A with
  | none => cases hm
  | some ad => have e2 : q = ad.block := by simpa [ux.blks] using hm
               rw [e2]; rfl
set_option maxRecDepth 100000 in
set_option maxHeartbeats 4000000 in
theorem specMvL (F : Nat → Prop) (s : Int) (ws : Win) (A : Option Addr) (n c : Nat) (m : Int) (d : Nat) (w : World) (h : NF F w A n c (pend s ws)) (hF : ∀ b, F b → b < w.heap.size) (hs : 0 ≤ s ∧ s ≤ 4095) (hl : ws.length = 16) (hd : sqd s m = d) :
    Calls Try.prog 126 #[.agg #[.int .i64 s, .slice A n c], .int .i64 m] w (MvPost F w.heap.size (advS ⟨s, ws, []⟩ d) w) := by
  have NW := Lib.hid h
  have HF := Lib.hid hF
  have HS := Lib.hid hs
  have HL := Lib.hid hl
  have HD := Lib.hid hd
  have HM := Lib.hid (show m = (s + (d : Int)) % 4096 by have h1 := at_sqd (s := s) (n := m) (by omega); rw [hd] at h1; exact h1)
  obtain ⟨K, hK⟩ : ∃ K, (pend s (ws.take d)).length = K := ⟨_, rfl⟩
  have hpc := pend_cut (a := ws) hs (by omega) d
  rw [hK] at hpc
  have HP := Lib.hid hpc
  have HK16 := Lib.hid (show K ≤ 16 by have h1 := pend_len ws s; have h2 := hpc.2.2.1; omega)
  clear h hF hs hl hd hK hpc
  go_enter Try.func126, Try.ntmps126
  go_upto_region 1 with fail
  obtain ⟨w0, hW⟩ : ∃ w0, (w.alloc (.cells #[.int .i64 s, .slice A n c] 50)).alloc (.cells #[.int .i64 0, .slice none 0 0] 50) = w0 := ⟨_, rfl⟩
  rw [hW]
  have B0 := Lib.hid (show Below w.heap.size w w0 by rw [← hW]; exact ((Below.refl _ _).alloc (by simp <;> omega) _).alloc (by simp <;> omega) _)
  have X0 := Lib.hid (show Bx 50 w0 (w.heap.size) #[.int .i64 s, .slice A n c] by
      rw [← hW]
      have hh := Bx.made 50 w #[.int .i64 s, .slice A n c]
      exact (hh.below (below_box _ _)))
  have Z0 := Lib.hid (show Bx 50 w0 (w.heap.size + 1) #[.int .i64 0, .slice none 0 0] by
      rw [← hW]
      have hh : Bx 50 ((w.alloc (.cells #[.int .i64 s, .slice A n c] 50)).alloc (.cells #[.int .i64 0, .slice none 0 0] 50)) (w.heap.size + 1) #[.int .i64 0, .slice none 0 0] := by have hh := Bx.made 50 (w.alloc (.cells #[.int .i64 s, .slice A n c] 50)) #[.int .i64 0, .slice none 0 0]; simpa using hh
      exact hh)
  have N0 := Lib.hid (show NF F w0 A n c (pend s ws) by rw [← hW]; exact ((NW.out.below (below_box _ _)).below (below_box _ _)))
  clear hW
  have LTX := Lib.hid X0.out.lt
  have LTZ := Lib.hid Z0.out.lt
  have HSZ0 := Lib.hid (show w.heap.size + 2 ≤ w0.heap.size by have := Z0.out.lt; omega)
  obtain ⟨be, hbe⟩ : ∃ b, w0.heap.size = b := ⟨_, rfl⟩
  go_upto_region 2 with fail
  have hX := Bx.made 22 w0 #[]
  have hb := bx.below_box w0 (.cells #[] 22)
  generalize w0.alloc (.cells #[] 22) = w1 at hX hb ⊢
  rw [hbe] at hX
  (try rw [hbe])
  have HBE := Lib.hid (show w.heap.size + 2 ≤ be by have := HSZ0.out; omega)
  have E1 := Lib.hid hX
  have X1 := Lib.hid (X0.out.below hb)
  have Z1 := Lib.hid (Z0.out.below hb)
  have N1 := Lib.hid (N0.out.below hb)
  have BB1 := Lib.hid (B0.out.trans (hb.mono B0.out.size))
  have SZ1 := Lib.hid (show w.heap.size + 2 ≤ w1.heap.size by have h1 := HSZ0.out; have h2 := hb.size; omega)
  clear hX hb hbe
  have cX0 : w1.cell? ⟨w.heap.size, 0, none⟩ = some (.int .i64 s) := X1.out.cell 0
  go_wp2_with fail
  clear cX0
  (with_reducible refine (bs.specSd s m _).mono ?_)
  rw [HD.out]
  rintro e wq ⟨rfl, rfl⟩
  go_wp2_with fail
  go_loopw [6] (fun v0 wr => ∃ (j n1 c1 c2 : Nat) (A1 A2 : Option Addr), v0 = .slice A2 j c2 ∧ j ≤ K ∧ Bx 50 wr w.heap.size #[.int .i64 s, .slice A1 n1 c1] ∧ Bx 50 wr (w.heap.size + 1) #[.int .i64 0, .slice none 0 0] ∧ NF F wr A1 n1 c1 ((pend s ws).drop j) ∧ OF F wr w.heap.size A2 j c2 (((pend s ws).take j).map (·.Body)) ∧ (∀ g, blkOf A2 = some g → ¬ F g) ∧ (∀ g, blkOf A2 = some g → w.heap.size + 2 ≤ g) ∧ Below w.heap.size w wr ∧ w.heap.size + 2 ≤ wr.heap.size) (fun v _ => 17 - sliceN v)
  case atStart => exact ⟨0, n, c, 0, A, some ⟨be, 0, none⟩, rfl, Nat.zero_le _, X1.out, Z1.out, N1.out, OF.of_bx F E1.out (by have := HBE.out; omega), fun g hg hf => by obtain rfl : be = g := (by simpa [blkOf] using hg); (have h1 := HF.out _ hf; have h2 := HBE.out; omega), fun g hg => by obtain rfl : be = g := (by simpa [blkOf] using hg); exact HBE.out, BB1.out, SZ1.out⟩
  case round =>
    clear X1 Z1 N1 E1 BB1 SZ1
    obtain ⟨j, n1, c1, c2, A1, A2, rfl, hk, hX, hZ, hN, hO, hA2, hG, hks, hsz⟩ := hrel
    have HK := Lib.hid hk
    have X1 := Lib.hid hX
    have Z1 := Lib.hid hZ
    have N1 := Lib.hid hN
    have O1 := Lib.hid hO
    have A2N := Lib.hid hA2
    have A2G := Lib.hid hG
    have BB1 := Lib.hid hks
    have SZ1 := Lib.hid hsz
    clear hk hX hZ hN hO hA2 hG hks hsz
    have HLN := Lib.hid (show ((pend s ws).drop j).length = n1 ∧ n1 ≤ c1 ∧ c1 ≤ 9223372036854775807 by obtain ⟨h1, h2, h3, _⟩ := N1.out; exact ⟨h1, h2, by unfold maxLen at h3; omega⟩)
    have hncn := HLN.out.2
    by_cases hn : n1 = 0
    · have HE := Lib.hid (show j = K by have h1 := HLN.out.1; rw [List.length_drop] at h1; have h2 := HP.out.2.2.1; have h3 := HK.out; omega)
      have g0 : decide ((n1 : Int) > 0) = false := decide_eq_false (by omega)
      have g0b : decide ((0 : Int) < (n1 : Int)) = false := decide_eq_false (by omega)
      have g0c : decide (0 < n1) = false := decide_eq_false (by omega)
      clear hn
      have mX1 : ∀ m : bx.Af wr, m.w.cell? ⟨w.heap.size, 1, none⟩ = some (.slice A1 n1 c1) := fun m => (bx.Af.cells X1.out m).cell 1
      go_upto_region 3 with fail
      refine bx.region_after (by kernel_rfl) (by kernel_rfl) ?_
      repeat (go_big_quiet_step (fail))
      refine wpQuiet_nil ?_
      intro _ hw'
      obtain ⟨nq9, hw''⟩ := hw'
      subst hw''
      clear mX1 g0 g0b g0c
      obtain ⟨w5, hw5⟩ : ∃ w5, nq9.w = w5 := ⟨_, rfl⟩
      have hb := nq9.below
      rw [hw5] at hb
      (try rw [hw5])
      clear hw5
      have X5 := Lib.hid (X1.out.below hb)
      have Z5 := Lib.hid (Z1.out.below hb)
      have N5 := Lib.hid (N1.out.below hb)
      have O5 := Lib.hid (O1.out.below hb)
      have BB5 := Lib.hid (BB1.out.trans (hb.mono BB1.out.size))
      have SZ5 := Lib.hid (show w.heap.size + 2 ≤ w5.heap.size by have h1 := SZ1.out; have h2 := hb.size; omega)
      clear hb
      have cX0 : w5.cell? ⟨w.heap.size, 0, none⟩ = some (.int .i64 s) := X5.out.cell 0
      have fX0 : w5.frozen? ⟨w.heap.size, 0, none⟩ = false := X5.out.free 0
      go_upto_region 7 with fail
      clear cX0 fX0
      obtain ⟨w6, hW⟩ : ∃ wy, (w5.setCell ⟨w.heap.size, 0, none⟩ (.int .i64 m)) = wy := ⟨_, rfl⟩
      rw [hW]
      have HK6 := Lib.hid (show KS [w.heap.size] w5 w6 by rw [← hW]; exact ux.ks_set (List.mem_singleton.2 rfl) 0 _)
      have X6 := Lib.hid (show Bx 50 w6 w.heap.size #[.int .i64 m, .slice A1 n1 c1] by rw [← hW]; exact X5.out.set 0 _)
      have BB6 := Lib.hid (show Below w.heap.size w w6 by rw [← hW]; exact BB5.out.setCell (p := ⟨w.heap.size, 0, none⟩) (Nat.le_refl _) _)
      clear hW
      have HNM := Lib.hid (show ∀ q, q ∈ [w.heap.size] → q = w.heap.size from fun q hq => List.mem_singleton.1 hq)
      have Z6 := Lib.hid (ux.bx_ks Z5.out HK6.out (fun hm => by have := HNM.out _ hm; omega))
      have N6 := Lib.hid (N5.out.ks HK6.out (fun q hq hm => by have h1 := HNM.out _ hm; have h2 := HF.out q hq; omega))
      have O6 := Lib.hid (O5.out.ks HK6.out (fun q hq hm => by have h1 := HNM.out _ hm; have h2 := HF.out q hq; omega) (fun q hq hm => by have h1 := HNM.out _ hm; have h2 := A2G.out q hq; omega))
      have HSZ6 := Lib.hid HK6.out.size
      go_wp2_with (first | (refine stw.list_load rfl 50 _ rfl (w.heap.size) rfl 50 _ X6.out Try.underlying50 rfl ux.szRob ?_) | (refine stw.list_store rfl 50 _ _ rfl (w.heap.size + 1) #[.int .i64 m, .slice A1 n1 c1] rfl rfl 50 _ Z6.out rfl ux.szRob (ux.oneRob _ _ _ _) ?_; intro wz hz))
      have HZ9 := Lib.hid hz.box
      have HKZ := Lib.hid (show KS [w.heap.size + 1] w6 wz from ⟨hz.below.os, hz.below.tape, hz.below.output, hz.below.size, fun q h1 h2 => hz.other q (fun e => h2 (List.mem_singleton.2 e))⟩)
      have HB9 := Lib.hid (hz.on BB6.out (by omega))
      have HN9 := Lib.hid (N6.out.ks HKZ.out (fun q hq hm => by have h1 := List.mem_singleton.1 hm; have h2 := HF.out q hq; omega))
      have HO9 := Lib.hid (O6.out.ks HKZ.out (fun q hq hm => by have h1 := List.mem_singleton.1 hm; have h2 := HF.out q hq; omega) (fun q hq hm => by have h1 := List.mem_singleton.1 hm; have h2 := A2G.out q hq; omega))
      clear hz
      (try simp only [Exit.inBlock, Exit.then])
      refine bodyPost_ret (v := .tuple #[.agg #[.int .i64 m, .slice A1 n1 c1], .slice A2 j c2]) ?_ rfl ?_
      · rw [results_cell_tmp1 rfl]
        exact stw.back2 HZ9.out Try.underlying50 rfl ux.szRob _
      · have hp := HP.out
        have hE := HE.out
        subst hE
        exact ⟨A1, n1, c1, A2, _, c2, (by rw [HM.out]; rfl), (by rw [adv_pend, ← hp.2.2.2.2]; exact HN9.out), (by show OF F wz w.heap.size A2 _ c2 ([] ++ bods (ws.take d)); rw [List.nil_append, ← pend_bods (ws.take d) s, ← hp.2.2.2.1]; exact HO9.out), A2N.out, HB9.out⟩
    · obtain ⟨b, off, x, A0, n0, c0, rfl, hFb, hbl, hx, k0, k1, hB⟩ := N1.out.at_ (i := 0) (by omega)
      have HFB := Lib.hid (And.intro hFb hbl)
      have HB := Lib.hid hB
      have HX := Lib.hid (show (pend s ws)[j]? = some x by rw [List.getElem?_drop] at hx; simpa using hx)
      rw [Nat.zero_mul, Nat.add_zero] at k0 k1
      clear hFb hbl hB hx
      have hnp : 0 < n1 := by omega
      have g0 : decide ((n1 : Int) > 0) = true := decide_eq_true (by omega)
      have g0b : decide ((0 : Int) < (n1 : Int)) = true := decide_eq_true (by omega)
      obtain ⟨e1, he1⟩ : ∃ e, sqd s x.Seq = e := ⟨_, rfl⟩
      have HE1 := Lib.hid he1
      clear he1
      have mX1 : ∀ m : bx.Af wr, m.w.cell? ⟨w.heap.size, 1, none⟩ = some (.slice (some ⟨b, off, none⟩) n1 c1) := fun m => (bx.Af.cells X1.out m).cell 1
      have mX0 : ∀ m : bx.Af wr, m.w.cell? ⟨w.heap.size, 0, none⟩ = some (.int .i64 s) := fun m => (bx.Af.cells X1.out m).cell 0
      have mk0 := af_cellR k0
      have q1 := Lib.hid (fun m => ((bs.specSd s x.Seq m.w).mono fun _ _ h => ⟨by rw [h.1, HE1.out], h.2 ▸ Below.refl _ _⟩) : ∀ m : bx.Af wr, Calls Try.prog 43 #[.int .i64 s, .int .i64 x.Seq] m.w fun e w' => e = .returned (.int .i64 e1) ∧ Below m.w.heap.size m.w w')
      by_cases hlt : e1 < (d : Int)
      · have HLT := Lib.hid hlt
        have g1 : decide (e1 < (d : Int)) = true := decide_eq_true hlt
        clear hlt
        have HDR := Lib.hid (show NF F wr (some ⟨b, off, none⟩) (n1 - 1 + 1) c1 (x :: (pend s ws).drop (j + 1)) from by
          have h1 := N1.out
          rw [drop_at HX.out] at h1
          rw [show n1 - 1 + 1 = n1 by omega]
          exact h1)
        go_upto_region 3 with fail
        refine bx.region_after (by kernel_rfl) (by kernel_rfl) ?_
        repeat (go_big_quiet_step ((go_at_call 43; with_reducible exact bx.Af.call (q1.out _))))
        refine wpQuiet_nil ?_
        intro _ hw'
        obtain ⟨nq9, hw''⟩ := hw'
        subst hw''
        clear mX1 mX0 mk0 q1 g0 g0b g1 k0
        obtain ⟨w5, hw5⟩ : ∃ w5, nq9.w = w5 := ⟨_, rfl⟩
        have hb := nq9.below
        rw [hw5] at hb
        (try rw [hw5])
        clear hw5
        have X5 := Lib.hid (X1.out.below hb)
        have Z5 := Lib.hid (Z1.out.below hb)
        have N5 := Lib.hid (N1.out.below hb)
        have O5 := Lib.hid (O1.out.below hb)
        have BB5 := Lib.hid (BB1.out.trans (hb.mono BB1.out.size))
        have SZ5 := Lib.hid (show w.heap.size + 2 ≤ w5.heap.size by have h1 := SZ1.out; have h2 := hb.size; omega)
        have K1 := Lib.hid (show w5.cell? ⟨b, off + 1, none⟩ = some (.slice A0 n0 c0) from (hb.cell (World.block_lt_of_cell? _ _ k1)).trans k1)
        have HB5 := Lib.hid (HB.out.below hb)
        have HD5 := Lib.hid (HDR.out.below hb)
        have HF5 := Lib.hid (fun q (hq : F q) => (show q < w5.heap.size by have h1 := HF.out q hq; have h2 := SZ5.out; omega))
        clear hb k1
        have cX1 : w5.cell? ⟨w.heap.size, 1, none⟩ = some (.slice (some ⟨b, off, none⟩) n1 c1) := X5.out.cell 1
        have ck1 := K1.out
        have hbx := bx.below_box w5 (.cells #[.slice A0 n0 c0] 22)
        go_upto_region 5 with (at_builtin; refine list_body _ rfl _ _ rfl rfl rfl (O5.out.below hbx) A2N.out (fun q hq => by have h1 := HF5.out q hq; have h2 := hbx.size; omega) (Bx.made _ _ _) (HB5.out.below hbx) (by have := HK16.out; have := HK.out; omega) (by have h2 := SZ5.out; have h3 := hbx.size; omega) ?_; intro A3 c3 w6 ho hk6 hg6 hf6)
        have HKA := Lib.hid (show KS (ux.blks A2) w5 w6 from (ux.ks_below hbx _).trans hk6)
        have HA6 := Lib.hid (show ∀ g, blkOf A3 = some g → w.heap.size + 2 ≤ g from fun g hg => by rcases hg6 g hg with h1 | h1; exact A2G.out g h1; (have h2 := hbx.size; have h3 := SZ5.out; omega))
        have HO6 := Lib.hid ho
        have HF6 := Lib.hid hf6
        clear hbx ho hk6 hg6 hf6 cX1 ck1
        have X6 := Lib.hid (ux.bx_ks X5.out HKA.out (fun hm => by have := A2G.out _ (blks_of hm); omega))
        have Z6 := Lib.hid (ux.bx_ks Z5.out HKA.out (fun hm => by have := A2G.out _ (blks_of hm); omega))
        have HD6 := Lib.hid (HD5.out.ks HKA.out (fun q hq hm => A2N.out q (blks_of hm) hq))
        have BB6 := Lib.hid (BB5.out.trans (ux.ks_bel HKA.out (fun q hm => by have := A2G.out _ (blks_of hm); omega) BB5.out.size))
        have SZ6 := Lib.hid (show w.heap.size + 2 ≤ w6.heap.size by have h1 := SZ5.out; have h2 := HKA.out.size; omega)
        obtain ⟨ad, had, hsl⟩ := slice_1 b off hnp HLN.out.2.1
        have HAD := Lib.hid had
        clear had
        have cX1 : w6.cell? ⟨w.heap.size, 1, none⟩ = some (.slice (some ⟨b, off, none⟩) n1 c1) := X6.out.cell 1
        have fX1 : w6.frozen? ⟨w.heap.size, 1, none⟩ = false := X6.out.free 1
        go_wp2_with fail
        clear cX1 fX1 hsl
        obtain ⟨w7, hW⟩ : ∃ wy, (w6.setCell ⟨w.heap.size, 1, none⟩ (.slice (some ad) (n1 - 1) (c1 - 1))) = wy := ⟨_, rfl⟩
        rw [hW]
        have HK7 := Lib.hid (show KS [w.heap.size] w6 w7 by rw [← hW]; exact ux.ks_set (List.mem_singleton.2 rfl) 1 _)
        have X7 := Lib.hid (show Bx 50 w7 w.heap.size #[.int .i64 s, .slice (some ad) (n1 - 1) (c1 - 1)] by rw [← hW]; exact X6.out.set 1 _)
        have BB7 := Lib.hid (show Below w.heap.size w w7 by rw [← hW]; exact BB6.out.setCell (p := ⟨w.heap.size, 1, none⟩) (Nat.le_refl _) _)
        clear hW
        have HNM := Lib.hid (show ∀ q, q ∈ [w.heap.size] → q = w.heap.size from fun q hq => List.mem_singleton.1 hq)
        have Z7 := Lib.hid (ux.bx_ks Z6.out HK7.out (fun hm => by have := HNM.out _ hm; omega))
        have HD7 := Lib.hid (HD6.out.ks HK7.out (fun q hq hm => by have h1 := HNM.out _ hm; have h2 := HF.out q hq; omega))
        have HO7 := Lib.hid (HO6.out.ks HK7.out (fun q hq hm => by have h1 := HNM.out _ hm; have h2 := HF.out q hq; omega) (fun q hq hm => by have h1 := HNM.out _ hm; have h2 := HA6.out q hq; omega))
        have HTK := Lib.hid (show ((pend s ws).take (j + 1)).map (·.Body) = ((pend s ws).take j).map (·.Body) ++ [x.Body] by rw [ux.take_snoc HX.out, List.map_append]; rfl)
        have HKR := Lib.hid (show j + 1 ≤ K by have h1 := HK.out; rcases Nat.lt_or_ge j K with h2 | h2; exact h2; (exfalso; obtain rfl : j = K := (by omega); have h3 := HP.out.2.1 x HX.out; have h4 := HE1.out; have h5 := HLT.out; omega))
        go_roundw
        case rel => exact ⟨j + 1, n1 - 1, c1 - 1, c3, some ad, A3, rfl, HKR.out, X7.out, Z7.out, HD7.out.tail HAD.out, (by rw [HTK.out]; exact HO7.out), HF6.out, HA6.out, BB7.out, (by have h1 := SZ6.out; have h2 := HK7.out.size; omega)⟩
        case measure => (simp only [sliceN]; have := HK16.out; have := HKR.out; omega)
      · have HE := Lib.hid (show j = K by have h1 := HK.out; rcases Nat.lt_or_ge j K with h2 | h2; (exfalso; exact hlt (by have h3 := HP.out.1 j x h2 HX.out; rw [HE1.out] at h3; exact h3)); omega)
        have g1 : decide (e1 < (d : Int)) = false := decide_eq_false hlt
        clear hlt
        go_upto_region 3 with fail
        refine bx.region_after (by kernel_rfl) (by kernel_rfl) ?_
        repeat (go_big_quiet_step ((go_at_call 43; with_reducible exact bx.Af.call (q1.out _))))
        refine wpQuiet_nil ?_
        intro _ hw'
        obtain ⟨nq9, hw''⟩ := hw'
        subst hw''
        clear mX1 mX0 mk0 q1 g0 g0b g1 k0 k1
        obtain ⟨w5, hw5⟩ : ∃ w5, nq9.w = w5 := ⟨_, rfl⟩
        have hb := nq9.below
        rw [hw5] at hb
        (try rw [hw5])
        clear hw5
        have X5 := Lib.hid (X1.out.below hb)
        have Z5 := Lib.hid (Z1.out.below hb)
        have N5 := Lib.hid (N1.out.below hb)
        have O5 := Lib.hid (O1.out.below hb)
        have BB5 := Lib.hid (BB1.out.trans (hb.mono BB1.out.size))
        have SZ5 := Lib.hid (show w.heap.size + 2 ≤ w5.heap.size by have h1 := SZ1.out; have h2 := hb.size; omega)
        clear hb
        have cX0 : w5.cell? ⟨w.heap.size, 0, none⟩ = some (.int .i64 s) := X5.out.cell 0
        have fX0 : w5.frozen? ⟨w.heap.size, 0, none⟩ = false := X5.out.free 0
        go_upto_region 7 with fail
        clear cX0 fX0
        obtain ⟨w6, hW⟩ : ∃ wy, (w5.setCell ⟨w.heap.size, 0, none⟩ (.int .i64 m)) = wy := ⟨_, rfl⟩
        rw [hW]
        have HK6 := Lib.hid (show KS [w.heap.size] w5 w6 by rw [← hW]; exact ux.ks_set (List.mem_singleton.2 rfl) 0 _)
        have X6 := Lib.hid (show Bx 50 w6 w.heap.size #[.int .i64 m, .slice (some ⟨b, off, none⟩) n1 c1] by rw [← hW]; exact X5.out.set 0 _)
        have BB6 := Lib.hid (show Below w.heap.size w w6 by rw [← hW]; exact BB5.out.setCell (p := ⟨w.heap.size, 0, none⟩) (Nat.le_refl _) _)
        clear hW
        have HNM := Lib.hid (show ∀ q, q ∈ [w.heap.size] → q = w.heap.size from fun q hq => List.mem_singleton.1 hq)
        have Z6 := Lib.hid (ux.bx_ks Z5.out HK6.out (fun hm => by have := HNM.out _ hm; omega))
        have N6 := Lib.hid (N5.out.ks HK6.out (fun q hq hm => by have h1 := HNM.out _ hm; have h2 := HF.out q hq; omega))
        have O6 := Lib.hid (O5.out.ks HK6.out (fun q hq hm => by have h1 := HNM.out _ hm; have h2 := HF.out q hq; omega) (fun q hq hm => by have h1 := HNM.out _ hm; have h2 := A2G.out q hq; omega))
        have HSZ6 := Lib.hid HK6.out.size
        go_wp2_with (first | (refine stw.list_load rfl 50 _ rfl (w.heap.size) rfl 50 _ X6.out Try.underlying50 rfl ux.szRob ?_) | (refine stw.list_store rfl 50 _ _ rfl (w.heap.size + 1) #[.int .i64 m, .slice (some ⟨b, off, none⟩) n1 c1] rfl rfl 50 _ Z6.out rfl ux.szRob (ux.oneRob _ _ _ _) ?_; intro wz hz))
        have HZ9 := Lib.hid hz.box
        have HKZ := Lib.hid (show KS [w.heap.size + 1] w6 wz from ⟨hz.below.os, hz.below.tape, hz.below.output, hz.below.size, fun q h1 h2 => hz.other q (fun e => h2 (List.mem_singleton.2 e))⟩)
        have HB9 := Lib.hid (hz.on BB6.out (by omega))
        have HN9 := Lib.hid (N6.out.ks HKZ.out (fun q hq hm => by have h1 := List.mem_singleton.1 hm; have h2 := HF.out q hq; omega))
        have HO9 := Lib.hid (O6.out.ks HKZ.out (fun q hq hm => by have h1 := List.mem_singleton.1 hm; have h2 := HF.out q hq; omega) (fun q hq hm => by have h1 := List.mem_singleton.1 hm; have h2 := A2G.out q hq; omega))
        clear hz
        (try simp only [Exit.inBlock, Exit.then])
        refine bodyPost_ret (v := .tuple #[.agg #[.int .i64 m, .slice (some ⟨b, off, none⟩) n1 c1], .slice A2 j c2]) ?_ rfl ?_
        · rw [results_cell_tmp1 rfl]
          exact stw.back2 HZ9.out Try.underlying50 rfl ux.szRob _
        · have hp := HP.out
          have hE := HE.out
          subst hE
          exact ⟨(some ⟨b, off, none⟩), n1, c1, A2, _, c2, (by rw [HM.out]; rfl), (by rw [adv_pend, ← hp.2.2.2.2]; exact HN9.out), (by show OF F wz w.heap.size A2 _ c2 ([] ++ bods (ws.take d)); rw [List.nil_append, ← pend_bods (ws.take d) s, ← hp.2.2.2.1]; exact HO9.out), A2N.out, HB9.out⟩
end Go.Proofs.Ytejjafmppihneaa.ro
