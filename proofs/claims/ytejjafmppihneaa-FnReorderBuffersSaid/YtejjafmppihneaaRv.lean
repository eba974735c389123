/- The window of a reorder buffer as it lies in memory: its cells; copying within a block, clearing; keeping a frame. Condition: none. -/
import Derived.Test.YtejjafmppihneaaUp
import Derived.Test.YtejjafmppihneaaRom
import Derived.Test.YtejjafmppihneaaStv
import Derived.Test.YtejjafmppihneaaBs1
import Derived.Laws.BytesArg
import Derived.Deep.QuietTactic
import Derived.StillTailTactics
namespace Go.Proofs.Ytejjafmppihneaa.ro
open Go.RowKit sl harn bx stw
open ux (Nf Rob)
open bs (nsq sqd)
set_option linter.unusedVariables false
set_option linter.unusedSimpArgs false

/-- The cells of a window. -/
def wcs : Win → List Value
  | [] => []
  | o :: r => .bool o.isSome :: .string (strOfNums (o.getD [])) :: wcs r
def vcs (t : St) (hd : Value) : Array Value := (.int .i64 t.s :: (wcs t.ws ++ [hd])).toArray
theorem wcs_len : ∀ ws : Win, (wcs ws).length = 2 * ws.length
  | [] => rfl
  | o :: r => by simp [wcs, wcs_len r]; omega
theorem wcs_append : ∀ a b : Win, wcs (a ++ b) = wcs a ++ wcs b
  | [], b => rfl
  | o :: r, b => by simp [wcs, wcs_append r b]
theorem wcs_one : ∀ (ws : Win), ∀ v ∈ wcs ws, v.oneCell' = true
  | o :: r, v, hv => by
    simp only [wcs, List.mem_cons] at hv
    rcases hv with rfl | rfl | hv
    · rfl
    · rfl
    · exact wcs_one r v hv
theorem wcs_at : ∀ {ws : Win} {i : Nat} {o : Option (List Int)}, ws[i]? = some o → (wcs ws)[i * 2]? = some (.bool o.isSome) ∧ (wcs ws)[i * 2 + 1]? = some (.string (strOfNums (o.getD [])))
  | a :: r, 0, o, h => by
    obtain rfl : a = o := by simpa using h
    exact ⟨rfl, rfl⟩
  | a :: r, i + 1, o, h => by
    have h2 : r[i]? = some o := by simpa using h
    have e : (i + 1) * 2 = i * 2 + 1 + 1 := by omega
    obtain ⟨h3, h4⟩ := wcs_at h2
    rw [e]
    exact ⟨by simpa [wcs] using h3, by simpa [wcs] using h4⟩
theorem vcs_size {t : St} {hd : Value} (h : t.ws.length = 16) : (vcs t hd).size = 34 := by simp [vcs, wcs_len, h]
theorem vcs_win {t : St} {hd : Value} {i : Nat} {v : Value} (h : (wcs t.ws)[i]? = some v) : (vcs t hd)[1 + i]? = some v := by
  have hi := (List.getElem?_eq_some_iff.1 h).1
  simp only [vcs, List.getElem?_toArray]
  rw [Nat.add_comm, List.getElem?_cons_succ, List.getElem?_append_left hi]; exact h
theorem vcs_hd {t : St} {hd : Value} (h : t.ws.length = 16) : (vcs t hd)[33]? = some hd := by
  simp only [vcs, List.getElem?_toArray]
  rw [List.getElem?_cons_succ, List.getElem?_append_right (by rw [wcs_len]; omega), wcs_len, h]; rfl
theorem wcs_set : ∀ (ws : Win) (d : Nat) (b : List Int), d < ws.length → ((wcs ws).set (d * 2) (.bool true)).set (d * 2 + 1) (.string (strOfNums b)) = wcs (ws.set d (some b))
  | a :: r, 0, b, h => rfl
  | a :: r, d + 1, b, h => by
    have ih := wcs_set r d b (by simpa using h)
    have e : (d + 1) * 2 = d * 2 + 1 + 1 := by omega
    rw [e]
    simp only [wcs, List.set_cons_succ]
    rw [ih]
theorem vcs_set {s : Int} {ws : Win} {out : List (List Int)} {hd : Value} {d : Nat} {b : List Int} (h : d < ws.length) : ((vcs ⟨s, ws, out⟩ hd).setIfInBounds (1 + d * 2) (.bool true)).setIfInBounds (1 + d * 2 + 1) (.string (strOfNums b)) = vcs ⟨s, ws.set d (some b), out⟩ hd := by
  have e1 : 1 + d * 2 = d * 2 + 1 := by omega
  simp only [vcs, List.setIfInBounds_toArray]
  congr 1
  rw [e1, List.set_cons_succ, List.set_cons_succ, List.set_append_left _ _ (by rw [wcs_len]; omega), List.set_append_left _ _ (by rw [List.length_set, wcs_len]; omega), wcs_set ws d b h]
theorem conv_bytes {w : World} {lo hi n cap : Nat} {A : Option Addr} {zs : List Int} (h : Rd .u8 w lo hi A n cap zs) : (convert 22 9 (.slice A n cap)).run Try.prog w = .ok (.string (strOfNums zs)) w := by
  by_cases hn : 0 < n
  · obtain ⟨b, off, rfl, _, _, h3⟩ := h.2.2.2.2.2 hn
    exact run_convert_bytes_arg w 22 5 Try.underlying22 Try.underlying5 b off n cap zs h.len h3 9 Try.underlying9
  · have hl := h.len
    have h0 : n = 0 := by omega
    subst h0
    have hz : zs = [] := List.eq_nil_of_length_eq_zero hl
    subst hz
    cases A with
    | none => exact run_convert_bytes_nil w 22 5 Try.underlying22 Try.underlying5 0 cap 9 Try.underlying9
    | some a =>
      obtain ⟨b, off, sp⟩ := a
      rw [run_convert_bytes_string w _ _ _ _ 0 cap Try.underlying22 Try.underlying5 Try.underlying9, run_bytesToString w _ 0 cap [] (by rfl)]
      rfl
theorem setRow_ks {w : World} {g : Nat} {c : Array Value} : KS [g] w (w.setRow g c) := ⟨rfl, rfl, rfl, by simp [World.setRow], fun k _ hk => setRow_other w g k _ (fun e => hk (List.mem_singleton.2 e))⟩
/-- 'copy' onto a part of a block, whatever the elements' size, the source read before anything is written. -/
theorem list_copyB {P : Program} {w : World} {ops : Array Oper} {rest : List Oper} {o : Oper} {a : Act} {Q : Exit → Act → World → Prop} (hgd : o.guard = none) (d s : Operand) (dT : TypeId)
    (ho : o.op = .call { callee := .builtin .copy, args := #[d, s], argTypes := #[dT, dT] }) (elem : TypeId) (hu : P.underlying dT = some (.slice elem)) (m : Nat) (hsz : (P.info? elem).map (·.size) = some m)
    (g off n dCap : Nat) (ad : Addr) (sLen sCap : Nat) (hd : a.eval d = .slice (some ⟨g, off, none⟩) n dCap) (hs : a.eval s = .slice (some ad) sLen sCap) (hle : sLen ≤ n) (T : TypeId) (cur : Array Value) (hX : Bx T w g cur) (cs : List Value) (hn : cs.length = sLen * m)
    (hsrc : ∀ j v, cs[j]? = some v → w.cell? (ad.add j) = some v) (hfit : off + cs.length ≤ cur.size) (h1 : ∀ v ∈ cs, v.oneCell' = true)
    (h : ∀ w', Bx T w' g (cur.toList.take off ++ cs ++ cur.toList.drop (off + cs.length)).toArray → KS [g] w w' → wpList P ops Q rest (a.put o.dst (goInt sLen)) w') : wpList P ops Q (o :: rest) a w := by
  refine wpList_plain hgd fun K hK => ?_
  have hl := run_loadCells_list (P := P) w ad cs hsrc
  have hst := run_storeCells_at P g off T cs 0 cur w hX (by omega) h1
  rw [Nat.add_zero] at hst
  rw [hn] at hl
  generalize (cur.toList.take off ++ cs ++ cur.toList.drop (off + cs.length)).toArray = R at hst h ⊢
  have hmin : Nat.min sLen n = sLen := Nat.min_eq_left hle
  have hrun : (Builtin.copy_ #[dT, dT] o.type #[.slice (some ⟨g, off, none⟩) n dCap, .slice (some ad) sLen sCap]).run P w = .ok (goInt sLen) (w.setRow g R) := by
    cases hq : P.info? elem with
    | none => simp [hq] at hsz
    | some i =>
      have hi : i.size = m := by simpa [hq] using hsz
      simp [Builtin.copy_, run_underlying hu, Builtin.lenOf, Builtin.firstCells, sizeOf, typeInfo, hq, hi, hmin, hl, hst]
  unfold Oper.wp
  simp [execOp, ho, resolve, invoke, builtin, hd, hs, hrun, Result.andThen]
  exact hK _ _ (h _ (show _ = _ from setRow_heap w g _ _ T _ hX) setRow_ks)
/-- 'clear' of a part of a block. -/
theorem run_clearB {P : Program} {w : World} (t ty : TypeId) (e : TypeId) (ht : P.underlying t = some (.slice e)) (zs : Array Value) (hv : ∀ w, (zeroValue e).run P w = .ok (.agg zs) w)
    (g off n c : Nat) (ad : Addr) (had : 0 < n → ad = ⟨g, off, none⟩) (T : TypeId) (cur : Array Value) (hX : Bx T w g cur) (cs : List Value) (hz : (Builtin.zeroCells zs n).toList = cs) (hfit : off + cs.length ≤ cur.size) (h1 : ∀ v ∈ cs, v.oneCell' = true) (h0 : n = 0 → cs = []) :
    ∃ w', (Builtin.clear_ #[t] ty #[.slice (some ad) n c]).run P w = .ok (.tuple #[]) w' ∧ Bx T w' g (cur.toList.take off ++ cs ++ cur.toList.drop (off + cs.length)).toArray ∧ KS [g] w w' := by
  by_cases hn : n = 0
  · subst hn
    have hc := h0 rfl
    refine ⟨w, by simp [Builtin.clear_, run_underlying ht], ?_, KS.refl _ _⟩
    rw [hc]; simpa using hX
  · obtain rfl := had (by omega)
    have hst := run_storeCells_at P g off T cs 0 cur w hX (by omega) h1
    rw [Nat.add_zero] at hst
    generalize (cur.toList.take off ++ cs ++ cur.toList.drop (off + cs.length)).toArray = R at hst ⊢
    obtain ⟨n', rfl⟩ : ∃ n', n = n' + 1 := ⟨n - 1, by omega⟩
    exact ⟨_, by simp [Builtin.clear_, run_underlying ht, hv, Value.cells, hz, hst], show _ = _ from setRow_heap w g _ _ T _ hX, setRow_ks⟩
theorem kp_cases {s : Int} {ws : Win} {out : List (List Int)} {d : Nat} (h : d < ws.length) (zs : List Int) : (ws[d]? = some none ∧ kp ws d zs = ws.set d (some zs)) ∨ (∃ c, ws[d]? = some (some c) ∧ kp ws d zs = ws) := by
  rw [List.getElem?_eq_getElem h]
  match hx : ws[d] with
  | none => exact .inl ⟨rfl, kp_yes (by rw [List.getElem?_eq_getElem h, hx])⟩
  | some c => exact .inr ⟨c, rfl, kp_no (by rw [List.getElem?_eq_getElem h, hx]; simp)⟩
set_option maxRecDepth 100000 in
set_option maxHeartbeats 4000000 in
theorem keep (t : St) (hd : Value) (d : Nat) (zs : List Int) (lo hi : Nat) (A : Option Addr) (n cap b : Nat) (w : World) (hX : Bx 84 w b (vcs t hd)) (h16 : t.ws.length = 16) (hd16 : d < 16) (h : Rd .u8 w lo hi A n cap zs) :
    Calls Try.prog 75 #[.pointer (some ⟨b, 0, none⟩), .int .i64 (d : Int), .slice A n cap] w fun e w' => e = .returned (.tuple #[]) ∧ Bx 84 w' b (vcs ⟨t.s, kp t.ws d zs, t.out⟩ hd) ∧ KS [b] w w' := by
  obtain ⟨s, ws, out⟩ := t
  have HX := Lib.hid hX
  have HR := Lib.hid h
  have HL := Lib.hid h16
  clear hX h
  have hdI : (d : Int) < 16 := by omega
  rcases kp_cases (s := s) (out := out) (d := d) (ws := ws) (by rw [HL.out]; exact hd16) zs with ⟨h1, h2⟩ | ⟨c, h1, h2⟩
  · have HK := Lib.hid h2
    have c0 : w.cell? ⟨b, 1 + d * 2, none⟩ = some (.bool false) := by rw [HX.out.cell]; exact vcs_win (wcs_at h1).1
    clear h1 h2 h16
    go_enter Try.func75, Try.ntmps75
    go_wp2_with fail
    have kcv := conv_bytes (HR.out.same (w' := w.drew) (Nat.le_refl _) (fun _ _ _ => rfl))
    have kcv2 := conv_bytes HR.out
    go_still_tail 8, (by kernel_rfl)
    change wpList _ _ _ _ _ w.drew
    have HX1 := Lib.hid (show Bx 84 w.drew b (vcs ⟨s, ws, out⟩ hd) from HX.out.same rfl)
    have HK1 := Lib.hid (show KS [b] w w.drew from ⟨rfl, rfl, rfl, Nat.le_refl _, fun _ _ _ => rfl⟩)
    obtain ⟨w1, hw1⟩ : ∃ w1, w.drew = w1 := ⟨_, rfl⟩
    rw [hw1] at HX1 HK1 ⊢
    clear hw1 kcv kcv2 c0
    obtain ⟨o, ho⟩ : ∃ o, ws[d]? = some o := ⟨_, List.getElem?_eq_getElem (by have := HL.out; omega)⟩
    have c0 : w1.cell? ⟨b, 1 + d * 2, none⟩ = some (.bool o.isSome) := by rw [HX1.out.cell]; exact vcs_win (wcs_at ho).1
    have c1 : w1.cell? ⟨b, 1 + d * 2 + 1, none⟩ = some (.string (strOfNums (o.getD []))) := by rw [HX1.out.cell, Nat.add_assoc]; exact vcs_win (wcs_at ho).2
    have f0 : w1.frozen? ⟨b, 1 + d * 2, none⟩ = false := HX1.out.free _
    have f1 : w1.frozen? ⟨b, 1 + d * 2 + 1, none⟩ = false := HX1.out.free _
    go_wp2_with fail
    refine bodyPost_end (results_none rfl _ _ _) rfl ⟨rfl, ?_, ?_⟩
    · rw [HK.out, ← vcs_set (by rw [HL.out]; exact hd16)]
      exact (HX1.out.set _ _).set _ _
    · exact HK1.out.trans ((ux.ks_set (List.mem_singleton.2 rfl) _ _).trans (ux.ks_set (List.mem_singleton.2 rfl) _ _))
  · have HK := Lib.hid h2
    have c0 : w.cell? ⟨b, 1 + d * 2, none⟩ = some (.bool true) := by rw [HX.out.cell]; exact vcs_win (wcs_at h1).1
    clear h1 h2 h16
    go_enter Try.func75, Try.ntmps75
    go_wp2_with fail
    exact bodyPost_end (results_none rfl _ _ _) rfl ⟨rfl, by rw [HK.out]; exact HX.out, KS.refl _ _⟩
end Go.Proofs.Ytejjafmppihneaa.ro
