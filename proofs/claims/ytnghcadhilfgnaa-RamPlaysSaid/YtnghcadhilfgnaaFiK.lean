import Derived.Test.YtnghcadhilfgnaaWpC
import Derived.Test.YtnghcadhilfgnaaEach
import Derived.RangeFuncWrites
import Derived.Test.YtnghcadhilfgnaaBad
import Derived.Deep.RegionHeld3
namespace Go.Proofs.Ytnghcadhilfgnaa
open Go.RowKit Go.Shelf
attribute [local go_sem] Oper.semAt_some
set_option linter.unusedVariables false
set_option linter.unusedSimpArgs false
/-- What comes of a list that is ranged over from its end, the first k of it. -/
def dn {α : Type} (g : Nat → α) (nf k : Nat) : List α := (List.range k).map fun j => g (nf - 1 - j)
theorem dn_succ {α : Type} (g : Nat → α) (nf k : Nat) : dn g nf (k + 1) = dn g nf k ++ [g (nf - 1 - k)] := by simp [dn, List.range_succ]
theorem dn_len {α : Type} (g : Nat → α) (nf k : Nat) : (dn g nf k).length = k := by simp [dn]
/-- The list that is ranged over lies as it lay, and the variable that holds it. -/
def GoodB (Bn : Nat) (q : Option Addr) (nf cf : Nat) (F : Nat → Int) (W : World) : Prop := W.cell? ⟨Bn, 0, .none⟩ = some (.slice q nf cf) ∧ Fs W q nf F
set_option maxRecDepth 100000 in
set_option maxHeartbeats 1000000 in
theorem back_in {α : Type} (g : Nat → α) (enc : α → Array Value) (n l Bn : Nat) (q : Option Addr) (nf cf : Nat) (F : Nat → Int) (hc : nf ≤ cf) (hcm : nf ≤ 281474976710656) (henc : ∀ i, i < nf → enc (g i) = #[.int .i64 (i : Int), .int .u64 (F i)]) (J Jx : List α → World → Prop) (Kp : World → World → Prop)
    (hG : ∀ W W', Kp W W' → GoodB Bn q nf cf F W → GoodB Bn q nf cf F W')
    (hY : ∀ m pre x W, J pre W → pre.length < nf → YieldAt Fence.wide m Try.prog l (enc x) W fun e W' => (e = .returned (.bool true) ∧ J (pre ++ [x]) W' ∧ Kp W W') ∨ (e = .returned (.bool false) ∧ Jx (pre ++ [x]) W'))
    (W : World) (hr : GoodB Bn q nf cf F W) (h0 : J [] W) :
    CallsIn Fence.wide n Try.prog 78 #[.func (.yield l) #[] #[], .pointer (some ⟨Bn, 0, .none⟩)] W fun e W' => (∃ v, e = .returned v) ∧ ((∃ ys, ys = dn g nf nf ∧ J ys W') ∨ (∃ pre, (∃ k, k ≤ nf ∧ pre = dn g nf k) ∧ Jx pre W')) := by
  have a0 := hr.1
  refine callsIn_of_wp Try.func78 rfl trivial ?_ rfl
  simp only [Try.ntmps78, List.size_toArray, List.length_cons, List.length_nil, Nat.reduceAdd, Nat.reduceSub, Array.replicate_succ, Array.replicate_zero, List.push_toArray, List.append_toArray, List.nil_append, List.cons_append]
  gi_wp2
  gi_loopw [3] (fun a wr => ∃ j : Nat, j ≤ nf ∧ a = .int .i64 ((j : Int) - 1) ∧ J (dn g nf (nf - j)) wr ∧ GoodB Bn q nf cf F wr) (fun a _ => (intOf a + 1).toNat)
  case atStart => exact ⟨nf, Nat.le_refl _, rfl, by rw [Nat.sub_self]; exact h0, hr⟩
  case round =>
    obtain ⟨j, hj, rfl, hJ, hgood⟩ := hrel
    clear a0
    by_cases hj0 : j = 0
    · subst hj0
      gi_wp2
      go_end0
      exact ⟨⟨_, rfl⟩, .inl ⟨_, rfl, by simpa using hJ⟩⟩
    · obtain ⟨i, rfl⟩ : ∃ i, j = i + 1 := ⟨j - 1, by omega⟩
      clear hj0
      have ei : ((i + 1 : Nat) : Int) - 1 = i := by omega
      rw [ei]
      obtain ⟨a0, hfs⟩ := hgood
      obtain ⟨b, o, rfl, lb, hcell⟩ : ∃ b o, q = some ⟨b, o, .none⟩ ∧ b < wr.heap.size ∧ ∀ i, i < nf → wr.cell? ⟨b, o + i, .none⟩ = some (.int .u64 (F i)) := by
        rcases hfs with h | h
        · omega
        · exact h
      have hci := hcell i (by omega)
      have HG : Hid (GoodB Bn (some ⟨b, o, .none⟩) nf cf F wr) := ⟨a0, .inr ⟨b, o, rfl, lb, hcell⟩⟩
      have ek : nf - 1 - (nf - (i + 1)) = i := by omega
      have HD : Hid (dn g nf (nf - i) = dn g nf (nf - (i + 1)) ++ [g i]) := by
        have := dn_succ g nf (nf - (i + 1))
        rw [ek] at this
        rw [← this]
        congr 1
        show nf - i = nf - (i + 1) + 1
        omega
      obtain ⟨fn, tmps, assign, body, hy, hR⟩ := hY (n - 1) (dn g nf (nf - (i + 1))) (g i) wr hJ (by rw [dn_len]; omega)
      clear hfs hcell hY hJ ek
      rw [henc i (by omega)] at hy
      have i1 : (i : Int) < nf := by omega
      gi_wp2
      refine ⟨fun h => (by cases h), hR.mono ?_⟩
      clear hR hy
      rintro e W3 (⟨rfl, hJ3, hk3⟩ | ⟨rfl, hJx3⟩)
      · have HJ : Hid (J (dn g nf (nf - i)) W3 ∧ GoodB Bn (some ⟨b, o, .none⟩) nf cf F W3) := ⟨HD.out ▸ hJ3, hG _ _ hk3 HG.out⟩
        clear hJ3 hk3
        gi_wp2
        exact ⟨⟨i, by omega, by simp, HJ.out.1, HJ.out.2⟩, by simp [intOf]⟩
      · have HJ : Hid (Jx (dn g nf (nf - i)) W3) := HD.out ▸ hJx3
        clear hJx3
        gi_wp2
        refine bodyPost_ret (results_none rfl _ _ _) rfl ?_
        exact ⟨⟨_, rfl⟩, .inr ⟨_, ⟨_, by omega, rfl⟩, HJ.out⟩⟩
theorem back_seq {α : Type} (g : Nat → α) (enc : α → Array Value) {w : World} (n Bn : Nat) (q : Option Addr) (nf cf : Nat) (F : Nat → Int) (hc : nf ≤ cf) (hcm : nf ≤ 281474976710656) (henc : ∀ i, i < nf → enc (g i) = #[.int .i64 (i : Int), .int .u64 (F i)]) (Kp : World → World → Prop)
    (hG : ∀ W W', Kp W W' → GoodB Bn q nf cf F W → GoodB Bn q nf cf F W') (hg : GoodB Bn q nf cf F w) :
    SeqStopsK (α := α) Fence.wide n Try.prog 78 #[.pointer (some ⟨Bn, 0, .none⟩)] enc Kp (fun ys => ys = dn g nf nf) (fun pre => ∃ k, k ≤ nf ∧ pre = dn g nf k) nf w := by
  intro l J Jx W hW _ _ hY h0
  refine back_in g enc n l Bn q nf cf F hc hcm henc J Jx Kp hG (fun m pre x W1 hj hlt => yield_any rfl m (hY pre x W1 hj hlt)) W ⟨(hW.cell (lt_of_cell hg.1)).trans hg.1, fs_keep hg.2 hW (Nat.le_refl _)⟩ h0
theorem backward_any (q : Option Addr) (nf cf : Nat) (w : World) : Calls Try.prog 72 #[.slice q nf cf] w fun e w' => e = .returned (.func (.func 78) #[] #[.pointer (some ⟨w.heap.size, 0, .none⟩)]) ∧ w' = w.alloc (.cells #[.slice q nf cf] 37) := by
  go_enter Try.func72, Try.ntmps72
  go_wp2
  go_ret
  exact ⟨rfl, rfl⟩
end Go.Proofs.Ytnghcadhilfgnaa
namespace Go.Proofs.Ytnghcadhilfgnaa
open Go.RowKit
set_option linter.unusedVariables false
set_option linter.unusedSimpArgs false
/-- Which frame an address names. -/
def fi (x : Int) : Nat := ((x - 2147483648) / 4096).toNat
theorem fi_of {x : Int} {n : Nat} (h : isFr x n = true) : fi x < n ∧ x = 2147483648 + (fi x : Int) * 4096 := by
  unfold isFr at h
  unfold fi
  simp at h
  omega
/-- A frame's bytes. -/
def row4 (R : Nat → Int) : List Int := (List.range 4096).map R
theorem row4_len (R : Nat → Int) : (row4 R).length = 4096 := by simp [row4]
theorem row4_get (R : Nat → Int) (j : Nat) (h : j < 4096) : (row4 R)[j]? = some (R j) := by simp [row4, h]
/-- The bytes behind the first k of the held frames. -/
def hbm (PA : Nat → Int) (D : Nat → Nat → Int) : Nat → Nat → Int
  | 0 => fun _ => 0
  | k + 1 => over (hbm PA D k) (fi (PA k) * 4096) (row4 (D k))
/-- The bytes that came with the held frames. -/
def Ds (W : World) (nh : Nat) (P : Nat → Option Addr) (L : Nat → Nat) (D : Nat → Nat → Int) : Prop := ∀ i, i < nh → L i = 0 ∨ ∃ b o, P i = some ⟨b, o, .none⟩ ∧ b < W.heap.size ∧ ∀ j, j < L i → W.cell? ⟨b, o + j, .none⟩ = some (.int .u8 (D i j))
/-- A map's store as one step of a region that draws. -/
theorem step_mapUpdate_in {H : Type} {P : Program} {ops : Array Oper} {o : Oper} {a : Act} {w : World} {K : Act → World → Prop} {Q : Exit → Act → World → Prop} {E : Prop} (hgd : o.guard = none) (m x v : Operand) (t : TypeId) (hop : o.op = Op.mapUpdate t m x v)
    (k e : TypeId) (Kd : Maps.Keyed P k) (ht : P.underlying t = some (.map k e)) (R : Value → Option (DataW H × List MemPlace)) (b n : Nat) (D : DataW H)
    (hm : a.eval m = .map (some b)) (hown : w.ownsMap P k R b n D) (hn : n < maxLen) (key val : Value) (kl : Lit) (hx : a.eval x = key) (hv : a.eval v = val) (hkey : keyOf P k key = some kl)
    (d : DataW H) (ps : List MemPlace) (hval : R val = some (d, ps))
    (h : ∀ w', w'.ownsMap P k R b (n + 1) (D.put kl d) → w.mapTurned w' b → K (a.put o.dst undef) w') : if Region.wanted o (yielded ops a.tmps) = true then Oper.wp P o a w K Q else E := by
  have hw : Region.wanted o (yielded ops a.tmps) = true := by simp [Region.wanted, hgd]
  rw [if_pos hw]
  obtain ⟨w', hrun, r1, r2⟩ := hown.store Kd ht hn hkey hval
  unfold Oper.wp
  simp [execOp, hop, hm, hx, hv, hrun, Result.andThen]
  exact h w' r1 r2
theorem copy_frame {w : World} {p b m N cnt : Nat} {B : Nat → Int} {nx : Int} {hd : Int → Bool} (h : Mem w p b m N B nx hd cnt) (i : Nat) (hi : i < N) (db o cap : Nat) (R : Nat → Int) (hc : ∀ j, j < 4096 → w.cell? ⟨db, o + j, .none⟩ = some (.int .u8 (R j))) (hne : db ≠ b) (ty : TypeId) :
    (Builtin.copy_ #[27, 27] ty #[.slice (some ⟨b, i * 4096, .none⟩) 4096 (4096 * N - i * 4096), .slice (some ⟨db, o, .none⟩) 4096 cap]).run Try.prog w = .ok (.int .i64 4096) (w.setCells b (i * 4096) ((row4 R).map (.int .u8))) := by
  have := run_copy_cells (P := Try.prog) w 27 27 ty 5 b (i * 4096) 4096 (4096 * N - i * 4096) ⟨db, o, .none⟩ 4096 cap ((row4 R).map (.int .u8)) Try.underlying27 info5 (by simp [row4_len])
    (fun j v hj => by
      rw [addr_add]
      rw [List.getElem?_map] at hj
      by_cases hjn : j < 4096
      · rw [row4_get _ _ hjn] at hj
        simp only [Option.map_some, Option.some.injEq] at hj
        subst hj
        exact hc j hjn
      · rw [List.getElem?_eq_none (by rw [row4_len]; omega)] at hj
        cases hj)
    (fun j hj => by rw [h.cb _ (by simp [row4_len] at hj; omega)]; rfl) (fun j hj => by exact h.fb _ (by simp [row4_len] at hj; omega)) (fun v hv => by simp only [List.mem_map] at hv; obtain ⟨i, _, rfl⟩ := hv; rfl)
  simpa [goInt, row4_len] using this
/-- FromImage behind the first k of the held frames. -/
structure Hi (W V : World) (p b m x5 : Nat) (n : Nat) (qf : Option Addr) (nf cf : Nat) (PA : Nat → Int) (D : Nat → Nat → Int) (k : Nat) : Prop where
  mem : Mem V p b m n (hbm PA D k) 0 (among PA k) k
  box : V.cell? ⟨x5, 0, .none⟩ = some (.pointer (some ⟨p, 0, .none⟩))
  fx : V.frozen? ⟨x5, 0, .none⟩ = false
  im : V.cell? ⟨W.heap.size, 1, .none⟩ = some (.slice qf nf cf)
  i0 : V.cell? ⟨W.heap.size, 0, .none⟩ = some (.int .i64 n)
  be : Below W.heap.size W V
  ge : W.heap.size ≤ p ∧ W.heap.size ≤ b ∧ W.heap.size ≤ m ∧ W.heap.size ≤ x5
theorem map_ne {w : World} {m n : Nat} {D : DataW Unit} {x : Addr} {v : Value} (h : w.ownsMap Try.prog 26 unitElem m n D) (hc : w.cell? x = some v) : x.block ≠ m := fun e => by
  obtain ⟨es, cl, hb, _⟩ := h
  simp [World.cell?, e, hb] at hc
section
variable {W V V' : World} {p b m x5 n : Nat} {qf : Option Addr} {nf cf : Nat} {PA : Nat → Int} {D : Nat → Nat → Int} {k : Nat}
theorem Hi.below (h : Hi W V p b m x5 n qf nf cf PA D k) (hb : Below V.heap.size V V') : Hi W V' p b m x5 n qf nf cf PA D k :=
  ⟨h.mem.below hb, (hb.cell (lt_of_cell h.box)).trans h.box, (hb.frozen (lt_of_cell h.box)).trans h.fx, (hb.cell (lt_of_cell h.im)).trans h.im, (hb.cell (lt_of_cell h.i0)).trans h.i0, h.be.trans (hb.mono h.be.size), h.ge⟩
/-- .. behind one more. -/
theorem Hi.step (h : Hi W V p b m x5 n qf nf cf PA D k) (hn : isFr (PA k) n = true) (hf : among PA k (PA k) = false) (hp : 0 ≤ PA k ∧ PA k < 18446744073709551616) (hD : ∀ j, 0 ≤ D k j ∧ D k j < 256) {Dm : DataW Unit} (hown : V.ownsMap Try.prog 26 unitElem m (Maps.size Dm) Dm) (hhas : ∀ a : Int, 0 ≤ a → a < 18446744073709551616 → Maps.has Dm (.int .u64 a) = among PA k a) (hsz : Maps.size Dm = k) {c : Nat}
    (o : V'.ownsMap Try.prog 26 unitElem m c (Dm.put (.int .u64 (PA k)) (.agg []))) (t : V.mapTurned V' m) :
    Hi W (V'.setCells b (fi (PA k) * 4096) ((row4 (D k)).map (.int .u8))) p b m x5 n qf nf cf PA D (k + 1) ∧ Mem V' p b m n (hbm PA D k) 0 (among PA (k + 1)) (k + 1) ∧ (∀ x, x < V.heap.size → x ≠ m → V'.heap[x]? = V.heap[x]?) := by
  obtain ⟨f1, f2⟩ := fi_of hn
  have hm := h.mem.put hown hhas hsz (PA k) hp hf o t
  have e : (fun x => decide (x = PA k) || among PA k x) = among PA (k + 1) := funext fun x => (among_succ PA k x).symm
  rw [e] at hm
  have g := t.grown
  have hb : ∀ x, x < V.heap.size → x ≠ m → V'.heap[x]? = V.heap[x]? := fun x h1 h2 => g.block x h1 (by simpa using h2)
  have hm2 := hm.setCells (fi (PA k) * 4096) (row4 (D k)) (by rw [row4_len]; omega) (fun v hv => by
    simp only [row4, List.mem_map] at hv
    obtain ⟨j, _, rfl⟩ := hv
    exact hD j)
  have F := (Fra.refl p b m V').setCells (fi (PA k) * 4096) ((row4 (D k)).map (.int .u8))
  have FF : Fra p b m V (V'.setCells b (fi (PA k) * 4096) ((row4 (D k)).map (.int .u8))) := ((Fra.refl p b m V).turned t).trans F
  obtain ⟨g1, g2, g3, g4⟩ := h.ge
  have np : ∀ x, V.cell? ⟨x, 0, .none⟩ = some (.pointer (some ⟨p, 0, .none⟩)) ∨ V.cell? ⟨x, 0, .none⟩ = some (.int .i64 n) → x ≠ p ∧ x ≠ b ∧ x ≠ m := by
    intro x hx
    refine ⟨fun e => ?_, fun e => ?_, fun e => ?_⟩
    · rw [e, h.mem.c0] at hx
      rcases hx with hx | hx <;> cases hx
    · rw [e, h.mem.cb 0 (by have := h.mem.n1; omega)] at hx
      rcases hx with hx | hx <;> cases hx
    · rcases hx with hx | hx <;> exact map_ne hown hx e
  obtain ⟨a1, a2, a3⟩ := np x5 (.inl h.box)
  obtain ⟨b1, b2, b3⟩ := np W.heap.size (.inr h.i0)
  refine ⟨⟨hm2, (FF.cell (x := ⟨x5, 0, .none⟩) (lt_of_cell h.box) a1 a2 a3).trans h.box, (FF.frozen (x := ⟨x5, 0, .none⟩) (lt_of_cell h.box) a1 a2 a3).trans h.fx, (FF.cell (x := ⟨W.heap.size, 1, .none⟩) (lt_of_cell h.im) b1 b2 b3).trans h.im, (FF.cell (x := ⟨W.heap.size, 0, .none⟩) (lt_of_cell h.i0) b1 b2 b3).trans h.i0, h.be.trans (FF.toBelow (h.be.size) g1 g2 g3), h.ge⟩, hm, hb⟩
end
end Go.Proofs.Ytnghcadhilfgnaa
namespace Go.Proofs.Ytnghcadhilfgnaa
open Go.RowKit
set_option linter.unusedVariables false
set_option linter.unusedSimpArgs false
/-- The bytes and the list's beginning, one frame more threaded. -/
def stp (s : (Nat → Int) × Int) (i : Nat) : (Nat → Int) × Int := (thr s.1 i s.2, 2147483648 + (i : Int) * 4096)
def sts (B : Nat → Int) (l : List Nat) : (Nat → Int) × Int := l.foldl stp (B, 0)
theorem sts_snoc (B : Nat → Int) (l : List Nat) (i : Nat) : sts B (l ++ [i]) = stp (sts B l) i := by simp [sts]
theorem sts_rev (B : Nat → Int) : ∀ r : List Nat, r.Nodup → (sts B r.reverse).2 = adr r ∧ Thr (sts B r.reverse).1 r ∧ ∀ i, i ∉ r → ∀ j, j < 4096 → (sts B r.reverse).1 (i * 4096 + j) = B (i * 4096 + j)
  | [], _ => ⟨rfl, trivial, fun _ _ _ _ => rfl⟩
  | x :: r, h => by
    obtain ⟨hx, hr⟩ := List.nodup_cons.1 h
    obtain ⟨h1, h2, h3⟩ := sts_rev B r hr
    rw [List.reverse_cons, sts_snoc]
    refine ⟨rfl, ?_, fun i hi j hj => ?_⟩
    · show Thr (thr (sts B r.reverse).1 x (sts B r.reverse).2) (x :: r)
      rw [h1]
      exact h2.cons x hx
    · have n1 : i ≠ x := fun e => hi (e ▸ List.mem_cons_self ..)
      have n2 : i ∉ r := fun e => hi (List.mem_cons_of_mem _ e)
      show thr (sts B r.reverse).1 x (sts B r.reverse).2 (i * 4096 + j) = _
      rw [thr_out _ _ _ _ (by omega)]
      exact h3 i n2 j hj
/-- The frames of a list of addresses. -/
def Lf (F : Nat → Int) (nf : Nat) : List Nat := (List.range nf).map fun i => fi (F i)
theorem Lf_len (F : Nat → Int) (nf : Nat) : (Lf F nf).length = nf := by simp [Lf]
theorem Lf_rev (F : Nat → Int) (nf : Nat) : ((List.range nf).map fun j => fi (F (nf - 1 - j))) = (Lf F nf).reverse := by
  apply List.ext_getElem
  · simp [Lf]
  · intro i h1 h2
    simp [Lf]
theorem among_iff (F : Nat → Int) (k : Nat) (x : Int) : among F k x = true ↔ ∃ j, j < k ∧ F j = x := by
  unfold among
  simp
/-- An image of which nothing is wrong. -/
structure Fine (F : Nat → Int) (nf : Nat) (PA : Nat → Int) (L : Nat → Nat) (nh : Nat) (n : Nat) : Prop where
  f1 : ∀ i, i < nf → bad1 (among F i) (F i) n = false
  f2 : ∀ i, i < nh → bad2 (among F nf) PA L n i = false
  le : n ≤ nf + nh
theorem first1_one {F : Nat → Int} {n : Int} {nf r r' : Nat} (h : First1 F n nf r) (h' : First1 F n nf r') : r = r' := by
  obtain ⟨a1, a2, a3⟩ := h
  obtain ⟨b1, b2, b3⟩ := h'
  rcases Nat.lt_trichotomy r r' with e | e | e
  · have := b2 r e
    rw [a3 (by omega)] at this
    cases this
  · exact e
  · have := a2 r' e
    rw [b3 (by omega)] at this
    cases this
theorem first2_one {hs : Int → Bool} {PA : Nat → Int} {L : Nat → Nat} {n : Int} {nh r r' : Nat} (h : First2 hs PA L n nh r) (h' : First2 hs PA L n nh r') : r = r' := by
  obtain ⟨a1, a2, a3⟩ := h
  obtain ⟨b1, b2, b3⟩ := h'
  rcases Nat.lt_trichotomy r r' with e | e | e
  · have := b2 r e
    rw [a3 (by omega)] at this
    cases this
  · exact e
  · have := a2 r' e
    rw [b3 (by omega)] at this
    cases this
section
variable {F : Nat → Int} {nf : Nat} {PA : Nat → Int} {L : Nat → Nat} {nh n : Nat}
theorem Fine.zero (h : Fine F nf PA L nh n) {at_ : Int} (w : Wrong F nf PA L nh n at_) : at_ = 0 := by
  obtain ⟨r1, h1, h2⟩ := w
  obtain rfl := first1_one h1 ⟨Nat.le_refl _, h.f1, fun h => by omega⟩
  rcases h2 with ⟨h2, _⟩ | ⟨_, r2, h3, h4⟩
  · omega
  · obtain rfl := first2_one h3 ⟨Nat.le_refl _, h.f2, fun h => by omega⟩
    have := h.le
    rcases h4 with ⟨h5 | h5, _⟩ | ⟨_, h5⟩
    · omega
    · omega
    · exact h5
theorem Fine.of_zero (w : Wrong F nf PA L nh n 0) : Fine F nf PA L nh n := by
  obtain ⟨r1, h1, h2⟩ := w
  rcases h2 with ⟨_, h2⟩ | ⟨rfl, r2, h3, h4⟩
  · omega
  · rcases h4 with ⟨_, h5⟩ | ⟨⟨rfl, h5⟩, _⟩
    · omega
    · exact ⟨h1.2.1, h3.2.1, by omega⟩
/-- Each held frame's address is a frame's, and above the one ahead. -/
theorem Fine.held (h : Fine F nf PA L nh n) {k : Nat} (hk : k < nh) : isFr (PA k) n = true ∧ L k = 4096 ∧ among F nf (PA k) = false ∧ (0 < k → PA (k - 1) < PA k) := by
  have := h.f2 k hk
  unfold bad2 falls at this
  simp only [Bool.or_eq_false_iff, Bool.not_eq_false', decide_eq_false_iff_not, Decidable.not_not] at this
  obtain ⟨⟨⟨a, b⟩, c⟩, d⟩ := this
  refine ⟨c, d, a, fun h0 => ?_⟩
  rw [if_neg (by omega)] at b
  simpa using b
theorem Fine.free (h : Fine F nf PA L nh n) {k : Nat} (hk : k < nf) : isFr (F k) n = true ∧ F k ≠ 2147483648 ∧ among F k (F k) = false := by
  have := h.f1 k hk
  unfold bad1 at this
  simp only [Bool.or_eq_false_iff, Bool.not_eq_false', beq_eq_false_iff_ne, ne_eq] at this
  exact ⟨this.2, this.1.2, this.1.1⟩
theorem Fine.rise (h : Fine F nf PA L nh n) : ∀ {k : Nat}, k < nh → ∀ j, j < k → PA j < PA k
  | 0, _, j, hj => by omega
  | k + 1, hk, j, hj => by
    have h1 := (h.held hk).2.2.2 (by omega)
    rw [Nat.add_sub_cancel] at h1
    by_cases e : j = k
    · rw [e]; exact h1
    · have := h.rise (k := k) (by omega) j (by omega)
      omega
theorem Fine.fresh (h : Fine F nf PA L nh n) {k : Nat} (hk : k < nh) : among PA k (PA k) = false := by
  unfold among
  rw [List.any_eq_false]
  intro j hj
  have := h.rise hk j (List.mem_range.1 hj)
  simp
  omega
theorem fi_inj {x y : Int} {n : Nat} (hx : isFr x n = true) (hy : isFr y n = true) (h : fi x = fi y) : x = y := by
  have h1 := (fi_of hx).2
  have h2 := (fi_of hy).2
  rw [h1, h2, h]
theorem nodup_range {f : Nat → Nat} {k : Nat} (h : ∀ i j, i < j → j < k → f i ≠ f j) : ((List.range k).map f).Nodup := by
  induction k with
  | zero => simp
  | succ k ih =>
    rw [List.range_succ, List.map_append, List.nodup_append]
    refine ⟨ih (fun i j h1 h2 => h i j h1 (by omega)), by simp, ?_⟩
    intro a ha b hb
    simp only [List.mem_map, List.mem_range] at ha
    obtain ⟨i, hi, rfl⟩ := ha
    simp only [List.map_cons, List.map_nil, List.mem_singleton] at hb
    rw [hb]
    exact h i k hi (by omega)
theorem Fine.nodup (h : Fine F nf PA L nh n) : (Lf F nf).Nodup := nodup_range fun i j h1 h2 e => by
  have a := fi_inj (h.free (show i < nf by omega)).1 (h.free h2).1 e
  have b := (h.free h2).2.2
  rw [← a, Bool.eq_false_iff] at b
  exact b ((among_iff F j _).2 ⟨i, h1, rfl⟩)
theorem Fine.nodupH (h : Fine F nf PA L nh n) : (Lf PA nh).Nodup := nodup_range fun i j h1 h2 e => by
  have a := fi_inj (h.held (show i < nh by omega)).1 (h.held h2).1 e
  have b := h.rise h2 i h1
  omega
theorem mem_Lf {F : Nat → Int} {nf i : Nat} : i ∈ Lf F nf ↔ ∃ j, j < nf ∧ fi (F j) = i := by simp [Lf]
theorem Fine.apart (h : Fine F nf PA L nh n) {i : Nat} (hi : i ∈ Lf PA nh) : i ∉ Lf F nf := by
  intro hf
  obtain ⟨j, hj, e1⟩ := mem_Lf.1 hi
  obtain ⟨k, hk, e2⟩ := mem_Lf.1 hf
  have a := fi_inj (h.held hj).1 (h.free hk).1 (e1.trans e2.symm)
  have b := (h.held hj).2.2.1
  rw [Bool.eq_false_iff] at b
  exact b ((among_iff F nf _).2 ⟨k, hk, a.symm⟩)
theorem Fine.lt (h : Fine F nf PA L nh n) : ∀ i ∈ Lf F nf, 1 ≤ i ∧ i < n := by
  intro i hi
  obtain ⟨j, hj, rfl⟩ := mem_Lf.1 hi
  obtain ⟨a, b⟩ := fi_of (h.free hj).1
  have c := (h.free hj).2.1
  refine ⟨?_, a⟩
  apply Classical.byContradiction
  intro e
  have : fi (F j) = 0 := by omega
  rw [this] at b
  exact c (by simpa using b)
theorem Fine.ltH (h : Fine F nf PA L nh n) : ∀ i ∈ Lf PA nh, i < n := by
  intro i hi
  obtain ⟨j, hj, rfl⟩ := mem_Lf.1 hi
  exact (fi_of (h.held hj).1).1
theorem Fine.all (h : Fine F nf PA L nh n) : nf + nh = n ∧ ∀ i, i < n → i ∈ Lf F nf ∨ i ∈ Lf PA nh := by
  have hnd : (Lf F nf ++ Lf PA nh).Nodup := List.nodup_append.2 ⟨h.nodup, h.nodupH, fun a ha b hb e => h.apart hb (e ▸ ha)⟩
  have hlt : ∀ i ∈ Lf F nf ++ Lf PA nh, i < n := fun i hi => by
    rcases List.mem_append.1 hi with h1 | h1
    · exact (h.lt i h1).2
    · exact h.ltH i h1
  have hlen : (Lf F nf ++ Lf PA nh).length = nf + nh := by simp [Lf_len]
  have h1 := nodup_le n _ hnd hlt
  have h2 := h.le
  refine ⟨by omega, fun i hi => ?_⟩
  apply Classical.byContradiction
  intro hn
  have h3 := nodup_le n (i :: (Lf F nf ++ Lf PA nh)) (List.nodup_cons.2 ⟨fun hm => hn (List.mem_append.1 hm), hnd⟩) (fun j hj => by
    rcases List.mem_cons.1 hj with rfl | hj
    · exact hi
    · exact hlt j hj)
  simp only [List.length_cons] at h3
  omega
theorem Fine.hd (h : Fine F nf PA L nh n) (a : Int) : among PA nh a = hdL n (Lf F nf) a := by
  unfold hdL
  cases e : among PA nh a with
  | true =>
    obtain ⟨j, hj, rfl⟩ := (among_iff PA nh a).1 e
    have h1 := (h.held hj).1
    have h2 : fi (PA j) ∉ Lf F nf := h.apart (mem_Lf.2 ⟨j, hj, rfl⟩)
    rw [h1]
    simp only [Bool.true_and]
    show true = !decide (fi (PA j) ∈ Lf F nf)
    simp [h2]
  | false =>
    cases e2 : isFr a n with
    | false => simp
    | true =>
      obtain ⟨h1, h2⟩ := fi_of e2
      have h3 : fi a ∈ Lf F nf := by
        rcases h.all.2 _ h1 with h4 | h4
        · exact h4
        · obtain ⟨j, hj, h5⟩ := mem_Lf.1 h4
          have := fi_inj (h.held hj).1 e2 h5
          rw [Bool.eq_false_iff] at e
          exact absurd ((among_iff PA nh a).2 ⟨j, hj, this⟩) e
      show false = (true && !decide (fi a ∈ Lf F nf))
      simp [h3]
/-- The held frames' bytes. -/
theorem Fine.bytes (h : Fine F nf PA L nh n) (D : Nat → Nat → Int) : ∀ k, k ≤ nh → ∀ i, i < k → ∀ j, j < 4096 → hbm PA D k (fi (PA i) * 4096 + j) = D i j
  | 0, _, i, hi, _, _ => by omega
  | k + 1, hk, i, hi, j, hj => by
    show over (hbm PA D k) (fi (PA k) * 4096) (row4 (D k)) (fi (PA i) * 4096 + j) = D i j
    unfold over
    rw [row4_len]
    by_cases e : i = k
    · subst e
      rw [if_pos (by omega), show fi (PA i) * 4096 + j - fi (PA i) * 4096 = j by omega, List.getD_eq_getElem?_getD, row4_get _ _ hj]
      rfl
    · have h1 := h.rise (show k < nh by omega) i (by omega)
      have h2 := fi_of (h.held (show k < nh by omega)).1
      have h3 := fi_of (h.held (show i < nh by omega)).1
      rw [if_neg (by omega)]
      exact h.bytes D k (by omega) i (by omega) j hj
/-- The whole: what is threaded on the held frames is the memory of the image. -/
theorem Fine.ram (h : Fine F nf PA L nh n) (D : Nat → Nat → Int) {w : World} {p b m : Nat} (hm : Mem w p b m n (sts (hbm PA D nh) (Lf F nf).reverse).1 (sts (hbm PA D nh) (Lf F nf).reverse).2 (among PA nh) nh) :
    Ram w p b m n (sts (hbm PA D nh) (Lf F nf).reverse).1 (Lf F nf) ∧ ∀ i, i < nh → ∀ j, j < 4096 → (sts (hbm PA D nh) (Lf F nf).reverse).1 (fi (PA i) * 4096 + j) = D i j := by
  obtain ⟨h1, h2, h3⟩ := sts_rev (hbm PA D nh) (Lf F nf) h.nodup
  rw [h1] at hm
  have e : nh = n - (Lf F nf).length := by have := h.all.1; rw [Lf_len]; omega
  refine ⟨⟨?_, h.nodup, h.lt, h2⟩, fun i hi j hj => ?_⟩
  · have := hm.congr (fun a _ _ => h.hd a)
    rw [← e]
    exact this
  · rw [h3 _ (h.apart (mem_Lf.2 ⟨i, hi, rfl⟩)) j hj]
    exact h.bytes D nh (Nat.le_refl _) i hi j hj
end
end Go.Proofs.Ytnghcadhilfgnaa
namespace Go.Proofs.Ytnghcadhilfgnaa
open Go.RowKit
set_option linter.unusedVariables false
set_option linter.unusedSimpArgs false
/-- What a round of the threading keeps: all that lay there but the memory's three blocks. -/
def KpF (u p b m : Nat) (A B : World) : Prop := A.heap.size ≤ B.heap.size ∧ ∀ x, x < u → x ≠ p → x ≠ b → x ≠ m → B.heap[x]? = A.heap[x]?
theorem KpF.trans {u p b m : Nat} {A B C : World} (h : KpF u p b m A B) (k : KpF u p b m B C) : KpF u p b m A C := ⟨Nat.le_trans h.1 k.1, fun x a c d e => (k.2 x a c d e).trans (h.2 x a c d e)⟩
theorem KpF.put {u p b m l : Nat} (A : World) (o' : Obj) (hl : u ≤ l) : KpF u p b m A (A.putObj l o') :=
  ⟨(grownBy_putObj' A l o').size, fun x hx _ _ _ => World.putObj_heap_other (by omega)⟩
/-- The memory while its free frames are threaded. -/
structure IT (W : World) (u p b m x5 n k : Nat) (PA : Nat → Int) (D : Nat → Nat → Int) (pre : List (Nat × Fin n)) (A : World) : Prop where
  mem : Mem A p b m n (sts (hbm PA D k) (pre.map fun x => x.2.val)).1 (sts (hbm PA D k) (pre.map fun x => x.2.val)).2 (among PA k) k
  box : A.cell? ⟨x5, 0, .none⟩ = some (.pointer (some ⟨p, 0, .none⟩))
  be : Below W.heap.size W A
  sz : u ≤ A.heap.size
theorem IT.own (W : World) {u p b m x5 n k : Nat} (PA : Nat → Int) (D : Nat → Nat → Int) (h1 : p < u) (h2 : b < u) (h3 : m < u) (h4 : x5 < u) (h5 : W.heap.size ≤ u) : OwnFrom u (IT W u p b m x5 n k PA D) := by
  intro s A B row h g hr
  have ne : ∀ x, x < u → some x ≠ row := fun x hx e => by
    have := (hr x e.symm).1
    omega
  have sz := h.sz
  have bl : ∀ x, x < u → B.heap[x]? = A.heap[x]? := fun x hx => g.block x (by omega) (ne x hx)
  exact ⟨h.mem.keep (bl p h1) (bl b h2) (bl m h3), (World.cell?_of_block (bl x5 h4)).trans h.box, h.be.grown g (by omega) (fun r e => by have := (hr r e).1; omega), Nat.le_trans sz g.size⟩
theorem IT.step {W : World} {u p b m x5 n k : Nat} {PA : Nat → Int} {D : Nat → Nat → Int} {pre : List (Nat × Fin n)} {A A' : World} (h : IT W u p b m x5 n k PA D pre A) (x : Nat × Fin n)
    (hm : Mem A' p b m n (thr (sts (hbm PA D k) (pre.map fun x => x.2.val)).1 x.2.val (sts (hbm PA D k) (pre.map fun x => x.2.val)).2) (2147483648 + (x.2.val : Int) * 4096) (among PA k) k) (f : Fra p b m A A')
    (h1 : p < u) (h2 : b < u) (h3 : m < u) (g1 : W.heap.size ≤ p) (g2 : W.heap.size ≤ b) (g3 : W.heap.size ≤ m) : KeepsFrom u A A' ∧ KpF u p b m A A' ∧ IT W u p b m x5 n k PA D (pre ++ [x]) A' := by
  have hx : x5 ≠ p ∧ x5 ≠ b ∧ x5 ≠ m := by
    obtain ⟨Dm, hown, _⟩ := h.mem.hm
    have hb := h.box
    refine ⟨fun e => ?_, fun e => ?_, fun e => map_ne hown hb e⟩
    · rw [e, h.mem.c0] at hb
      cases hb
    · rw [e, h.mem.cb 0 (by have := h.mem.n1; omega)] at hb
      cases hb
  have sz := h.sz
  refine ⟨⟨f.size, fun j o hj hjo _ => (f.block j (Array.getElem?_eq_some_iff.1 hjo).1 (by omega) (by omega) (by omega)).trans hjo⟩, ⟨f.size, fun y hy a b c => f.block y (by omega) a b c⟩, ?_⟩
  refine ⟨?_, (f.cell (x := ⟨x5, 0, .none⟩) (lt_of_cell h.box) hx.1 hx.2.1 hx.2.2).trans h.box, h.be.trans (f.toBelow h.be.size g1 g2 g3), Nat.le_trans sz f.size⟩
  rw [List.map_append, List.map_cons, List.map_nil, sts_snoc]
  exact hm
/-- What FromImage hands back of an image of which nothing is wrong. -/
def FrP (W : World) (F : Nat → Int) (nf : Nat) (PA : Nat → Int) (D : Nat → Nat → Int) (nh n : Nat) (e : Ending) (w' : World) : Prop :=
  ∃ p b m B, W.heap.size ≤ p ∧ W.heap.size ≤ b ∧ W.heap.size ≤ m ∧ e = .returned (.tuple #[.pointer (some ⟨p, 0, .none⟩), .nilIface]) ∧ Ram w' p b m n B (Lf F nf) ∧ (∀ i, i < nh → ∀ j, j < 4096 → B (fi (PA i) * 4096 + j) = D i j) ∧ Below W.heap.size W w'
/-- A drawn order leaves the memory as it is. -/
theorem setCells_drew (w : World) (b : Nat) : ∀ (vs : List Value) (o : Nat), w.drew.setCells b o vs = (w.setCells b o vs).drew := by
  intro vs
  induction vs generalizing w with
  | nil => intro o; rfl
  | cons v vs ih => intro o; exact ih (w.setCell ⟨b, o, .none⟩ v) (o + 1)
theorem hi_drew {W w4 : World} {p b m x5 n : Nat} {qf : Option Addr} {nf cf : Nat} {PA : Nat → Int} {D : Nat → Nat → Int} {k o : Nat} {vs : List Value} (h : Hi W (w4.setCells b o vs) p b m x5 n qf nf cf PA D k) : Hi W (w4.drew.setCells b o vs) p b m x5 n qf nf cf PA D k := by
  rw [setCells_drew]
  exact h.below ((Below.refl _ _).drew)
/-- The element of the list at a place. -/
def gg (F : Nat → Int) (n : Nat) (h : 1 ≤ n) (i : Nat) : Nat × Fin n := (i, ⟨fi (F i) % n, Nat.mod_lt _ h⟩)
def enc2 {n : Nat} (x : Nat × Fin n) : Array Value := #[.int .i64 (x.1 : Int), .int .u64 (2147483648 + (x.2.val : Int) * 4096)]
theorem enc_gg {F : Nat → Int} {nf : Nat} {PA : Nat → Int} {L : Nat → Nat} {nh n : Nat} (h : Fine F nf PA L nh n) (h1 : 1 ≤ n) : ∀ i, i < nf → enc2 (gg F n h1 i) = #[.int .i64 (i : Int), .int .u64 (F i)] := by
  intro i hi
  obtain ⟨a, b⟩ := fi_of (h.free hi).1
  simp only [enc2, gg]
  rw [Nat.mod_eq_of_lt a, ← b]
theorem dn_gg {F : Nat → Int} {nf : Nat} {PA : Nat → Int} {L : Nat → Nat} {nh n : Nat} (h : Fine F nf PA L nh n) (h1 : 1 ≤ n) : (dn (gg F n h1) nf nf).map (fun x => x.2.val) = (Lf F nf).reverse := by
  rw [← Lf_rev]
  unfold dn
  rw [List.map_map]
  apply List.map_congr_left
  intro j hj
  have : nf - 1 - j < nf := by have := List.mem_range.1 hj; omega
  exact Nat.mod_eq_of_lt (fi_of (h.free this).1).1
theorem good_keep {W U A B : World} {p b m Bn nf cf : Nat} {qf : Option Addr} {F : Nat → Int} (hf : Fs W qf nf F) (g1 : W.heap.size ≤ p) (g2 : W.heap.size ≤ b) (g3 : W.heap.size ≤ m) (hB : Bn < U.heap.size) (n1 : Bn ≠ p) (n2 : Bn ≠ b) (n3 : Bn ≠ m) (hz : W.heap.size ≤ U.heap.size) (k : KpF U.heap.size p b m A B) (h : GoodB Bn qf nf cf F A) : GoodB Bn qf nf cf F B := by
  refine ⟨(World.cell?_of_block (k.2 Bn hB n1 n2 n3)).trans h.1, ?_⟩
  rcases hf with h0 | ⟨b0, o0, e0, l0, _⟩
  · exact .inl h0
  · rcases h.2 with h0 | ⟨b1, o1, e1, l1, c1⟩
    · exact .inl h0
    · rw [e0] at e1
      simp only [Option.some.injEq, Addr.mk.injEq, and_true] at e1
      obtain ⟨rfl, rfl⟩ := e1
      exact .inr ⟨b0, o0, e0, Nat.lt_of_lt_of_le l1 k.1, fun i hi => (World.cell?_of_block (k.2 b0 (by omega) (by omega) (by omega) (by omega))).trans (c1 i hi)⟩
theorem IT.out {W : World} {u p b m x5 n k : Nat} {F : Nat → Int} {nf : Nat} {PA : Nat → Int} {L : Nat → Nat} {D : Nat → Nat → Int} {A : World} (hF : Fine F nf PA L k n) (h1 : 1 ≤ n) (h : IT W u p b m x5 n k PA D (dn (gg F n h1) nf nf) A) (g1 : W.heap.size ≤ p) (g2 : W.heap.size ≤ b) (g3 : W.heap.size ≤ m) :
    FrP W F nf PA D k n (.returned (.tuple #[.pointer (some ⟨p, 0, .none⟩), .nilIface])) A := by
  have hm := h.mem
  rw [dn_gg hF h1] at hm
  obtain ⟨r1, r2⟩ := hF.ram D hm
  exact ⟨p, b, m, _, g1, g2, g3, rfl, r1, r2, h.be⟩
end Go.Proofs.Ytnghcadhilfgnaa
