import Derived.Test.YthdlefbaegbldaaGreatDoorTa
import Derived.Great.Ranges
import Derived.RangeFuncNested
import Derived.RangeFuncBound
import Derived.RangeFuncCalls
import Derived.RangeFuncLeaves
import Derived.RangeFuncFrom
import Derived.RangeFuncWrites
import Derived.Shelf.Abstract
import Derived.WalkKit
import Derived.Below
import Derived.ControlIn
import Derived.LoopTactic
import Derived.OwnWalk
import Derived.LoopN
import Derived.Shelf.RegionOpen
import Derived.OwnWalkIn
import Derived.TacticsInMore
import Derived.LoopNIn
import Derived.LoopIn
namespace Go.Proofs.YthdlefbaegbldaaGreatDoor
open Go.RowKit
set_option linter.unusedVariables false
set_option linter.unusedSimpArgs false
set_option maxRecDepth 100000
/-- An inode's cells. -/
def ic (typ major minor links refs size : Int) (bl : Nat → Int) : List Value := [.int .i64 typ, .int .i16 major, .int .i16 minor, .int .i64 links, .int .i64 refs, .int .i64 size] ++ (List.range 64).map fun i => .int .u64 (bl i)
theorem ic_len (typ major minor links refs size : Int) (bl : Nat → Int) : (ic typ major minor links refs size bl).length = 70 := by simp [ic]
def z70 : List Value := ic 0 0 0 0 0 0 (fun _ => 0)
noncomputable def zt (v : Value) : Array Value := (Tryz.prog.built 94 [(0, v)]).getD #[]
theorem built_tree (a : Addr) : Tryz.prog.built 94 [(0, .pointer (some a))] = some ((Value.pointer (some a)) :: (List.replicate 200 z70).flatten).toArray := by kernel_rfl
theorem flat_get {α : Type} (l : List α) (m : Nat) (hl : l.length = m) : ∀ (n k j : Nat), k < n → j < m → (List.replicate n l).flatten[m * k + j]? = l[j]?
  | 0, _, _, h, _ => by omega
  | n + 1, 0, j, _, hj => by
    rw [List.replicate_succ, List.flatten_cons, Nat.mul_zero, Nat.zero_add, List.getElem?_append_left (by omega)]
  | n + 1, k + 1, j, h, hj => by
    rw [List.replicate_succ, List.flatten_cons, List.getElem?_append_right (by rw [hl, Nat.mul_succ]; omega), hl, show m * (k + 1) + j - m = m * k + j by rw [Nat.mul_succ]; omega]
    exact flat_get l m hl n k j (by omega) hj
end Go.Proofs.YthdlefbaegbldaaGreatDoor
namespace Go.Proofs.YthdlefbaegbldaaGreatDoor
open Go Go.RowKit
set_option linter.unusedVariables false
set_option linter.unusedSimpArgs false
set_option maxRecDepth 100000
/-- An iterator that gives just the elements of L, whose body never leaves: the body is asked for each next element alone. -/
def SeqL {α : Type} (F : Fence) (n : Nat) (P : Program) (g : Nat) (lb : Array Value) (encs : α → Array Value) (Kp : World → World → Prop) (L : List α) (w : World) : Prop :=
  ∀ (l : Nat) (J : List α → World → Prop) (W : World), Below w.heap.size w W → AbidesFrom W.heap.size J →
    (∀ pre x W1, J pre W1 → pre ++ [x] <+: L → YieldAt F (n - 1) P l (encs x) W1 fun e W' => e = .returned (.bool true) ∧ J (pre ++ [x]) W' ∧ Kp W1 W') → J [] W →
    CallsIn F n P g (#[.func (.yield l) #[] #[]] ++ lb) W fun e W' => (∃ v, e = .returned v) ∧ J L W'
theorem range_list {F : Fence} {n : Nat} {P : Program} {α : Type} {g : Operand} {ps : Array Tmp} {assign body : Code} {Q : Exit → Act → World → Prop} {a : Act} {w : World}
    (hro : F.round = none) (h1 : 1 ≤ n) {gf : Nat} {lb : Array Value} (hg : a.eval g = .func (.func gf) #[] lb) (hFg : F.fn gf) (eg : ∀ args w, (callFunc gf args).run P w = .ok (.enter gf args) w)
    {encs : α → Array Value} {Kp : World → World → Prop} {L : List α} {w0 : World} (hb0 : Below w0.heap.size w0 w) (hseq : SeqL F (n - 1) P gf lb encs Kp L w0)
    (hKt : ∀ {A B C : World}, Kp A B → Kp B C → Kp A C) (hKb : ∀ (W : World) (l : Nat) (o' : Obj), w.heap.size ≤ l → Kp W (W.putObj l o')) (hps : ∀ x, (encs x).size = ps.size)
    (I : List α → World → Prop) (hI : OwnFrom w.heap.size I) (h0 : I [] w) (a₁ : α → Act)
    (hassign : ∀ (l : Nat) (x : α) (W : World) (K : Act → World → Prop), K (a₁ x) W →
      assign.wpIn (F.inRound l) (n - 1 - 1) P (Exit.then K (fun _ _ _ => False)) { tmps := (ps.zip (encs x)).foldl (fun t (p, v) => t.setIfInBounds p v) a.tmps, defers := [] } W)
    (hbody : ∀ (l : Nat) (pre : List α) (x : α) (W : World), I pre W → pre ++ [x] <+: L → body.wpIn (F.inRound l) (n - 1 - 1) P (fun e _ W' => e = .normal ∧ KeepsFrom w.heap.size W W' ∧ Kp W W' ∧ I (pre ++ [x]) W') (a₁ x) W)
    (hdone : ∀ (D : Nat) (W : World), w.heap.size ≤ D → I L W → W.heap[D]? = some (.deferred (some [])) → Q .normal { a with defers := { target := .collected D, args := #[] } :: a.defers } W) :
    (Code.rangeFunc g ps assign body).wpIn F n P Q a w := by
  refine wpIn_rangeFunc fun fn hfn => ?_
  rw [hro]
  -- the two blocks that the statement lays: the rounds' deferred calls, and the loop's own record
  let rec' : LoopState → Option Code → Loop := fun st pe => { state := st, pending := pe, fn := fn, tmps := a.tmps, params := ps, assign := assign, body := body, defers := w.heap.size }
  obtain ⟨V, hV⟩ : ∃ V, (w.alloc (.deferred (some []))).alloc (.loop (rec' .ready none)) = V := ⟨_, rfl⟩
  have hVs : V.heap.size = w.heap.size + 2 := by rw [← hV]; simp
  have vL : V.heap[w.heap.size + 1]? = some (.loop (rec' .ready none)) := by
    rw [← hV]; simpa using World.alloc_heap_new (w.alloc (.deferred (some []))) (.loop (rec' .ready none))
  have vD : V.heap[w.heap.size]? = some (.deferred (some [])) := by
    rw [← hV]; exact (Below.heap_alloc _ _ _ (by simp)).trans (World.alloc_heap_new w _)
  have vI : I [] V := by rw [← hV]; exact hI.alloc _ (hI.alloc _ h0)
  have vB : Below w.heap.size w V := by rw [← hV]; exact ((Below.refl _ w).alloc (Nat.le_refl _) _).alloc (by simp) _
  refine ⟨w.heap.size + 1, [{ target := .collected w.heap.size, args := #[] }], V, { target := .fn (.func gf) lb, args := #[.func (.yield (w.heap.size + 1)) #[] #[]] }, V, gf, #[.func (.yield (w.heap.size + 1)) #[] #[]] ++ lb, V, ?_, ?_, ?_, ?_, fun _ => h1, ?_⟩
  · rw [← hV]; exact run_enterLoop_outer _ _ _ _ _
  · simp only [resolve, hg]; simp [go_sem]
  · intro f' hf'; simp [Target.leads] at hf'; subst hf'; exact hFg
  · simp [invoke, go_sem, eg]
  have abide : AbidesFrom V.heap.size (fun pre W => I pre W ∧ W.heap[w.heap.size + 1]? = some (.loop (rec' .ready none)) ∧ W.heap[w.heap.size]? = some (.deferred (some []))) := by
    intro s A B row hs hgr hr
    refine ⟨hI s A B row hs.1 hgr (fun r e => ?_), (grownBy_keeps hgr (fun r e => (hr r e).2) hs.2.1 rfl).trans hs.2.1, (grownBy_keeps hgr (fun r e => (hr r e).2) hs.2.2 rfl).trans hs.2.2⟩
    obtain ⟨hB, o, ho, hw⟩ := hr r e
    exact ⟨by omega, o, ho, Obj.not_cells_of_walk hw⟩
  refine (hseq (w.heap.size + 1) _ V (hb0.trans (vB.mono hb0.size)) abide ?_ ⟨vI, vL, vD⟩).mono ?_
  · rintro pre x W ⟨hi, hl, hk⟩ hlen
    have hlt : w.heap.size + 1 < W.heap.size := (Array.getElem?_eq_some_iff.1 hl).1
    refine ⟨fn, _, assign, body, run_yield (P := P) (args := encs x) hl (hps x), roundIn_of_wpIn hfn (hassign _ x W _ ⟨_, run_beginRound hl rfl, ?_⟩)⟩
    refine wpIn_mono (hbody _ pre x _ (hI.putObj _ hi (by omega) hl rfl) hlen) ?_
    rintro e a3 W3 ⟨rfl, hk3, hkp, hi3⟩
    have hl3 := hk3.same (w.heap.size + 1) _ (by omega) (World.putObj_heap_same hlt) rfl
    have hd3 := hk3.same w.heap.size _ (Nat.le_refl _) ((World.putObj_heap_other (by omega)).trans hk) rfl
    exact ⟨_, _, run_endRound (P := P) none hl3, rfl, ⟨hI.putObj _ hi3 (by omega) hl3 rfl, World.putObj_heap_same (Array.getElem?_eq_some_iff.1 hl3).1, (World.putObj_heap_other (by omega)).trans hd3⟩, hKt (hKt (hKb _ _ _ (by omega)) hkp) (hKb _ _ _ (by omega))⟩
  · rintro e W2 ⟨⟨v, rfl⟩, hi, hl, hk⟩
    exact ⟨none, _, run_endLoop (P := P) hl (by simp [rec']), hdone _ _ (Nat.le_refl _) (hI.putObj _ hi (by omega) hl rfl) ((World.putObj_heap_other (by omega)).trans hk)⟩
end Go.Proofs.YthdlefbaegbldaaGreatDoor
namespace Go.Proofs.YthdlefbaegbldaaGreatDoor
open Go.RowKit Go.Shelf
attribute [local go_sem] Oper.semAt_some
set_option linter.unusedVariables false
set_option linter.unusedSimpArgs false
set_option maxRecDepth 100000
/-- Where bytes from a on, up to e, lie in RAM: block by block, an offset and how many. -/
def pcs (fr : Nat → Nat) (e : Nat) : Nat → Nat → List (Nat × Nat)
  | 0, _ => []
  | f + 1, a => if a < e then (fr (a / 4096) * 4096 + a % 4096, min (e - a) (4096 - a % 4096)) :: pcs fr e f (a + min (e - a) (4096 - a % 4096)) else []
theorem pcs_done (fr : Nat → Nat) (e f a : Nat) (h : e ≤ a) : pcs fr e f a = [] := by
  cases f with
  | zero => rfl
  | succ f => rw [pcs, if_neg (by omega)]
def pcE (x : Nat × Nat) : Array Value := #[.int .u64 (2147483648 + (x.1 : Int)), .int .i64 x.2]
/-- What the iterator reads: three boxes, and the inode's blocks. -/
structure Pcb (w : World) (zo zl zi tb o off len : Nat) (fr : Nat → Nat) : Prop where
  co : w.cell? ⟨zo, 0, .none⟩ = some (.int .i64 off)
  cl : w.cell? ⟨zl, 0, .none⟩ = some (.int .i64 len)
  ci : w.cell? ⟨zi, 0, .none⟩ = some (.pointer (some ⟨tb, o, .none⟩))
  cb : ∀ k, k * 4096 < off + len → w.cell? ⟨tb, o + 6 + k, .none⟩ = some (.int .u64 (2147483648 + (fr k : Int) * 4096))
def KpP (zo zl zi tb : Nat) (W W' : World) : Prop := W'.heap[zo]? = W.heap[zo]? ∧ W'.heap[zl]? = W.heap[zl]? ∧ W'.heap[zi]? = W.heap[zi]? ∧ W'.heap[tb]? = W.heap[tb]?
theorem KpP.trans {zo zl zi tb : Nat} {A B C : World} (h : KpP zo zl zi tb A B) (k : KpP zo zl zi tb B C) : KpP zo zl zi tb A C := ⟨k.1.trans h.1, k.2.1.trans h.2.1, k.2.2.1.trans h.2.2.1, k.2.2.2.trans h.2.2.2⟩
theorem Pcb.keep {w w' : World} {zo zl zi tb o off len : Nat} {fr : Nat → Nat} (h : Pcb w zo zl zi tb o off len fr) (k : KpP zo zl zi tb w w') : Pcb w' zo zl zi tb o off len fr :=
  ⟨(World.cell?_of_block k.1).trans h.co, (World.cell?_of_block k.2.1).trans h.cl, (World.cell?_of_block k.2.2.1).trans h.ci, fun j hj => (World.cell?_of_block k.2.2.2).trans (h.cb j hj)⟩
theorem room_of_none {F : Fence} (hd : F.depth = none) (k : Nat) : F.room k := fun d h => by rw [hd] at h; cases h
theorem round_any {F : Fence} (hd : F.depth = none) {m m' : Nat} {P : Program} {l : Nat} {f : FuncId} {tmps : Array Value} {assign body : Code} {w : World} {R : Ending → World → Prop}
    (h : RoundIn F m P l f tmps assign body w R) : RoundIn F m' P l f tmps assign body w R := ⟨h.1, fun c cs _ => h.2 c cs (room_of_none hd _)⟩
theorem yield_anyT {F : Fence} (hd : F.depth = none) {m : Nat} (m' : Nat) {P : Program} {l : Nat} {args : Array Value} {W : World} {R : Ending → World → Prop} (h : YieldAt F m P l args W R) : YieldAt F m' P l args W R := by
  obtain ⟨fn, tmps, assign, body, hy, hR⟩ := h
  exact ⟨fn, tmps, assign, body, hy, round_any hd hR⟩
set_option maxHeartbeats 2000000 in
theorem pieces_seq {w : World} {zo zl zi tb o off len : Nat} {fr : Nat → Nat} (h : Pcb w zo zl zi tb o off len fr) (n : Nat) (hb : off + len ≤ 262144) (hf : ∀ k, fr k < 4096) (hll : zo < w.heap.size ∧ zl < w.heap.size ∧ zi < w.heap.size ∧ tb < w.heap.size) :
    SeqL Fence.wide n Tryz.prog 109 #[.pointer (some ⟨zo, 0, .none⟩), .pointer (some ⟨zl, 0, .none⟩), .pointer (some ⟨zi, 0, .none⟩)] pcE (KpP zo zl zi tb) (pcs fr (off + len) len off) w := by
  intro l J W hW hJ hY h0
  have hP : Pcb W zo zl zi tb o off len fr := h.keep ⟨hW.block _ hll.1, hW.block _ hll.2.1, hW.block _ hll.2.2.1, hW.block _ hll.2.2.2⟩
  have HY : Hid (∀ pre x W1, J pre W1 → pre ++ [x] <+: pcs fr (off + len) len off → YieldAt Fence.wide (n - 1) Tryz.prog l (pcE x) W1 fun e W' => e = .returned (.bool true) ∧ J (pre ++ [x]) W' ∧ KpP zo zl zi tb W1 W') := hY
  have HP : Hid (Pcb W zo zl zi tb o off len fr) := hP
  have co := hP.co
  clear h hW hJ hY hP hll
  refine callsIn_of_wp Tryz.func109 rfl trivial ?_ rfl
  simp only [Tryz.ntmps109, List.size_toArray, List.length_cons, List.length_nil, Nat.reduceAdd, Nat.reduceSub, Array.replicate_succ, Array.replicate_zero, List.push_toArray, List.append_toArray, List.nil_append, List.cons_append]
  gi_wp2
  gi_loopw [5, 6, 7] (fun a _ _ wr => ∃ (t f : Nat) (pre : List (Nat × Nat)), off ≤ t ∧ t ≤ off + len ∧ off + len ≤ t + f ∧ a = .int .i64 t ∧ pre ++ pcs fr (off + len) f t = pcs fr (off + len) len off ∧ J pre wr ∧ Hid (Pcb wr zo zl zi tb o off len fr)) (fun a _ _ _ => (off + len - intOf a).toNat)
  case atStart => exact ⟨off, len, [], Nat.le_refl _, by omega, Nat.le_refl _, rfl, rfl, h0, HP⟩
  case round =>
    obtain ⟨t, f, pre, h1, h2, h3, rfl, hpre, hJ, HB⟩ := hrel
    have c1 := HB.out.co
    have c2 := HB.out.cl
    have c3 := HB.out.ci
    by_cases hlt : t < off + len
    · obtain ⟨f, rfl⟩ : ∃ f', f = f' + 1 := ⟨f - 1, by omega⟩
      have c4 := HB.out.cb (t / 4096) (by omega)
      have i1 : (t : Int) < off + len := by omega
      rw [pcs, if_pos hlt] at hpre
      obtain ⟨fn, tmps, assign, body, hy, hR⟩ := yield_anyT rfl (n - 1) (HY.out pre (fr (t / 4096) * 4096 + t % 4096, min (off + len - t) (4096 - t % 4096)) wr hJ ⟨pcs fr (off + len) f (t + min (off + len - t) (4096 - t % 4096)), by rw [List.append_assoc]; exact hpre⟩)
      have HPRE : Hid ((pre ++ [(fr (t / 4096) * 4096 + t % 4096, min (off + len - t) (4096 - t % 4096))]) ++ pcs fr (off + len) f (t + min (off + len - t) (4096 - t % 4096)) = pcs fr (off + len) len off) := by show _ = _; rw [List.append_assoc]; exact hpre
      obtain ⟨s, hs⟩ : ∃ s, s = min (off + len - t) (4096 - t % 4096) := ⟨_, rfl⟩
      have HS : Hid (s = min (off + len - t) (4096 - t % 4096)) := hs
      rw [← hs] at hy HPRE hR
      have hr0 : ((t : Int).tmod 4096) = ((t % 4096 : Nat) : Int) := by rw [Int.tmod_eq_emod_of_nonneg (by omega)]; omega
      have hd0 : ((t : Int).tdiv 4096) = ((t / 4096 : Nat) : Int) := by rw [Int.tdiv_eq_ediv_of_nonneg (by omega)]; omega
      have hm0 : min ((off : Int) + len - t) (4096 - ((t % 4096 : Nat) : Int)) = (s : Int) := by have := HS.out; omega
      have hk0 : ((t / 4096 : Nat) : Int) < 64 := by omega
      have hfk := hf (t / 4096)
      have ha : (2147483648 : Int) + ((fr (t / 4096) * 4096 + t % 4096 : Nat) : Int) = 2147483648 + (fr (t / 4096) : Int) * 4096 + ((t % 4096 : Nat) : Int) := by omega
      simp only [pcE] at hy
      rw [ha] at hy
      have hr1 : t % 4096 < 4096 := Nat.mod_lt _ (by omega)
      have HRR : Hid (t % 4096 < 4096 ∧ 1 ≤ s ∧ t + s ≤ off + len) := ⟨hr1, by have := HS.out; omega, by have := HS.out; omega⟩
      clear ha hs
      generalize t % 4096 = r at *
      generalize t / 4096 = k at *
      generalize fr k = fk at *
      gi_wp2
      refine ⟨fun h => (by cases h), hR.mono ?_⟩
      clear hR hy
      rintro e W3 ⟨rfl, hJ3, hk3⟩
      have HJ : Hid (J (pre ++ [(fk * 4096 + r, s)]) W3 ∧ Pcb W3 zo zl zi tb o off len fr) := ⟨hJ3, HB.out.keep hk3⟩
      clear hJ3 hk3 hJ c1 c2 c3 c4
      have hq := HRR.out
      gi_wp2
      exact ⟨⟨t + s, f, _, by omega, by omega, by omega, by simp, HPRE.out, HJ.out.1, HJ.out.2⟩, by simp only [intOf]; omega⟩
    · have i1 : ¬ ((t : Int) < off + len) := by omega
      gi_wp2
      go_end0
      rw [pcs_done _ _ _ _ (by omega), List.append_nil] at hpre
      exact ⟨⟨_, rfl⟩, hpre ▸ hJ⟩
end Go.Proofs.YthdlefbaegbldaaGreatDoor
namespace Go.Proofs.YthdlefbaegbldaaGreatDoor
open Go.RowKit Go.Shelf
set_option linter.unusedVariables false
set_option linter.unusedSimpArgs false
set_option maxRecDepth 100000
/-- How many blocks that many bytes begin. -/
def nbl (s : Nat) : Nat := (s + 4095) / 4096
theorem nbl_le (s : Nat) (h : s ≤ 262144) : nbl s ≤ 64 := by unfold nbl; omega
theorem blocksOf_any (s : Nat) (h : s ≤ 1000000000) (w : World) : Calls Tryz.prog 88 #[.int .i64 s] w fun e w' => e = .returned (.int .i64 (nbl s)) ∧ w' = w := by
  have e : ((s : Int) + 4096 - 1).tdiv 4096 = ((nbl s : Nat) : Int) := by rw [Int.tdiv_eq_ediv_of_nonneg (by omega)]; unfold nbl; omega
  have e' : ((s : Int) + 4095).tdiv 4096 = ((nbl s : Nat) : Int) := by rw [Int.tdiv_eq_ediv_of_nonneg (by omega)]; unfold nbl; omega
  have hn : nbl s ≤ 1000000 := by unfold nbl; omega
  have hw : wrap64 ((nbl s : Nat) : Int) = ((nbl s : Nat) : Int) := by unfold wrap64; omega
  generalize nbl s = nb at *
  go_enter Tryz.func88, Tryz.ntmps88
  go_wp2
  go_ret
  exact ⟨rfl, rfl⟩
/-- A block's place as the inode keeps it. -/
def blk (fr : List Nat) (i : Nat) : Int := match fr[i]? with
  | some f => 2147483648 + (f : Int) * 4096
  | none => 0
theorem blk_at {fr : List Nat} {i f : Nat} (h : fr[i]? = some f) : blk fr i = 2147483648 + (f : Int) * 4096 := by simp [blk, h]
theorem blk_push (fr : List Nat) (f i : Nat) : blk (fr ++ [f]) i = if i = fr.length then 2147483648 + (f : Int) * 4096 else blk fr i := by
  by_cases h : i = fr.length
  · subst h
    rw [if_pos rfl]
    exact blk_at (by simp)
  · rw [if_neg h]
    unfold blk
    rcases Nat.lt_or_ge i fr.length with h1 | h1
    · rw [List.getElem?_append_left h1]
    · rw [List.getElem?_eq_none (by simp; omega), List.getElem?_eq_none h1]
/-- An inode in its place. -/
structure Ind (w : World) (tb o : Nat) (typ major minor links refs : Int) (size : Nat) (fr : List Nat) : Prop where
  c0 : w.cell? ⟨tb, o, .none⟩ = some (.int .i64 typ)
  c1 : w.cell? ⟨tb, o + 1, .none⟩ = some (.int .i16 major)
  c2 : w.cell? ⟨tb, o + 2, .none⟩ = some (.int .i16 minor)
  c3 : w.cell? ⟨tb, o + 3, .none⟩ = some (.int .i64 links)
  c4 : w.cell? ⟨tb, o + 4, .none⟩ = some (.int .i64 refs)
  c5 : w.cell? ⟨tb, o + 5, .none⟩ = some (.int .i64 size)
  cb : ∀ i, i < 64 → w.cell? ⟨tb, o + 6 + i, .none⟩ = some (.int .u64 (blk fr i))
section
variable {w w' : World} {tb o : Nat} {typ major minor links refs : Int} {size : Nat} {fr : List Nat}
theorem Ind.keep (h : Ind w tb o typ major minor links refs size fr) (hb : w'.heap[tb]? = w.heap[tb]?) : Ind w' tb o typ major minor links refs size fr :=
  ⟨(World.cell?_of_block hb).trans h.c0, (World.cell?_of_block hb).trans h.c1, (World.cell?_of_block hb).trans h.c2, (World.cell?_of_block hb).trans h.c3, (World.cell?_of_block hb).trans h.c4, (World.cell?_of_block hb).trans h.c5, fun i hi => (World.cell?_of_block hb).trans (h.cb i hi)⟩
theorem Ind.lt (h : Ind w tb o typ major minor links refs size fr) : tb < w.heap.size := lt_cell h.c0
theorem set_oth (w : World) (tb i j : Nat) (u : Value) (h : i ≠ j) : (w.setCell ⟨tb, j, .none⟩ u).cell? ⟨tb, i, .none⟩ = w.cell? ⟨tb, i, .none⟩ := World.cell?_setCell_other _ _ _ _ (by intro hh; injection hh with _ hh; exact h hh.symm)
theorem Ind.push (h : Ind w tb o typ major minor links refs size fr) (f : Nat) (hl : fr.length < 64) : Ind (w.setCell ⟨tb, o + 6 + fr.length, .none⟩ (.int .u64 (2147483648 + (f : Int) * 4096))) tb o typ major minor links refs size (fr ++ [f]) := by
  refine ⟨?_, ?_, ?_, ?_, ?_, ?_, fun i hi => ?_⟩
  · rw [set_oth _ _ _ _ _ (by omega)]; exact h.c0
  · rw [set_oth _ _ _ _ _ (by omega)]; exact h.c1
  · rw [set_oth _ _ _ _ _ (by omega)]; exact h.c2
  · rw [set_oth _ _ _ _ _ (by omega)]; exact h.c3
  · rw [set_oth _ _ _ _ _ (by omega)]; exact h.c4
  · rw [set_oth _ _ _ _ _ (by omega)]; exact h.c5
  · rw [blk_push]
    by_cases e : i = fr.length
    · subst e
      rw [if_pos rfl]
      exact World.cell?_setCell_same _ _ _ (h.cb _ hi)
    · rw [if_neg e, set_oth _ _ _ _ _ (by omega)]
      exact h.cb i hi
theorem Ind.setSize (h : Ind w tb o typ major minor links refs size fr) (s : Nat) : Ind (w.setCell ⟨tb, o + 5, .none⟩ (.int .i64 s)) tb o typ major minor links refs s fr := by
  refine ⟨?_, ?_, ?_, ?_, ?_, ?_, fun i hi => ?_⟩
  · rw [set_oth _ _ _ _ _ (by omega)]; exact h.c0
  · rw [set_oth _ _ _ _ _ (by omega)]; exact h.c1
  · rw [set_oth _ _ _ _ _ (by omega)]; exact h.c2
  · rw [set_oth _ _ _ _ _ (by omega)]; exact h.c3
  · rw [set_oth _ _ _ _ _ (by omega)]; exact h.c4
  · exact World.cell?_setCell_same _ _ _ h.c5
  · rw [set_oth _ _ _ _ _ (by omega)]; exact h.cb i hi
end
/-- Frames that are given are zeroed, one behind the other. -/
def zals (B : Nat → Int) : List Nat → (Nat → Int)
  | [] => B
  | i :: l => zals (zer B i) l
theorem zals_push (l : List Nat) (i : Nat) : ∀ B, zals B (l ++ [i]) = zer (zals B l) i := by
  induction l with
  | nil => intro B; rfl
  | cons j l ih => intro B; exact ih _
/-- Bytes are written piece by piece. -/
def wrs (B : Nat → Int) : List (Nat × Nat) → List Int → (Nat → Int)
  | [], _ => B
  | x :: r, xs => wrs (over B x.1 (xs.take x.2)) r (xs.drop x.2)
def sumS : List (Nat × Nat) → Nat
  | [] => 0
  | x :: r => x.2 + sumS r
theorem sumS_push (l : List (Nat × Nat)) (x : Nat × Nat) : sumS (l ++ [x]) = sumS l + x.2 := by
  induction l with
  | nil => simp [sumS]
  | cons y l ih => simp only [List.cons_append, sumS, ih]; omega
theorem wrs_push (l : List (Nat × Nat)) (x : Nat × Nat) : ∀ (B : Nat → Int) (xs : List Int), wrs B (l ++ [x]) xs = over (wrs B l xs) x.1 ((xs.drop (sumS l)).take x.2) := by
  induction l with
  | nil => intro B xs; simp [wrs, sumS]
  | cons y l ih =>
    intro B xs
    simp only [List.cons_append, wrs, ih, sumS, List.drop_drop]
/-- The pieces of e - a bytes hold just so many, each is within one block of the file. -/
theorem pcs_mem (fr : Nat → Nat) (e : Nat) : ∀ (f a : Nat) (pre : List (Nat × Nat)) (x : Nat × Nat), e ≤ a + f → pre ++ [x] <+: pcs fr e f a → 1 ≤ x.2 ∧ a + sumS pre + x.2 ≤ e ∧ ∃ t, t = a + sumS pre ∧ x.1 = fr (t / 4096) * 4096 + t % 4096 ∧ t % 4096 + x.2 ≤ 4096
  | 0, a, pre, x, h, hp => by
    have := hp.length_le
    simp [pcs] at this
  | f + 1, a, pre, x, h, hp => by
    by_cases hlt : a < e
    · rw [pcs, if_pos hlt] at hp
      cases pre with
      | nil =>
        obtain ⟨r, hr⟩ := hp
        simp only [List.nil_append, List.cons_append, List.cons.injEq] at hr
        obtain ⟨rfl, _⟩ := hr
        refine ⟨by show 1 ≤ min _ _; omega, by simp only [sumS]; show a + 0 + min _ _ ≤ e; omega, a, by simp [sumS], rfl, by show a % 4096 + min _ _ ≤ 4096; omega⟩
      | cons y pre =>
        obtain ⟨r, hr⟩ := hp
        simp only [List.cons_append, List.cons.injEq] at hr
        obtain ⟨rfl, hr⟩ := hr
        obtain ⟨h1, h2, t, h3, h4, h5⟩ := pcs_mem fr e f _ pre x (by omega) ⟨r, hr⟩
        refine ⟨h1, by simp only [sumS]; omega, t, by simp only [sumS]; omega, h4, h5⟩
    · rw [pcs, if_neg hlt] at hp
      have := hp.length_le
      simp at this
theorem sumS_pcs (fr : Nat → Nat) (e : Nat) : ∀ (f a : Nat), e ≤ a + f → a ≤ e → sumS (pcs fr e f a) = e - a
  | 0, a, h, h2 => by simp [pcs, sumS]; omega
  | f + 1, a, h, h2 => by
    by_cases hlt : a < e
    · rw [pcs, if_pos hlt]
      simp only [sumS]
      rw [sumS_pcs fr e f _ (by omega) (by omega)]
      omega
    · rw [pcs, if_neg hlt]
      simp [sumS]; omega
end Go.Proofs.YthdlefbaegbldaaGreatDoor
namespace Go.Proofs.YthdlefbaegbldaaGreatDoor
open Go.RowKit Go.Shelf
set_option linter.unusedVariables false
set_option linter.unusedSimpArgs false
set_option maxRecDepth 100000
theorem pieces_any (w : World) (tb o off len : Nat) : Calls Tryz.prog 90 #[.pointer (some ⟨tb, o, .none⟩), .int .i64 off, .int .i64 len] w fun e w' => e = .returned (.func (.func 109) #[] #[.pointer (some ⟨w.heap.size + 1, 0, .none⟩), .pointer (some ⟨w.heap.size + 1 + 1, 0, .none⟩), .pointer (some ⟨w.heap.size, 0, .none⟩)]) ∧
    Below w.heap.size w w' ∧ w'.heap.size = w.heap.size + 3 ∧ w'.cell? ⟨w.heap.size + 1, 0, .none⟩ = some (.int .i64 off) ∧ w'.cell? ⟨w.heap.size + 1 + 1, 0, .none⟩ = some (.int .i64 len) ∧ w'.cell? ⟨w.heap.size, 0, .none⟩ = some (.pointer (some ⟨tb, o, .none⟩)) := by
  go_enter Tryz.func90, Tryz.ntmps90
  go_wp2
  go_ret
  refine ⟨rfl, (((Below.refl _ _).alloc (Nat.le_refl _) _).alloc (by simp) _).alloc (by simp only [World.size_alloc]; omega) _, by simp only [World.size_alloc], ?_, ?_, ?_⟩
  · rw [World.cell?_alloc_past _ _ _ (by simp), World.cell?_alloc_at _ _ _ _ (by simp)]; rfl
  · rw [World.cell?_alloc_at _ _ _ _ (by simp only [World.size_alloc])]; rfl
  · rw [World.cell?_alloc_past _ _ _ (by simp only [World.size_alloc]; omega), World.cell?_alloc_past _ _ _ (by simp), World.cell?_alloc_at _ _ _ _ rfl]; rfl
/-- What a put needs to hold all the way: the tree's memory pointer, the inode, the memory. -/
structure PuS (w : World) (tb o p bb m N : Nat) (typ major minor links refs : Int) (size : Nat) (fr : List Nat) (B : Nat → Int) (L : List Nat) : Prop where
  ct : w.cell? ⟨tb, 0, .none⟩ = some (.pointer (some ⟨p, 0, .none⟩))
  ind : Ind w tb o typ major minor links refs size fr
  ram : Ram w p bb m N B L
  fz : ∀ i, w.frozen? ⟨tb, i, .none⟩ = false
  ap : tb ≠ p ∧ tb ≠ bb ∧ tb ≠ m
  fs : ∀ f ∈ fr, 1 ≤ f ∧ f < N ∧ f ∉ L
  o1 : 1 ≤ o
/-- The blocks of the tree and of its memory. -/
def TM (tb p bb m : Nat) (i : Nat) : Prop := i = tb ∨ i = p ∨ i = bb ∨ i = m
theorem ChS.ofFra {S : Nat → Prop} {p b m : Nat} {w w' : World} (h : Fra p b m w w') (hp : S p) (hb : S b) (hm : S m) : ChS S w w' := ⟨h.os, h.tape, h.output, h.size, fun k hk hn => h.block k hk (fun e => hn (e ▸ hp)) (fun e => hn (e ▸ hb)) (fun e => hn (e ▸ hm))⟩
theorem ChS.refl (S : Nat → Prop) (w : World) : ChS S w w := ⟨rfl, rfl, rfl, Nat.le_refl _, fun _ _ _ => rfl⟩
theorem PuS.below {w w' : World} {tb o p bb m N : Nat} {typ major minor links refs : Int} {size : Nat} {fr : List Nat} {B : Nat → Int} {L : List Nat} (h : PuS w tb o p bb m N typ major minor links refs size fr B L) (hb : Below w.heap.size w w') : PuS w' tb o p bb m N typ major minor links refs size fr B L :=
  ⟨(hb.cell h.ind.lt).trans h.ct, h.ind.keep (hb.block _ h.ind.lt), ⟨h.ram.mem.below hb, h.ram.nd, h.ram.lt, h.ram.thr⟩, fun i => (hb.frozen h.ind.lt).trans (h.fz i), h.ap, h.fs, h.o1⟩
end Go.Proofs.YthdlefbaegbldaaGreatDoor
