import Derived.Test.YtnghcadhilfgnaaHoldM
import Derived.OwnWalk
import Derived.Maps.AppendAt
import Derived.LoopN
import Derived.RangeFuncNested
import Derived.RangeFuncBound
import Derived.RangeFuncCalls
import Derived.RangeFuncLeaves
import Derived.RangeFuncFrom
import Derived.Shelf.Abstract
import Derived.Shelf.RegionOpen
import Derived.OwnWalkIn
import Derived.TacticsInMore
import Derived.LoopNIn
import Derived.LoopIn
namespace Go.Proofs.Ytnghcadhilfgnaa
open Go.RowKit
set_option linter.unusedVariables false
set_option linter.unusedSimpArgs false
theorem Thr.suffix {B : Nat → Int} : ∀ {pre rest : List Nat}, Thr B (pre ++ rest) → Thr B rest
  | [], _, h => h
  | _ :: pre, _, h => Thr.suffix (pre := pre) h.2
theorem info22' : ∃ i, Try.prog.info? 26 = some i ∧ i.zero = some (.int .u64 0) ∧ i.size = 1 ∧ i.bytes = 8 := by
  have h : (Try.prog.info? 26).map (fun i => (i.zero, i.size, i.bytes)) = some (some (.int .u64 0), 1, 8) := by kernel_rfl
  cases hq : Try.prog.info? 26 with
  | none => rw [hq] at h; cases h
  | some i =>
    rw [hq] at h
    simp only [Option.map_some, Option.some.injEq, Prod.mk.injEq] at h
    exact ⟨i, rfl, h⟩
/-- A frame's address. -/
def adv (i : Nat) : Value := .int .u64 (2147483648 + (i : Int) * 4096)
/-- The list of the free frames, new. -/
def ListP (w : World) (L : List Nat) (e : Ending) (w' : World) : Prop := ∃ q c, e = .returned (.slice q L.length c) ∧ w'.ownsRow w.heap.size 26 1 (.slice q L.length c) L.length (L.map adv) ∧ Below w.heap.size w w'
def slen : Value → Nat
  | .slice _ n _ => n
  | _ => 0
def FRel (w0 : World) (L : List Nat) (v3 v4 : Value) (wr : World) : Prop := ∃ pre rest q c, L = pre ++ rest ∧ v3 = .slice q pre.length c ∧ v4 = .int .u64 (adr rest) ∧ wr.ownsRow w0.heap.size 26 1 (.slice q pre.length c) pre.length (pre.map adv) ∧ Below w0.heap.size w0 wr
section
variable {w : World} {p b m N : Nat} {B : Nat → Int} {L : List Nat}
set_option maxHeartbeats 2000000 in
set_option maxRecDepth 100000 in
theorem freeNow_any (h : Ram w p b m N B L) : Calls Try.prog 62 #[.pointer (some ⟨p, 0, .none⟩)] w fun e w' => ListP w L e w' := by
  have n2 := h.mem.n2
  have hl := length_le N L h.mem.n1 h.nd h.lt
  have c := made_some p b _ _ w h.mem.c0
  have c1 := count_any h.mem (by omega)
  rw [show ((N : Int) - ((N - L.length : Nat) : Int)) = (L.length : Int) by omega] at c1
  have HR : Hid (Ram w p b m N B L) := h
  clear h
  obtain ⟨j0, hj0, hjz, hj1, hj2⟩ := info22'
  go_enter Try.func62, Try.ntmps62
  go_wp2_with (first | (go_at_call 29; refine c.mono ?_; rintro e w0 ⟨rfl, rfl⟩) | (go_at_call 6; refine c1.mono ?_; rintro e w1 ⟨rfl, k, hw1⟩; have HB1 : Hid (Below w0.heap.size w0 w1) := hw1 ▸ below_drewN (Below.refl _ _) k; clear hw1) | (at_make; refine wpList_make_own _ rfl _ _ 94 rfl w0.heap.size 26 j0 (.int .u64 0) 1 Try.underlying94 hj0 hjz hj1 .i64 .i64 (L.length : Int) L.length rfl rfl rfl (by rw [hj2]; omega) (by unfold maxLen; omega) HB1.out.size ?_; intro w2 hown2 hgrow2; have k1 := (HR.out.mem.below (HB1.out.trans ⟨hgrow2.os, hgrow2.tape, hgrow2.output, hgrow2.size, fun b hb => hgrow2.block b (Nat.lt_of_lt_of_le hb HB1.out.size) (by simp)⟩)).c1) | fail)
  have hB2 : Below w0.heap.size w0 w2 := HB1.out.trans ⟨hgrow2.os, hgrow2.tape, hgrow2.output, hgrow2.size, fun b hb => hgrow2.block b (Nat.lt_of_lt_of_le hb HB1.out.size) (by simp)⟩
  have HF : Hid (FRel w0 L (.slice (some ⟨w1.heap.size, 0, .none⟩) 0 L.length) (.int .u64 (adr L)) w2) := ⟨[], L, _, _, rfl, rfl, rfl, hown2, hB2⟩
  clear hown2 hgrow2 hB2 k1 c c1
  go_loopw [3, 4] (fun v3 v4 wr => FRel w0 L v3 v4 wr) (fun v3 _ _ => L.length - slen v3)
  case atStart => exact HF.out
  case round =>
    obtain ⟨pre, rest, q, c, hL, rfl, rfl, hown, hB⟩ := hrel
    have HL : Hid (L = pre ++ rest) := hL
    have HO : Hid (wr.ownsRow w0.heap.size 26 1 (.slice q pre.length c) pre.length (pre.map adv)) := hown
    have HB : Hid (Below w0.heap.size w0 wr) := hB
    have hpl : pre.length ≤ L.length := by rw [hL]; simp
    cases rest with
    | nil =>
      rw [show adr ([] : List Nat) = 0 from rfl]
      clear hown hB
      have HP : Hid (ListP w0 L (.returned (.slice q pre.length c)) wr) := by
        have e : L = pre := by rw [HL.out]; simp
        exact ⟨q, c, by rw [e], by rw [e]; exact HO.out, HB.out⟩
      clear hL
      go_wp2
      go_ret
      exact HP.out
    | cons i r =>
      have hiL : i ∈ L := by rw [hL]; simp
      have hi := HR.out.lt i hiL
      have hth := (show Thr B (pre ++ i :: r) from hL ▸ HR.out.thr).suffix
      have har := adr_bd n2 (L := r) (fun j hj => HR.out.lt j (by rw [hL]; simp [hj]))
      rw [show adr (i :: r) = 2147483648 + (i : Int) * 4096 from rfl]
      have hne : ((2147483648 + (i : Int) * 4096) == 0) = false := by simp; omega
      have HOA : Hid (∀ o, (wr.alloc o).ownsRow w0.heap.size 26 1 (.slice q pre.length c) pre.length (pre.map adv)) := fun o => hown.alloc o
      have hlen1 : pre.length + 1 ≤ L.length := by rw [hL]; simp
      have cb : ∀ w5, Below w0.heap.size w0 w5 → Calls Try.prog 45 #[.pointer (some ⟨p, 0, .none⟩), .int .u64 (2147483648 + (i : Int) * 4096)] w5 fun e w' => e = .returned (.int .u64 (adr r)) ∧ w' = w5 := fun w5 h5 => by
        have := behind_any (HR.out.mem.below h5) i hi.2
        rwa [num_jb B (i * 4096) (adr r) har (fun k hk => (hth.1 k (by omega)).trans (by simp [jb, hk]))] at this
      clear hL hown hB hth har
      go_wp2_with (first | (at_builtin; refine wpList_append_own _ rfl _ _ 94 rfl w0.heap.size 26 j0 (.int .u64 0) 1 8 Try.underlying94 hj0 hjz hj1 hj2 rfl (by decide) _ _ (pre.map adv) rfl (HOA.out _) ⟨wr.heap.size, 0, .none⟩ 1 1 [adv i] rfl rfl (cell_one_new _ _ _) (by simp [Value.oneCell', adv]) (by unfold maxLen; omega) (by omega) (by simp only [World.size_alloc]; exact Nat.le_succ_of_le HB.out.size) ?_; intro v' w5 hown5 hgrow _) | fail)
      have hBA : Below w0.heap.size w0 (wr.alloc (.cells #[adv i] 26)) := HB.out.alloc HB.out.size _
      have hB5 : Below w0.heap.size w0 w5 := hBA.grown hgrow hBA.size (fun k hk => ((HO.out.lt k hk)).1)
      obtain ⟨g1, cap1, rfl⟩ : ∃ g cap, v' = .slice (some ⟨g, 0, .none⟩) (pre.length + 1) cap := by
        rcases hown5.2 with ⟨_, h0⟩ | ⟨g, cap, _, rfl, _⟩
        · omega
        · exact ⟨g, cap, rfl⟩
      have HF5 : Hid (FRel w0 L (.slice (some ⟨g1, 0, .none⟩) (pre.length + 1) cap1) (.int .u64 (adr r)) w5) := ⟨pre ++ [i], r, some ⟨g1, 0, .none⟩, cap1, by rw [HL.out]; simp, by simp, rfl, by rw [List.length_append, List.map_append]; exact hown5, hB5⟩
      have c5 := cb w5 hB5
      clear hown5 hgrow hBA hB5 cb
      generalize adr r = Z at *
      refine c5.mono ?_
      rintro e w6 ⟨rfl, rfl⟩
      clear c5
      go_wp2
      exact ⟨HF5.out, by simp only [slen]; omega⟩
end
end Go.Proofs.Ytnghcadhilfgnaa
namespace Go.Proofs.Ytnghcadhilfgnaa
open Go.RowKit
set_option linter.unusedVariables false
set_option linter.unusedSimpArgs false
/-- A memory that nobody made. -/
def Unm (w : World) (v : Value) : Prop := v = .pointer .none ∨ ∃ p, v = .pointer (some ⟨p, 0, .none⟩) ∧ p < w.heap.size ∧ w.cell? ⟨p, 0, .none⟩ = some (.slice .none 0 0)
theorem Unm.below {w w' : World} {v : Value} (h : Unm w v) (b : Below w.heap.size w w') : Unm w' v := by
  rcases h with h | ⟨p, h, hp, hc⟩
  · exact .inl h
  · exact .inr ⟨p, h, Nat.lt_of_lt_of_le hp b.size, (b.cell hp).trans hc⟩
section
variable {w : World} {v : Value}
theorem no_made (h : Unm w v) : Calls Try.prog 29 #[v] w fun e w' => e = .returned (.bool false) ∧ w' = w := by
  rcases h with rfl | ⟨p, rfl, _, hc⟩
  · exact made_nil w
  · exact made_plain p w hc
theorem no_frames (h : Unm w v) : Calls Try.prog 24 #[v] w fun e w' => e = .returned (.int .i64 0) ∧ w' = w := by
  have c := no_made h
  clear h
  go_enter Try.func24, Try.ntmps24
  go_wp2_with (go_at_call 29; refine c.mono ?_; rintro e w0 ⟨rfl, rfl⟩)
  go_ret
  exact ⟨rfl, rfl⟩
theorem no_count (h : Unm w v) : Calls Try.prog 6 #[v] w fun e w' => e = .returned (.int .i64 0) ∧ w' = w := by
  have c := no_made h
  clear h
  go_enter Try.func6, Try.ntmps6
  go_wp2_with (go_at_call 29; refine c.mono ?_; rintro e w0 ⟨rfl, rfl⟩)
  go_ret
  exact ⟨rfl, rfl⟩
theorem no_alloc (h : Unm w v) : Calls Try.prog 15 #[v] w fun e w' => e = .returned (.tuple #[.int .u64 0, .bool false]) ∧ w' = w := by
  have c := no_made h
  clear h
  go_enter Try.func15, Try.ntmps15
  go_wp2_with (go_at_call 29; refine c.mono ?_; rintro e w0 ⟨rfl, rfl⟩)
  go_ret2
  exact ⟨rfl, rfl⟩
theorem no_free (h : Unm w v) (pa : Int) : Calls Try.prog 17 #[v, .int .u64 pa] w fun e w' => e = .returned (.int .i64 3) ∧ w' = w := by
  have c := no_made h
  clear h
  go_enter Try.func17, Try.ntmps17
  go_wp2_with (go_at_call 29; refine c.mono ?_; rintro e w0 ⟨rfl, rfl⟩)
  go_ret
  exact ⟨rfl, rfl⟩
theorem isFr_none (pa : Int) : isFr pa 0 = false := by
  simp only [isFr, decide_eq_false_iff_not]
  omega
theorem no_isFree (h : Unm w v) (pa : Int) (hp : 0 ≤ pa ∧ pa < 18446744073709551616) : Calls Try.prog 25 #[v, .int .u64 pa] w fun e w' => e = .returned (.bool false) ∧ w' = w := by
  have c := no_frames h
  have c1 := isFrame_any pa 0 hp (by omega) (by omega) w
  rw [isFr_none] at c1
  clear h
  go_enter Try.func25, Try.ntmps25
  go_wp2_with (first | (go_at_call 24; refine c.mono ?_; rintro e w0 ⟨rfl, rfl⟩) | (go_at_call 46; refine c1.mono ?_; rintro e w0 ⟨rfl, rfl⟩))
  go_ret
  exact ⟨rfl, rfl⟩
theorem no_raw (h : Unm w v) (pa : Int) (hp : 0 ≤ pa ∧ pa < 18446744073709551616) : Calls Try.prog 53 #[v, .int .u64 pa] w fun e w' => e = .returned (.tuple #[.slice .none 0 0, .bool false]) ∧ w' = w := by
  have c := no_frames h
  have c1 := isFrame_any pa 0 hp (by omega) (by omega) w
  rw [isFr_none] at c1
  clear h
  go_enter Try.func53, Try.ntmps53
  go_wp2_with (first | (go_at_call 24; refine c.mono ?_; rintro e w0 ⟨rfl, rfl⟩) | (go_at_call 46; refine c1.mono ?_; rintro e w0 ⟨rfl, rfl⟩))
  go_ret2
  exact ⟨rfl, rfl⟩
theorem no_reach (h : Unm w v) (pa n : Int) : Calls Try.prog 67 #[v, .int .u64 pa, .int .i64 n] w fun e w' => e = .returned (.tuple #[.slice .none 0 0, .bool false]) ∧ w' = w := by
  have c := no_made h
  clear h
  go_enter Try.func67, Try.ntmps67
  go_wp2_with (go_at_call 29; refine c.mono ?_; rintro e w0 ⟨rfl, rfl⟩)
  go_ret2
  exact ⟨rfl, rfl⟩
theorem no_access (h : Unm w v) (pa n x : Int) (b : Bool) : Calls Try.prog 48 #[v, .int .u64 pa, .int .i64 n, .bool b, .int .u64 x] w fun e w' => e = .returned (.tuple #[.int .u64 0, .bool false]) ∧ w' = w := by
  have c := no_reach h pa n
  clear h
  go_enter Try.func48, Try.ntmps48
  go_wp2_with (go_at_call 67; refine c.mono ?_; rintro e w0 ⟨rfl, rfl⟩)
  go_ret2
  exact ⟨rfl, rfl⟩
theorem no_load (h : Unm w v) (pa n : Int) : Calls Try.prog 19 #[v, .int .u64 pa, .int .i64 n] w fun e w' => e = .returned (.tuple #[.int .u64 0, .bool false]) ∧ w' = w := by
  have c := no_access h pa n 0 false
  clear h
  go_enter Try.func19, Try.ntmps19
  go_wp2_with (go_at_call 48; refine c.mono ?_; rintro e w0 ⟨rfl, rfl⟩)
  go_ret2
  exact ⟨rfl, rfl⟩
theorem no_store (h : Unm w v) (pa n x : Int) : Calls Try.prog 21 #[v, .int .u64 pa, .int .i64 n, .int .u64 x] w fun e w' => e = .returned (.bool false) ∧ w' = w := by
  have c := no_access h pa n x true
  clear h
  go_enter Try.func21, Try.ntmps21
  go_wp2_with (go_at_call 48; refine c.mono ?_; rintro e w0 ⟨rfl, rfl⟩)
  go_ret
  exact ⟨rfl, rfl⟩
theorem no_read (h : Unm w v) (pa n : Int) : Calls Try.prog 51 #[v, .int .u64 pa, .int .i64 n] w fun e w' => e = .returned (.tuple #[.slice .none 0 0, .bool false]) ∧ w' = w := by
  have c := no_reach h pa n
  clear h
  go_enter Try.func51, Try.ntmps51
  go_wp2_with (go_at_call 67; refine c.mono ?_; rintro e w0 ⟨rfl, rfl⟩)
  go_ret2
  exact ⟨rfl, rfl⟩
theorem no_write (h : Unm w v) (pa : Int) (sa : Option Addr) (n c : Nat) : Calls Try.prog 56 #[v, .int .u64 pa, .slice sa n c] w fun e w' => e = .returned (.bool false) ∧ w' = w := by
  have c1 := no_reach h pa n
  clear h
  have hcp : ∀ ty, (Builtin.copy_ #[27, 27] ty #[.slice .none 0 0, .slice sa n c]).run Try.prog w = .ok (.int .i64 0) w := fun ty => run_copy_none w 27 27 ty 5 .none sa 0 0 n c Try.underlying27 info5 (by simp)
  go_enter Try.func56, Try.ntmps56
  go_wp2_with (go_at_call 67; refine c1.mono ?_; rintro e w0 ⟨rfl, rfl⟩)
  go_ret
  exact ⟨rfl, rfl⟩
theorem freeList_any (q : Option Addr) : Calls Try.prog 31 #[.pointer q] w fun e w' => e = .returned (.func (.func 61) #[] #[.pointer (some ⟨w.heap.size, 0, .none⟩)]) ∧ w' = w.alloc (.cells #[.pointer q] 30) := by
  go_enter Try.func31, Try.ntmps31
  go_wp2
  go_ret
  exact ⟨rfl, rfl⟩
theorem no_freeNow (h : Unm w v) : Calls Try.prog 62 #[v] w fun e w' => e = .returned (.slice .none 0 0) ∧ w' = w := by
  have c := no_made h
  clear h
  go_enter Try.func62, Try.ntmps62
  go_wp2_with (go_at_call 29; refine c.mono ?_; rintro e w0 ⟨rfl, rfl⟩)
  go_ret
  exact ⟨rfl, rfl⟩
theorem each_none (f : Value) (w : World) : Calls Try.prog 63 #[.slice .none 0 0, f] w fun e w' => (∃ v, e = .returned v) ∧ w' = w := by
  go_enter Try.func63, Try.ntmps63
  go_wp2
  refine wp_loop_rounds 1 ?_
  rw [rounds_succ]
  go_wp2
  go_end0
  exact ⟨⟨_, rfl⟩, rfl⟩
theorem no_iter (h : Unm w v) (f : Value) (Bn : Nat) (hB : w.cell? ⟨Bn, 0, .none⟩ = some v) : Calls Try.prog 61 #[f, .pointer (some ⟨Bn, 0, .none⟩)] w fun e w' => (∃ v, e = .returned v) ∧ w' = w := by
  have c := no_freeNow h
  have c1 := each_none f w
  clear h
  go_enter Try.func61, Try.ntmps61
  go_wp2_with (first | (go_at_call 62; refine c.mono ?_; rintro e w0 ⟨rfl, rfl⟩) | (go_at_call 63; refine c1.mono ?_; rintro e w1 ⟨⟨u, rfl⟩, rfl⟩))
  go_end0
  exact ⟨⟨_, rfl⟩, rfl⟩
end
end Go.Proofs.Ytnghcadhilfgnaa
namespace Go.Proofs.Ytnghcadhilfgnaa
open Go.RowKit Go.Shelf
attribute [local go_sem] Oper.semAt_some
set_option linter.unusedVariables false
set_option linter.unusedSimpArgs false
theorem no_seq {w : World} {v : Value} (h : Unm w v) (n Bn : Nat) (n₀ : Nat) (hBl : Bn < w.heap.size) (hB : w.cell? ⟨Bn, 0, .none⟩ = some v) : SeqStopsK (α := Empty) Fence.wide n Try.prog 61 #[.pointer (some ⟨Bn, 0, .none⟩)] (fun x => x.elim) (Below n₀) (fun xs => xs = []) (fun _ => False) 0 w := by
  intro l J Jx W hW hJ hJx hY h0
  refine (callsIn_wide.2 (no_iter (h.below hW) (.func (.yield l) #[] #[]) Bn ((hW.cell hBl).trans hB))).mono ?_
  rintro e W' ⟨he, rfl⟩
  exact ⟨he, .inl ⟨[], rfl, h0⟩⟩
/-- An image's three cells. -/
def C3 (W : World) (a : Nat) (x y z : Value) : Prop := W.cell? ⟨a, 0, .none⟩ = some x ∧ W.cell? ⟨a, 1, .none⟩ = some y ∧ W.cell? ⟨a, 2, .none⟩ = some z ∧ W.frozen? ⟨a, 0, .none⟩ = false ∧ W.frozen? ⟨a, 1, .none⟩ = false ∧ W.frozen? ⟨a, 2, .none⟩ = false
theorem C3.kept {A B : World} {row : Option Nat} {a : Nat} {x y z : Value} (h : C3 A a x y z) (hg : A.grownBy B row) (hr : ∀ r, row = some r → ∃ o : Obj, A.heap[r]? = some o ∧ o.isCells = false) : C3 B a x y z :=
  ⟨cell_kept h.1 hg hr, cell_kept h.2.1 hg hr, cell_kept h.2.2.1 hg hr, (frozen_kept h.1 hg hr).trans h.2.2.2.1, (frozen_kept h.2.1 hg hr).trans h.2.2.2.2.1, (frozen_kept h.2.2.1 hg hr).trans h.2.2.2.2.2⟩
theorem C3.new (w : World) (x y z : Value) (t : TypeId) : C3 (w.alloc (.cells #[x, y, z] t)) w.heap.size x y z :=
  ⟨by simp, by simp, by simp, World.frozen?_alloc_new _ _ _ _, World.frozen?_alloc_new _ _ _ _, World.frozen?_alloc_new _ _ _ _⟩
theorem C3.alloc {w : World} {a : Nat} {x y z : Value} (h : C3 w a x y z) (o : Obj) : C3 (w.alloc o) a x y z := h.kept (World.grownBy_alloc w o none) (fun r e => by cases e)
set_option maxHeartbeats 1000000 in
theorem no_image {w : World} {q : Option Addr} (h : Unm w (.pointer q)) : Calls Try.prog 11 #[.pointer q] w fun e w' => e = .returned (.agg #[.int .i64 0, .slice .none 0 0, .slice .none 0 0]) ∧ Below w.heap.size w w' := by
  have c1 := no_frames (h.below (below_past w (.cells #[.int .i64 0, .slice .none 0 0, .slice .none 0 0] 40)))
  refine (callsIn_wide (n := 3)).1 ?_
  refine callsIn_of_wp_marks Try.func11 rfl trivial ?_ rfl
  simp only [Try.ntmps11, List.size_toArray, List.length_cons, List.length_nil, Nat.reduceAdd, Nat.reduceSub, Array.replicate_succ, Array.replicate_zero, List.push_toArray, List.append_toArray, List.nil_append, List.cons_append]
  gi_wp2_with (first | (refine ⟨trivial, ?_⟩; gi_at_call 24; refine (callsIn_wide.2 c1).mono ?_; rintro e w0 ⟨rfl, rfl⟩) | (refine ⟨trivial, ?_⟩; gi_at_call 31; refine (callsIn_wide.2 (freeList_any q)).mono ?_; rintro e w1 ⟨rfl, rfl⟩))
  have k0 : C3 ((w.alloc (.cells #[.int .i64 0, .slice .none 0 0, .slice .none 0 0] 40)).alloc (.cells #[.int .i64 0, .slice .none 0 0, .slice .none 0 0] 40)) (w.heap.size + 1) (.int .i64 0) (.slice .none 0 0) (.slice .none 0 0) := by
    have := C3.new (w.alloc (.cells #[.int .i64 0, .slice .none 0 0, .slice .none 0 0] 40)) (.int .i64 0) (.slice .none 0 0) (.slice .none 0 0) 40
    rwa [World.size_alloc] at this
  have k1 := ((C3.new w (.int .i64 0) (.slice .none 0 0) (.slice .none 0 0) 40).alloc (.cells #[.int .i64 0, .slice .none 0 0, .slice .none 0 0] 40)).alloc (.cells #[.pointer q] 30)
  have k2 := k0.alloc (.cells #[.pointer q] 30)
  have hB0 : Below w.heap.size w (((w.alloc (.cells #[.int .i64 0, .slice .none 0 0, .slice .none 0 0] 40)).alloc (.cells #[.int .i64 0, .slice .none 0 0, .slice .none 0 0] 40)).alloc (.cells #[.pointer q] 30)) := ((below_past _ _).alloc (by simp) _).alloc (by simp only [World.size_alloc]; omega) _
  have hU := h.below hB0
  have hc : (((w.alloc (.cells #[.int .i64 0, .slice .none 0 0, .slice .none 0 0] 40)).alloc (.cells #[.int .i64 0, .slice .none 0 0, .slice .none 0 0] 40)).alloc (.cells #[.pointer q] 30)).cell? ⟨w.heap.size + 1 + 1, 0, .none⟩ = some (.pointer q) := by
    rw [World.cell?_alloc_at _ _ _ _ (by simp only [World.size_alloc])]
    rfl
  have hz : (((w.alloc (.cells #[.int .i64 0, .slice .none 0 0, .slice .none 0 0] 40)).alloc (.cells #[.int .i64 0, .slice .none 0 0, .slice .none 0 0] 40)).alloc (.cells #[.pointer q] 30)).heap.size = w.heap.size + 1 + 1 + 1 := by simp only [World.size_alloc]
  clear k0
  generalize (((w.alloc (.cells #[.int .i64 0, .slice .none 0 0, .slice .none 0 0] 40)).alloc (.cells #[.int .i64 0, .slice .none 0 0, .slice .none 0 0] 40)).alloc (.cells #[.pointer q] 30)) = W0 at *
  refine wpIn_rangeFunc_ownF (α := Empty) rfl (by omega) (gf := 61) (lb := #[.pointer (some ⟨w.heap.size + 1 + 1, 0, .none⟩)]) rfl trivial (enters_of Try.func61 (by kernel_rfl) rfl)
    (no_seq hU 2 (w.heap.size + 1 + 1) w.heap.size (by omega) hc) belowK_t (belowK_b (by omega)) (Below.refl _ _) (fun x => x.elim)
    (fun _ W => (C3 W (w.heap.size + 1) (.int .i64 0) (.slice .none 0 0) (.slice .none 0 0) ∧ C3 W w.heap.size (.int .i64 0) (.slice .none 0 0) (.slice .none 0 0)) ∧ Below w.heap.size w W) (fun _ _ _ => False)
    (OwnFrom.and (Own.from (fun s A B row hs hg hr => ⟨hs.1.kept hg hr, hs.2.kept hg hr⟩) _) (ownFrom_below (Nat.le_refl _) (by omega))) (fun _ _ _ _ _ hs _ _ => hs) ⟨⟨k2, k1⟩, hB0⟩ (fun x => x.elim) ?assign ?body ?done ?stop
  case assign => intro l x; exact x.elim
  case body => intro l pre x; exact x.elim
  case done =>
    rintro D xs W hD hxs ⟨⟨⟨a0, a1, a2, _, _, _⟩, ⟨b0, b1, b2, d0, d1, d2⟩⟩, hB⟩ hK
    gi_wp2
    refine wpIn_loop_rounds 1 ?_
    rw [roundsIn_succ]
    gi_wp2
    have hD2 : w.heap.size + 1 + 1 + 1 ≤ D := by omega
    have hK9 : (((W.setCell ⟨w.heap.size, 0, .none⟩ (.int .i64 0)).setCell ⟨w.heap.size, 1, .none⟩ (.slice .none 0 0)).setCell ⟨w.heap.size, 2, .none⟩ (.slice .none 0 0)).heap[D]? = some (.deferred (some [])) := by
      rw [Below.heap_setCell _ _ _ _ (by show D ≠ w.heap.size; omega), Below.heap_setCell _ _ _ _ (by show D ≠ w.heap.size; omega), Below.heap_setCell _ _ _ _ (by show D ≠ w.heap.size; omega)]
      exact hK
    have e0 : (((W.setCell ⟨w.heap.size, 0, .none⟩ (.int .i64 0)).setCell ⟨w.heap.size, 1, .none⟩ (.slice .none 0 0)).setCell ⟨w.heap.size, 2, .none⟩ (.slice .none 0 0)).cell? ⟨w.heap.size, 0, .none⟩ = some (.int .i64 0) := by
      rw [World.cell?_setCell_other _ _ _ _ (by simp), World.cell?_setCell_other _ _ _ _ (by simp)]
      exact World.cell?_setCell_same' _ _ _ (by rw [b0]; rfl)
    have e1 : (((W.setCell ⟨w.heap.size, 0, .none⟩ (.int .i64 0)).setCell ⟨w.heap.size, 1, .none⟩ (.slice .none 0 0)).setCell ⟨w.heap.size, 2, .none⟩ (.slice .none 0 0)).cell? ⟨w.heap.size, 1, .none⟩ = some (.slice .none 0 0) := by
      rw [World.cell?_setCell_other _ _ _ _ (by simp)]
      exact World.cell?_setCell_same' _ _ _ (by rw [World.cell?_setCell_other _ _ _ _ (by simp), b1]; rfl)
    have e2 : (((W.setCell ⟨w.heap.size, 0, .none⟩ (.int .i64 0)).setCell ⟨w.heap.size, 1, .none⟩ (.slice .none 0 0)).setCell ⟨w.heap.size, 2, .none⟩ (.slice .none 0 0)).cell? ⟨w.heap.size, 2, .none⟩ = some (.slice .none 0 0) :=
      World.cell?_setCell_same' _ _ _ (by rw [World.cell?_setCell_other _ _ _ _ (by simp), World.cell?_setCell_other _ _ _ _ (by simp), b2]; rfl)
    have hB9 : Below w.heap.size w (((W.setCell ⟨w.heap.size, 0, .none⟩ (.int .i64 0)).setCell ⟨w.heap.size, 1, .none⟩ (.slice .none 0 0)).setCell ⟨w.heap.size, 2, .none⟩ (.slice .none 0 0)) := ((hB.setCell (p := ⟨w.heap.size, 0, .none⟩) (Nat.le_refl _) _).setCell (p := ⟨w.heap.size, 1, .none⟩) (Nat.le_refl _) _).setCell (p := ⟨w.heap.size, 2, .none⟩) (Nat.le_refl _) _
    generalize (((W.setCell ⟨w.heap.size, 0, .none⟩ (.int .i64 0)).setCell ⟨w.heap.size, 1, .none⟩ (.slice .none 0 0)).setCell ⟨w.heap.size, 2, .none⟩ (.slice .none 0 0)) = W9 at *
    refine ⟨by simp, .inl ⟨_, _, rfl, run_takeDeferred hK9, ?_⟩⟩
    have f0 := cell_kept e0 (grownBy_putObj' W9 D (.deferred none)) (fun r e => by cases e; exact ⟨_, hK9, rfl⟩)
    have f1 := cell_kept e1 (grownBy_putObj' W9 D (.deferred none)) (fun r e => by cases e; exact ⟨_, hK9, rfl⟩)
    have f2 := cell_kept e2 (grownBy_putObj' W9 D (.deferred none)) (fun r e => by cases e; exact ⟨_, hK9, rfl⟩)
    have hBz := hB9.trans (belowK_b (w := w) (Nat.le_refl _) W9 D _ (.deferred none) (by omega) hK9 rfl rfl)
    have hlt : w.heap.size < (W9.putObj D (.deferred none)).heap.size := lt_of_cell f0
    generalize W9.putObj D (.deferred none) = WZ at *
    exact ⟨.agg #[.int .i64 0, .slice .none 0 0, .slice .none 0 0], by simp [results, Try.results11, go_sem, f0, f1, f2, hlt], rfl, hBz⟩
  case stop =>
    rintro D c pre W _ h
    exact h.elim
end Go.Proofs.Ytnghcadhilfgnaa
namespace Go.Proofs.Ytnghcadhilfgnaa
open Go.RowKit Go.Shelf
attribute [local go_sem] Oper.semAt_some
set_option linter.unusedVariables false
set_option linter.unusedSimpArgs false
theorem room_of_none {F : Fence} (hd : F.depth = none) (k : Nat) : F.room k := fun d h => by rw [hd] at h; cases h
theorem round_any {F : Fence} (hd : F.depth = none) {m m' : Nat} {P : Program} {l : Nat} {f : FuncId} {tmps : Array Value} {assign body : Code} {w : World} {R : Ending → World → Prop}
    (h : RoundIn F m P l f tmps assign body w R) : RoundIn F m' P l f tmps assign body w R := ⟨h.1, fun c cs _ => h.2 c cs (room_of_none hd _)⟩
theorem yield_any {F : Fence} (hd : F.depth = none) {m : Nat} (m' : Nat) {P : Program} {l : Nat} {args : Array Value} {W : World} {R : Ending → World → Prop} (h : YieldAt F m P l args W R) : YieldAt F m' P l args W R := by
  obtain ⟨fn, tmps, assign, body, hy, hR⟩ := h
  exact ⟨fn, tmps, assign, body, hy, round_any hd hR⟩
/-- The list that an iterator ranges over: its own row, of which the caller keeps off. -/
def RowL (Good : Nat → World → Prop) (W : World) (q : Option Addr) (xs : List Nat) : Prop := xs.length = 0 ∨ ∃ g cur, q = some ⟨g, 0, .none⟩ ∧ Good g W ∧ W.heap[g]? = some (.cells cur 26 (0, 0)) ∧ ∀ i (h : i < xs.length), cur[i]? = some (adv xs[i])
theorem RowL.cell {Good : Nat → World → Prop} {W : World} {q : Option Addr} {xs : List Nat} (h : RowL Good W q xs) {i : Nat} (hi : i < xs.length) : ∃ g, q = some ⟨g, 0, .none⟩ ∧ W.cell? ⟨g, i, .none⟩ = some (adv xs[i]) := by
  rcases h with h | ⟨g, cur, rfl, _, hh, hc⟩
  · omega
  · exact ⟨g, rfl, by simp only [World.cell?, hh]; exact hc i hi⟩
theorem RowL.keep {Good : Nat → World → Prop} {Kp : World → World → Prop} (hG : ∀ W W' g cur, Kp W W' → Good g W → W.heap[g]? = some (.cells cur 26 (0, 0)) → W'.heap[g]? = some (.cells cur 26 (0, 0)) ∧ Good g W') {W W' : World} {q : Option Addr} {xs : List Nat} (h : RowL Good W q xs) (k : Kp W W') : RowL Good W' q xs := by
  rcases h with h | ⟨g, cur, rfl, hg, hh, hc⟩
  · exact .inl h
  · obtain ⟨h1, h2⟩ := hG W W' g cur k hg hh
    exact .inr ⟨g, cur, rfl, h2, h1, hc⟩
set_option maxRecDepth 100000 in
set_option maxHeartbeats 1000000 in
theorem each_in (n l : Nat) (xs : List Nat) (J Jx : List Nat → World → Prop) (Kp : World → World → Prop) (Good : Nat → World → Prop)
    (hG : ∀ W W' g cur, Kp W W' → Good g W → W.heap[g]? = some (.cells cur 26 (0, 0)) → W'.heap[g]? = some (.cells cur 26 (0, 0)) ∧ Good g W')
    (hY : ∀ m pre x W, J pre W → pre.length < xs.length → YieldAt Fence.wide m Try.prog l #[adv x] W fun e W' => (e = .returned (.bool true) ∧ J (pre ++ [x]) W' ∧ Kp W W') ∨ (e = .returned (.bool false) ∧ Jx (pre ++ [x]) W'))
    (q : Option Addr) (c : Nat) (W : World) (hl : xs.length ≤ 4096) (hr : RowL Good W q xs) (h0 : J [] W) :
    CallsIn Fence.wide n Try.prog 63 #[.slice q xs.length c, .func (.yield l) #[] #[]] W fun e W' => (∃ v, e = .returned v) ∧ ((∃ ys, ys = xs ∧ J ys W') ∨ (∃ pre, pre <+: xs ∧ Jx pre W')) := by
  refine callsIn_of_wp Try.func63 rfl trivial ?_ rfl
  simp only [Try.ntmps63, List.size_toArray, List.length_cons, List.length_nil, Nat.reduceAdd, Nat.reduceSub, Array.replicate_succ, Array.replicate_zero, List.push_toArray, List.append_toArray, List.nil_append, List.cons_append]
  gi_wp2
  gi_loopw [8] (fun k wr => ∃ i : Nat, i ≤ xs.length ∧ k = .int .i64 i ∧ J (xs.take i) wr ∧ RowL Good wr q xs) (fun k _ => xs.length - (intOf k).toNat)
  case atStart => exact ⟨0, by omega, rfl, by simpa using h0, hr⟩
  case round =>
    obtain ⟨i, hi, rfl, hJ, hrow⟩ := hrel
    by_cases hin : i < xs.length
    · have i1 : (i : Int) < xs.length := by omega
      obtain ⟨g, rfl, hc⟩ := hrow.cell hin
      obtain ⟨fn, tmps, assign, body, hy, hR⟩ := hY (n - 1) (xs.take i) xs[i] wr hJ (by rw [List.length_take]; omega)
      have HR : Hid (RowL Good wr (some ⟨g, 0, .none⟩) xs) := hrow
      have htk : xs.take (i + 1) = xs.take i ++ [xs[i]] := by rw [List.take_add_one, List.getElem?_eq_getElem hin]; rfl
      have HT : Hid (xs.take (i + 1) = xs.take i ++ [xs[i]]) := htk
      have HP : Hid (xs.take i ++ [xs[i]] <+: xs) := htk ▸ List.take_prefix _ _
      clear hrow htk hY
      simp only [adv] at hy hc
      gi_wp2
      refine ⟨fun h => (by cases h), hR.mono ?_⟩
      clear hR hy
      rintro e W3 (⟨rfl, hJ3, hk3⟩ | ⟨rfl, hJx3⟩)
      · have HJ : Hid (J (xs.take (i + 1)) W3 ∧ RowL Good W3 (some ⟨g, 0, .none⟩) xs) := ⟨HT.out ▸ hJ3, HR.out.keep hG hk3⟩
        clear hJ3 hk3 hJ
        gi_wp2
        exact ⟨⟨i + 1, by omega, by simp, HJ.out.1, HJ.out.2⟩, by simp [intOf]; omega⟩
      · have HJ : Hid (Jx (xs.take i ++ [xs[i]]) W3) := hJx3
        clear hJx3 hJ
        gi_wp2
        refine bodyPost_ret (results_none rfl _ _ _) rfl ?_
        exact ⟨⟨_, rfl⟩, .inr ⟨_, HP.out, HJ.out⟩⟩
    · have i1 : ¬ ((i : Int) < xs.length) := by omega
      gi_wp2
      go_end0
      have : i = xs.length := by omega
      subst this
      exact ⟨⟨_, rfl⟩, .inl (by simpa using hJ)⟩
theorem rowL_of {Good : Nat → World → Prop} {W : World} {X c : Nat} {q : Option Addr} {L : List Nat} (h : W.ownsRow X 26 1 (.slice q L.length c) L.length (L.map adv)) (hg : ∀ g, X ≤ g → Good g W) : RowL Good W q L := by
  rcases h.2 with ⟨_, h0⟩ | ⟨g, cap, cur, hv, hX, hh, hn, hc, hs, ht⟩
  · exact .inl h0
  · injection hv with e1 e2 e3
    subst e1
    refine .inr ⟨g, cur, rfl, hg g hX, hh, fun i hi => ?_⟩
    rw [← Array.getElem?_toList, ← List.getElem?_take_of_lt (show i < L.length * 1 by omega), ht, List.getElem?_map, List.getElem?_eq_getElem hi]
    rfl
set_option maxRecDepth 100000 in
set_option maxHeartbeats 1000000 in
/-- FreeList's iterator: all free frames, as they were when the ranging began; or a part, where the body leaves. -/
theorem free_seq {w : World} {p b m N : Nat} {B : Nat → Int} {L : List Nat} (h : Ram w p b m N B L) (n Bn : Nat) (hBl : Bn < w.heap.size) (hBc : w.cell? ⟨Bn, 0, .none⟩ = some (.pointer (some ⟨p, 0, .none⟩))) (Kp : World → World → Prop) (Good : Nat → World → Prop)
    (hG : ∀ W W' g cur, Kp W W' → Good g W → W.heap[g]? = some (.cells cur 26 (0, 0)) → W'.heap[g]? = some (.cells cur 26 (0, 0)) ∧ Good g W')
    (hN : ∀ W W2 g, Below w.heap.size w W → Below W.heap.size W W2 → W.heap.size ≤ g → Good g W2) :
    SeqStopsK (α := Nat) Fence.wide n Try.prog 61 #[.pointer (some ⟨Bn, 0, .none⟩)] (fun x => #[adv x]) Kp (fun xs => xs = L) (fun pre => pre <+: L) L.length w := by
  intro l J Jx W hW hJ hJx hY h0
  have hRW : Ram W p b m N B L := ⟨h.mem.below hW, h.nd, h.lt, h.thr⟩
  have hl := length_le N L h.mem.n1 h.nd h.lt
  have n2 := h.mem.n2
  have c1 := freeNow_any hRW
  have k0 := (hW.cell (p := ⟨Bn, 0, .none⟩) hBl).trans hBc
  have key : Hid (∀ q c W2, W2.ownsRow W.heap.size 26 1 (.slice q L.length c) L.length (L.map adv) → Below W.heap.size W W2 → CallsIn Fence.wide (n - 1) Try.prog 63 #[.slice q L.length c, .func (.yield l) #[] #[]] W2 fun e W' => (∃ v, e = .returned v) ∧ ((∃ ys, ys = L ∧ J ys W') ∨ (∃ pre, pre <+: L ∧ Jx pre W'))) := fun q c W2 hrow hb2 =>
    each_in (n - 1) l L J Jx Kp Good hG (fun m pre x W1 hj hlt => yield_any rfl m (hY pre x W1 hj hlt)) q c W2 (by omega) (rowL_of hrow (fun g hg => hN W W2 g hW hb2 hg)) (hJ [] W W2 none h0 ⟨hb2.os, hb2.tape, hb2.output, hb2.size, fun k hk _ => hb2.block k hk⟩ (fun r e => by cases e))
  clear hRW hJ hJx hY h0 h hG hN
  refine callsIn_of_wp Try.func61 rfl trivial ?_ rfl
  simp only [Try.ntmps61, List.size_toArray, List.length_cons, List.length_nil, Nat.reduceAdd, Nat.reduceSub, Array.replicate_succ, Array.replicate_zero, List.push_toArray, List.append_toArray, List.nil_append, List.cons_append]
  gi_wp2_with (first | (refine ⟨trivial, fun h => (by cases h), ?_⟩; gi_at_call 62; refine (callsIn_wide.2 c1).mono ?_; rintro e W2 ⟨q, c, rfl, hrow, hb2⟩; have c2 := key.out q c W2 hrow hb2; clear hrow hb2) | (refine ⟨trivial, fun h => (by cases h), ?_⟩; gi_at_call 63; refine c2.mono ?_; rintro e W3 ⟨⟨u, rfl⟩, hJJ⟩))
  go_end0
  exact ⟨⟨_, rfl⟩, by simpa using hJJ⟩
end Go.Proofs.Ytnghcadhilfgnaa
