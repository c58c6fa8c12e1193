import Derived.Test.YtejongfipfefpaaHoldM
import Derived.OwnWalk
import Derived.Maps.AppendAt
namespace Go.Proofs.Ytejongfipfefpaa
open Go.RowKit
set_option linter.unusedVariables false
set_option linter.unusedSimpArgs false
theorem Thr.suffix {B : Nat → Int} : ∀ {pre rest : List Nat}, Thr B (pre ++ rest) → Thr B rest
  | [], _, h => h
  | _ :: pre, _, h => Thr.suffix (pre := pre) h.2
theorem info22' : ∃ i, Try.prog.info? 26 = some i ∧ i.zero = some (.int .u64 0) ∧ i.size = 1 ∧ i.bytes = 8 := by
  have h : (Try.prog.info? 26).map (fun i => (i.zero, i.size, i.bytes)) = some (some (.int .u64 0), 1, 8) := by kernel_rfl
  cases hq : Try.prog.info? 26 with
  | none => rw [hq] at h; cases h
  | some i =>
    rw [hq] at h
    simp only [Option.map_some, Option.some.injEq, Prod.mk.injEq] at h
    exact ⟨i, rfl, h⟩
/-- A frame's address. -/
def adv (i : Nat) : Value := .int .u64 (2147483648 + (i : Int) * 4096)
/-- The list of the free frames, new. -/
def ListP (w : World) (L : List Nat) (e : Ending) (w' : World) : Prop := ∃ q c, e = .returned (.slice q L.length c) ∧ w'.ownsRow w.heap.size 26 1 (.slice q L.length c) L.length (L.map adv) ∧ Below w.heap.size w w'
def slen : Value → Nat
  | .slice _ n _ => n
  | _ => 0
def FRel (w0 : World) (L : List Nat) (v3 v4 : Value) (wr : World) : Prop := ∃ pre rest q c, L = pre ++ rest ∧ v3 = .slice q pre.length c ∧ v4 = .int .u64 (adr rest) ∧ wr.ownsRow w0.heap.size 26 1 (.slice q pre.length c) pre.length (pre.map adv) ∧ Below w0.heap.size w0 wr
section
variable {w : World} {p b m N : Nat} {B : Nat → Int} {L : List Nat}
set_option maxHeartbeats 2000000 in
set_option maxRecDepth 100000 in
theorem freeNow_any (h : Ram w p b m N B L) : Calls Try.prog 46 #[.pointer (some ⟨p, 0, .none⟩)] w fun e w' => ListP w L e w' := by
  have n2 := h.mem.n2
  have hl := length_le N L h.mem.n1 h.nd h.lt
  have c := made_some p b _ _ w h.mem.c0
  have c1 := count_any h.mem (by omega)
  rw [show ((N : Int) - ((N - L.length : Nat) : Int)) = (L.length : Int) by omega] at c1
  have HR : Hid (Ram w p b m N B L) := h
  clear h
  obtain ⟨j0, hj0, hjz, hj1, hj2⟩ := info22'
  go_enter Try.func46, Try.ntmps46
  go_wp2_with (first | (go_at_call 44; refine c.mono ?_; rintro e w0 ⟨rfl, rfl⟩) | (go_at_call 49; refine c1.mono ?_; rintro e w1 ⟨rfl, k, hw1⟩; have HB1 : Hid (Below w0.heap.size w0 w1) := hw1 ▸ below_drewN (Below.refl _ _) k; clear hw1) | (at_make; refine wpList_make_own _ rfl _ _ 83 rfl w0.heap.size 26 j0 (.int .u64 0) 1 Try.underlying83 hj0 hjz hj1 .i64 .i64 (L.length : Int) L.length rfl rfl rfl (by rw [hj2]; omega) (by unfold maxLen; omega) HB1.out.size ?_; intro w2 hown2 hgrow2; have k1 := (HR.out.mem.below (HB1.out.trans ⟨hgrow2.os, hgrow2.tape, hgrow2.output, hgrow2.size, fun b hb => hgrow2.block b (Nat.lt_of_lt_of_le hb HB1.out.size) (by simp)⟩)).c1) | fail)
  have hB2 : Below w0.heap.size w0 w2 := HB1.out.trans ⟨hgrow2.os, hgrow2.tape, hgrow2.output, hgrow2.size, fun b hb => hgrow2.block b (Nat.lt_of_lt_of_le hb HB1.out.size) (by simp)⟩
  have HF : Hid (FRel w0 L (.slice (some ⟨w1.heap.size, 0, .none⟩) 0 L.length) (.int .u64 (adr L)) w2) := ⟨[], L, _, _, rfl, rfl, rfl, hown2, hB2⟩
  clear hown2 hgrow2 hB2 k1 c c1
  go_loopw [3, 4] (fun v3 v4 wr => FRel w0 L v3 v4 wr) (fun v3 _ _ => L.length - slen v3)
  case atStart => exact HF.out
  case round =>
    obtain ⟨pre, rest, q, c, hL, rfl, rfl, hown, hB⟩ := hrel
    have HL : Hid (L = pre ++ rest) := hL
    have HO : Hid (wr.ownsRow w0.heap.size 26 1 (.slice q pre.length c) pre.length (pre.map adv)) := hown
    have HB : Hid (Below w0.heap.size w0 wr) := hB
    have hpl : pre.length ≤ L.length := by rw [hL]; simp
    cases rest with
    | nil =>
      rw [show adr ([] : List Nat) = 0 from rfl]
      clear hown hB
      have HP : Hid (ListP w0 L (.returned (.slice q pre.length c)) wr) := by
        have e : L = pre := by rw [HL.out]; simp
        exact ⟨q, c, by rw [e], by rw [e]; exact HO.out, HB.out⟩
      clear hL
      go_wp2
      go_ret
      exact HP.out
    | cons i r =>
      have hiL : i ∈ L := by rw [hL]; simp
      have hi := HR.out.lt i hiL
      have hth := (show Thr B (pre ++ i :: r) from hL ▸ HR.out.thr).suffix
      have har := adr_bd n2 (L := r) (fun j hj => HR.out.lt j (by rw [hL]; simp [hj]))
      rw [show adr (i :: r) = 2147483648 + (i : Int) * 4096 from rfl]
      have hne : ((2147483648 + (i : Int) * 4096) == 0) = false := by simp; omega
      have HOA : Hid (∀ o, (wr.alloc o).ownsRow w0.heap.size 26 1 (.slice q pre.length c) pre.length (pre.map adv)) := fun o => hown.alloc o
      have hlen1 : pre.length + 1 ≤ L.length := by rw [hL]; simp
      have cb : ∀ w5, Below w0.heap.size w0 w5 → Calls Try.prog 50 #[.pointer (some ⟨p, 0, .none⟩), .int .u64 (2147483648 + (i : Int) * 4096)] w5 fun e w' => e = .returned (.int .u64 (adr r)) ∧ w' = w5 := fun w5 h5 => by
        have := behind_any (HR.out.mem.below h5) i hi.2
        rwa [num_jb B (i * 4096) (adr r) har (fun k hk => (hth.1 k (by omega)).trans (by simp [jb, hk]))] at this
      clear hL hown hB hth har
      go_wp2_with (first | (at_builtin; refine wpList_append_own _ rfl _ _ 83 rfl w0.heap.size 26 j0 (.int .u64 0) 1 8 Try.underlying83 hj0 hjz hj1 hj2 rfl (by decide) _ _ (pre.map adv) rfl (HOA.out _) ⟨wr.heap.size, 0, .none⟩ 1 1 [adv i] rfl rfl (cell_one_new _ _ _) (by simp [Value.oneCell', adv]) (by unfold maxLen; omega) (by omega) (by simp only [World.size_alloc]; exact Nat.le_succ_of_le HB.out.size) ?_; intro v' w5 hown5 hgrow _) | fail)
      have hBA : Below w0.heap.size w0 (wr.alloc (.cells #[adv i] 26)) := HB.out.alloc HB.out.size _
      have hB5 : Below w0.heap.size w0 w5 := hBA.grown hgrow hBA.size (fun k hk => ((HO.out.lt k hk)).1)
      obtain ⟨g1, cap1, rfl⟩ : ∃ g cap, v' = .slice (some ⟨g, 0, .none⟩) (pre.length + 1) cap := by
        rcases hown5.2 with ⟨_, h0⟩ | ⟨g, cap, _, rfl, _⟩
        · omega
        · exact ⟨g, cap, rfl⟩
      have HF5 : Hid (FRel w0 L (.slice (some ⟨g1, 0, .none⟩) (pre.length + 1) cap1) (.int .u64 (adr r)) w5) := ⟨pre ++ [i], r, some ⟨g1, 0, .none⟩, cap1, by rw [HL.out]; simp, by simp, rfl, by rw [List.length_append, List.map_append]; exact hown5, hB5⟩
      have c5 := cb w5 hB5
      clear hown5 hgrow hBA hB5 cb
      generalize adr r = Z at *
      refine c5.mono ?_
      rintro e w6 ⟨rfl, rfl⟩
      clear c5
      go_wp2
      exact ⟨HF5.out, by simp only [slen]; omega⟩
end
end Go.Proofs.Ytejongfipfefpaa
