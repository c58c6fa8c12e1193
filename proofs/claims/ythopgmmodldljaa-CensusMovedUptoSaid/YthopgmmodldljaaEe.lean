import Derived.Test.YthopgmmodldljaaEd
namespace Go.Proofs.Ythopgmmodldljaa
open Go Go.RowKit
set_option linter.unusedVariables false
set_option linter.unusedSimpArgs false
theorem lit64 (n : Int) (h : 0 ≤ n ∧ n ≤ 100) : (Lit.int .i64 n).wf = true := by
  simp [Lit.wf, IntKind.min, IntKind.max, IntKind.signed, IntKind.bits]
  omega
def enI (pf : Th → Option Int) (x : In) (a : Int) : Th → Option Int := if x.ty = 1 then ent (ent pf (3, x.ino) a) (4, x.ino) a else ent pf (3, x.ino) a
set_option maxRecDepth 100000 in
theorem enterI_any {w : World} {s m1 m2 : Nat} {cs : List Value} {pf nf : Th → Option Int} (h : Sv w s m1 m2 cs pf nf) (x : In) (bv : Value) (hx : i64R x.ino) (a : Int) : Calls Try.prog 57 #[.pointer (some ⟨s, 0, .none⟩), .int .i64 a, .agg (x.l bv).toArray] w (EnP w s m1 m2 cs (enI pf x a) nf) := by
  have HS : Hid (Sv w s m1 m2 cs pf nf ∧ ThR (3, x.ino) ∧ ThR (4, x.ino)) := ⟨h, ⟨lit64 3 (by omega), hx⟩, ⟨lit64 4 (by omega), hx⟩⟩
  clear h hx
  go_enter Try.func57, Try.ntmps57
  go_wp2_with (first
    | (refine wpList_is (.box 66 (.tmp 2)) rfl ?_; refine wpList_boxG 66 (x.l bv) 5 (.tmp 2) _ rfl rfl rfl rfl ?_; intro W1 hW1 hB1 hs1; have k0 : W1.cell? ⟨w.heap.size, 0, .none⟩ = some (.int .i64 x.ino) := cell_heap (o := 0) hW1)
    | (refine wpList_is (.build 125 #[(0, .const (.int .i64 3)), (1, .tmp 9)]) rfl ?_; refine wpList_buildTo rfl 125 _ rfl (some 10) rfl (thL (3, x.ino)).toArray (by kernel_rfl) ?_)
    | fail)
  go_at_call 58
  refine (enter_any (HS.out.1.keep hB1) HS.out.2.1 a).mono ?_
  rintro e W2 ⟨u, rfl, hv, hF⟩
  have hsb : w.heap.size ≠ m1 ∧ w.heap.size ≠ m2 := by have := HS.out.1.lt; omega
  have hblk : W2.heap[w.heap.size]? = some (.cells (x.l bv).toArray 66) := (hF.block _ (by omega) hsb.1 hsb.2).trans hW1
  have k0 : W2.cell? ⟨w.heap.size, 0, .none⟩ = some (.int .i64 x.ino) := cell_heap (o := 0) hblk
  have k1 : W2.cell? ⟨w.heap.size, 1, .none⟩ = some (.int .i64 x.ty) := cell_heap (o := 1) hblk
  have HV : Hid (Sv W2 s m1 m2 cs (ent pf (3, x.ino) a) nf ∧ Fr m1 m2 w W2) := ⟨hv, (Fr.of_below hB1).trans hF⟩
  clear hv hF hblk hW1 hB1 hs1 hsb
  by_cases hty : x.ty = 1
  · have HE : Hid (enI pf x a = ent (ent pf (3, x.ino) a) (4, x.ino) a) := by show _ = _; unfold enI; rw [if_pos hty]
    have e1 : (x.ty == 1) = true := by simp [hty]
    clear hty
    go_wp2_with (first
      | (refine wpList_is (.build 125 #[(0, .const (.int .i64 4)), (1, .tmp 18)]) rfl ?_; refine wpList_buildTo rfl 125 _ rfl (some 19) rfl (thL (4, x.ino)).toArray (by kernel_rfl) ?_)
      | fail)
    go_at_call 58
    refine (enter_any HV.out.1 HS.out.2.2 a).mono ?_
    rintro e W3 ⟨u3, rfl, hv3, hF3⟩
    have HV3 : Hid (Sv W3 s m1 m2 cs (ent (ent pf (3, x.ino) a) (4, x.ino) a) nf ∧ Fr m1 m2 w W3) := ⟨hv3, HV.out.2.trans hF3⟩
    clear hv3 hF3
    go_wp2
    refine bodyPost_end (results_none rfl _ _ _) rfl ?_
    exact ⟨_, rfl, by rw [HE.out]; exact HV3.out⟩
  · have HE : Hid (enI pf x a = ent pf (3, x.ino) a) := by show _ = _; unfold enI; rw [if_neg hty]
    have e1 : (x.ty == 1) = false := by simp [hty]
    clear hty
    go_wp2
    refine bodyPost_end (results_none rfl _ _ _) rfl ?_
    exact ⟨_, rfl, by rw [HE.out]; exact HV.out⟩
end Go.Proofs.Ythopgmmodldljaa
