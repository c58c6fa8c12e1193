import Derived.Test.YtblmkkhiojbcjaaGreatSLayW
import Derived.Test.YtblmkkhiojbcjaaGreatSLayX
namespace Go.Proofs.YtblmkkhiojbcjaaGreat
open Go.RowKit
set_option linter.unusedVariables false
set_option linter.unusedSimpArgs false
/-- What Map answers: why it is refused, or 0. -/
def mapE (N : Nat) (L : List Nat) (x : Pt) (root va pa perm : Int) : Int := if ¬ (va % 4096 = 0 ∧ va < 274877906944) then 80 else if ¬ (pa % 4096 = 0 ∧ pa < 72057594037927936) then 81 else if (!ho perm 18446744073709551361 && ho perm 10 && (!hs perm 4 || hs perm 2)) = false then 82 else if ndB N L root = false then 83 else if ¬ x.k = 0 then 84 else if (L.length : Int) < x.l then 85 else 0
section
variable {w : World} {p b m N : Nat} {B : Nat → Int} {L : List Nat}
set_option maxHeartbeats 2000000 in
/-- P4.6, what is refused. -/
theorem map_early (h : Ram w p b m N B L) (root va pa perm : Int) (hr : 0 ≤ root ∧ root < 18446744073709551616) (hv : 0 ≤ va ∧ va < 18446744073709551616) (hp : 0 ≤ pa ∧ pa < 18446744073709551616) (hm : mapE N L (look N L B root va) root va pa perm = 80 ∨ mapE N L (look N L B root va) root va pa perm = 81 ∨ mapE N L (look N L B root va) root va pa perm = 82) : Calls Tryz.prog 86 #[.pointer (some ⟨p, 0, .none⟩), .int .u64 root, .int .u64 va, .int .u64 pa, .int .u64 perm] w fun r w' => r = .returned (.int .i64 (mapE N L (look N L B root va) root va pa perm)) ∧ Below w.heap.size w w' := by
  have c39 := look_any h root va hr hv
  have HR : Hid (Ram w p b m N B L) := h
  have c40 := fun W => userPage_any va hv W
  have c41 := fun W => mayPerm_any perm W
  generalize look N L B root va = x at *
  obtain ⟨a0, a1, a2, l, e, k⟩ := x
  simp only [Pt.val] at c39
  generalize hM : mapE N L ⟨a0, a1, a2, l, e, k⟩ root va pa perm = M at *
  unfold mapE at hM
  by_cases hu : va % 4096 = 0 ∧ va < 274877906944
  · have hd : decide (va % 4096 = 0 ∧ va < 274877906944) = true := by simpa using hu
    simp only [hd] at c40
    rw [if_neg (fun f => f hu)] at hM
    by_cases hpa : pa % 4096 = 0 ∧ pa < 72057594037927936
    · rw [if_neg (fun f => f hpa)] at hM
      generalize (!ho perm 18446744073709551361 && ho perm 10 && (!hs perm 4 || hs perm 2)) = mp at *
      obtain ⟨hp1, hp2⟩ := hpa
      cases mp
      · rw [if_pos rfl] at hM
        subst hM
        clear h hm hu hd
        go_enter Tryz.func86, Tryz.ntmps86
        go_wp2_with (first | (go_at_call 102; refine c39.mono ?_; rintro r V0 ⟨rfl, hb0⟩; have b1 := hb0.trans ((below1 V0 (.cells #[.int .u64 a0, .int .u64 a1, .int .u64 a2, .int .i64 l, .int .u64 e, .int .i64 k] 131)).mono hb0.size); have c38 := isMade_any (HR.out.below b1); have c42 := isNode_any (HR.out.below b1) root hr; have HB1 : Hid (Below w.heap.size w (V0.alloc (.cells #[.int .u64 a0, .int .u64 a1, .int .u64 a2, .int .i64 l, .int .u64 e, .int .i64 k] 131))) := b1; clear b1 hb0) | (go_at_call 111; refine c38.mono ?_; rintro r V1 ⟨rfl, hV1⟩; subst hV1) | (go_at_call 112; refine (c40 _).mono ?_; rintro r V1 ⟨rfl, hV1⟩; subst hV1) | (go_at_call 113; refine (c41 _).mono ?_; rintro r V1 ⟨rfl, hV1⟩; subst hV1))
        go_ret
        exact ⟨rfl, HB1.out⟩
      · exfalso
        rw [if_neg (by simp)] at hM
        revert hM
        split
        · omega
        split
        · omega
        split <;> omega
    · rw [if_pos hpa] at hM
      subst hM
      have hpx : (pa % 4096 != 0) = true ∨ ((pa % 4096 != 0) = false ∧ 72057594037927936 ≤ pa) := by
        by_cases h0 : pa % 4096 = 0
        · exact .inr ⟨by simp [h0], by omega⟩
        · exact .inl (by simpa using h0)
      clear h hm hu hd hpa
      rcases hpx with hpx | ⟨hpx, hpy⟩
      · have h0 : ¬ pa % 4096 = 0 := by simpa using hpx
        go_enter Tryz.func86, Tryz.ntmps86
        go_wp2_with (first | (go_at_call 102; refine c39.mono ?_; rintro r V0 ⟨rfl, hb0⟩; have b1 := hb0.trans ((below1 V0 (.cells #[.int .u64 a0, .int .u64 a1, .int .u64 a2, .int .i64 l, .int .u64 e, .int .i64 k] 131)).mono hb0.size); have c38 := isMade_any (HR.out.below b1); have c42 := isNode_any (HR.out.below b1) root hr; have HB1 : Hid (Below w.heap.size w (V0.alloc (.cells #[.int .u64 a0, .int .u64 a1, .int .u64 a2, .int .i64 l, .int .u64 e, .int .i64 k] 131))) := b1; clear b1 hb0) | (go_at_call 111; refine c38.mono ?_; rintro r V1 ⟨rfl, hV1⟩; subst hV1) | (go_at_call 112; refine (c40 _).mono ?_; rintro r V1 ⟨rfl, hV1⟩; subst hV1) | (go_at_call 113; refine (c41 _).mono ?_; rintro r V1 ⟨rfl, hV1⟩; subst hV1))
        go_ret
        exact ⟨rfl, HB1.out⟩
      · have h0 : pa % 4096 = 0 := by simpa using hpx
        go_enter Tryz.func86, Tryz.ntmps86
        go_wp2_with (first | (go_at_call 102; refine c39.mono ?_; rintro r V0 ⟨rfl, hb0⟩; have b1 := hb0.trans ((below1 V0 (.cells #[.int .u64 a0, .int .u64 a1, .int .u64 a2, .int .i64 l, .int .u64 e, .int .i64 k] 131)).mono hb0.size); have c38 := isMade_any (HR.out.below b1); have c42 := isNode_any (HR.out.below b1) root hr; have HB1 : Hid (Below w.heap.size w (V0.alloc (.cells #[.int .u64 a0, .int .u64 a1, .int .u64 a2, .int .i64 l, .int .u64 e, .int .i64 k] 131))) := b1; clear b1 hb0) | (go_at_call 111; refine c38.mono ?_; rintro r V1 ⟨rfl, hV1⟩; subst hV1) | (go_at_call 112; refine (c40 _).mono ?_; rintro r V1 ⟨rfl, hV1⟩; subst hV1) | (go_at_call 113; refine (c41 _).mono ?_; rintro r V1 ⟨rfl, hV1⟩; subst hV1))
        go_ret
        exact ⟨rfl, HB1.out⟩
  · have hd : decide (va % 4096 = 0 ∧ va < 274877906944) = false := by simpa using hu
    simp only [hd] at c40
    rw [if_pos hu] at hM
    subst hM
    clear h hm hu hd
    go_enter Tryz.func86, Tryz.ntmps86
    go_wp2_with (first | (go_at_call 102; refine c39.mono ?_; rintro r V0 ⟨rfl, hb0⟩; have b1 := hb0.trans ((below1 V0 (.cells #[.int .u64 a0, .int .u64 a1, .int .u64 a2, .int .i64 l, .int .u64 e, .int .i64 k] 131)).mono hb0.size); have c38 := isMade_any (HR.out.below b1); have c42 := isNode_any (HR.out.below b1) root hr; have HB1 : Hid (Below w.heap.size w (V0.alloc (.cells #[.int .u64 a0, .int .u64 a1, .int .u64 a2, .int .i64 l, .int .u64 e, .int .i64 k] 131))) := b1; clear b1 hb0) | (go_at_call 111; refine c38.mono ?_; rintro r V1 ⟨rfl, hV1⟩; subst hV1) | (go_at_call 112; refine (c40 _).mono ?_; rintro r V1 ⟨rfl, hV1⟩; subst hV1) | (go_at_call 113; refine (c41 _).mono ?_; rintro r V1 ⟨rfl, hV1⟩; subst hV1))
    go_ret
    exact ⟨rfl, HB1.out⟩
end
end Go.Proofs.YtblmkkhiojbcjaaGreat
