import Derived.Test.YtabhojfdkmeaoaaHl
import Derived.Lib.SlBytesConst
namespace Go.Proofs.Ytabhojfdkmeaoaa
open Go.RowKit
set_option linter.unusedVariables false
set_option linter.unusedSimpArgs false
theorem byt_two (w : World) (g : Nat) (f : Nat × Nat) (h : w.heap[g]? = some (.cells #[.int .u8 97, .int .u8 98] 5 f)) : Byt w (some ⟨g, 0, .none⟩) 2 2 [97, 98] :=
  ⟨rfl, Nat.le_refl _, by decide, .inr ⟨g, 0, rfl, (Array.getElem?_eq_some_iff.1 h).1, fun i x hx => by
    match i, hx with
    | 0, hx => cases hx; simp [World.cell?, h]
    | 1, hx => cases hx; simp [World.cell?, h]⟩⟩
theorem byt_one (w : World) (g : Nat) (f : Nat × Nat) (h : w.heap[g]? = some (.cells #[.int .u8 97] 5 f)) : Byt w (some ⟨g, 0, .none⟩) 1 1 [97] :=
  ⟨rfl, Nat.le_refl _, by decide, .inr ⟨g, 0, rfl, (Array.getElem?_eq_some_iff.1 h).1, fun i x hx => by
    match i, hx with
    | 0, hx => cases hx; simp [World.cell?, h]⟩⟩
set_option maxHeartbeats 2000000 in
theorem works_any (w : World) : Calls Try.prog 15 #[] w fun e w' => e = .returned (.bool true) ∧ Below w.heap.size w w' := by
  go_enter Try.func15, Try.ntmps15
  go_wp2_with fail
  refine (new_any w).mono ?_
  rintro e W1 ⟨rfl, hp1, hb1⟩
  have H1 : Hid (Pip W1 w.heap.size [] 0 true true ∧ Below w.heap.size w W1) := ⟨hp1, hb1⟩
  clear hp1 hb1
  have kc := Lib.run_convert_bytes_const (P := Try.prog) W1 22 5 #[.int .u8 97, .int .u8 98] 2 2 Try.underlying22 Try.underlying5
  go_wp2_with fail
  clear kc
  have hz := heap_new W1 (.cells #[.int .u8 97, .int .u8 98] 5 (2, 3))
  have hb2 := Trn.new W1 (.cells #[.int .u8 97, .int .u8 98] 5 (2, 3))
  generalize hW2 : W1.alloc (.cells #[.int .u8 97, .int .u8 98] 5 (2, 3)) = W2 at *
  have hl1 := H1.out.1.lt
  have hs1 := H1.out.2.size
  have H2 : Hid (Pip W2 w.heap.size [] 0 true true ∧ Below w.heap.size w W2 ∧ Byt W2 (some ⟨W1.heap.size, 0, .none⟩) 2 2 [97, 98]) := ⟨H1.out.1.below hb2, H1.out.2.trans (hb2.mono hs1), byt_two _ _ _ hz⟩
  have c10 := put_pip H2.out.1 H2.out.2.2 (fun _ a ha => by injection ha with ha; subst ha; show W1.heap.size ≠ _; omega) (by decide)
  have e1 : putN [] true [97, 98] = 2 := by decide
  have e2 : putHow [] true [97, 98] = 1 := by decide
  rw [e1, e2] at c10
  clear e1 e2 hz hb2 hW2
  refine c10.mono ?_
  rintro e W3 ⟨rfl, hp3, ht3⟩
  have H3 : Hid (Pip W3 w.heap.size [97, 98] 0 true true ∧ Below w.heap.size w W3) := ⟨hp3, H2.out.2.1.trans (ht3.toBelow (Nat.le_refl _) (H2.out.2.1.size))⟩
  clear c10 hp3 ht3 hl1 hs1 H1 H2
  go_wp2_with fail
  have c11 := take_pip H3.out.1 1
  have e1 : takeN [97, 98] 1 = 1 := by decide
  have e2 : takeHow [97, 98] true 1 = 1 := by decide
  rw [e1, e2] at c11
  clear e1 e2
  refine c11.mono ?_
  rintro e W4 ⟨p, c, rfl, hO, _, hp4, ht4⟩
  have H4 : Hid (Pip W4 w.heap.size [98] 1 true true ∧ Below w.heap.size w W4 ∧ Byt W4 p 1 c [97]) := ⟨hp4, H3.out.2.trans (ht4.toBelow (Nat.le_refl _) H3.out.2.size), byt_own hO⟩
  clear c11 hO hp4 ht4 H3
  go_wp2_with fail
  have c13 := state_pip H4.out.1
  refine c13.mono ?_
  rintro e W5 ⟨q, d, rfl, hO, hb5, _⟩
  have H5 : Hid (Below w.heap.size w W5 ∧ Byt W5 p 1 c [97] ∧ Byt W5 q 1 d [98]) := ⟨H4.out.2.1.trans (hb5.mono H4.out.2.1.size), byt_below H4.out.2.2 hb5, byt_own hO⟩
  have es : stt q ([98] : List Int).length d 1 true true = .agg #[.slice q 1 d, .int .u32 1, .int .u32 2, .bool true, .bool true] := rfl
  rw [es]
  clear c13 hO hb5 es H4
  have v1 : ∀ W, Below W5.heap.size W5 W → (convert 22 9 (.slice p 1 c)).run Try.prog W = .ok (.string ⟨#[97]⟩) W := fun W hb => conv1 (byt_below H5.out.2.1 hb) (by decide)
  have v2 : ∀ W, Below W5.heap.size W5 W → (convert 22 9 (.slice q 1 d)).run Try.prog W = .ok (.string ⟨#[98]⟩) W := fun W hb => conv1 (byt_below H5.out.2.2 hb) (by decide)
  have V : Hid ((∀ W, Below W5.heap.size W5 W → (convert 22 9 (.slice p 1 c)).run Try.prog W = .ok (.string ⟨#[97]⟩) W) ∧ (∀ W, Below W5.heap.size W5 W → (convert 22 9 (.slice q 1 d)).run Try.prog W = .ok (.string ⟨#[98]⟩) W)) := ⟨v1, v2⟩
  clear v1 v2
  go_upto_region 5 with fail
  have hs6 := sb_new W5 q 1 d 1 2 true true
  have hb6 := Trn.new W5 (.cells #[.slice q 1 d, .int .u32 1, .int .u32 2, .bool true, .bool true] 36)
  generalize W5.alloc (.cells #[.slice q 1 d, .int .u32 1, .int .u32 2, .bool true, .bool true] 36) = W6 at *
  have u1 := V.out.1 W6 hb6
  have u2 := V.out.2 W6 hb6
  have a0 := hs6.c0
  have a1 := hs6.c1
  have a2 := hs6.c2
  have a3 := hs6.c3
  have a4 := hs6.c4
  have HE : Hid (Below w.heap.size w W6) := H5.out.1.trans (hb6.mono H5.out.1.size)
  clear hs6 hb6
  go_wp2
  go_ret
  exact ⟨rfl, HE.out⟩
end Go.Proofs.Ytabhojfdkmeaoaa
