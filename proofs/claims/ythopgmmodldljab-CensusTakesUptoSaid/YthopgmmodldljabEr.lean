import Derived.Test.YthopgmmodldljabEla
namespace Go.Proofs.Ythopgmmodldljab
open Go Go.RowKit
set_option linter.unusedVariables false
set_option linter.unusedSimpArgs false
/-! hasItsFds. -/
theorem wpList_buildGG {w : World} {ops : Array Oper} {rest : List Oper} {o : Oper} {a : Act} {Q : Exit → Act → World → Prop} (t : TypeId) (parts : Array (Nat × Operand)) (ho : o.op = .build t parts) (d : Option Tmp) (hd : o.dst = d) (cs : Array Value) (hw : Region.wanted o (yielded ops a.tmps) = true) (hb : Try.prog.built t (parts.map fun (i, x) => (i, a.eval x)).toList = some cs)
  (h : wpList Try.prog ops Q rest (a.put d (.agg cs)) w) : wpList Try.prog ops Q (o :: rest) a w := by
 subst hd
 unfold wpList
 rw [if_pos hw]
 exact .inl (wp_build t parts ho (by rw [hb]; rfl) (by rw [hb]; exact h))
def fdOk (pf : Th → Option Int) (en : Bool) (f : Int) : Bool := (f == -1) || (!en && (pf (2, f)).isSome)
def okD (pf : Th → Option Int) (p : Pc) : Bool := ((List.range 16).all fun k => fdOk pf (p.c 2 == 3) (p.c (46 + k))) && ((p.c 2 == 3) || (pf (4, p.c 62)).isSome)
theorem all16_false {f : Nat → Bool} {i : Nat} (hi : i < 16) (h : f i = false) : (List.range 16).all f = false := by
 rw [List.all_eq_false]
 exact ⟨i, List.mem_range.2 hi, by simp [h]⟩
theorem all16_true {f : Nat → Bool} (h : ∀ i, i < 16 → f i = true) : (List.range 16).all f = true := by
 rw [List.all_eq_true]
 exact fun i hi => h i (List.mem_range.1 hi)
set_option maxRecDepth 100000 in
set_option maxHeartbeats 2000000 in
theorem hasFds_any {w : World} {s m1 m2 : Nat} {cs : List Value} {pf nf : Th → Option Int} (h : Sv w s m1 m2 cs pf nf) (p : Pc) (nv gv : Value) (hp : PcR p) : Calls Try.prog 57 #[.pointer (some ⟨s, 0, .none⟩), .agg (p.l nv gv).toArray] w fun e w' => e = .returned (.bool (okD pf p)) ∧ Below w.heap.size w w' := by
 have HT : Hid (ThR (4, p.c 62) ∧ ∀ i, i < 16 → ThR (2, p.c (46 + i))) := ⟨⟨lit64 4 (by omega), hp.c 62 _ (by simp [k55])⟩, fun i hi => ⟨lit64 2 (by omega), hp.c (46 + i) .i64 (by
  have : i = 0 ∨ i = 1 ∨ i = 2 ∨ i = 3 ∨ i = 4 ∨ i = 5 ∨ i = 6 ∨ i = 7 ∨ i = 8 ∨ i = 9 ∨ i = 10 ∨ i = 11 ∨ i = 12 ∨ i = 13 ∨ i = 14 ∨ i = 15 := by omega
  rcases this with rfl | rfl | rfl | rfl | rfl | rfl | rfl | rfl | rfl | rfl | rfl | rfl | rfl | rfl | rfl | rfl <;> simp [k55])⟩⟩
 have HS : Hid (∀ V, Below w.heap.size w V → Sv V s m1 m2 cs pf nf) := fun V hV => h.keep hV
 clear h hp
 obtain ⟨en, hen⟩ : ∃ en, (p.c 2 == 3) = en := ⟨_, rfl⟩
 have HQ : Hid (okD pf p = (((List.range 16).all fun k => fdOk pf en (p.c (46 + k))) && (en || (pf (4, p.c 62)).isSome))) := by show _ = _; unfold okD; rw [hen]
 go_enter Try.func57, Try.ntmps57
 go_wp2_with (first
  | (refine wpList_is (.box 60 (.tmp 1)) rfl ?_; refine wpList_boxG 60 (p.l nv gv) 3 (.tmp 1) _ rfl rfl rfl rfl ?_; intro W1 hW1 hB1 hs1; have k2 : W1.cell? ⟨w.heap.size, 2, .none⟩ = some (.int .i64 (p.c 2)) := cell_heap (o := 2) hW1; have r46 : W1.rangeAt w.heap.size 46 (fdL p.c) := by have := range_sub (k := 46) (range_heap hW1) (sub_of (s := fdL p.c) rfl); simpa using this)
  | (refine wpList_is (.load 55 (.tmp 11)) rfl ?_; refine wpList_loadW 55 _ Try.underlying55 rfl (fdL p.c) (by kernel_rfl) w.heap.size 46 (.tmp 11) rfl rfl rfl r46 (some 12) rfl ?_)
  | fail)
 clear k2 r46
 have HW1 : Hid (W1.heap[w.heap.size]? = some (.cells (p.l nv gv).toArray 60) ∧ Below w.heap.size w W1 ∧ W1.heap.size = w.heap.size + 1) := ⟨hW1, hB1, hs1⟩
 clear hW1 hB1 hs1 hen
 go_loopw [13] (fun k wr => ∃ i : Nat, i ≤ 16 ∧ k = .int .i64 i ∧ Hid (Below W1.heap.size W1 wr ∧ ∀ j, j < i → fdOk pf en (p.c (46 + j)) = true)) (fun v _ => (16 - intOf v).toNat)
 case atStart => exact ⟨0, by omega, rfl, Below.refl _ _, fun j h => by omega⟩
 case round =>
  obtain ⟨i, hi, rfl, HB⟩ := hrel
  by_cases hin : i < 16
  ·as_aux_lemma =>
    have i1 : (i : Int) < 16 := by omega
    have hix := index50 p.c i hin
    obtain ⟨x, hx⟩ : ∃ x, x = p.c (46 + i) := ⟨_, rfl⟩
    rw [← hx] at hix
    have HX : Hid (x = p.c (46 + i)) := hx
    have HTX : Hid (ThR (2, x)) := by rw [hx]; exact HT.out.2 i hin
    have HIN : Hid (i < 16) := hin
    have HBW : Hid (Below w.heap.size w wr) := HW1.out.2.1.trans (HB.out.1.mono (by have := HW1.out.2.2; omega))
    clear hx
    by_cases g1 : x = -1
    ·have e1 : (x != -1) = false := by simp [g1]
     have HF : Hid (fdOk pf en x = true) := by show _ = _; unfold fdOk; simp [g1]
     clear g1
     go_wp2
     exact ⟨⟨i + 1, by omega, by go_num, HB.out.1, fun j hj => by
      by_cases e : j = i
      ·subst e; rw [← HX.out]; exact HF.out
      ·exact HB.out.2 j (by omega)⟩, by simp [intOf]; omega⟩
    have e1 : (x != -1) = true := by simp [g1]
    have e1' : (x == -1) = false := by simp [g1]
    have HE1 : Hid ((x == -1) = false) := e1'
    clear g1 e1'
    cases en
    ·go_wp2_with (first
      | (refine wpList_is (.build 101 #[(0, .const (.int .i64 2)), (1, .tmp 22)]) rfl ?_; refine wpList_buildGG (w := wr) 101 _ rfl (some 23) rfl (thL (2, x)).toArray (by rfl) (by kernel_rfl) ?_)
      | fail)
     go_at_call 47
     refine (has_any (HS.out _ HBW.out) HTX.out).mono ?_
     rintro e W2 ⟨rfl, hB2⟩
     have HB2 : Hid (Below W1.heap.size W1 W2) := HB.out.1.trans (hB2.mono HB.out.1.size)
     clear hB2
     cases hd : (pf (2, x)).isSome
     ·have HF : Hid (fdOk pf false x = false) := by show _ = _; unfold fdOk; rw [HE1.out, hd]; rfl
      clear hd
      go_wp2
      go_ret
      exact ⟨by rw [HQ.out, all16_false HIN.out (by rw [← HX.out]; exact HF.out)]; rfl, HW1.out.2.1.trans (HB2.out.mono (by have := HW1.out.2.2; omega))⟩
     ·have HF : Hid (fdOk pf false x = true) := by show _ = _; unfold fdOk; rw [hd]; simp
      clear hd
      go_wp2
      exact ⟨⟨i + 1, by omega, by go_num, HB2.out, fun j hj => by
       by_cases e : j = i
       ·subst e; rw [← HX.out]; exact HF.out
       ·exact HB.out.2 j (by omega)⟩, by simp [intOf]; omega⟩
    ·have HF : Hid (fdOk pf true x = false) := by show _ = _; unfold fdOk; rw [HE1.out]; rfl
     go_wp2
     go_ret
     exact ⟨by rw [HQ.out, all16_false HIN.out (by rw [← HX.out]; exact HF.out)]; rfl, HBW.out⟩
  ·as_aux_lemma =>
    have i1 : ¬ (i : Int) < 16 := by omega
    obtain rfl : i = 16 := by omega
    clear hin
    have HA : Hid (((List.range 16).all fun k => fdOk pf en (p.c (46 + k))) = true) := all16_true HB.out.2
    have HBW : Hid (Below w.heap.size w wr) := HW1.out.2.1.trans (HB.out.1.mono (by have := HW1.out.2.2; omega))
    cases en
    ·have k62 : wr.cell? ⟨w.heap.size, 62, .none⟩ = some (.int .i64 (p.c 62)) := cell_heap (o := 62) ((HB.out.1.block _ (by have := HW1.out.2.2; omega)).trans HW1.out.1)
     go_wp2_with (first
      | (refine wpList_is (.build 101 #[(0, .const (.int .i64 4)), (1, .tmp 33)]) rfl ?_; refine wpList_buildGG (w := wr) 101 _ rfl (some 34) rfl (thL (4, p.c 62)).toArray (by rfl) (by kernel_rfl) ?_)
      | fail)
     clear k62
     go_at_call 47
     refine (has_any (HS.out _ HBW.out) HT.out.1).mono ?_
     rintro e W2 ⟨rfl, hB2⟩
     have HB2 : Hid (Below w.heap.size w W2) := HBW.out.trans (hB2.mono HBW.out.size)
     clear hB2
     go_wp2
     go_ret
     exact ⟨by rw [HQ.out, HA.out]; rfl, HB2.out⟩
    ·go_wp2
     go_ret
     exact ⟨by rw [HQ.out, HA.out]; rfl, HBW.out⟩
end Go.Proofs.Ythopgmmodldljab
