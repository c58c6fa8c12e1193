import Derived.Test.YtcjkedgoinbofaaGreatHTr
import Derived.Deep.RegionHeld3
import Derived.Test.YtcjkedgoinbofaaGreatSTour
import Derived.Handy
import Derived.Deep.DeepCutAuto
namespace Go.Proofs.YtcjkedgoinbofaaGreat
open Go.RowKit
set_option linter.unusedVariables false
set_option linter.unusedSimpArgs false
attribute [local go_sem] field208_0 field208_1 field208_2
theorem cell_new (w : World) (cs : Array Value) (t : TypeId) (i : Nat) (v : Value) (h : cs[i]? = some v) : (w.alloc (.cells cs t)).drew.cell? ⟨w.heap.size, i, .none⟩ = some v := (World.cell?_alloc_at cs t _ _ rfl).trans h
section
variable {w W : World} {b0 b1 : Nat} {v : Value} {root : Int}
theorem place_al (h : Bx w W b0 b1 v root) (a va n : Int) (ha : a = 1 ∨ a = 2 ∨ a = 3) (hv : 0 ≤ va ∧ va < 18446744073709551616) (hn : 1 ≤ n ∧ n ≤ 8) (hm : ¬ va % n = 0) : Calls Tryz.prog 131 #[mm b0 b1 v, .int .i64 a, .int .u64 va, .int .i64 n] W fun e w' => e = up (cAl a) va ∧ Below W.heap.size W w' := by
  have c := causes_any a ha
  clear h ha
  unfold mm
  go_enter Tryz.func131, Tryz.ntmps131
  go_wp2_with (first | (go_at_call 133; refine (c _).mono ?_; rintro e w0 ⟨rfl, hb⟩) | (go_at_call 132; refine (giveUp_any _ _ _).mono ?_; rintro e w1 ⟨rfl, hb1⟩))
  exact ⟨rfl, rfl, btr (btr (below1 _ _) hb) hb1⟩
theorem place_pg (h : Bx w W b0 b1 v root) (a va n pa : Int) (ha : a = 1 ∨ a = 2 ∨ a = 3) (hv : 0 ≤ va ∧ va < 18446744073709551616) (hn : 1 ≤ n ∧ n ≤ 8) (hm : va % n = 0) (t : Tra w v root va a pa false) : Calls Tryz.prog 131 #[mm b0 b1 v, .int .i64 a, .int .u64 va, .int .i64 n] W fun e w' => e = up (cPg a) va ∧ Below W.heap.size W w' := by
  have c := causes_any a ha
  have c1 := find_any (h.below (below1 W (.cells #[.func (.func 69) #[] #[.pointer (some ⟨b0, 0, .none⟩), .pointer (some ⟨b1, 0, .none⟩)], .func (.func 13) #[v] #[], .func (.func 12) #[v] #[]] 95))) t
  clear h ha t
  unfold mm
  go_enter Tryz.func131, Tryz.ntmps131
  go_wp2_with (first | (go_at_call 69; refine c1.mono ?_; rintro e w0 ⟨rfl, hb0⟩) | (go_at_call 133; refine (c _).mono ?_; rintro e w1 ⟨rfl, hb⟩) | (go_at_call 132; refine (giveUp_any _ _ _).mono ?_; rintro e w2 ⟨rfl, hb1⟩))
  exact ⟨rfl, rfl, btr (btr (btr (below1 _ _) hb0) hb) hb1⟩
theorem place_ok (h : Bx w W b0 b1 v root) (a va n pa : Int) (ha : a = 1 ∨ a = 2 ∨ a = 3) (hv : 0 ≤ va ∧ va < 18446744073709551616) (hn : 1 ≤ n ∧ n ≤ 8) (hm : va % n = 0) (t : Tra w v root va a pa true) : Calls Tryz.prog 131 #[mm b0 b1 v, .int .i64 a, .int .u64 va, .int .i64 n] W fun e w' => e = .returned (.int .u64 pa) ∧ Below W.heap.size W w' := by
  have c1 := find_any (h.below (below1 W (.cells #[.func (.func 69) #[] #[.pointer (some ⟨b0, 0, .none⟩), .pointer (some ⟨b1, 0, .none⟩)], .func (.func 13) #[v] #[], .func (.func 12) #[v] #[]] 95))) t
  clear h ha t
  unfold mm
  go_enter Tryz.func131, Tryz.ntmps131
  go_wp2_with (first | (go_at_call 69; refine c1.mono ?_; rintro e w0 ⟨rfl, hb0⟩))
  go_ret
  exact ⟨rfl, btr (below1 _ _) hb0⟩
/-- What a call of place comes to. -/
def Plc (w : World) (b0 b1 : Nat) (v : Value) (root a va n : Int) (r : Ending) : Prop := ∀ W, Bx w W b0 b1 v root → Calls Tryz.prog 131 #[mm b0 b1 v, .int .i64 a, .int .u64 va, .int .i64 n] W fun e w' => e = r ∧ Below W.heap.size W w'
theorem read_up (h : Bx w W b0 b1 v root) (a va n c x : Int) (p : Plc w b0 b1 v root a va n (up c x)) : Calls Tryz.prog 70 #[mm b0 b1 v, .int .i64 a, .int .u64 va, .int .i64 n] W fun e w' => e = up c x ∧ Below W.heap.size W w' := by
  have hB : Below W.heap.size W (W.alloc (.cells #[.func (.func 69) #[] #[.pointer (some ⟨b0, 0, .none⟩), .pointer (some ⟨b1, 0, .none⟩)], .func (.func 13) #[v] #[], .func (.func 12) #[v] #[]] 95)).drew := btr (below1 W _) (blw_drewN _ _ 1)
  have c1 := p _ (h.below hB)
  have k0 : (W.alloc (.cells #[.func (.func 69) #[] #[.pointer (some ⟨b0, 0, .none⟩), .pointer (some ⟨b1, 0, .none⟩)], .func (.func 13) #[v] #[], .func (.func 12) #[v] #[]] 95)).drew.cell? ⟨W.heap.size, 0, .none⟩ = some (.func (.func 69) #[] #[.pointer (some ⟨b0, 0, .none⟩), .pointer (some ⟨b1, 0, .none⟩)]) ∧ (W.alloc (.cells #[.func (.func 69) #[] #[.pointer (some ⟨b0, 0, .none⟩), .pointer (some ⟨b1, 0, .none⟩)], .func (.func 13) #[v] #[], .func (.func 12) #[v] #[]] 95)).drew.cell? ⟨W.heap.size, 1, .none⟩ = some (.func (.func 13) #[v] #[]) ∧ (W.alloc (.cells #[.func (.func 69) #[] #[.pointer (some ⟨b0, 0, .none⟩), .pointer (some ⟨b1, 0, .none⟩)], .func (.func 13) #[v] #[], .func (.func 12) #[v] #[]] 95)).drew.cell? ⟨W.heap.size, 2, .none⟩ = some (.func (.func 12) #[v] #[]) := ⟨cell_new W _ _ _ _ rfl, cell_new W _ _ _ _ rfl, cell_new W _ _ _ _ rfl⟩
  have hlt : W.heap.size < (W.alloc (.cells #[.func (.func 69) #[] #[.pointer (some ⟨b0, 0, .none⟩), .pointer (some ⟨b1, 0, .none⟩)], .func (.func 13) #[v] #[], .func (.func 12) #[v] #[]] 95)).drew.heap.size := lt_of_cell k0.1
  clear h p
  unfold mm at *
  go_enter Tryz.func70, Tryz.ntmps70
  go_upto_region 1 with fail
  refine wp_region_held_drew (S := (fun W2 => W2.cell? ⟨W.heap.size, 0, .none⟩ = some (.func (.func 69) #[] #[.pointer (some ⟨b0, 0, .none⟩), .pointer (some ⟨b1, 0, .none⟩)]) ∧ W2.cell? ⟨W.heap.size, 1, .none⟩ = some (.func (.func 13) #[v] #[]) ∧ W2.cell? ⟨W.heap.size, 2, .none⟩ = some (.func (.func 12) #[v] #[]))) (by kernel_rfl) k0 (fun hHeld => ?_)
  generalize (W.alloc (.cells #[.func (.func 69) #[] #[.pointer (some ⟨b0, 0, .none⟩), .pointer (some ⟨b1, 0, .none⟩)], .func (.func 13) #[v] #[], .func (.func 12) #[v] #[]] 95)).drew = W1 at *
  refine wpAnyH_take (i := 0) (v := (.pointer (some ⟨W.heap.size, 1, .none⟩))) rfl (by kernel_rfl) (by kernel_rfl) (by kernel_rfl) (fun _ _ _ h => h) (Or.inl ⟨by rfl, fun ww hSw => by (try dsimp only at hSw); go_simp⟩) (by assumption) ?_
  simp only [Act.put, List.setIfInBounds_toArray, List.set_cons_zero, List.set_cons_succ, List.getElem_toArray, List.getElem_cons_succ, List.getElem_cons_zero]
  refine wpAnyH_take (i := 1) (v := (.func (.func 13) #[v] #[])) rfl (by kernel_rfl) (by kernel_rfl) (by kernel_rfl) (fun _ _ _ h => h) (Or.inl ⟨by rfl, fun ww hSw => by (try dsimp only at hSw); go_simp⟩) (by assumption) ?_
  simp only [Act.put, List.setIfInBounds_toArray, List.set_cons_zero, List.set_cons_succ, List.getElem_toArray, List.getElem_cons_succ, List.getElem_cons_zero]
  refine wpAnyH_take (i := 2) (v := (.agg #[.func (.func 69) #[] #[.pointer (some ⟨b0, 0, .none⟩), .pointer (some ⟨b1, 0, .none⟩)], .func (.func 13) #[v] #[], .func (.func 12) #[v] #[]])) rfl (by kernel_rfl) (by kernel_rfl) (by kernel_rfl) (fun _ _ _ h => h) (Or.inl ⟨by rfl, fun ww hSw => by (try dsimp only at hSw); go_simp⟩) (by assumption) ?_
  simp only [Act.put, List.setIfInBounds_toArray, List.set_cons_zero, List.set_cons_succ, List.getElem_toArray, List.getElem_cons_succ, List.getElem_cons_zero]
  refine wpAnyH_take (i := 3) (v := (.int .i64 a)) rfl (by kernel_rfl) (by kernel_rfl) (by kernel_rfl) (fun _ _ _ h => h) (Or.inl ⟨by rfl, fun ww hSw => by (try dsimp only at hSw); go_simp⟩) (by assumption) ?_
  simp only [Act.put, List.setIfInBounds_toArray, List.set_cons_zero, List.set_cons_succ, List.getElem_toArray, List.getElem_cons_succ, List.getElem_cons_zero]
  refine wpAnyH_take (i := 4) (v := (.int .u64 va)) rfl (by kernel_rfl) (by kernel_rfl) (by kernel_rfl) (fun _ _ _ h => h) (Or.inl ⟨by rfl, fun ww hSw => by (try dsimp only at hSw); go_simp⟩) (by assumption) ?_
  simp only [Act.put, List.setIfInBounds_toArray, List.set_cons_zero, List.set_cons_succ, List.getElem_toArray, List.getElem_cons_succ, List.getElem_cons_zero]
  refine wpAnyH_take (i := 5) (v := (.int .i64 n)) rfl (by kernel_rfl) (by kernel_rfl) (by kernel_rfl) (fun _ _ _ h => h) (Or.inl ⟨by rfl, fun ww hSw => by (try dsimp only at hSw); go_simp⟩) (by assumption) ?_
  simp only [Act.put, List.setIfInBounds_toArray, List.set_cons_zero, List.set_cons_succ, List.getElem_toArray, List.getElem_cons_succ, List.getElem_cons_zero]
  refine wpAnyH_take (i := 7) (v := (.int .i64 n)) rfl (by kernel_rfl) (by kernel_rfl) (by kernel_rfl) (fun _ _ _ h => h) (Or.inl ⟨by rfl, fun ww hSw => by (try dsimp only at hSw); go_simp⟩) (by assumption) ?_
  simp only [Act.put, List.setIfInBounds_toArray, List.set_cons_zero, List.set_cons_succ, List.getElem_toArray, List.getElem_cons_succ, List.getElem_cons_zero]
  refine wpAnyH_ready (rs := [6]) (by kernel_rfl) (by simp) ?_
  refine AllReadyH.cons rfl (fun K hK => ?_) AllReadyH.nil
  go_simp
  go_at_call 131
  refine c1.mono ?_
  rintro e w0 ⟨rfl, hb⟩
  exact ⟨rfl, rfl, hB.trans (hb.mono hB.size)⟩
/-- What a load comes to, wherever no block of w has turned. -/
def Lod (w : World) (v : Value) (pa n x : Int) (ok : Bool) : Prop := ∀ W, Below w.heap.size w W → Calls Tryz.prog 13 #[v, .int .u64 pa, .int .i64 n] W fun e w' => e = .returned (.tuple #[.int .u64 x, .bool ok]) ∧ Below W.heap.size W w'
theorem read_ok (h : Bx w W b0 b1 v root) (a va n pa x : Int) (p : Plc w b0 b1 v root a va n (.returned (.int .u64 pa))) (t : Lod w v pa n x true) : Calls Tryz.prog 70 #[mm b0 b1 v, .int .i64 a, .int .u64 va, .int .i64 n] W fun e w' => e = .returned (.int .u64 x) ∧ Below W.heap.size W w' := by
  have hB : Below W.heap.size W (W.alloc (.cells #[.func (.func 69) #[] #[.pointer (some ⟨b0, 0, .none⟩), .pointer (some ⟨b1, 0, .none⟩)], .func (.func 13) #[v] #[], .func (.func 12) #[v] #[]] 95)).drew := btr (below1 W _) (blw_drewN _ _ 1)
  have c1 := p _ (h.below hB)
  have k0 : (W.alloc (.cells #[.func (.func 69) #[] #[.pointer (some ⟨b0, 0, .none⟩), .pointer (some ⟨b1, 0, .none⟩)], .func (.func 13) #[v] #[], .func (.func 12) #[v] #[]] 95)).drew.cell? ⟨W.heap.size, 0, .none⟩ = some (.func (.func 69) #[] #[.pointer (some ⟨b0, 0, .none⟩), .pointer (some ⟨b1, 0, .none⟩)]) ∧ (W.alloc (.cells #[.func (.func 69) #[] #[.pointer (some ⟨b0, 0, .none⟩), .pointer (some ⟨b1, 0, .none⟩)], .func (.func 13) #[v] #[], .func (.func 12) #[v] #[]] 95)).drew.cell? ⟨W.heap.size, 1, .none⟩ = some (.func (.func 13) #[v] #[]) ∧ (W.alloc (.cells #[.func (.func 69) #[] #[.pointer (some ⟨b0, 0, .none⟩), .pointer (some ⟨b1, 0, .none⟩)], .func (.func 13) #[v] #[], .func (.func 12) #[v] #[]] 95)).drew.cell? ⟨W.heap.size, 2, .none⟩ = some (.func (.func 12) #[v] #[]) := ⟨cell_new W _ _ _ _ rfl, cell_new W _ _ _ _ rfl, cell_new W _ _ _ _ rfl⟩
  have hlt : W.heap.size < (W.alloc (.cells #[.func (.func 69) #[] #[.pointer (some ⟨b0, 0, .none⟩), .pointer (some ⟨b1, 0, .none⟩)], .func (.func 13) #[v] #[], .func (.func 12) #[v] #[]] 95)).drew.heap.size := lt_of_cell k0.1
  have HT : Hid (∀ W2, Below W.heap.size W W2 → Calls Tryz.prog 13 #[v, .int .u64 pa, .int .i64 n] W2 fun e w' => e = .returned (.tuple #[.int .u64 x, .bool true]) ∧ Below W2.heap.size W2 w') := fun W2 hW => t W2 (h.b.trans (hW.mono h.b.size))
  clear h p
  unfold mm at *
  go_enter Tryz.func70, Tryz.ntmps70
  go_upto_region 1 with fail
  refine wp_region_held_drew (S := (fun W2 => W2.cell? ⟨W.heap.size, 0, .none⟩ = some (.func (.func 69) #[] #[.pointer (some ⟨b0, 0, .none⟩), .pointer (some ⟨b1, 0, .none⟩)]) ∧ W2.cell? ⟨W.heap.size, 1, .none⟩ = some (.func (.func 13) #[v] #[]) ∧ W2.cell? ⟨W.heap.size, 2, .none⟩ = some (.func (.func 12) #[v] #[]))) (by kernel_rfl) k0 (fun hHeld => ?_)
  generalize (W.alloc (.cells #[.func (.func 69) #[] #[.pointer (some ⟨b0, 0, .none⟩), .pointer (some ⟨b1, 0, .none⟩)], .func (.func 13) #[v] #[], .func (.func 12) #[v] #[]] 95)).drew = W1 at *
  refine wpAnyH_take (i := 0) (v := (.pointer (some ⟨W.heap.size, 1, .none⟩))) rfl (by kernel_rfl) (by kernel_rfl) (by kernel_rfl) (fun _ _ _ h => h) (Or.inl ⟨by rfl, fun ww hSw => by (try dsimp only at hSw); go_simp⟩) (by assumption) ?_
  simp only [Act.put, List.setIfInBounds_toArray, List.set_cons_zero, List.set_cons_succ, List.getElem_toArray, List.getElem_cons_succ, List.getElem_cons_zero]
  refine wpAnyH_take (i := 1) (v := (.func (.func 13) #[v] #[])) rfl (by kernel_rfl) (by kernel_rfl) (by kernel_rfl) (fun _ _ _ h => h) (Or.inl ⟨by rfl, fun ww hSw => by (try dsimp only at hSw); go_simp⟩) (by assumption) ?_
  simp only [Act.put, List.setIfInBounds_toArray, List.set_cons_zero, List.set_cons_succ, List.getElem_toArray, List.getElem_cons_succ, List.getElem_cons_zero]
  refine wpAnyH_take (i := 2) (v := (.agg #[.func (.func 69) #[] #[.pointer (some ⟨b0, 0, .none⟩), .pointer (some ⟨b1, 0, .none⟩)], .func (.func 13) #[v] #[], .func (.func 12) #[v] #[]])) rfl (by kernel_rfl) (by kernel_rfl) (by kernel_rfl) (fun _ _ _ h => h) (Or.inl ⟨by rfl, fun ww hSw => by (try dsimp only at hSw); go_simp⟩) (by assumption) ?_
  simp only [Act.put, List.setIfInBounds_toArray, List.set_cons_zero, List.set_cons_succ, List.getElem_toArray, List.getElem_cons_succ, List.getElem_cons_zero]
  refine wpAnyH_take (i := 3) (v := (.int .i64 a)) rfl (by kernel_rfl) (by kernel_rfl) (by kernel_rfl) (fun _ _ _ h => h) (Or.inl ⟨by rfl, fun ww hSw => by (try dsimp only at hSw); go_simp⟩) (by assumption) ?_
  simp only [Act.put, List.setIfInBounds_toArray, List.set_cons_zero, List.set_cons_succ, List.getElem_toArray, List.getElem_cons_succ, List.getElem_cons_zero]
  refine wpAnyH_take (i := 4) (v := (.int .u64 va)) rfl (by kernel_rfl) (by kernel_rfl) (by kernel_rfl) (fun _ _ _ h => h) (Or.inl ⟨by rfl, fun ww hSw => by (try dsimp only at hSw); go_simp⟩) (by assumption) ?_
  simp only [Act.put, List.setIfInBounds_toArray, List.set_cons_zero, List.set_cons_succ, List.getElem_toArray, List.getElem_cons_succ, List.getElem_cons_zero]
  refine wpAnyH_take (i := 5) (v := (.int .i64 n)) rfl (by kernel_rfl) (by kernel_rfl) (by kernel_rfl) (fun _ _ _ h => h) (Or.inl ⟨by rfl, fun ww hSw => by (try dsimp only at hSw); go_simp⟩) (by assumption) ?_
  simp only [Act.put, List.setIfInBounds_toArray, List.set_cons_zero, List.set_cons_succ, List.getElem_toArray, List.getElem_cons_succ, List.getElem_cons_zero]
  refine wpAnyH_take (i := 7) (v := (.int .i64 n)) rfl (by kernel_rfl) (by kernel_rfl) (by kernel_rfl) (fun _ _ _ h => h) (Or.inl ⟨by rfl, fun ww hSw => by (try dsimp only at hSw); go_simp⟩) (by assumption) ?_
  simp only [Act.put, List.setIfInBounds_toArray, List.set_cons_zero, List.set_cons_succ, List.getElem_toArray, List.getElem_cons_succ, List.getElem_cons_zero]
  refine wpAnyH_ready (rs := [6]) (by kernel_rfl) (by simp) ?_
  refine AllReadyH.cons rfl (fun K hK => ?_) AllReadyH.nil
  go_simp
  go_at_call 131
  refine c1.mono ?_
  rintro e w0 ⟨rfl, hb⟩
  have hB0 : Below W.heap.size W w0 := hB.trans (hb.mono hB.size)
  have k1 : w0.cell? ⟨W.heap.size, 0, .none⟩ = some (.func (.func 69) #[] #[.pointer (some ⟨b0, 0, .none⟩), .pointer (some ⟨b1, 0, .none⟩)]) ∧ w0.cell? ⟨W.heap.size, 1, .none⟩ = some (.func (.func 13) #[v] #[]) ∧ w0.cell? ⟨W.heap.size, 2, .none⟩ = some (.func (.func 12) #[v] #[]) := ⟨(hb.cell hlt).trans k0.1, (hb.cell hlt).trans k0.2.1, (hb.cell hlt).trans k0.2.2⟩
  have c2 := HT.out w0 hB0
  refine hK.out _ _ k1 (fun hHeld => ?_)
  clear hK K
  try simp only [Act.put, List.setIfInBounds_toArray, List.set_cons_zero, List.set_cons_succ, List.getElem_toArray, List.getElem_cons_succ, List.getElem_cons_zero]
  refine wpAnyH_ready (rs := [8]) (by kernel_rfl) (by simp) ?_
  refine AllReadyH.cons rfl (fun K hK => ?_) AllReadyH.nil
  go_simp
  go_at_call 13
  refine c2.mono ?_
  rintro e w1 ⟨rfl, hb1⟩
  have hB1 : Below W.heap.size W w1 := hB0.trans (hb1.mono hB0.size)
  have hl0 : W.heap.size < w0.heap.size := lt_of_cell k1.1
  have k2 : w1.cell? ⟨W.heap.size, 0, .none⟩ = some (.func (.func 69) #[] #[.pointer (some ⟨b0, 0, .none⟩), .pointer (some ⟨b1, 0, .none⟩)]) ∧ w1.cell? ⟨W.heap.size, 1, .none⟩ = some (.func (.func 13) #[v] #[]) ∧ w1.cell? ⟨W.heap.size, 2, .none⟩ = some (.func (.func 12) #[v] #[]) := ⟨(hb1.cell hl0).trans k1.1, (hb1.cell hl0).trans k1.2.1, (hb1.cell hl0).trans k1.2.2⟩
  refine hK.out _ _ k2 (fun hHeld => ?_)
  clear hK K
  try simp only [Act.put, List.setIfInBounds_toArray, List.set_cons_zero, List.set_cons_succ, List.getElem_toArray, List.getElem_cons_succ, List.getElem_cons_zero]
  refine wpAnyH_take (i := 9) (v := (.tuple #[.int .u64 x, .bool true])) rfl (by kernel_rfl) (by kernel_rfl) (by kernel_rfl) (fun _ _ _ h => h) (Or.inl ⟨by rfl, fun ww hSw => by (try dsimp only at hSw); go_simp⟩) (by assumption) ?_
  simp only [Act.put, List.setIfInBounds_toArray, List.set_cons_zero, List.set_cons_succ, List.getElem_toArray, List.getElem_cons_succ, List.getElem_cons_zero]
  refine wpAnyH_take (i := 10) (v := (.int .u64 x)) rfl (by kernel_rfl) (by kernel_rfl) (by kernel_rfl) (fun _ _ _ h => h) (Or.inl ⟨by rfl, fun ww hSw => by (try dsimp only at hSw); go_simp⟩) (by assumption) ?_
  simp only [Act.put, List.setIfInBounds_toArray, List.set_cons_zero, List.set_cons_succ, List.getElem_toArray, List.getElem_cons_succ, List.getElem_cons_zero]
  refine wpAnyH_take (i := 11) (v := (.bool true)) rfl (by kernel_rfl) (by kernel_rfl) (by kernel_rfl) (fun _ _ _ h => h) (Or.inl ⟨by rfl, fun ww hSw => by (try dsimp only at hSw); go_simp⟩) (by assumption) ?_
  simp only [Act.put, List.setIfInBounds_toArray, List.set_cons_zero, List.set_cons_succ, List.getElem_toArray, List.getElem_cons_succ, List.getElem_cons_zero]
  refine wpAnyH_take (i := 12) (v := (.int .u64 x)) rfl (by kernel_rfl) (by kernel_rfl) (by kernel_rfl) (fun _ _ _ h => h) (Or.inl ⟨by rfl, fun ww hSw => by (try dsimp only at hSw); go_simp⟩) (by assumption) ?_
  simp only [Act.put, List.setIfInBounds_toArray, List.set_cons_zero, List.set_cons_succ, List.getElem_toArray, List.getElem_cons_succ, List.getElem_cons_zero]
  refine wpAnyH_take (i := 13) (v := (.bool true)) rfl (by kernel_rfl) (by kernel_rfl) (by kernel_rfl) (fun _ _ _ h => h) (Or.inl ⟨by rfl, fun ww hSw => by (try dsimp only at hSw); go_simp⟩) (by assumption) ?_
  simp only [Act.put, List.setIfInBounds_toArray, List.set_cons_zero, List.set_cons_succ, List.getElem_toArray, List.getElem_cons_succ, List.getElem_cons_zero]
  refine wpAnyH_done (by kernel_rfl) ?_ _
  go_wp2
  go_ret
  exact ⟨rfl, hB1⟩
theorem read_no (h : Bx w W b0 b1 v root) (a va n pa x : Int) (ha : a = 1 ∨ a = 2 ∨ a = 3) (p : Plc w b0 b1 v root a va n (.returned (.int .u64 pa))) (t : Lod w v pa n x false) : Calls Tryz.prog 70 #[mm b0 b1 v, .int .i64 a, .int .u64 va, .int .i64 n] W fun e w' => e = up (cAc a) va ∧ Below W.heap.size W w' := by
  have hB : Below W.heap.size W (W.alloc (.cells #[.func (.func 69) #[] #[.pointer (some ⟨b0, 0, .none⟩), .pointer (some ⟨b1, 0, .none⟩)], .func (.func 13) #[v] #[], .func (.func 12) #[v] #[]] 95)).drew := btr (below1 W _) (blw_drewN _ _ 1)
  have c1 := p _ (h.below hB)
  have k0 : (W.alloc (.cells #[.func (.func 69) #[] #[.pointer (some ⟨b0, 0, .none⟩), .pointer (some ⟨b1, 0, .none⟩)], .func (.func 13) #[v] #[], .func (.func 12) #[v] #[]] 95)).drew.cell? ⟨W.heap.size, 0, .none⟩ = some (.func (.func 69) #[] #[.pointer (some ⟨b0, 0, .none⟩), .pointer (some ⟨b1, 0, .none⟩)]) ∧ (W.alloc (.cells #[.func (.func 69) #[] #[.pointer (some ⟨b0, 0, .none⟩), .pointer (some ⟨b1, 0, .none⟩)], .func (.func 13) #[v] #[], .func (.func 12) #[v] #[]] 95)).drew.cell? ⟨W.heap.size, 1, .none⟩ = some (.func (.func 13) #[v] #[]) ∧ (W.alloc (.cells #[.func (.func 69) #[] #[.pointer (some ⟨b0, 0, .none⟩), .pointer (some ⟨b1, 0, .none⟩)], .func (.func 13) #[v] #[], .func (.func 12) #[v] #[]] 95)).drew.cell? ⟨W.heap.size, 2, .none⟩ = some (.func (.func 12) #[v] #[]) := ⟨cell_new W _ _ _ _ rfl, cell_new W _ _ _ _ rfl, cell_new W _ _ _ _ rfl⟩
  have hlt : W.heap.size < (W.alloc (.cells #[.func (.func 69) #[] #[.pointer (some ⟨b0, 0, .none⟩), .pointer (some ⟨b1, 0, .none⟩)], .func (.func 13) #[v] #[], .func (.func 12) #[v] #[]] 95)).drew.heap.size := lt_of_cell k0.1
  have HT : Hid (∀ W2, Below W.heap.size W W2 → Calls Tryz.prog 13 #[v, .int .u64 pa, .int .i64 n] W2 fun e w' => e = .returned (.tuple #[.int .u64 x, .bool false]) ∧ Below W2.heap.size W2 w') := fun W2 hW => t W2 (h.b.trans (hW.mono h.b.size))
  have c3 := causes_any a ha
  clear ha
  clear h p
  unfold mm at *
  go_enter Tryz.func70, Tryz.ntmps70
  go_upto_region 1 with fail
  refine wp_region_held_drew (S := (fun W2 => W2.cell? ⟨W.heap.size, 0, .none⟩ = some (.func (.func 69) #[] #[.pointer (some ⟨b0, 0, .none⟩), .pointer (some ⟨b1, 0, .none⟩)]) ∧ W2.cell? ⟨W.heap.size, 1, .none⟩ = some (.func (.func 13) #[v] #[]) ∧ W2.cell? ⟨W.heap.size, 2, .none⟩ = some (.func (.func 12) #[v] #[]))) (by kernel_rfl) k0 (fun hHeld => ?_)
  generalize (W.alloc (.cells #[.func (.func 69) #[] #[.pointer (some ⟨b0, 0, .none⟩), .pointer (some ⟨b1, 0, .none⟩)], .func (.func 13) #[v] #[], .func (.func 12) #[v] #[]] 95)).drew = W1 at *
  refine wpAnyH_take (i := 0) (v := (.pointer (some ⟨W.heap.size, 1, .none⟩))) rfl (by kernel_rfl) (by kernel_rfl) (by kernel_rfl) (fun _ _ _ h => h) (Or.inl ⟨by rfl, fun ww hSw => by (try dsimp only at hSw); go_simp⟩) (by assumption) ?_
  simp only [Act.put, List.setIfInBounds_toArray, List.set_cons_zero, List.set_cons_succ, List.getElem_toArray, List.getElem_cons_succ, List.getElem_cons_zero]
  refine wpAnyH_take (i := 1) (v := (.func (.func 13) #[v] #[])) rfl (by kernel_rfl) (by kernel_rfl) (by kernel_rfl) (fun _ _ _ h => h) (Or.inl ⟨by rfl, fun ww hSw => by (try dsimp only at hSw); go_simp⟩) (by assumption) ?_
  simp only [Act.put, List.setIfInBounds_toArray, List.set_cons_zero, List.set_cons_succ, List.getElem_toArray, List.getElem_cons_succ, List.getElem_cons_zero]
  refine wpAnyH_take (i := 2) (v := (.agg #[.func (.func 69) #[] #[.pointer (some ⟨b0, 0, .none⟩), .pointer (some ⟨b1, 0, .none⟩)], .func (.func 13) #[v] #[], .func (.func 12) #[v] #[]])) rfl (by kernel_rfl) (by kernel_rfl) (by kernel_rfl) (fun _ _ _ h => h) (Or.inl ⟨by rfl, fun ww hSw => by (try dsimp only at hSw); go_simp⟩) (by assumption) ?_
  simp only [Act.put, List.setIfInBounds_toArray, List.set_cons_zero, List.set_cons_succ, List.getElem_toArray, List.getElem_cons_succ, List.getElem_cons_zero]
  refine wpAnyH_take (i := 3) (v := (.int .i64 a)) rfl (by kernel_rfl) (by kernel_rfl) (by kernel_rfl) (fun _ _ _ h => h) (Or.inl ⟨by rfl, fun ww hSw => by (try dsimp only at hSw); go_simp⟩) (by assumption) ?_
  simp only [Act.put, List.setIfInBounds_toArray, List.set_cons_zero, List.set_cons_succ, List.getElem_toArray, List.getElem_cons_succ, List.getElem_cons_zero]
  refine wpAnyH_take (i := 4) (v := (.int .u64 va)) rfl (by kernel_rfl) (by kernel_rfl) (by kernel_rfl) (fun _ _ _ h => h) (Or.inl ⟨by rfl, fun ww hSw => by (try dsimp only at hSw); go_simp⟩) (by assumption) ?_
  simp only [Act.put, List.setIfInBounds_toArray, List.set_cons_zero, List.set_cons_succ, List.getElem_toArray, List.getElem_cons_succ, List.getElem_cons_zero]
  refine wpAnyH_take (i := 5) (v := (.int .i64 n)) rfl (by kernel_rfl) (by kernel_rfl) (by kernel_rfl) (fun _ _ _ h => h) (Or.inl ⟨by rfl, fun ww hSw => by (try dsimp only at hSw); go_simp⟩) (by assumption) ?_
  simp only [Act.put, List.setIfInBounds_toArray, List.set_cons_zero, List.set_cons_succ, List.getElem_toArray, List.getElem_cons_succ, List.getElem_cons_zero]
  refine wpAnyH_take (i := 7) (v := (.int .i64 n)) rfl (by kernel_rfl) (by kernel_rfl) (by kernel_rfl) (fun _ _ _ h => h) (Or.inl ⟨by rfl, fun ww hSw => by (try dsimp only at hSw); go_simp⟩) (by assumption) ?_
  simp only [Act.put, List.setIfInBounds_toArray, List.set_cons_zero, List.set_cons_succ, List.getElem_toArray, List.getElem_cons_succ, List.getElem_cons_zero]
  refine wpAnyH_ready (rs := [6]) (by kernel_rfl) (by simp) ?_
  refine AllReadyH.cons rfl (fun K hK => ?_) AllReadyH.nil
  go_simp
  go_at_call 131
  refine c1.mono ?_
  rintro e w0 ⟨rfl, hb⟩
  have hB0 : Below W.heap.size W w0 := hB.trans (hb.mono hB.size)
  have k1 : w0.cell? ⟨W.heap.size, 0, .none⟩ = some (.func (.func 69) #[] #[.pointer (some ⟨b0, 0, .none⟩), .pointer (some ⟨b1, 0, .none⟩)]) ∧ w0.cell? ⟨W.heap.size, 1, .none⟩ = some (.func (.func 13) #[v] #[]) ∧ w0.cell? ⟨W.heap.size, 2, .none⟩ = some (.func (.func 12) #[v] #[]) := ⟨(hb.cell hlt).trans k0.1, (hb.cell hlt).trans k0.2.1, (hb.cell hlt).trans k0.2.2⟩
  have c2 := HT.out w0 hB0
  refine hK.out _ _ k1 (fun hHeld => ?_)
  clear hK K
  try simp only [Act.put, List.setIfInBounds_toArray, List.set_cons_zero, List.set_cons_succ, List.getElem_toArray, List.getElem_cons_succ, List.getElem_cons_zero]
  refine wpAnyH_ready (rs := [8]) (by kernel_rfl) (by simp) ?_
  refine AllReadyH.cons rfl (fun K hK => ?_) AllReadyH.nil
  go_simp
  go_at_call 13
  refine c2.mono ?_
  rintro e w1 ⟨rfl, hb1⟩
  have hB1 : Below W.heap.size W w1 := hB0.trans (hb1.mono hB0.size)
  have hl0 : W.heap.size < w0.heap.size := lt_of_cell k1.1
  have k2 : w1.cell? ⟨W.heap.size, 0, .none⟩ = some (.func (.func 69) #[] #[.pointer (some ⟨b0, 0, .none⟩), .pointer (some ⟨b1, 0, .none⟩)]) ∧ w1.cell? ⟨W.heap.size, 1, .none⟩ = some (.func (.func 13) #[v] #[]) ∧ w1.cell? ⟨W.heap.size, 2, .none⟩ = some (.func (.func 12) #[v] #[]) := ⟨(hb1.cell hl0).trans k1.1, (hb1.cell hl0).trans k1.2.1, (hb1.cell hl0).trans k1.2.2⟩
  refine hK.out _ _ k2 (fun hHeld => ?_)
  clear hK K
  try simp only [Act.put, List.setIfInBounds_toArray, List.set_cons_zero, List.set_cons_succ, List.getElem_toArray, List.getElem_cons_succ, List.getElem_cons_zero]
  refine wpAnyH_take (i := 9) (v := (.tuple #[.int .u64 x, .bool false])) rfl (by kernel_rfl) (by kernel_rfl) (by kernel_rfl) (fun _ _ _ h => h) (Or.inl ⟨by rfl, fun ww hSw => by (try dsimp only at hSw); go_simp⟩) (by assumption) ?_
  simp only [Act.put, List.setIfInBounds_toArray, List.set_cons_zero, List.set_cons_succ, List.getElem_toArray, List.getElem_cons_succ, List.getElem_cons_zero]
  refine wpAnyH_take (i := 10) (v := (.int .u64 x)) rfl (by kernel_rfl) (by kernel_rfl) (by kernel_rfl) (fun _ _ _ h => h) (Or.inl ⟨by rfl, fun ww hSw => by (try dsimp only at hSw); go_simp⟩) (by assumption) ?_
  simp only [Act.put, List.setIfInBounds_toArray, List.set_cons_zero, List.set_cons_succ, List.getElem_toArray, List.getElem_cons_succ, List.getElem_cons_zero]
  refine wpAnyH_take (i := 11) (v := (.bool false)) rfl (by kernel_rfl) (by kernel_rfl) (by kernel_rfl) (fun _ _ _ h => h) (Or.inl ⟨by rfl, fun ww hSw => by (try dsimp only at hSw); go_simp⟩) (by assumption) ?_
  simp only [Act.put, List.setIfInBounds_toArray, List.set_cons_zero, List.set_cons_succ, List.getElem_toArray, List.getElem_cons_succ, List.getElem_cons_zero]
  refine wpAnyH_take (i := 12) (v := (.int .u64 x)) rfl (by kernel_rfl) (by kernel_rfl) (by kernel_rfl) (fun _ _ _ h => h) (Or.inl ⟨by rfl, fun ww hSw => by (try dsimp only at hSw); go_simp⟩) (by assumption) ?_
  simp only [Act.put, List.setIfInBounds_toArray, List.set_cons_zero, List.set_cons_succ, List.getElem_toArray, List.getElem_cons_succ, List.getElem_cons_zero]
  refine wpAnyH_take (i := 13) (v := (.bool false)) rfl (by kernel_rfl) (by kernel_rfl) (by kernel_rfl) (fun _ _ _ h => h) (Or.inl ⟨by rfl, fun ww hSw => by (try dsimp only at hSw); go_simp⟩) (by assumption) ?_
  simp only [Act.put, List.setIfInBounds_toArray, List.set_cons_zero, List.set_cons_succ, List.getElem_toArray, List.getElem_cons_succ, List.getElem_cons_zero]
  refine wpAnyH_done (by kernel_rfl) ?_ _
  go_wp2_with (first | (go_at_call 133; refine (c3 _).mono ?_; rintro e w2 ⟨rfl, hb2⟩) | (go_at_call 132; refine (giveUp_any _ _ _).mono ?_; rintro e w3 ⟨rfl, hb3⟩))
  exact ⟨rfl, rfl, btr (btr hB1 hb2) hb3⟩
end
end Go.Proofs.YtcjkedgoinbofaaGreat
