import Derived.Test.YtnghcadhilfgnaaBY2
namespace Go.Proofs.Ytnghcadhilfgnaa
open Go.RowKit
set_option linter.unusedVariables false
set_option linter.unusedSimpArgs false
section
variable {Z : Nat} {x p b m q hb lb N : Nat} {fb : Nat → Nat} {B : Nat → Int} {L : List Nat} {w : World}
set_option maxHeartbeats 4000000 in
set_option maxRecDepth 100000 in
theorem step_alloc (h : Pq Z w x p b m q hb fb lb N B L B L) (pa n v : Int) (data : Value) (hp : 0 ≤ pa ∧ pa < 18446744073709551616) (hn : -9223372036854775808 ≤ n ∧ n ≤ 9223372036854775807) (hv : 0 ≤ v ∧ v < 18446744073709551616) : Calls Try.prog 5 #[.pointer (some ⟨x, 0, .none⟩), .agg #[.int .i64 1, .int .u64 pa, .int .i64 n, .int .u64 v, data]] w fun e w' => StepP Z w x N e w' := by
  have hb0 := below_past w (.cells #[.int .i64 1, .int .u64 pa, .int .i64 n, .int .u64 v, data] 29)
  have hB := OpB.new w 1 pa n v data
  have h1 := h.below hb0
  have zZ : Z ≤ w.heap.size := by have := h.xlt; have := h.zx; omega
  have k0 := h1.x0
  have k1 := h1.x1
  obtain ⟨b0, b1, b2, b3, b4⟩ := hB
  have HW : Hid (Below Z w (w.alloc (.cells #[.int .i64 1, .int .u64 pa, .int .i64 n, .int .u64 v, data] 29)) ∧ Z ≤ (w.alloc (.cells #[.int .i64 1, .int .u64 pa, .int .i64 n, .int .u64 v, data] 29)).heap.size) := ⟨hb0.mono zZ, Nat.le_trans zZ hb0.size⟩
  have HP : Hid (Pq Z (w.alloc (.cells #[.int .i64 1, .int .u64 pa, .int .i64 n, .int .u64 v, data] 29)) x p b m q hb fb lb N B L B L) := h1
  have nb : ¬ Mb p b m q hb lb N fb L w.heap.size := fun e => by have := h.mlt _ e; omega
  have lW : w.heap.size < (w.alloc (.cells #[.int .i64 1, .int .u64 pa, .int .i64 n, .int .u64 v, data] 29)).heap.size := by simp
  clear h hb0
  obtain ⟨a, ok, c15⟩ := pair_alloc h1
  go_enter Try.func5, Try.ntmps5
  go_wp2_with (first | (go_at_call 15; refine c15.mono ?_; rintro e w1 ⟨rfl, hf1, c16⟩; have r1 : w1.cell? ⟨x, 1, .none⟩ = some (.pointer (some ⟨q, 0, .none⟩)) := (World.cell?_of_block (hf1.block x h1.xlt h1.xm)).trans k1) | (go_at_call 16; refine (c16 w1 (Below.refl _ _)).mono ?_; rintro e w2 ht; obtain ⟨rfl, hf2, _⟩ := id ht; clear c15 c16 hf1 r1) | fail)
  go_ret
  exact ⟨by simp, ht.pl, HW.out.1.trans (h1.low hf2)⟩
set_option maxHeartbeats 4000000 in
set_option maxRecDepth 100000 in
theorem step_free (h : Pq Z w x p b m q hb fb lb N B L B L) (pa n v : Int) (data : Value) (hp : 0 ≤ pa ∧ pa < 18446744073709551616) (hn : -9223372036854775808 ≤ n ∧ n ≤ 9223372036854775807) (hv : 0 ≤ v ∧ v < 18446744073709551616) : Calls Try.prog 5 #[.pointer (some ⟨x, 0, .none⟩), .agg #[.int .i64 2, .int .u64 pa, .int .i64 n, .int .u64 v, data]] w fun e w' => StepP Z w x N e w' := by
  have hb0 := below_past w (.cells #[.int .i64 2, .int .u64 pa, .int .i64 n, .int .u64 v, data] 29)
  have hB := OpB.new w 2 pa n v data
  have h1 := h.below hb0
  have zZ : Z ≤ w.heap.size := by have := h.xlt; have := h.zx; omega
  have k0 := h1.x0
  have k1 := h1.x1
  obtain ⟨b0, b1, b2, b3, b4⟩ := hB
  have HW : Hid (Below Z w (w.alloc (.cells #[.int .i64 2, .int .u64 pa, .int .i64 n, .int .u64 v, data] 29)) ∧ Z ≤ (w.alloc (.cells #[.int .i64 2, .int .u64 pa, .int .i64 n, .int .u64 v, data] 29)).heap.size) := ⟨hb0.mono zZ, Nat.le_trans zZ hb0.size⟩
  have HP : Hid (Pq Z (w.alloc (.cells #[.int .i64 2, .int .u64 pa, .int .i64 n, .int .u64 v, data] 29)) x p b m q hb fb lb N B L B L) := h1
  have nb : ¬ Mb p b m q hb lb N fb L w.heap.size := fun e => by have := h.mlt _ e; omega
  have lW : w.heap.size < (w.alloc (.cells #[.int .i64 2, .int .u64 pa, .int .i64 n, .int .u64 v, data] 29)).heap.size := by simp
  clear h hb0
  go_enter Try.func5, Try.ntmps5
  go_upto_region 7 with fail
  generalize (w.alloc (.cells #[.int .i64 2, .int .u64 pa, .int .i64 n, .int .u64 v, data] 29)) = W at *
  obtain ⟨nn, c17⟩ := pair_free (h1.below ((Below.refl _ _).drew)) pa hp
  have HKP : Hid (∀ V, Fx (Mb p b m q hb lb N fb L) W.drew V → V.cell? ⟨x, 0, .none⟩ = some (.pointer (some ⟨p, 0, .none⟩)) ∧ V.cell? ⟨x, 1, .none⟩ = some (.pointer (some ⟨q, 0, .none⟩)) ∧ V.cell? ⟨w.heap.size, 1, .none⟩ = some (.int .u64 pa) ∧ V.cell? ⟨w.heap.size, 2, .none⟩ = some (.int .i64 n) ∧ V.cell? ⟨w.heap.size, 3, .none⟩ = some (.int .u64 v)) := fun V f => ⟨(World.cell?_of_block (f.block x h1.xlt h1.xm)).trans k0, (World.cell?_of_block (f.block x h1.xlt h1.xm)).trans k1, (World.cell?_of_block (f.block w.heap.size lW nb)).trans b1, (World.cell?_of_block (f.block w.heap.size lW nb)).trans b2, (World.cell?_of_block (f.block w.heap.size lW nb)).trans b3⟩
  have HLW : Hid (∀ V, Fx (Mb p b m q hb lb N fb L) W.drew V → Below Z w V) := fun V f => HW.out.1.drew.trans ((h1.below ((Below.refl _ _).drew)).low f)
  have j0 : W.drew.cell? ⟨x, 0, .none⟩ = some (.pointer (some ⟨p, 0, .none⟩)) ∧ W.drew.cell? ⟨x, 1, .none⟩ = some (.pointer (some ⟨q, 0, .none⟩)) ∧ W.drew.cell? ⟨w.heap.size, 1, .none⟩ = some (.int .u64 pa) ∧ W.drew.cell? ⟨w.heap.size, 2, .none⟩ = some (.int .i64 n) ∧ W.drew.cell? ⟨w.heap.size, 3, .none⟩ = some (.int .u64 v) := ⟨k0, k1, b1, b2, b3⟩
  clear h1
  go_region_held3 (fun V => V.cell? ⟨x, 0, .none⟩ = some (.pointer (some ⟨p, 0, .none⟩)) ∧ V.cell? ⟨x, 1, .none⟩ = some (.pointer (some ⟨q, 0, .none⟩)) ∧ V.cell? ⟨w.heap.size, 1, .none⟩ = some (.int .u64 pa) ∧ V.cell? ⟨w.heap.size, 2, .none⟩ = some (.int .i64 n) ∧ V.cell? ⟨w.heap.size, 3, .none⟩ = some (.int .u64 v)) (first | assumption | exact j0) (first | (go_at_call 17; refine c17.mono ?_; rintro e w1 ⟨rfl, hf1, c18⟩; have j1 := HKP.out w1 hf1) | (go_at_call 18; refine (c18 w1 (Below.refl _ _)).mono ?_; rintro e w2 ht; obtain ⟨rfl, hf2, _⟩ := id ht; have j2 := HKP.out w2 hf2))
  go_wp2
  go_ret
  exact ⟨by simp, ht.pl, HLW.out w2 hf2⟩
set_option maxHeartbeats 4000000 in
set_option maxRecDepth 100000 in
theorem step_load (h : Pq Z w x p b m q hb fb lb N B L B L) (pa n v : Int) (data : Value) (hp : 0 ≤ pa ∧ pa < 18446744073709551616) (hn : -9223372036854775808 ≤ n ∧ n ≤ 9223372036854775807) (hv : 0 ≤ v ∧ v < 18446744073709551616) : Calls Try.prog 5 #[.pointer (some ⟨x, 0, .none⟩), .agg #[.int .i64 3, .int .u64 pa, .int .i64 n, .int .u64 v, data]] w fun e w' => StepP Z w x N e w' := by
  have hb0 := below_past w (.cells #[.int .i64 3, .int .u64 pa, .int .i64 n, .int .u64 v, data] 29)
  have hB := OpB.new w 3 pa n v data
  have h1 := h.below hb0
  have zZ : Z ≤ w.heap.size := by have := h.xlt; have := h.zx; omega
  have k0 := h1.x0
  have k1 := h1.x1
  obtain ⟨b0, b1, b2, b3, b4⟩ := hB
  have HW : Hid (Below Z w (w.alloc (.cells #[.int .i64 3, .int .u64 pa, .int .i64 n, .int .u64 v, data] 29)) ∧ Z ≤ (w.alloc (.cells #[.int .i64 3, .int .u64 pa, .int .i64 n, .int .u64 v, data] 29)).heap.size) := ⟨hb0.mono zZ, Nat.le_trans zZ hb0.size⟩
  have HP : Hid (Pq Z (w.alloc (.cells #[.int .i64 3, .int .u64 pa, .int .i64 n, .int .u64 v, data] 29)) x p b m q hb fb lb N B L B L) := h1
  have nb : ¬ Mb p b m q hb lb N fb L w.heap.size := fun e => by have := h.mlt _ e; omega
  have lW : w.heap.size < (w.alloc (.cells #[.int .i64 3, .int .u64 pa, .int .i64 n, .int .u64 v, data] 29)).heap.size := by simp
  clear h hb0
  go_enter Try.func5, Try.ntmps5
  go_upto_region 9 with fail
  generalize (w.alloc (.cells #[.int .i64 3, .int .u64 pa, .int .i64 n, .int .u64 v, data] 29)) = W at *
  obtain ⟨vv, ok, c19⟩ := pair_load (h1.below ((Below.refl _ _).drew)) pa n hp hn
  have HKP : Hid (∀ V, Fx (Mb p b m q hb lb N fb L) W.drew V → V.cell? ⟨x, 0, .none⟩ = some (.pointer (some ⟨p, 0, .none⟩)) ∧ V.cell? ⟨x, 1, .none⟩ = some (.pointer (some ⟨q, 0, .none⟩)) ∧ V.cell? ⟨w.heap.size, 1, .none⟩ = some (.int .u64 pa) ∧ V.cell? ⟨w.heap.size, 2, .none⟩ = some (.int .i64 n) ∧ V.cell? ⟨w.heap.size, 3, .none⟩ = some (.int .u64 v)) := fun V f => ⟨(World.cell?_of_block (f.block x h1.xlt h1.xm)).trans k0, (World.cell?_of_block (f.block x h1.xlt h1.xm)).trans k1, (World.cell?_of_block (f.block w.heap.size lW nb)).trans b1, (World.cell?_of_block (f.block w.heap.size lW nb)).trans b2, (World.cell?_of_block (f.block w.heap.size lW nb)).trans b3⟩
  have HLW : Hid (∀ V, Fx (Mb p b m q hb lb N fb L) W.drew V → Below Z w V) := fun V f => HW.out.1.drew.trans ((h1.below ((Below.refl _ _).drew)).low f)
  have j0 : W.drew.cell? ⟨x, 0, .none⟩ = some (.pointer (some ⟨p, 0, .none⟩)) ∧ W.drew.cell? ⟨x, 1, .none⟩ = some (.pointer (some ⟨q, 0, .none⟩)) ∧ W.drew.cell? ⟨w.heap.size, 1, .none⟩ = some (.int .u64 pa) ∧ W.drew.cell? ⟨w.heap.size, 2, .none⟩ = some (.int .i64 n) ∧ W.drew.cell? ⟨w.heap.size, 3, .none⟩ = some (.int .u64 v) := ⟨k0, k1, b1, b2, b3⟩
  clear h1
  go_region_held3 (fun V => V.cell? ⟨x, 0, .none⟩ = some (.pointer (some ⟨p, 0, .none⟩)) ∧ V.cell? ⟨x, 1, .none⟩ = some (.pointer (some ⟨q, 0, .none⟩)) ∧ V.cell? ⟨w.heap.size, 1, .none⟩ = some (.int .u64 pa) ∧ V.cell? ⟨w.heap.size, 2, .none⟩ = some (.int .i64 n) ∧ V.cell? ⟨w.heap.size, 3, .none⟩ = some (.int .u64 v)) (first | assumption | exact j0) (first | (go_at_call 19; refine c19.mono ?_; rintro e w1 ⟨rfl, hf1, c20⟩; have j1 := HKP.out w1 hf1))
  have hbd : Below w1.heap.size w1 w1.drew := (Below.refl _ _).drew
  have j1d := HKP.out w1.drew (hf1.then_below hbd)
  have c20' := c20 w1.drew hbd
  go_upto_region 10 with fail
  go_region_held3 (fun V => V.cell? ⟨x, 0, .none⟩ = some (.pointer (some ⟨p, 0, .none⟩)) ∧ V.cell? ⟨x, 1, .none⟩ = some (.pointer (some ⟨q, 0, .none⟩)) ∧ V.cell? ⟨w.heap.size, 1, .none⟩ = some (.int .u64 pa) ∧ V.cell? ⟨w.heap.size, 2, .none⟩ = some (.int .i64 n) ∧ V.cell? ⟨w.heap.size, 3, .none⟩ = some (.int .u64 v)) (first | assumption | exact j1d) (first | (go_at_call 20; refine c20'.mono ?_; rintro e w2 ht; obtain ⟨rfl, hf2, _⟩ := id ht; have j2 := HKP.out w2 hf2))
  go_wp2
  go_ret
  exact ⟨by simp, ht.pl, HLW.out w2 hf2⟩
set_option maxHeartbeats 4000000 in
set_option maxRecDepth 100000 in
theorem step_store (h : Pq Z w x p b m q hb fb lb N B L B L) (pa n v : Int) (data : Value) (hp : 0 ≤ pa ∧ pa < 18446744073709551616) (hn : -9223372036854775808 ≤ n ∧ n ≤ 9223372036854775807) (hv : 0 ≤ v ∧ v < 18446744073709551616) : Calls Try.prog 5 #[.pointer (some ⟨x, 0, .none⟩), .agg #[.int .i64 4, .int .u64 pa, .int .i64 n, .int .u64 v, data]] w fun e w' => StepP Z w x N e w' := by
  have hb0 := below_past w (.cells #[.int .i64 4, .int .u64 pa, .int .i64 n, .int .u64 v, data] 29)
  have hB := OpB.new w 4 pa n v data
  have h1 := h.below hb0
  have zZ : Z ≤ w.heap.size := by have := h.xlt; have := h.zx; omega
  have k0 := h1.x0
  have k1 := h1.x1
  obtain ⟨b0, b1, b2, b3, b4⟩ := hB
  have HW : Hid (Below Z w (w.alloc (.cells #[.int .i64 4, .int .u64 pa, .int .i64 n, .int .u64 v, data] 29)) ∧ Z ≤ (w.alloc (.cells #[.int .i64 4, .int .u64 pa, .int .i64 n, .int .u64 v, data] 29)).heap.size) := ⟨hb0.mono zZ, Nat.le_trans zZ hb0.size⟩
  have HP : Hid (Pq Z (w.alloc (.cells #[.int .i64 4, .int .u64 pa, .int .i64 n, .int .u64 v, data] 29)) x p b m q hb fb lb N B L B L) := h1
  have nb : ¬ Mb p b m q hb lb N fb L w.heap.size := fun e => by have := h.mlt _ e; omega
  have lW : w.heap.size < (w.alloc (.cells #[.int .i64 4, .int .u64 pa, .int .i64 n, .int .u64 v, data] 29)).heap.size := by simp
  clear h hb0
  go_enter Try.func5, Try.ntmps5
  go_upto_region 13 with fail
  generalize (w.alloc (.cells #[.int .i64 4, .int .u64 pa, .int .i64 n, .int .u64 v, data] 29)) = W at *
  obtain ⟨ok, c21⟩ := pair_store (h1.below ((Below.refl _ _).drew)) pa n v hp hn hv
  have HKP : Hid (∀ V, Fx (Mb p b m q hb lb N fb L) W.drew V → V.cell? ⟨x, 0, .none⟩ = some (.pointer (some ⟨p, 0, .none⟩)) ∧ V.cell? ⟨x, 1, .none⟩ = some (.pointer (some ⟨q, 0, .none⟩)) ∧ V.cell? ⟨w.heap.size, 1, .none⟩ = some (.int .u64 pa) ∧ V.cell? ⟨w.heap.size, 2, .none⟩ = some (.int .i64 n) ∧ V.cell? ⟨w.heap.size, 3, .none⟩ = some (.int .u64 v)) := fun V f => ⟨(World.cell?_of_block (f.block x h1.xlt h1.xm)).trans k0, (World.cell?_of_block (f.block x h1.xlt h1.xm)).trans k1, (World.cell?_of_block (f.block w.heap.size lW nb)).trans b1, (World.cell?_of_block (f.block w.heap.size lW nb)).trans b2, (World.cell?_of_block (f.block w.heap.size lW nb)).trans b3⟩
  have HLW : Hid (∀ V, Fx (Mb p b m q hb lb N fb L) W.drew V → Below Z w V) := fun V f => HW.out.1.drew.trans ((h1.below ((Below.refl _ _).drew)).low f)
  have j0 : W.drew.cell? ⟨x, 0, .none⟩ = some (.pointer (some ⟨p, 0, .none⟩)) ∧ W.drew.cell? ⟨x, 1, .none⟩ = some (.pointer (some ⟨q, 0, .none⟩)) ∧ W.drew.cell? ⟨w.heap.size, 1, .none⟩ = some (.int .u64 pa) ∧ W.drew.cell? ⟨w.heap.size, 2, .none⟩ = some (.int .i64 n) ∧ W.drew.cell? ⟨w.heap.size, 3, .none⟩ = some (.int .u64 v) := ⟨k0, k1, b1, b2, b3⟩
  clear h1
  go_region_held3 (fun V => V.cell? ⟨x, 0, .none⟩ = some (.pointer (some ⟨p, 0, .none⟩)) ∧ V.cell? ⟨x, 1, .none⟩ = some (.pointer (some ⟨q, 0, .none⟩)) ∧ V.cell? ⟨w.heap.size, 1, .none⟩ = some (.int .u64 pa) ∧ V.cell? ⟨w.heap.size, 2, .none⟩ = some (.int .i64 n) ∧ V.cell? ⟨w.heap.size, 3, .none⟩ = some (.int .u64 v)) (first | assumption | exact j0) (first | (go_at_call 21; refine c21.mono ?_; rintro e w1 ⟨rfl, hf1, c22⟩; have j1 := HKP.out w1 hf1) | (go_at_call 22; refine (c22 w1 (Below.refl _ _)).mono ?_; rintro e w2 ht; obtain ⟨rfl, hf2, _⟩ := id ht; have j2 := HKP.out w2 hf2))
  go_wp2
  go_ret
  exact ⟨by simp, ht.pl, HLW.out w2 hf2⟩
set_option maxHeartbeats 4000000 in
set_option maxRecDepth 100000 in
theorem step_look (h : Pq Z w x p b m q hb fb lb N B L B L) (pa n v : Int) (data : Value) (hp : 0 ≤ pa ∧ pa < 18446744073709551616) (hn : -9223372036854775808 ≤ n ∧ n ≤ 9223372036854775807) (hv : 0 ≤ v ∧ v < 18446744073709551616) : Calls Try.prog 5 #[.pointer (some ⟨x, 0, .none⟩), .agg #[.int .i64 8, .int .u64 pa, .int .i64 n, .int .u64 v, data]] w fun e w' => StepP Z w x N e w' := by
  have hb0 := below_past w (.cells #[.int .i64 8, .int .u64 pa, .int .i64 n, .int .u64 v, data] 29)
  have hB := OpB.new w 8 pa n v data
  have h1 := h.below hb0
  have zZ : Z ≤ w.heap.size := by have := h.xlt; have := h.zx; omega
  have k0 := h1.x0
  have k1 := h1.x1
  obtain ⟨b0, b1, b2, b3, b4⟩ := hB
  have HW : Hid (Below Z w (w.alloc (.cells #[.int .i64 8, .int .u64 pa, .int .i64 n, .int .u64 v, data] 29)) ∧ Z ≤ (w.alloc (.cells #[.int .i64 8, .int .u64 pa, .int .i64 n, .int .u64 v, data] 29)).heap.size) := ⟨hb0.mono zZ, Nat.le_trans zZ hb0.size⟩
  have HP : Hid (Pq Z (w.alloc (.cells #[.int .i64 8, .int .u64 pa, .int .i64 n, .int .u64 v, data] 29)) x p b m q hb fb lb N B L B L) := h1
  have nb : ¬ Mb p b m q hb lb N fb L w.heap.size := fun e => by have := h.mlt _ e; omega
  have lW : w.heap.size < (w.alloc (.cells #[.int .i64 8, .int .u64 pa, .int .i64 n, .int .u64 v, data] 29)).heap.size := by simp
  clear h hb0
  have ll := length_le N L h1.r.mem.n1 h1.r.nd h1.r.lt
  go_enter Try.func5, Try.ntmps5
  go_upto_region 19 with fail
  generalize (w.alloc (.cells #[.int .i64 8, .int .u64 pa, .int .i64 n, .int .u64 v, data] 29)) = W at *
  have HB : Hid (∀ V, Below W.heap.size W V → ((V.cell? ⟨x, 0, .none⟩ = some (.pointer (some ⟨p, 0, .none⟩)) ∧ V.cell? ⟨x, 1, .none⟩ = some (.pointer (some ⟨q, 0, .none⟩)) ∧ V.cell? ⟨w.heap.size, 1, .none⟩ = some (.int .u64 pa) ∧ V.cell? ⟨w.heap.size, 2, .none⟩ = some (.int .i64 n) ∧ V.cell? ⟨w.heap.size, 3, .none⟩ = some (.int .u64 v)) ∧ Below W.heap.size W V) ∧ Pq Z V x p b m q hb fb lb N B L B L) := fun V f => ⟨⟨⟨(f.cell h1.xlt).trans k0, (f.cell h1.xlt).trans k1, (f.cell lW).trans b1, (f.cell lW).trans b2, (f.cell lW).trans b3⟩, f⟩, h1.below f⟩
  have j0 : ((W.drew.cell? ⟨x, 0, .none⟩ = some (.pointer (some ⟨p, 0, .none⟩)) ∧ W.drew.cell? ⟨x, 1, .none⟩ = some (.pointer (some ⟨q, 0, .none⟩)) ∧ W.drew.cell? ⟨w.heap.size, 1, .none⟩ = some (.int .u64 pa) ∧ W.drew.cell? ⟨w.heap.size, 2, .none⟩ = some (.int .i64 n) ∧ W.drew.cell? ⟨w.heap.size, 3, .none⟩ = some (.int .u64 v)) ∧ Below W.heap.size W W.drew) := (HB.out _ ((Below.refl _ _).drew)).1
  have s24 : ∀ V, ((V.cell? ⟨x, 0, .none⟩ = some (.pointer (some ⟨p, 0, .none⟩)) ∧ V.cell? ⟨x, 1, .none⟩ = some (.pointer (some ⟨q, 0, .none⟩)) ∧ V.cell? ⟨w.heap.size, 1, .none⟩ = some (.int .u64 pa) ∧ V.cell? ⟨w.heap.size, 2, .none⟩ = some (.int .i64 n) ∧ V.cell? ⟨w.heap.size, 3, .none⟩ = some (.int .u64 v)) ∧ Below W.heap.size W V) → Calls Try.prog 24 #[.pointer (some ⟨p, 0, .none⟩)] V fun e V' => e = .returned (.int .i64 N) ∧ ((V'.cell? ⟨x, 0, .none⟩ = some (.pointer (some ⟨p, 0, .none⟩)) ∧ V'.cell? ⟨x, 1, .none⟩ = some (.pointer (some ⟨q, 0, .none⟩)) ∧ V'.cell? ⟨w.heap.size, 1, .none⟩ = some (.int .u64 pa) ∧ V'.cell? ⟨w.heap.size, 2, .none⟩ = some (.int .i64 n) ∧ V'.cell? ⟨w.heap.size, 3, .none⟩ = some (.int .u64 v)) ∧ Below W.heap.size W V') := fun V hS => (frames_any (h1.below hS.2).r.mem).mono fun e V' ⟨a, c⟩ => ⟨a, by rw [c]; exact hS⟩
  have s8 : ∀ V, ((V.cell? ⟨x, 0, .none⟩ = some (.pointer (some ⟨p, 0, .none⟩)) ∧ V.cell? ⟨x, 1, .none⟩ = some (.pointer (some ⟨q, 0, .none⟩)) ∧ V.cell? ⟨w.heap.size, 1, .none⟩ = some (.int .u64 pa) ∧ V.cell? ⟨w.heap.size, 2, .none⟩ = some (.int .i64 n) ∧ V.cell? ⟨w.heap.size, 3, .none⟩ = some (.int .u64 v)) ∧ Below W.heap.size W V) → Calls Try.prog 8 #[.pointer (some ⟨q, 0, .none⟩)] V fun e V' => e = .returned (.int .i64 N) ∧ ((V'.cell? ⟨x, 0, .none⟩ = some (.pointer (some ⟨p, 0, .none⟩)) ∧ V'.cell? ⟨x, 1, .none⟩ = some (.pointer (some ⟨q, 0, .none⟩)) ∧ V'.cell? ⟨w.heap.size, 1, .none⟩ = some (.int .u64 pa) ∧ V'.cell? ⟨w.heap.size, 2, .none⟩ = some (.int .i64 n) ∧ V'.cell? ⟨w.heap.size, 3, .none⟩ = some (.int .u64 v)) ∧ Below W.heap.size W V') := fun V hS => (frames_q (h1.below hS.2).qm).mono fun e V' ⟨a, c⟩ => ⟨a, by rw [c]; exact hS⟩
  have s6 : ∀ V, ((V.cell? ⟨x, 0, .none⟩ = some (.pointer (some ⟨p, 0, .none⟩)) ∧ V.cell? ⟨x, 1, .none⟩ = some (.pointer (some ⟨q, 0, .none⟩)) ∧ V.cell? ⟨w.heap.size, 1, .none⟩ = some (.int .u64 pa) ∧ V.cell? ⟨w.heap.size, 2, .none⟩ = some (.int .i64 n) ∧ V.cell? ⟨w.heap.size, 3, .none⟩ = some (.int .u64 v)) ∧ Below W.heap.size W V) → Calls Try.prog 6 #[.pointer (some ⟨p, 0, .none⟩)] V fun e V' => e = .returned (.int .i64 L.length) ∧ ((V'.cell? ⟨x, 0, .none⟩ = some (.pointer (some ⟨p, 0, .none⟩)) ∧ V'.cell? ⟨x, 1, .none⟩ = some (.pointer (some ⟨q, 0, .none⟩)) ∧ V'.cell? ⟨w.heap.size, 1, .none⟩ = some (.int .u64 pa) ∧ V'.cell? ⟨w.heap.size, 2, .none⟩ = some (.int .i64 n) ∧ V'.cell? ⟨w.heap.size, 3, .none⟩ = some (.int .u64 v)) ∧ Below W.heap.size W V') := fun V hS => (count_any (h1.below hS.2).r.mem (Nat.sub_le _ _)).mono fun e V' ⟨a, k, c⟩ => ⟨by rw [a, show (N : Int) - ((N - L.length : Nat) : Int) = L.length by omega], by rw [c]; exact (HB.out (V.drewN k) ⟨hS.2.os, hS.2.tape, hS.2.output, hS.2.size, hS.2.block⟩).1⟩
  have s7 : ∀ V, ((V.cell? ⟨x, 0, .none⟩ = some (.pointer (some ⟨p, 0, .none⟩)) ∧ V.cell? ⟨x, 1, .none⟩ = some (.pointer (some ⟨q, 0, .none⟩)) ∧ V.cell? ⟨w.heap.size, 1, .none⟩ = some (.int .u64 pa) ∧ V.cell? ⟨w.heap.size, 2, .none⟩ = some (.int .i64 n) ∧ V.cell? ⟨w.heap.size, 3, .none⟩ = some (.int .u64 v)) ∧ Below W.heap.size W V) → Calls Try.prog 7 #[.pointer (some ⟨q, 0, .none⟩)] V fun e V' => e = .returned (.int .i64 L.length) ∧ ((V'.cell? ⟨x, 0, .none⟩ = some (.pointer (some ⟨p, 0, .none⟩)) ∧ V'.cell? ⟨x, 1, .none⟩ = some (.pointer (some ⟨q, 0, .none⟩)) ∧ V'.cell? ⟨w.heap.size, 1, .none⟩ = some (.int .u64 pa) ∧ V'.cell? ⟨w.heap.size, 2, .none⟩ = some (.int .i64 n) ∧ V'.cell? ⟨w.heap.size, 3, .none⟩ = some (.int .u64 v)) ∧ Below W.heap.size W V') := fun V hS => (count_q (h1.below hS.2).qm).mono fun e V' ⟨a, c⟩ => ⟨a, by rw [c]; exact hS⟩
  have s25 : ∀ V, ((V.cell? ⟨x, 0, .none⟩ = some (.pointer (some ⟨p, 0, .none⟩)) ∧ V.cell? ⟨x, 1, .none⟩ = some (.pointer (some ⟨q, 0, .none⟩)) ∧ V.cell? ⟨w.heap.size, 1, .none⟩ = some (.int .u64 pa) ∧ V.cell? ⟨w.heap.size, 2, .none⟩ = some (.int .i64 n) ∧ V.cell? ⟨w.heap.size, 3, .none⟩ = some (.int .u64 v)) ∧ Below W.heap.size W V) → Calls Try.prog 25 #[.pointer (some ⟨p, 0, .none⟩), .int .u64 pa] V fun e V' => e = .returned (.bool (isFr pa N && !hdL N L pa)) ∧ ((V'.cell? ⟨x, 0, .none⟩ = some (.pointer (some ⟨p, 0, .none⟩)) ∧ V'.cell? ⟨x, 1, .none⟩ = some (.pointer (some ⟨q, 0, .none⟩)) ∧ V'.cell? ⟨w.heap.size, 1, .none⟩ = some (.int .u64 pa) ∧ V'.cell? ⟨w.heap.size, 2, .none⟩ = some (.int .i64 n) ∧ V'.cell? ⟨w.heap.size, 3, .none⟩ = some (.int .u64 v)) ∧ Below W.heap.size W V') := fun V hS => (isFree_any (h1.below hS.2).r.mem pa hp).mono fun e V' ⟨a, c⟩ => ⟨a, (HB.out _ (hS.2.trans (c.mono hS.2.size))).1⟩
  have s26 : ∀ V, ((V.cell? ⟨x, 0, .none⟩ = some (.pointer (some ⟨p, 0, .none⟩)) ∧ V.cell? ⟨x, 1, .none⟩ = some (.pointer (some ⟨q, 0, .none⟩)) ∧ V.cell? ⟨w.heap.size, 1, .none⟩ = some (.int .u64 pa) ∧ V.cell? ⟨w.heap.size, 2, .none⟩ = some (.int .i64 n) ∧ V.cell? ⟨w.heap.size, 3, .none⟩ = some (.int .u64 v)) ∧ Below W.heap.size W V) → Calls Try.prog 26 #[.pointer (some ⟨q, 0, .none⟩), .int .u64 pa] V fun e V' => e = .returned (.bool (isFr pa N && !hdL N L pa)) ∧ ((V'.cell? ⟨x, 0, .none⟩ = some (.pointer (some ⟨p, 0, .none⟩)) ∧ V'.cell? ⟨x, 1, .none⟩ = some (.pointer (some ⟨q, 0, .none⟩)) ∧ V'.cell? ⟨w.heap.size, 1, .none⟩ = some (.int .u64 pa) ∧ V'.cell? ⟨w.heap.size, 2, .none⟩ = some (.int .i64 n) ∧ V'.cell? ⟨w.heap.size, 3, .none⟩ = some (.int .u64 v)) ∧ Below W.heap.size W V') := fun V hS => (isFreeG_any (h1.below hS.2).qm pa hp).mono fun e V' ⟨a, c⟩ => ⟨a, by rw [c]; exact hS⟩
  have HF : Hid (∀ V, ((V.cell? ⟨x, 0, .none⟩ = some (.pointer (some ⟨p, 0, .none⟩)) ∧ V.cell? ⟨x, 1, .none⟩ = some (.pointer (some ⟨q, 0, .none⟩)) ∧ V.cell? ⟨w.heap.size, 1, .none⟩ = some (.int .u64 pa) ∧ V.cell? ⟨w.heap.size, 2, .none⟩ = some (.int .i64 n) ∧ V.cell? ⟨w.heap.size, 3, .none⟩ = some (.int .u64 v)) ∧ Below W.heap.size W V) → Pl Z V x N ∧ Below Z w V) := fun V hS => ⟨(h1.below hS.2).pl, HW.out.1.trans (hS.2.mono HW.out.2)⟩
  clear h1
  generalize (isFr pa N && !hdL N L pa) = fr at *
  go_region_held3 (fun V => ((V.cell? ⟨x, 0, .none⟩ = some (.pointer (some ⟨p, 0, .none⟩)) ∧ V.cell? ⟨x, 1, .none⟩ = some (.pointer (some ⟨q, 0, .none⟩)) ∧ V.cell? ⟨w.heap.size, 1, .none⟩ = some (.int .u64 pa) ∧ V.cell? ⟨w.heap.size, 2, .none⟩ = some (.int .i64 n) ∧ V.cell? ⟨w.heap.size, 3, .none⟩ = some (.int .u64 v)) ∧ Below W.heap.size W V)) (first | assumption | exact j0) (first | (go_at_call 24; refine (s24 _ (by assumption)).mono ?_; rintro e V1 ⟨rfl, hS1⟩) | (go_at_call 8; refine (s8 _ (by assumption)).mono ?_; rintro e V2 ⟨rfl, hS2⟩) | (go_at_call 6; refine (s6 _ (by assumption)).mono ?_; rintro e V3 ⟨rfl, hS3⟩) | (go_at_call 7; refine (s7 _ (by assumption)).mono ?_; rintro e V4 ⟨rfl, hS4⟩) | (go_at_call 25; refine (s25 _ (by assumption)).mono ?_; rintro e V5 ⟨rfl, hS5⟩) | (go_at_call 26; refine (s26 _ (by assumption)).mono ?_; rintro e V6 ⟨rfl, hS6⟩))
  go_wp2
  go_ret
  exact ⟨by simp, (HF.out _ hS6).1, (HF.out _ hS6).2⟩
set_option maxHeartbeats 4000000 in
set_option maxRecDepth 100000 in
theorem step_image (h : Pq Z w x p b m q hb fb lb N B L B L) (pa n v : Int) (data : Value) (hp : 0 ≤ pa ∧ pa < 18446744073709551616) (hn : -9223372036854775808 ≤ n ∧ n ≤ 9223372036854775807) (hv : 0 ≤ v ∧ v < 18446744073709551616) : Calls Try.prog 5 #[.pointer (some ⟨x, 0, .none⟩), .agg #[.int .i64 10, .int .u64 pa, .int .i64 n, .int .u64 v, data]] w fun e w' => StepP Z w x N e w' := by
  have hb0 := below_past w (.cells #[.int .i64 10, .int .u64 pa, .int .i64 n, .int .u64 v, data] 29)
  have hB := OpB.new w 10 pa n v data
  have h1 := h.below hb0
  have zZ : Z ≤ w.heap.size := by have := h.xlt; have := h.zx; omega
  have k0 := h1.x0
  have k1 := h1.x1
  obtain ⟨b0, b1, b2, b3, b4⟩ := hB
  have HW : Hid (Below Z w (w.alloc (.cells #[.int .i64 10, .int .u64 pa, .int .i64 n, .int .u64 v, data] 29)) ∧ Z ≤ (w.alloc (.cells #[.int .i64 10, .int .u64 pa, .int .i64 n, .int .u64 v, data] 29)).heap.size) := ⟨hb0.mono zZ, Nat.le_trans zZ hb0.size⟩
  have HP : Hid (Pq Z (w.alloc (.cells #[.int .i64 10, .int .u64 pa, .int .i64 n, .int .u64 v, data] 29)) x p b m q hb fb lb N B L B L) := h1
  have nb : ¬ Mb p b m q hb lb N fb L w.heap.size := fun e => by have := h.mlt _ e; omega
  have lW : w.heap.size < (w.alloc (.cells #[.int .i64 10, .int .u64 pa, .int .i64 n, .int .u64 v, data] 29)).heap.size := by simp
  clear h hb0
  have nd := h1.r.nd
  have rg := h1.r.lt
  have n2 := h1.qm.n2
  have hl := len_le rg nd n2
  go_enter Try.func5, Try.ntmps5
  go_upto_region 25 with fail
  generalize (w.alloc (.cells #[.int .i64 10, .int .u64 pa, .int .i64 n, .int .u64 v, data] 29)) = W at *
  have HB : Hid (∀ V, Below W.heap.size W V → ((V.cell? ⟨x, 0, .none⟩ = some (.pointer (some ⟨p, 0, .none⟩)) ∧ V.cell? ⟨x, 1, .none⟩ = some (.pointer (some ⟨q, 0, .none⟩)) ∧ V.cell? ⟨w.heap.size, 1, .none⟩ = some (.int .u64 pa) ∧ V.cell? ⟨w.heap.size, 2, .none⟩ = some (.int .i64 n) ∧ V.cell? ⟨w.heap.size, 3, .none⟩ = some (.int .u64 v)) ∧ Below W.heap.size W V) ∧ Pq Z V x p b m q hb fb lb N B L B L) := fun V f => ⟨⟨⟨(f.cell h1.xlt).trans k0, (f.cell h1.xlt).trans k1, (f.cell lW).trans b1, (f.cell lW).trans b2, (f.cell lW).trans b3⟩, f⟩, h1.below f⟩
  have j0 : ((W.drew.cell? ⟨x, 0, .none⟩ = some (.pointer (some ⟨p, 0, .none⟩)) ∧ W.drew.cell? ⟨x, 1, .none⟩ = some (.pointer (some ⟨q, 0, .none⟩)) ∧ W.drew.cell? ⟨w.heap.size, 1, .none⟩ = some (.int .u64 pa) ∧ W.drew.cell? ⟨w.heap.size, 2, .none⟩ = some (.int .i64 n) ∧ W.drew.cell? ⟨w.heap.size, 3, .none⟩ = some (.int .u64 v)) ∧ Below W.heap.size W W.drew) := (HB.out _ ((Below.refl _ _).drew)).1
  have c11 := img_R (h1.below ((Below.refl _ _).drew))
  have HF : Hid (∀ V, ((V.cell? ⟨x, 0, .none⟩ = some (.pointer (some ⟨p, 0, .none⟩)) ∧ V.cell? ⟨x, 1, .none⟩ = some (.pointer (some ⟨q, 0, .none⟩)) ∧ V.cell? ⟨w.heap.size, 1, .none⟩ = some (.int .u64 pa) ∧ V.cell? ⟨w.heap.size, 2, .none⟩ = some (.int .i64 n) ∧ V.cell? ⟨w.heap.size, 3, .none⟩ = some (.int .u64 v)) ∧ Below W.heap.size W V) → Pl Z V x N ∧ Below Z w V) := fun V hS => ⟨(h1.below hS.2).pl, HW.out.1.trans (hS.2.mono HW.out.2)⟩
  have HQI : Hid (∀ V, ((V.cell? ⟨x, 0, .none⟩ = some (.pointer (some ⟨p, 0, .none⟩)) ∧ V.cell? ⟨x, 1, .none⟩ = some (.pointer (some ⟨q, 0, .none⟩)) ∧ V.cell? ⟨w.heap.size, 1, .none⟩ = some (.int .u64 pa) ∧ V.cell? ⟨w.heap.size, 2, .none⟩ = some (.int .i64 n) ∧ V.cell? ⟨w.heap.size, 3, .none⟩ = some (.int .u64 v)) ∧ Below W.heap.size W V) → Calls Try.prog 12 #[.pointer (some ⟨q, 0, .none⟩)] V fun e V' => ShowC V V' N B L e) := fun V hS => img_Q (h1.below hS.2)
  clear h1
  go_region_held3 (fun V => ((V.cell? ⟨x, 0, .none⟩ = some (.pointer (some ⟨p, 0, .none⟩)) ∧ V.cell? ⟨x, 1, .none⟩ = some (.pointer (some ⟨q, 0, .none⟩)) ∧ V.cell? ⟨w.heap.size, 1, .none⟩ = some (.int .u64 pa) ∧ V.cell? ⟨w.heap.size, 2, .none⟩ = some (.int .i64 n) ∧ V.cell? ⟨w.heap.size, 3, .none⟩ = some (.int .u64 v)) ∧ Below W.heap.size W V)) (first | assumption | exact j0) (first | (go_at_call 11; refine c11.mono ?_; rintro e V1 ⟨qf, cf, q2, c2, rfl, s1, s2, hb1, _, _⟩; have hS1 : ((V1.cell? ⟨x, 0, .none⟩ = some (.pointer (some ⟨p, 0, .none⟩)) ∧ V1.cell? ⟨x, 1, .none⟩ = some (.pointer (some ⟨q, 0, .none⟩)) ∧ V1.cell? ⟨w.heap.size, 1, .none⟩ = some (.int .u64 pa) ∧ V1.cell? ⟨w.heap.size, 2, .none⟩ = some (.int .i64 n) ∧ V1.cell? ⟨w.heap.size, 3, .none⟩ = some (.int .u64 v)) ∧ Below W.heap.size W V1) := (HB.out _ ((Below.refl _ _).drew.trans hb1)).1; have c12 := HQI.out V1 hS1; have HS1 : Hid (See V1 .u64 qf L.length (Fo L) ∧ SeeH V1 q2 (heldTo L N).length (Fo (heldTo L N)) (fun _ => 4096) (Do B (heldTo L N))) := ⟨s1, s2⟩; clear s1 s2) | (go_at_call 12; refine c12.mono ?_; rintro e V2 ⟨qf', cf', q2', c2', rfl, s1, s2, hb2, _, _⟩; have hS2 : ((V2.cell? ⟨x, 0, .none⟩ = some (.pointer (some ⟨p, 0, .none⟩)) ∧ V2.cell? ⟨x, 1, .none⟩ = some (.pointer (some ⟨q, 0, .none⟩)) ∧ V2.cell? ⟨w.heap.size, 1, .none⟩ = some (.int .u64 pa) ∧ V2.cell? ⟨w.heap.size, 2, .none⟩ = some (.int .i64 n) ∧ V2.cell? ⟨w.heap.size, 3, .none⟩ = some (.int .u64 v)) ∧ Below W.heap.size W V2) := (HB.out _ (hS1.2.trans (hb2.mono hS1.2.size))).1; have c10 := images_two (n := (N : Int)) (cfa := cf) (cha := c2) (cfb := cf') (chb := c2') ⟨by omega, by omega⟩ ⟨HS1.out.1.below hb2, HS1.out.2.below hb2⟩ ⟨s1, s2⟩; clear s1 s2) | (go_at_call 10; refine c10.mono ?_; rintro e V3 ⟨rfl, hb3⟩; have hS3 : ((V3.cell? ⟨x, 0, .none⟩ = some (.pointer (some ⟨p, 0, .none⟩)) ∧ V3.cell? ⟨x, 1, .none⟩ = some (.pointer (some ⟨q, 0, .none⟩)) ∧ V3.cell? ⟨w.heap.size, 1, .none⟩ = some (.int .u64 pa) ∧ V3.cell? ⟨w.heap.size, 2, .none⟩ = some (.int .i64 n) ∧ V3.cell? ⟨w.heap.size, 3, .none⟩ = some (.int .u64 v)) ∧ Below W.heap.size W V3) := (HB.out _ (hS2.2.trans (hb3.mono hS2.2.size))).1))
  go_wp2
  go_ret
  exact ⟨by simp, (HF.out _ hS3).1, (HF.out _ hS3).2⟩
set_option maxHeartbeats 4000000 in
set_option maxRecDepth 100000 in
theorem step_list (h : Pq Z w x p b m q hb fb lb N B L B L) (pa n v : Int) (data : Value) (hp : 0 ≤ pa ∧ pa < 18446744073709551616) (hn : -9223372036854775808 ≤ n ∧ n ≤ 9223372036854775807) (hv : 0 ≤ v ∧ v < 18446744073709551616) : Calls Try.prog 5 #[.pointer (some ⟨x, 0, .none⟩), .agg #[.int .i64 9, .int .u64 pa, .int .i64 n, .int .u64 v, data]] w fun e w' => StepP Z w x N e w' := by
  have hb0 := below_past w (.cells #[.int .i64 9, .int .u64 pa, .int .i64 n, .int .u64 v, data] 29)
  have hB := OpB.new w 9 pa n v data
  have h1 := h.below hb0
  have zZ : Z ≤ w.heap.size := by have := h.xlt; have := h.zx; omega
  have k0 := h1.x0
  have k1 := h1.x1
  obtain ⟨b0, b1, b2, b3, b4⟩ := hB
  have HW : Hid (Below Z w (w.alloc (.cells #[.int .i64 9, .int .u64 pa, .int .i64 n, .int .u64 v, data] 29)) ∧ Z ≤ (w.alloc (.cells #[.int .i64 9, .int .u64 pa, .int .i64 n, .int .u64 v, data] 29)).heap.size) := ⟨hb0.mono zZ, Nat.le_trans zZ hb0.size⟩
  have HP : Hid (Pq Z (w.alloc (.cells #[.int .i64 9, .int .u64 pa, .int .i64 n, .int .u64 v, data] 29)) x p b m q hb fb lb N B L B L) := h1
  have nb : ¬ Mb p b m q hb lb N fb L w.heap.size := fun e => by have := h.mlt _ e; omega
  have lW : w.heap.size < (w.alloc (.cells #[.int .i64 9, .int .u64 pa, .int .i64 n, .int .u64 v, data] 29)).heap.size := by simp
  clear h hb0
  have c9 := list_any h1 n hn
  go_enter Try.func5, Try.ntmps5
  go_wp2_with (first | (go_at_call 9; refine c9.mono ?_; rintro e w2 ⟨rfl, hb2⟩) | fail)
  go_ret
  exact ⟨rfl, (h1.below hb2).pl, HW.out.1.trans (hb2.mono HW.out.2)⟩
set_option maxHeartbeats 4000000 in
set_option maxRecDepth 100000 in
theorem step_ranged (h : Pq Z w x p b m q hb fb lb N B L B L) (pa n v : Int) (data : Value) (hp : 0 ≤ pa ∧ pa < 18446744073709551616) (hn : -9223372036854775808 ≤ n ∧ n ≤ 9223372036854775807) (hv : 0 ≤ v ∧ v < 18446744073709551616) : Calls Try.prog 5 #[.pointer (some ⟨x, 0, .none⟩), .agg #[.int .i64 12, .int .u64 pa, .int .i64 n, .int .u64 v, data]] w fun e w' => StepP Z w x N e w' := by
  have hb0 := below_past w (.cells #[.int .i64 12, .int .u64 pa, .int .i64 n, .int .u64 v, data] 29)
  have hB := OpB.new w 12 pa n v data
  have h1 := h.below hb0
  have zZ : Z ≤ w.heap.size := by have := h.xlt; have := h.zx; omega
  have k0 := h1.x0
  have k1 := h1.x1
  obtain ⟨b0, b1, b2, b3, b4⟩ := hB
  have HW : Hid (Below Z w (w.alloc (.cells #[.int .i64 12, .int .u64 pa, .int .i64 n, .int .u64 v, data] 29)) ∧ Z ≤ (w.alloc (.cells #[.int .i64 12, .int .u64 pa, .int .i64 n, .int .u64 v, data] 29)).heap.size) := ⟨hb0.mono zZ, Nat.le_trans zZ hb0.size⟩
  have HP : Hid (Pq Z (w.alloc (.cells #[.int .i64 12, .int .u64 pa, .int .i64 n, .int .u64 v, data] 29)) x p b m q hb fb lb N B L B L) := h1
  have nb : ¬ Mb p b m q hb lb N fb L w.heap.size := fun e => by have := h.mlt _ e; omega
  have lW : w.heap.size < (w.alloc (.cells #[.int .i64 12, .int .u64 pa, .int .i64 n, .int .u64 v, data] 29)).heap.size := by simp
  clear h hb0
  have c27 := ranged_any h1 pa hp
  go_enter Try.func5, Try.ntmps5
  go_wp2_with (first | (go_at_call 27; refine c27.mono ?_; rintro e w2 ⟨rfl, hpl, hb2⟩) | fail)
  go_ret
  exact ⟨rfl, hpl, HW.out.1.trans hb2⟩
set_option maxHeartbeats 4000000 in
set_option maxRecDepth 100000 in
theorem step_again (h : Pq Z w x p b m q hb fb lb N B L B L) (pa n v : Int) (data : Value) (hp : 0 ≤ pa ∧ pa < 18446744073709551616) (hn : -9223372036854775808 ≤ n ∧ n ≤ 9223372036854775807) (hv : 0 ≤ v ∧ v < 18446744073709551616) : Calls Try.prog 5 #[.pointer (some ⟨x, 0, .none⟩), .agg #[.int .i64 11, .int .u64 pa, .int .i64 n, .int .u64 v, data]] w fun e w' => StepP Z w x N e w' := by
  have hb0 := below_past w (.cells #[.int .i64 11, .int .u64 pa, .int .i64 n, .int .u64 v, data] 29)
  have hB := OpB.new w 11 pa n v data
  have h1 := h.below hb0
  have zZ : Z ≤ w.heap.size := by have := h.xlt; have := h.zx; omega
  have k0 := h1.x0
  have k1 := h1.x1
  obtain ⟨b0, b1, b2, b3, b4⟩ := hB
  have HW : Hid (Below Z w (w.alloc (.cells #[.int .i64 11, .int .u64 pa, .int .i64 n, .int .u64 v, data] 29)) ∧ Z ≤ (w.alloc (.cells #[.int .i64 11, .int .u64 pa, .int .i64 n, .int .u64 v, data] 29)).heap.size) := ⟨hb0.mono zZ, Nat.le_trans zZ hb0.size⟩
  have HP : Hid (Pq Z (w.alloc (.cells #[.int .i64 11, .int .u64 pa, .int .i64 n, .int .u64 v, data] 29)) x p b m q hb fb lb N B L B L) := h1
  have nb : ¬ Mb p b m q hb lb N fb L w.heap.size := fun e => by have := h.mlt _ e; omega
  have lW : w.heap.size < (w.alloc (.cells #[.int .i64 11, .int .u64 pa, .int .i64 n, .int .u64 v, data] 29)).heap.size := by simp
  clear h hb0
  have c28 := again_any h1
  go_enter Try.func5, Try.ntmps5
  go_wp2_with (first | (go_at_call 28; refine c28.mono ?_; rintro e w2 ⟨rfl, hpl, hb2⟩) | fail)
  go_ret
  exact ⟨rfl, hpl, HW.out.1.trans hb2⟩
set_option maxHeartbeats 4000000 in
set_option maxRecDepth 100000 in
theorem step_read (h : Pq Z w x p b m q hb fb lb N B L B L) (pa n v : Int) (data : Value) (hp : 0 ≤ pa ∧ pa < 18446744073709551616) (hn : -9223372036854775808 ≤ n ∧ n ≤ 9223372036854775807) (hv : 0 ≤ v ∧ v < 18446744073709551616) : Calls Try.prog 5 #[.pointer (some ⟨x, 0, .none⟩), .agg #[.int .i64 5, .int .u64 pa, .int .i64 n, .int .u64 v, data]] w fun e w' => StepP Z w x N e w' := by
  have hb0 := below_past w (.cells #[.int .i64 5, .int .u64 pa, .int .i64 n, .int .u64 v, data] 29)
  have hB := OpB.new w 5 pa n v data
  have h1 := h.below hb0
  have zZ : Z ≤ w.heap.size := by have := h.xlt; have := h.zx; omega
  have k0 := h1.x0
  have k1 := h1.x1
  obtain ⟨b0, b1, b2, b3, b4⟩ := hB
  have HW : Hid (Below Z w (w.alloc (.cells #[.int .i64 5, .int .u64 pa, .int .i64 n, .int .u64 v, data] 29)) ∧ Z ≤ (w.alloc (.cells #[.int .i64 5, .int .u64 pa, .int .i64 n, .int .u64 v, data] 29)).heap.size) := ⟨hb0.mono zZ, Nat.le_trans zZ hb0.size⟩
  have HP : Hid (Pq Z (w.alloc (.cells #[.int .i64 5, .int .u64 pa, .int .i64 n, .int .u64 v, data] 29)) x p b m q hb fb lb N B L B L) := h1
  have nb : ¬ Mb p b m q hb lb N fb L w.heap.size := fun e => by have := h.mlt _ e; omega
  have lW : w.heap.size < (w.alloc (.cells #[.int .i64 5, .int .u64 pa, .int .i64 n, .int .u64 v, data] 29)).heap.size := by simp
  clear h hb0
  have c23 := bytes_read h1 pa n v data hp hn
  go_enter Try.func5, Try.ntmps5
  go_wp2_with (first | (go_at_call 23; refine c23.mono ?_; rintro e w2 ⟨rfl, hpl, hb2⟩) | fail)
  go_ret
  exact ⟨rfl, hpl, HW.out.1.trans hb2⟩
set_option maxHeartbeats 4000000 in
set_option maxRecDepth 100000 in
theorem step_raw (h : Pq Z w x p b m q hb fb lb N B L B L) (pa n v : Int) (data : Value) (hp : 0 ≤ pa ∧ pa < 18446744073709551616) (hn : -9223372036854775808 ≤ n ∧ n ≤ 9223372036854775807) (hv : 0 ≤ v ∧ v < 18446744073709551616) : Calls Try.prog 5 #[.pointer (some ⟨x, 0, .none⟩), .agg #[.int .i64 7, .int .u64 pa, .int .i64 n, .int .u64 v, data]] w fun e w' => StepP Z w x N e w' := by
  have hb0 := below_past w (.cells #[.int .i64 7, .int .u64 pa, .int .i64 n, .int .u64 v, data] 29)
  have hB := OpB.new w 7 pa n v data
  have h1 := h.below hb0
  have zZ : Z ≤ w.heap.size := by have := h.xlt; have := h.zx; omega
  have k0 := h1.x0
  have k1 := h1.x1
  obtain ⟨b0, b1, b2, b3, b4⟩ := hB
  have HW : Hid (Below Z w (w.alloc (.cells #[.int .i64 7, .int .u64 pa, .int .i64 n, .int .u64 v, data] 29)) ∧ Z ≤ (w.alloc (.cells #[.int .i64 7, .int .u64 pa, .int .i64 n, .int .u64 v, data] 29)).heap.size) := ⟨hb0.mono zZ, Nat.le_trans zZ hb0.size⟩
  have HP : Hid (Pq Z (w.alloc (.cells #[.int .i64 7, .int .u64 pa, .int .i64 n, .int .u64 v, data] 29)) x p b m q hb fb lb N B L B L) := h1
  have nb : ¬ Mb p b m q hb lb N fb L w.heap.size := fun e => by have := h.mlt _ e; omega
  have lW : w.heap.size < (w.alloc (.cells #[.int .i64 7, .int .u64 pa, .int .i64 n, .int .u64 v, data] 29)).heap.size := by simp
  clear h hb0
  have c23 := bytes_raw h1 pa n v data hp hn
  go_enter Try.func5, Try.ntmps5
  go_wp2_with (first | (go_at_call 23; refine c23.mono ?_; rintro e w2 ⟨rfl, hpl, hb2⟩) | fail)
  go_ret
  exact ⟨rfl, hpl, HW.out.1.trans hb2⟩
set_option maxHeartbeats 4000000 in
set_option maxRecDepth 100000 in
theorem step_none (h : Pq Z w x p b m q hb fb lb N B L B L) (kind pa n v : Int) (data : Value) (hp : 0 ≤ pa ∧ pa < 18446744073709551616) (hn : -9223372036854775808 ≤ n ∧ n ≤ 9223372036854775807) (hv : 0 ≤ v ∧ v < 18446744073709551616) (hk : kind ≠ 1 ∧ kind ≠ 2 ∧ kind ≠ 3 ∧ kind ≠ 4 ∧ kind ≠ 5 ∧ kind ≠ 6 ∧ kind ≠ 7 ∧ kind ≠ 8 ∧ kind ≠ 9 ∧ kind ≠ 10 ∧ kind ≠ 11 ∧ kind ≠ 12) : Calls Try.prog 5 #[.pointer (some ⟨x, 0, .none⟩), .agg #[.int .i64 kind, .int .u64 pa, .int .i64 n, .int .u64 v, data]] w fun e w' => StepP Z w x N e w' := by
  have hb0 := below_past w (.cells #[.int .i64 kind, .int .u64 pa, .int .i64 n, .int .u64 v, data] 29)
  have hB := OpB.new w kind pa n v data
  have h1 := h.below hb0
  have zZ : Z ≤ w.heap.size := by have := h.xlt; have := h.zx; omega
  have k0 := h1.x0
  have k1 := h1.x1
  obtain ⟨b0, b1, b2, b3, b4⟩ := hB
  have HW : Hid (Below Z w (w.alloc (.cells #[.int .i64 kind, .int .u64 pa, .int .i64 n, .int .u64 v, data] 29)) ∧ Z ≤ (w.alloc (.cells #[.int .i64 kind, .int .u64 pa, .int .i64 n, .int .u64 v, data] 29)).heap.size) := ⟨hb0.mono zZ, Nat.le_trans zZ hb0.size⟩
  have HP : Hid (Pq Z (w.alloc (.cells #[.int .i64 kind, .int .u64 pa, .int .i64 n, .int .u64 v, data] 29)) x p b m q hb fb lb N B L B L) := h1
  have nb : ¬ Mb p b m q hb lb N fb L w.heap.size := fun e => by have := h.mlt _ e; omega
  have lW : w.heap.size < (w.alloc (.cells #[.int .i64 kind, .int .u64 pa, .int .i64 n, .int .u64 v, data] 29)).heap.size := by simp
  clear h hb0
  have e1 : (kind == 1) = false := by rw [beq_eq_false_iff_ne]; omega
  have e2 : (kind == 2) = false := by rw [beq_eq_false_iff_ne]; omega
  have e3 : (kind == 3) = false := by rw [beq_eq_false_iff_ne]; omega
  have e4 : (kind == 4) = false := by rw [beq_eq_false_iff_ne]; omega
  have e5 : (kind == 5) = false := by rw [beq_eq_false_iff_ne]; omega
  have e6 : (kind == 6) = false := by rw [beq_eq_false_iff_ne]; omega
  have e7 : (kind == 7) = false := by rw [beq_eq_false_iff_ne]; omega
  have e8 : (kind == 8) = false := by rw [beq_eq_false_iff_ne]; omega
  have e9 : (kind == 9) = false := by rw [beq_eq_false_iff_ne]; omega
  have e10 : (kind == 10) = false := by rw [beq_eq_false_iff_ne]; omega
  have e11 : (kind == 11) = false := by rw [beq_eq_false_iff_ne]; omega
  have e12 : (kind == 12) = false := by rw [beq_eq_false_iff_ne]; omega
  clear hk
  go_enter Try.func5, Try.ntmps5
  go_wp2
  go_ret
  exact ⟨rfl, HP.out.pl, HW.out.1⟩
set_option maxHeartbeats 4000000 in
set_option maxRecDepth 100000 in
theorem step_write (h : Pq Z w x p b m q hb fb lb N B L B L) (pa n v : Int) (sd : Option Addr) (ln cd : Nat) (xs : List Int) (hd : Byt w sd ln cd xs) (hln : ln < 140737488355000) (hxs : ∀ u ∈ xs, 0 ≤ u ∧ u < 256) (hsd : ln ≠ 0 → ∀ g o, sd = some ⟨g, o, .none⟩ → g < Z) (hp : 0 ≤ pa ∧ pa < 18446744073709551616) (hn : -9223372036854775808 ≤ n ∧ n ≤ 9223372036854775807) (hv : 0 ≤ v ∧ v < 18446744073709551616) : Calls Try.prog 5 #[.pointer (some ⟨x, 0, .none⟩), .agg #[.int .i64 6, .int .u64 pa, .int .i64 n, .int .u64 v, (.slice sd ln cd)]] w fun e w' => StepP Z w x N e w' := by
  have hb0 := below_past w (.cells #[.int .i64 6, .int .u64 pa, .int .i64 n, .int .u64 v, (.slice sd ln cd)] 29)
  have hB := OpB.new w 6 pa n v (.slice sd ln cd)
  have h1 := h.below hb0
  have zZ : Z ≤ w.heap.size := by have := h.xlt; have := h.zx; omega
  have k0 := h1.x0
  have k1 := h1.x1
  obtain ⟨b0, b1, b2, b3, b4⟩ := hB
  have HW : Hid (Below Z w (w.alloc (.cells #[.int .i64 6, .int .u64 pa, .int .i64 n, .int .u64 v, (.slice sd ln cd)] 29)) ∧ Z ≤ (w.alloc (.cells #[.int .i64 6, .int .u64 pa, .int .i64 n, .int .u64 v, (.slice sd ln cd)] 29)).heap.size) := ⟨hb0.mono zZ, Nat.le_trans zZ hb0.size⟩
  have HP : Hid (Pq Z (w.alloc (.cells #[.int .i64 6, .int .u64 pa, .int .i64 n, .int .u64 v, (.slice sd ln cd)] 29)) x p b m q hb fb lb N B L B L) := h1
  have nb : ¬ Mb p b m q hb lb N fb L w.heap.size := fun e => by have := h.mlt _ e; omega
  have lW : w.heap.size < (w.alloc (.cells #[.int .i64 6, .int .u64 pa, .int .i64 n, .int .u64 v, (.slice sd ln cd)] 29)).heap.size := by simp
  have hd1 := byt_keep0 hd (hb0.mono zZ) hsd
  clear h hb0
  have c23 := bytes_write h1 6 pa n v (by omega) (by omega) sd ln cd xs hd1 hln hxs hsd hp
  clear hd hd1 hxs hsd
  go_enter Try.func5, Try.ntmps5
  go_wp2_with (first | (go_at_call 23; refine c23.mono ?_; rintro e w2 ⟨rfl, hpl, hb2⟩) | fail)
  go_ret
  exact ⟨rfl, hpl, HW.out.1.trans hb2⟩
end
end Go.Proofs.Ytnghcadhilfgnaa
