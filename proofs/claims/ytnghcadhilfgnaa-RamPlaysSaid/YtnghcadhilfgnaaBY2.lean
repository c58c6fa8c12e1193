import Derived.Test.YtnghcadhilfgnaaBE
namespace Go.Proofs.Ytnghcadhilfgnaa
open Go.RowKit
set_option linter.unusedVariables false
set_option linter.unusedSimpArgs false
/-- One call of the script, boxed. -/
structure OpB (W : World) (bx : Nat) (kind pa n v : Int) (data : Value) : Prop where
  c0 : W.cell? ⟨bx, 0, .none⟩ = some (.int .i64 kind)
  c1 : W.cell? ⟨bx, 1, .none⟩ = some (.int .u64 pa)
  c2 : W.cell? ⟨bx, 2, .none⟩ = some (.int .i64 n)
  c3 : W.cell? ⟨bx, 3, .none⟩ = some (.int .u64 v)
  c4 : W.cell? ⟨bx, 4, .none⟩ = some data
theorem OpB.new (w : World) (kind pa n v : Int) (data : Value) : OpB (w.alloc (.cells #[.int .i64 kind, .int .u64 pa, .int .i64 n, .int .u64 v, data] 29)) w.heap.size kind pa n v data := ⟨by simp, by simp, by simp, by simp, by simp⟩
theorem OpB.block {W V : World} {bx : Nat} {kind pa n v : Int} {data : Value} (h : OpB W bx kind pa n v data) (e : V.heap[bx]? = W.heap[bx]?) : OpB V bx kind pa n v data :=
  ⟨(World.cell?_of_block e).trans h.c0, (World.cell?_of_block e).trans h.c1, (World.cell?_of_block e).trans h.c2, (World.cell?_of_block e).trans h.c3, (World.cell?_of_block e).trans h.c4⟩
theorem OpB.below {W V : World} {bx : Nat} {kind pa n v : Int} {data : Value} (h : OpB W bx kind pa n v data) (e : Below W.heap.size W V) : OpB V bx kind pa n v data := h.block (e.block bx (lt_of_cell h.c0))
theorem byt_keep0 {B : Nat} {w w' : World} {p : Option Addr} {n c : Nat} {xs : List Int} (h : Byt w p n c xs) (hb : Below B w w') (hp : n ≠ 0 → ∀ b o, p = some ⟨b, o, .none⟩ → b < B) : Byt w' p n c xs := by
  by_cases h0 : n = 0
  · exact ⟨h.1, h.2.1, h.2.2.1, .inl h0⟩
  · exact byt_keep h hb (hp h0)
/-- What a step leaves. -/
def StepP (Z : Nat) (w : World) (x N : Nat) (e : Ending) (w' : World) : Prop := e = .returned (.bool true) ∧ Pl Z w' x N ∧ Below Z w w'
section
variable {Z : Nat} {x p b m q hb lb N : Nat} {fb : Nat → Nat} {B : Nat → Int} {L : List Nat} {w : World}
set_option maxHeartbeats 2000000 in
theorem bytes_read (h : Pq Z w x p b m q hb fb lb N B L B L) (pa n v : Int) (data : Value) (hp : 0 ≤ pa ∧ pa < 18446744073709551616) (hn : -9223372036854775808 ≤ n ∧ n ≤ 9223372036854775807) : Calls Try.prog 23 #[.pointer (some ⟨x, 0, .none⟩), .agg #[.int .i64 5, .int .u64 pa, .int .i64 n, .int .u64 v, data]] w fun e w' => StepP Z w x N e w' := by
  have hb0 := below_past w (.cells #[.int .i64 5, .int .u64 pa, .int .i64 n, .int .u64 v, data] 29)
  have hB := OpB.new w 5 pa n v data
  have h1 := h.below hb0
  have zZ : Z ≤ w.heap.size := by have := h.xlt; have := h.zx; omega
  have k0 := h1.x0
  have k1 := h1.x1
  obtain ⟨b0, b1, b2, b3, b4⟩ := hB
  have HW : Hid (Below Z w (w.alloc (.cells #[.int .i64 5, .int .u64 pa, .int .i64 n, .int .u64 v, data] 29)) ∧ Z ≤ (w.alloc (.cells #[.int .i64 5, .int .u64 pa, .int .i64 n, .int .u64 v, data] 29)).heap.size) := ⟨hb0.mono zZ, Nat.le_trans zZ hb0.size⟩
  obtain ⟨k, ok, R, hk, c51⟩ := pair_read (h1.below ((Below.refl _ _).drew)) pa n hp hn
  have HP : Hid (Pq Z (w.alloc (.cells #[.int .i64 5, .int .u64 pa, .int .i64 n, .int .u64 v, data] 29)) x p b m q hb fb lb N B L B L) := h1
  clear h h1 hb0
  go_enter Try.func23, Try.ntmps23
  go_upto_region 3 with fail
  generalize (w.alloc (.cells #[.int .i64 5, .int .u64 pa, .int .i64 n, .int .u64 v, data] 29)) = W at *
  have j0 : W.drew.cell? ⟨x, 0, .none⟩ = some (.pointer (some ⟨p, 0, .none⟩)) ∧ W.drew.cell? ⟨w.heap.size, 1, .none⟩ = some (.int .u64 pa) ∧ W.drew.cell? ⟨w.heap.size, 2, .none⟩ = some (.int .i64 n) := ⟨k0, b1, b2⟩
  go_region_held3 (fun V => V.cell? ⟨x, 0, .none⟩ = some (.pointer (some ⟨p, 0, .none⟩)) ∧ V.cell? ⟨w.heap.size, 1, .none⟩ = some (.int .u64 pa) ∧ V.cell? ⟨w.heap.size, 2, .none⟩ = some (.int .i64 n)) (first | assumption | exact j0) (first | (go_at_call 51; refine c51.mono ?_; rintro e w1 ⟨⟨sa, ca, rfl, hsa⟩, hb1, c52⟩; have hbw : Below W.heap.size W w1 := (Below.refl _ _).drew.trans hb1; have j1 : w1.cell? ⟨x, 0, .none⟩ = some (.pointer (some ⟨p, 0, .none⟩)) ∧ w1.cell? ⟨w.heap.size, 1, .none⟩ = some (.int .u64 pa) ∧ w1.cell? ⟨w.heap.size, 2, .none⟩ = some (.int .i64 n) := ⟨(hbw.cell (lt_of_cell k0)).trans k0, (hbw.cell (lt_of_cell b1)).trans b1, (hbw.cell (lt_of_cell b2)).trans b2⟩))
  have hbd : Below w1.heap.size w1 w1.drew := (Below.refl _ _).drew
  have hbW : Below W.heap.size W w1.drew := hbw.trans (hbd.mono hbw.size)
  have c52' := c52 w1.drew hbd
  have HSA : Hid (See w1 .u8 sa k R ∧ Below W.heap.size W w1) := ⟨hsa, hbw⟩
  have j2 : w1.drew.cell? ⟨x, 1, .none⟩ = some (.pointer (some ⟨q, 0, .none⟩)) ∧ w1.drew.cell? ⟨w.heap.size, 1, .none⟩ = some (.int .u64 pa) ∧ w1.drew.cell? ⟨w.heap.size, 2, .none⟩ = some (.int .i64 n) := ⟨(hbW.cell (lt_of_cell k1)).trans k1, (hbW.cell (lt_of_cell b1)).trans b1, (hbW.cell (lt_of_cell b2)).trans b2⟩
  clear c51 c52 hsa hb1
  go_upto_region 4 with fail
  go_region_held3 (fun V => V.cell? ⟨x, 1, .none⟩ = some (.pointer (some ⟨q, 0, .none⟩)) ∧ V.cell? ⟨w.heap.size, 1, .none⟩ = some (.int .u64 pa) ∧ V.cell? ⟨w.heap.size, 2, .none⟩ = some (.int .i64 n)) (first | assumption | exact j2) (first | (go_at_call 52; refine c52'.mono ?_; rintro e w2 ⟨⟨sb, cb, rfl, hsb⟩, hb2⟩; have hbw2 : Below W.heap.size W w2 := hbW.trans (hb2.mono hbW.size); have j3 : w2.cell? ⟨x, 1, .none⟩ = some (.pointer (some ⟨q, 0, .none⟩)) ∧ w2.cell? ⟨w.heap.size, 1, .none⟩ = some (.int .u64 pa) ∧ w2.cell? ⟨w.heap.size, 2, .none⟩ = some (.int .i64 n) := ⟨(hbw2.cell (lt_of_cell k1)).trans k1, (hbw2.cell (lt_of_cell b1)).trans b1, (hbw2.cell (lt_of_cell b2)).trans b2⟩))
  have hsa2 : See w2 .u8 sa k R := (HSA.out.1.below hbd).below hb2
  have c32 := bytes_same (ca := ca) (cb := cb) (by omega) hsa2 hsb
  clear hsa2 hsb c52'
  go_wp2_with (first | (go_at_call 32; refine c32.mono ?_; rintro e w3 ⟨rfl, hb3⟩) | fail)
  go_ret
  have hb13 := hbw2.trans (hb3.mono hbw2.size)
  exact ⟨rfl, (HP.out.below hb13).pl, HW.out.1.trans (hb13.mono HW.out.2)⟩
set_option maxHeartbeats 2000000 in
theorem bytes_raw (h : Pq Z w x p b m q hb fb lb N B L B L) (pa n v : Int) (data : Value) (hp : 0 ≤ pa ∧ pa < 18446744073709551616) (hn : -9223372036854775808 ≤ n ∧ n ≤ 9223372036854775807) : Calls Try.prog 23 #[.pointer (some ⟨x, 0, .none⟩), .agg #[.int .i64 7, .int .u64 pa, .int .i64 n, .int .u64 v, data]] w fun e w' => StepP Z w x N e w' := by
  have hb0 := below_past w (.cells #[.int .i64 7, .int .u64 pa, .int .i64 n, .int .u64 v, data] 29)
  have hB := OpB.new w 7 pa n v data
  have h1 := h.below hb0
  have zZ : Z ≤ w.heap.size := by have := h.xlt; have := h.zx; omega
  have k0 := h1.x0
  have k1 := h1.x1
  obtain ⟨b0, b1, b2, b3, b4⟩ := hB
  have HW : Hid (Below Z w (w.alloc (.cells #[.int .i64 7, .int .u64 pa, .int .i64 n, .int .u64 v, data] 29)) ∧ Z ≤ (w.alloc (.cells #[.int .i64 7, .int .u64 pa, .int .i64 n, .int .u64 v, data] 29)).heap.size) := ⟨hb0.mono zZ, Nat.le_trans zZ hb0.size⟩
  obtain ⟨k, ok, R, hk, c51⟩ := pair_raw (h1.below ((Below.refl _ _).drew)) pa hp
  have HP : Hid (Pq Z (w.alloc (.cells #[.int .i64 7, .int .u64 pa, .int .i64 n, .int .u64 v, data] 29)) x p b m q hb fb lb N B L B L) := h1
  clear h h1 hb0
  go_enter Try.func23, Try.ntmps23
  go_upto_region 7 with fail
  generalize (w.alloc (.cells #[.int .i64 7, .int .u64 pa, .int .i64 n, .int .u64 v, data] 29)) = W at *
  have j0 : W.drew.cell? ⟨x, 0, .none⟩ = some (.pointer (some ⟨p, 0, .none⟩)) ∧ W.drew.cell? ⟨w.heap.size, 1, .none⟩ = some (.int .u64 pa) := ⟨k0, b1⟩
  go_region_held3 (fun V => V.cell? ⟨x, 0, .none⟩ = some (.pointer (some ⟨p, 0, .none⟩)) ∧ V.cell? ⟨w.heap.size, 1, .none⟩ = some (.int .u64 pa)) (first | assumption | exact j0) (first | (go_at_call 53; refine c51.mono ?_; rintro e w1 ⟨⟨sa, ca, rfl, hsa⟩, hb1, c52⟩; have hbw : Below W.heap.size W w1 := (Below.refl _ _).drew.trans hb1; have j1 : w1.cell? ⟨x, 0, .none⟩ = some (.pointer (some ⟨p, 0, .none⟩)) ∧ w1.cell? ⟨w.heap.size, 1, .none⟩ = some (.int .u64 pa) := ⟨(hbw.cell (lt_of_cell k0)).trans k0, (hbw.cell (lt_of_cell b1)).trans b1⟩))
  have hbd : Below w1.heap.size w1 w1.drew := (Below.refl _ _).drew
  have hbW : Below W.heap.size W w1.drew := hbw.trans (hbd.mono hbw.size)
  have c52' := c52 w1.drew hbd
  have HSA : Hid (See w1 .u8 sa k R ∧ Below W.heap.size W w1) := ⟨hsa, hbw⟩
  have j2 : w1.drew.cell? ⟨x, 1, .none⟩ = some (.pointer (some ⟨q, 0, .none⟩)) ∧ w1.drew.cell? ⟨w.heap.size, 1, .none⟩ = some (.int .u64 pa) := ⟨(hbW.cell (lt_of_cell k1)).trans k1, (hbW.cell (lt_of_cell b1)).trans b1⟩
  clear c51 c52 hsa hb1
  go_upto_region 8 with fail
  go_region_held3 (fun V => V.cell? ⟨x, 1, .none⟩ = some (.pointer (some ⟨q, 0, .none⟩)) ∧ V.cell? ⟨w.heap.size, 1, .none⟩ = some (.int .u64 pa)) (first | assumption | exact j2) (first | (go_at_call 54; refine c52'.mono ?_; rintro e w2 ⟨⟨sb, cb, rfl, hsb⟩, hb2⟩; have hbw2 : Below W.heap.size W w2 := hbW.trans (hb2.mono hbW.size); have j3 : w2.cell? ⟨x, 1, .none⟩ = some (.pointer (some ⟨q, 0, .none⟩)) ∧ w2.cell? ⟨w.heap.size, 1, .none⟩ = some (.int .u64 pa) := ⟨(hbw2.cell (lt_of_cell k1)).trans k1, (hbw2.cell (lt_of_cell b1)).trans b1⟩))
  have hsa2 : See w2 .u8 sa k R := (HSA.out.1.below hbd).below hb2
  have c32 := bytes_same (ca := ca) (cb := cb) (by omega) hsa2 hsb
  clear hsa2 hsb c52'
  go_wp2_with (first | (go_at_call 32; refine c32.mono ?_; rintro e w3 ⟨rfl, hb3⟩) | fail)
  go_ret
  have hb13 := hbw2.trans (hb3.mono hbw2.size)
  exact ⟨rfl, (HP.out.below hb13).pl, HW.out.1.trans (hb13.mono HW.out.2)⟩
theorem lent_block {V V' : World} {X g c : Nat} {xs : List Int} (h : Lent V X g c xs) (e : V'.heap[g]? = V.heap[g]?) : Lent V' X g c xs := by
  obtain ⟨h1, h2⟩ := h
  refine ⟨h1, ?_⟩
  rcases h2 with h2 | ⟨g', cap, cur, hv, hX, hh, r⟩
  · exact .inl h2
  · obtain rfl : g = g' := by
      injection hv with hv _ _
      injection hv with hv
      injection hv with hv
    exact .inr ⟨g, cap, cur, hv, hX, e.trans hh, r⟩
theorem byt_see {V : World} {s : Option Addr} {n c : Nat} {xs : List Int} (h : Byt V s n c xs) : See V .u8 s n (fun i => xs.getD i 0) := by
  obtain ⟨h1, h2, h3, h4⟩ := h
  rcases h4 with h4 | ⟨b, o, e, hb, hc⟩
  · exact .inl h4
  · exact .inr ⟨b, o, e, hb, fun i hi => hc i _ (by show xs[i]? = some (xs.getD i 0); rw [List.getD_eq_getElem?_getD, List.getElem?_eq_getElem (by omega)]; rfl)⟩
theorem lent_see {V : World} {X g c : Nat} {xs : List Int} (h : Lent V X g c xs) : See V .u8 (some ⟨g, 0, .none⟩) xs.length (fun i => xs.getD i 0) := by
  refine .inr ⟨g, 0, rfl, (h.lt).2, fun i hi => ?_⟩
  rcases h.2 with ⟨hv, _⟩ | ⟨g', cap, cur, hv, hX, hh, hn, hc, hs, ht⟩
  · cases hv
  · obtain rfl : g = g' := by
      injection hv with hv _ _
      injection hv with hv
      injection hv with hv
    rw [Nat.zero_add]
    simp only [World.cell?, hh]
    show cur[i]? = _
    rw [← Array.getElem?_toList, ← List.getElem?_take_of_lt (show i < (xs.length + 64) * 1 by omega), ht]
    rw [by8, List.getElem?_map, List.getElem?_append_left hi, List.getElem?_eq_getElem hi, List.getD_eq_getElem?_getD, List.getElem?_eq_getElem hi]
    rfl
theorem Below.drewN' {X V : World} (k : Nat) (h : Below X.heap.size X V) : Below X.heap.size X (V.drewN k) := ⟨h.os, h.tape, h.output, h.size, h.block⟩
set_option maxHeartbeats 4000000 in
theorem bytes_write (h : Pq Z w x p b m q hb fb lb N B L B L) (kind pa n v : Int) (hk5 : kind ≠ 5) (hk7 : kind ≠ 7) (sd : Option Addr) (ln cd : Nat) (xs : List Int) (hd : Byt w sd ln cd xs) (hln : ln < 140737488355000) (hxs : ∀ u ∈ xs, 0 ≤ u ∧ u < 256) (hsd : ln ≠ 0 → ∀ g o, sd = some ⟨g, o, .none⟩ → g < Z) (hp : 0 ≤ pa ∧ pa < 18446744073709551616) : Calls Try.prog 23 #[.pointer (some ⟨x, 0, .none⟩), .agg #[.int .i64 kind, .int .u64 pa, .int .i64 n, .int .u64 v, .slice sd ln cd]] w fun e w' => StepP Z w x N e w' := by
  have hb0 := below_past w (.cells #[.int .i64 kind, .int .u64 pa, .int .i64 n, .int .u64 v, .slice sd ln cd] 29)
  have hB := OpB.new w kind pa n v (.slice sd ln cd)
  have h1 := h.below hb0
  have zZ : Z ≤ w.heap.size := by have := h.xlt; have := h.zx; omega
  have e5 : (kind == 5) = false := by rw [beq_eq_false_iff_ne]; exact hk5
  have e7 : (kind == 7) = false := by rw [beq_eq_false_iff_ne]; exact hk7
  obtain ⟨b0, b1, b2, b3, b4⟩ := hB
  have HW : Hid (Below Z w (w.alloc (.cells #[.int .i64 kind, .int .u64 pa, .int .i64 n, .int .u64 v, .slice sd ln cd] 29)) ∧ Z ≤ (w.alloc (.cells #[.int .i64 kind, .int .u64 pa, .int .i64 n, .int .u64 v, .slice sd ln cd] 29)).heap.size) := ⟨hb0.mono zZ, Nat.le_trans zZ hb0.size⟩
  have hd1 : Byt (w.alloc (.cells #[.int .i64 kind, .int .u64 pa, .int .i64 n, .int .u64 v, .slice sd ln cd] 29)) sd ln cd xs := byt_keep0 hd (hb0.mono zZ) hsd
  have c55 := lend_any hd1 hln
  have HP : Hid (Pq Z (w.alloc (.cells #[.int .i64 kind, .int .u64 pa, .int .i64 n, .int .u64 v, .slice sd ln cd] 29)) x p b m q hb fb lb N B L B L ∧ w.heap.size < (w.alloc (.cells #[.int .i64 kind, .int .u64 pa, .int .i64 n, .int .u64 v, .slice sd ln cd] 29)).heap.size) := ⟨h1, by simp⟩
  have HD : Hid (Byt (w.alloc (.cells #[.int .i64 kind, .int .u64 pa, .int .i64 n, .int .u64 v, .slice sd ln cd] 29)) sd ln cd xs ∧ (∀ u ∈ xs, 0 ≤ u ∧ u < 256) ∧ (ln ≠ 0 → ∀ g o, sd = some ⟨g, o, .none⟩ → g < Z) ∧ xs.length = ln ∧ ∀ k, Mb p b m q hb lb N fb L k → k < w.heap.size) := ⟨hd1, hxs, hsd, hd.1, h.mlt⟩
  clear h h1 hb0 hd hd1 hxs hsd
  go_enter Try.func23, Try.ntmps23
  go_upto_region 11 with (first | (go_at_call 55; refine c55.mono ?_; rintro e w1 ⟨g, cg, rfl, hL, hb1⟩; clear c55) | fail)
  generalize (w.alloc (.cells #[.int .i64 kind, .int .u64 pa, .int .i64 n, .int .u64 v, .slice sd ln cd] 29)) = W at *
  have hbd : Below w1.heap.size w1 w1.drew := (Below.refl _ _).drew
  have hbW : Below W.heap.size W w1.drew := hb1.trans (hbd.mono hb1.size)
  have hLd : Lent w1.drew W.heap.size g cg xs := hL
  have gW : W.heap.size ≤ g := (hL.lt).1
  have sz1 : w1.drew.heap.size = w1.heap.size := rfl
  have hPd := HP.out.1.below hbW
  have RB : ∀ i, 0 ≤ xs.getD i 0 ∧ xs.getD i 0 < 256 := fun i => by
    by_cases hi : i < xs.length
    · rw [List.getD_eq_getElem?_getD, List.getElem?_eq_getElem hi]
      exact HD.out.2.1 _ (List.getElem_mem hi)
    · rw [List.getD_eq_getElem?_getD, List.getElem?_eq_none (by omega)]
      simp
  have sA : See w1.drew .u8 (some ⟨g, 0, .none⟩) ln (fun i => xs.getD i 0) := by
    have := lent_see hLd
    rwa [HD.out.2.2.2.1] at this
  have dD : Byt w1.drew sd ln cd xs := byt_keep0 HD.out.1 (hbW.mono HW.out.2) HD.out.2.2.1
  obtain ⟨ok, c56⟩ := pair_write hPd pa hp ln cg cd (by omega) (some ⟨g, 0, .none⟩) sd (fun i => xs.getD i 0) RB sA (byt_see dD) (fun hz g' o' e' => fun hm => by
    have := HD.out.2.2.1 hz g' o' e'
    have := HP.out.1.zm g' hm
    omega)
  have nb : ¬ Mb p b m q hb lb N fb L w.heap.size := fun e => by have := HD.out.2.2.2.2 _ e; omega
  have ng : ¬ Mb p b m q hb lb N fb L g := fun e => by have := HD.out.2.2.2.2 _ e; have := HP.out.2; omega
  have y0 := hPd.x0
  have y1 : w1.drew.cell? ⟨w.heap.size, 1, .none⟩ = some (.int .u64 pa) := (hbW.cell HP.out.2).trans b1
  have y4 : w1.drew.cell? ⟨w.heap.size, 4, .none⟩ = some (.slice sd ln cd) := (hbW.cell HP.out.2).trans b4
  have HKP : Hid (∀ V, Fx (Mb p b m q hb lb N fb L) w1.drew V → V.cell? ⟨x, 0, .none⟩ = some (.pointer (some ⟨p, 0, .none⟩)) ∧ V.cell? ⟨x, 1, .none⟩ = some (.pointer (some ⟨q, 0, .none⟩)) ∧ V.cell? ⟨w.heap.size, 1, .none⟩ = some (.int .u64 pa) ∧ V.cell? ⟨w.heap.size, 4, .none⟩ = some (.slice sd ln cd) ∧ Lent V W.heap.size g cg xs ∧ Byt V sd ln cd xs) := fun V f =>
    ⟨(World.cell?_of_block (f.block x hPd.xlt hPd.xm)).trans y0, (World.cell?_of_block (f.block x hPd.xlt hPd.xm)).trans hPd.x1, (World.cell?_of_block (f.block _ (lt_of_cell y1) nb)).trans y1, (World.cell?_of_block (f.block _ (lt_of_cell y4) nb)).trans y4, lent_block hLd (f.block g (hLd.lt).2 ng), byt_keep0 dD (hPd.low f) HD.out.2.2.1⟩
  have HWd : Hid (Below Z w w1.drew ∧ Pq Z w1.drew x p b m q hb fb lb N B L B L) := ⟨HW.out.1.trans (hbW.mono HW.out.2), hPd⟩
  have j0 : w1.drew.cell? ⟨x, 0, .none⟩ = some (.pointer (some ⟨p, 0, .none⟩)) ∧ w1.drew.cell? ⟨w.heap.size, 1, .none⟩ = some (.int .u64 pa) := ⟨y0, y1⟩
  clear hPd dD sA hL hLd hb1
  go_region_held3 (fun V => V.cell? ⟨x, 0, .none⟩ = some (.pointer (some ⟨p, 0, .none⟩)) ∧ V.cell? ⟨w.heap.size, 1, .none⟩ = some (.int .u64 pa)) (first | assumption | exact j0) (first | (go_at_call 56; refine c56.mono ?_; rintro e w2 ⟨rfl, hf2, c57⟩; have j1 : w2.cell? ⟨x, 0, .none⟩ = some (.pointer (some ⟨p, 0, .none⟩)) ∧ w2.cell? ⟨w.heap.size, 1, .none⟩ = some (.int .u64 pa) := ⟨(HKP.out w2 hf2).1, (HKP.out w2 hf2).2.2.1⟩))
  have hbd2 : Below w2.heap.size w2 w2.drew := (Below.refl _ _).drew
  have c57' := c57 w2.drew hbd2
  have hf2d := hf2.then_below hbd2
  have K2 := HKP.out w2.drew hf2d
  have j2 : w2.drew.cell? ⟨x, 1, .none⟩ = some (.pointer (some ⟨q, 0, .none⟩)) ∧ w2.drew.cell? ⟨w.heap.size, 1, .none⟩ = some (.int .u64 pa) ∧ w2.drew.cell? ⟨w.heap.size, 4, .none⟩ = some (.slice sd ln cd) := ⟨K2.2.1, K2.2.2.1, K2.2.2.2.1⟩
  clear c56 c57 K2
  go_upto_region 12 with fail
  go_region_held3 (fun V => V.cell? ⟨x, 1, .none⟩ = some (.pointer (some ⟨q, 0, .none⟩)) ∧ V.cell? ⟨w.heap.size, 1, .none⟩ = some (.int .u64 pa) ∧ V.cell? ⟨w.heap.size, 4, .none⟩ = some (.slice sd ln cd)) (first | assumption | exact j2) (first | (go_at_call 57; refine c57'.mono ?_; rintro e w3 ht; obtain ⟨rfl, hf3, _⟩ := id ht; have K3 := HKP.out w3 hf3; have j3 : w3.cell? ⟨x, 1, .none⟩ = some (.pointer (some ⟨q, 0, .none⟩)) ∧ w3.cell? ⟨w.heap.size, 1, .none⟩ = some (.int .u64 pa) ∧ w3.cell? ⟨w.heap.size, 4, .none⟩ = some (.slice sd ln cd) := ⟨K3.2.1, K3.2.2.1, K3.2.2.2.1⟩))
  have c58 := kept_any K3.2.2.2.2.2 hln K3.2.2.2.2.1
  have HF : Hid (Pl Z w3 x N ∧ Below Z w w3) := ⟨ht.pl, HWd.out.1.trans (HWd.out.2.low hf3)⟩
  have r4 := K3.2.2.2.1
  clear c57' K3 ht
  go_wp2_with (first | (go_at_call 58; refine c58.mono ?_; rintro e w4 ⟨rfl, kk, rfl⟩) | fail)
  go_ret
  obtain ⟨⟨p2, b2', m2, q2, hb2, fb2, lb2, B2, L2, hP2⟩, hB3⟩ := HF.out
  have hdn : Below w3.heap.size w3 (w3.drewN kk) := ⟨rfl, rfl, rfl, Nat.le_refl _, fun _ _ => rfl⟩
  exact ⟨rfl, (hP2.below hdn).pl, hB3.trans (hdn.mono (by have := hP2.xlt; have := hP2.zx; omega))⟩
end
end Go.Proofs.Ytnghcadhilfgnaa
