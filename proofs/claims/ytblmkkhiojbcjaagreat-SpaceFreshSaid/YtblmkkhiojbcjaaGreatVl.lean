import Derived.Test.YtblmkkhiojbcjaaGreatVj
import Derived.Test.YtblmkkhiojbcjaaGreatUo
namespace Go.Proofs.YtblmkkhiojbcjaaGreat
open Go Go.RowKit Go.Shelf
attribute [local go_sem] Oper.semAt_some
set_option linter.unusedVariables false
set_option linter.unusedSimpArgs false
attribute [local irreducible] eM evs
/-- Nothing that stood is changed, but one cell's block. -/
structure Sam (V : World) (c4 : Nat) (W : World) : Prop where
  size : V.heap.size ≤ W.heap.size
  os : W.os = V.os
  tape : W.tape = V.tape
  output : W.output = V.output
  block : ∀ k, k < V.heap.size → k ≠ c4 → W.heap[k]? = V.heap[k]?
theorem Sam.keep {V W W' : World} {c4 : Nat} (h : Sam V c4 W) (h1 : W'.os = W.os) (h2 : W'.tape = W.tape) (h3 : W'.output = W.output) (hs : W.heap.size ≤ W'.heap.size) (hb : ∀ k, k < V.heap.size → W'.heap[k]? = W.heap[k]?) : Sam V c4 W' :=
  ⟨Nat.le_trans h.size hs, h1.trans h.os, h2.trans h.tape, h3.trans h.output, fun k hk a => (hb k hk).trans (h.block k hk a)⟩
def FrI (V : World) (c4 : Nat) (pre : List (Int × Int)) (W : World) : Prop := pre = [] ∧ Sam V c4 W ∧ W.heap[c4]? = V.heap[c4]?
def FrX (V : World) (c4 : Nat) (pre : List (Int × Int)) (W : World) : Prop := pre ≠ [] ∧ Sam V c4 W ∧ W.cell? ⟨c4, 0, .none⟩ = some (.int .i64 87)
theorem FrI.gd {V : World} {c4 : Nat} (hc : c4 < V.heap.size) : GdJ (fun k _ => V.heap.size ≤ k) (FrI V c4) :=
  ⟨fun s W W' hs hm => have hb : ∀ k, k < V.heap.size → W'.heap[k]? = W.heap[k]? := fun k hk => hm.block k (Nat.lt_of_lt_of_le hk hs.2.1.size) (by omega)
    ⟨hs.1, hs.2.1.keep hm.os hm.tape hm.output hm.size hb, (hb c4 hc).trans hs.2.2⟩, fun s W W' k hs hm hk => hk, fun s W W' k hs hm hk => Nat.le_trans hs.2.1.size hk⟩
theorem FrI.own {V : World} {c4 : Nat} (hc : c4 < V.heap.size) : OwnFrom V.heap.size (FrI V c4) := fun s W W' row hs hg hr =>
  have hb : ∀ k, k < V.heap.size → W'.heap[k]? = W.heap[k]? := fun k hk => hg.block k (Nat.lt_of_lt_of_le hk hs.2.1.size) (fun e => by have := (hr k e.symm).1; omega)
  ⟨hs.1, hs.2.1.keep hg.os hg.tape hg.output hg.size hb, (hb c4 hc).trans hs.2.2⟩
theorem FrX.put {V : World} {c4 : Nat} (hc : c4 < V.heap.size) {pre : List (Int × Int)} {W : World} {l : Nat} (o' : Obj) (h : FrX V c4 pre W) (hl : V.heap.size ≤ l) : FrX V c4 pre (W.putObj l o') := by
  have hb : ∀ k, k < V.heap.size → (W.putObj l o').heap[k]? = W.heap[k]? := fun k hk => World.putObj_heap_other (by omega)
  exact ⟨h.1, h.2.1.keep rfl rfl rfl (by simp [World.putObj]) hb, (World.cell?_of_block (a := ⟨c4, 0, .none⟩) (hb c4 hc)).trans h.2.2⟩
theorem FrX.mv {V : World} {c4 : Nat} (hc : c4 < V.heap.size) {pre : List (Int × Int)} {W W' : World} (h : FrX V c4 pre W) (hm : Mv (fun k _ => V.heap.size ≤ k) W W') : FrX V c4 pre W' := by
  have hb : ∀ k, k < V.heap.size → W'.heap[k]? = W.heap[k]? := fun k hk => hm.block k (Nat.lt_of_lt_of_le hk h.2.1.size) (by omega)
  exact ⟨h.1, h.2.1.keep hm.os hm.tape hm.output hm.size hb, (World.cell?_of_block (a := ⟨c4, 0, .none⟩) (hb c4 hc)).trans h.2.2⟩
theorem Sam.below {w V W : World} {c4 : Nat} (h : Sam V c4 W) (b : Below w.heap.size w V) (hc : w.heap.size ≤ c4) : Below w.heap.size w W :=
  ⟨h.os.trans b.os, h.tape.trans b.tape, h.output.trans b.output, Nat.le_trans b.size h.size, fun k hk => (h.block k (Nat.lt_of_lt_of_le hk b.size) (by omega)).trans (b.block k hk)⟩
set_option maxRecDepth 100000 in
set_option maxHeartbeats 2000000 in
theorem free_left {w : World} {p b mm N r : Nat} {B : Nat → Int} {L : List Nat} {F : Nat → Option Nat} {lf : Nat → Nat → Int} {l : List Pg} (hR : Ram w p b mm N B L) (hP : PT N L B F lf) (hr : F 0 = some r) (hT : TL F lf l) (hnd : l.Pairwise (fun a b => a.1 ≠ b.1)) (hne : l ≠ []) :
    Calls Tryz.prog 104 #[.pointer (some ⟨p, 0, .none⟩), .int .u64 (ad r)] w fun e w' => e = .returned (.int .i64 87) ∧ Below w.heap.size w w' := by
  obtain ⟨W1, hW1⟩ : ∃ W1, W1 = w.alloc (.cells #[.int .i64 0] 29) := ⟨_, rfl⟩
  have b1 : Below w.heap.size w W1 := by rw [hW1]; exact below1 _ _
  have hs1 : W1.heap.size = w.heap.size + 1 := by rw [hW1]; simp
  have q1 : W1.cell? ⟨w.heap.size, 0, .none⟩ = some (.int .i64 0) := by rw [hW1]; simp
  have q2 : W1.frozen? ⟨w.heap.size, 0, .none⟩ = false := by rw [hW1]; simp
  have hrb : 0 ≤ ad r ∧ ad r < 18446744073709551616 := by have h1 := hP.held 0 r hr; have h2 := hR.mem.n2; unfold ad; omega
  have c38 := isMade_any (hR.below b1)
  have c42 := isNode_any (hR.below b1) (ad r) hrb
  rw [hP.ndB hr] at c42
  have HR : Hid (Ram w p b mm N B L ∧ PT N L B F lf ∧ F 0 = some r ∧ TL F lf l) := ⟨hR, hP, hr, hT⟩
  have HL : Hid (LvS l (lvl (evs F lf 0))) := hT.leaves hP hnd
  have H1 : Hid (Below w.heap.size w W1 ∧ W1.heap.size = w.heap.size + 1 ∧ W1.cell? ⟨w.heap.size, 0, .none⟩ = some (.int .i64 0) ∧ W1.frozen? ⟨w.heap.size, 0, .none⟩ = false) := ⟨b1, hs1, q1, q2⟩
  clear hR hP hr hT hnd b1 hs1 q1 q2 hrb
  refine (callsIn_wide (n := 3)).1 ?_
  refine callsIn_of_wp_marks Tryz.func104 rfl trivial ?_ rfl
  refine wpIn_wide.2 ?_
  simp only [Tryz.ntmps104, List.size_toArray, List.length_cons, List.length_nil, Nat.reduceAdd, Nat.reduceSub, Array.replicate_succ, Array.replicate_zero, List.push_toArray, List.append_toArray, List.nil_append, List.cons_append]
  go_wp2_with fail
  rw [← hW1]
  clear hW1
  go_wp2_with (first | (go_at_call 111; refine c38.mono ?_; rintro _ w2 ⟨rfl, e2⟩; obtain rfl : W1 = w2 := e2.symm; clear e2) | (go_at_call 93; refine c42.mono ?_; rintro _ w3 ⟨rfl, b3⟩; have H3 : Hid (Below W1.heap.size W1 w3) := b3; clear b3 c38 c42))
  obtain ⟨V, hV⟩ : ∃ V, V = (w3.alloc (.cells #[.pointer (some ⟨p, 0, .none⟩)] 25)).alloc (.cells #[.int .u64 (ad r)] 23) := ⟨_, rfl⟩
  have bV : Below w3.heap.size w3 V := by rw [hV]; exact ((Below.refl _ _).alloc (Nat.le_refl _) _).alloc (by simp) _
  have sV : V.heap.size = w3.heap.size + 2 := by rw [hV]; simp
  have v1 : V.cell? ⟨w3.heap.size, 0, .none⟩ = some (.pointer (some ⟨p, 0, .none⟩)) := by rw [hV]; simp
  have v2 : V.cell? ⟨w3.heap.size + 1, 0, .none⟩ = some (.int .u64 (ad r)) := by rw [hV]; simp
  have s3 : w.heap.size + 1 ≤ w3.heap.size := by have := H3.out.size; have := H1.out.2.1; omega
  have B3 : Below w.heap.size w V := (H1.out.1.trans (H3.out.mono H1.out.1.size)).trans (bV.mono (by omega))
  have r1 : V.cell? ⟨w.heap.size, 0, .none⟩ = some (.int .i64 0) := (bV.cell (p := ⟨w.heap.size, 0, .none⟩) (by simp only; omega)).trans ((H3.out.cell (p := ⟨w.heap.size, 0, .none⟩) (by have := H1.out.2.1; simp only; omega)).trans H1.out.2.2.1)
  have r2 : V.frozen? ⟨w.heap.size, 0, .none⟩ = false := (bV.frozen (p := ⟨w.heap.size, 0, .none⟩) (by simp only; omega)).trans ((H3.out.frozen (p := ⟨w.heap.size, 0, .none⟩) (by have := H1.out.2.1; simp only; omega)).trans H1.out.2.2.2)
  have hseq := fun n => leaves_seq (HR.out.1.below B3) HR.out.2.1 HR.out.2.2.1 n _ _ v1 v2
  have c21 := leaves_any p (ad r) w3
  rw [← hV] at c21
  have hc : w.heap.size < V.heap.size := by omega
  have HV : Hid ((∀ n, SeqK n 98 #[.pointer (some ⟨w3.heap.size, 0, .none⟩), .pointer (some ⟨w3.heap.size + 1, 0, .none⟩)] lvE (lvl (evs F lf 0)) p b mm V) ∧ Below w.heap.size w V ∧ V.cell? ⟨w.heap.size, 0, .none⟩ = some (.int .i64 0) ∧ V.frozen? ⟨w.heap.size, 0, .none⟩ = false ∧ p < w.heap.size ∧ b < w.heap.size ∧ mm < w.heap.size) := ⟨hseq, B3, r1, r2, HR.out.1.mem.plt, HR.out.1.mem.blt, HR.out.1.mem.mlt⟩
  clear hseq B3 r1 r2 sV s3 hV bV v1 v2 H1 H3
  go_wp2_with (go_at_call 61; refine c21.mono ?_; rintro _ w5 ⟨rfl, e5⟩; obtain rfl : V = w5 := e5.symm; clear e5 c21)
  refine (wpIn_wide (n := 3)).1 (range_K (α := Int × Int) (by omega) (gf := 98) (lb := #[.pointer (some ⟨w3.heap.size, 0, .none⟩), .pointer (some ⟨w3.heap.size + 1, 0, .none⟩)]) rfl (enters_of Tryz.func98 (by kernel_rfl) rfl) (Below.refl _ _) (HV.out.1 2) (by have := HV.out; omega) (fun _ => rfl)
    (FrI V w.heap.size) (fun k _ => V.heap.size ≤ k) (FrI.own hc) (FrI.gd hc) (fun s k W l o o' h hk _ _ _ _ => hk) ⟨rfl, ⟨Nat.le_refl _, rfl, rfl, rfl, fun _ _ _ => rfl⟩, rfl⟩ (FrX V w.heap.size) (fun pre W l o o' h hl _ _ => h.put hc o' hl) (fun _ _ _ h hm => h.mv hc hm) (fun s k W l o o' h hk _ _ _ _ => hk)
    (fun x a' W => a' = { tmps := #[.pointer (some ⟨p, 0, .none⟩), .int .u64 (ad r), undef, undef, .pointer (some ⟨w.heap.size, 0, .none⟩), undef, undef, .bool false, .pointer (some ⟨p, 0, .none⟩), .bool true, .bool false, .bool false, .pointer (some ⟨p, 0, .none⟩), .int .u64 (ad r), .bool true, .bool false, .pointer (some ⟨p, 0, .none⟩), .int .u64 (ad r), .func (.func 98) #[] #[.pointer (some ⟨w3.heap.size, 0, .none⟩), .pointer (some ⟨w3.heap.size + 1, 0, .none⟩)], .int .u64 x.1, .int .u64 x.2, undef, undef, undef, undef, undef, undef, undef, undef, undef, undef, undef, undef], defers := [] }) (fun x a' W l o o' h _ _ _ => h) ?assign ?body ?done ?left)
  case assign =>
    intro l' x U K hU hK
    simp only [lvE]
    gi_wp2
    exact hK _ _ (Below.refl _ _) rfl
  case done =>
    rintro D U hD hI hDd
    exact absurd (by have := HL.out.len; rw [hI.1] at this; exact List.length_eq_zero_iff.1 this.symm) hne
  case left =>
    rintro D U pre hD hpre hX hDd
    have HB : Hid (Below w.heap.size w U ∧ w.heap.size < D) := ⟨hX.2.1.below HV.out.2.1 (Nat.le_refl _), by omega⟩
    have hc4 := hX.2.2
    clear hX hpre hD
    have hres : (U.putObj D (.deferred none)).cell? ⟨w.heap.size, 0, .none⟩ = some (.int .i64 87) := (World.cell?_of_block (a := ⟨w.heap.size, 0, .none⟩) (World.putObj_heap_other (by have := HB.out.2; simp only; omega))).trans hc4
    dsimp only
    refine ⟨by simp, .inl ⟨_, _, rfl, run_takeDeferred hDd, ?_⟩⟩
    refine ⟨.int .i64 87, by simp [results, Tryz.results104, go_sem, hres], rfl, ?_⟩
    have hb := HB.out.1
    have hd := HB.out.2
    exact ⟨hb.os, hb.tape, hb.output, by simp [World.putObj]; exact hb.size, fun k hk => (World.putObj_heap_other (by omega)).trans (hb.block k hk)⟩
  case body =>
    rintro l' pre x a' U hI rfl hlen
    obtain ⟨rfl, hS, hc4⟩ := hI
    have q1 := (World.cell?_of_block (a := ⟨w.heap.size, 0, .none⟩) hc4).trans HV.out.2.2.1
    have q2 := (World.frozen?_of_block (a := ⟨w.heap.size, 0, .none⟩) hc4).trans HV.out.2.2.2.1
    have kb : ∀ k, k ≠ w.heap.size → (U.setCell ⟨w.heap.size, 0, .none⟩ (.int .i64 87)).heap[k]? = U.heap[k]? := fun k hk => Below.heap_setCell _ _ _ k hk
    have sz : (U.setCell ⟨w.heap.size, 0, .none⟩ (.int .i64 87)).heap.size = U.heap.size := by simp
    have HE : Hid (KeepsFrom V.heap.size U (U.setCell ⟨w.heap.size, 0, .none⟩ (.int .i64 87)) ∧ KpG (fun k _ => V.heap.size ≤ k) p b mm U (U.setCell ⟨w.heap.size, 0, .none⟩ (.int .i64 87)) ∧ FrX V w.heap.size ([] ++ [x]) (U.setCell ⟨w.heap.size, 0, .none⟩ (.int .i64 87))) := by
      have hp := HV.out.2.2.2.2
      refine ⟨⟨by omega, fun k o hk ho _ => (kb k (by omega)).trans ho⟩, ⟨fun k o hk ho => ⟨(kb k (by omega)).trans ho, hk⟩, kb p (by omega), kb b (by omega), kb mm (by omega), by omega⟩, by simp, ⟨by rw [sz]; exact hS.size, hS.os, hS.tape, hS.output, fun k hk hn => (kb k hn).trans (hS.block k hk hn)⟩, World.cell?_setCell_same' _ _ _ (by rw [q1]; rfl)⟩
    clear hS hc4 kb sz hlen
    gi_wp2
    exact HE.out
set_option maxRecDepth 100000 in
set_option maxHeartbeats 2000000 in
theorem free_all {w : World} {p b mm N r : Nat} {B : Nat → Int} {L : List Nat} {F : Nat → Option Nat} {lf : Nat → Nat → Int} {l : List Pg} (hR : Ram w p b mm N B L) (hP : PT N L B F lf) (hr : F 0 = some r) (hT : TL F lf l) (hnd : l.Pairwise (fun a b => a.1 ≠ b.1)) (hl : l = []) :
    Calls Tryz.prog 104 #[.pointer (some ⟨p, 0, .none⟩), .int .u64 (ad r)] w fun e w' => e = .returned (.int .i64 0) ∧ ∃ B', Ram w' p b mm N B' (r :: L) ∧ Fra p b mm w w' := by
  obtain ⟨W1, hW1⟩ : ∃ W1, W1 = w.alloc (.cells #[.int .i64 0] 29) := ⟨_, rfl⟩
  have b1 : Below w.heap.size w W1 := by rw [hW1]; exact below1 _ _
  have hs1 : W1.heap.size = w.heap.size + 1 := by rw [hW1]; simp
  have q1 : W1.cell? ⟨w.heap.size, 0, .none⟩ = some (.int .i64 0) := by rw [hW1]; simp
  have q2 : W1.frozen? ⟨w.heap.size, 0, .none⟩ = false := by rw [hW1]; simp
  have hrb : 0 ≤ ad r ∧ ad r < 18446744073709551616 := by have h1 := hP.held 0 r hr; have h2 := hR.mem.n2; unfold ad; omega
  have c38 := isMade_any (hR.below b1)
  have c42 := isNode_any (hR.below b1) (ad r) hrb
  rw [hP.ndB hr] at c42
  have HR : Hid (Ram w p b mm N B L ∧ PT N L B F lf ∧ F 0 = some r ∧ TL F lf l) := ⟨hR, hP, hr, hT⟩
  have HL : Hid (LvS l (lvl (evs F lf 0))) := hT.leaves hP hnd
  have H1 : Hid (Below w.heap.size w W1 ∧ W1.heap.size = w.heap.size + 1 ∧ W1.cell? ⟨w.heap.size, 0, .none⟩ = some (.int .i64 0) ∧ W1.frozen? ⟨w.heap.size, 0, .none⟩ = false) := ⟨b1, hs1, q1, q2⟩
  clear hR hP hr hT hnd b1 hs1 q1 q2 hrb
  refine (callsIn_wide (n := 3)).1 ?_
  refine callsIn_of_wp_marks Tryz.func104 rfl trivial ?_ rfl
  refine wpIn_wide.2 ?_
  simp only [Tryz.ntmps104, List.size_toArray, List.length_cons, List.length_nil, Nat.reduceAdd, Nat.reduceSub, Array.replicate_succ, Array.replicate_zero, List.push_toArray, List.append_toArray, List.nil_append, List.cons_append]
  go_wp2_with fail
  rw [← hW1]
  clear hW1
  go_wp2_with (first | (go_at_call 111; refine c38.mono ?_; rintro _ w2 ⟨rfl, e2⟩; obtain rfl : W1 = w2 := e2.symm; clear e2) | (go_at_call 93; refine c42.mono ?_; rintro _ w3 ⟨rfl, b3⟩; have H3 : Hid (Below W1.heap.size W1 w3) := b3; clear b3 c38 c42))
  obtain ⟨V, hV⟩ : ∃ V, V = (w3.alloc (.cells #[.pointer (some ⟨p, 0, .none⟩)] 25)).alloc (.cells #[.int .u64 (ad r)] 23) := ⟨_, rfl⟩
  have bV : Below w3.heap.size w3 V := by rw [hV]; exact ((Below.refl _ _).alloc (Nat.le_refl _) _).alloc (by simp) _
  have sV : V.heap.size = w3.heap.size + 2 := by rw [hV]; simp
  have v1 : V.cell? ⟨w3.heap.size, 0, .none⟩ = some (.pointer (some ⟨p, 0, .none⟩)) := by rw [hV]; simp
  have v2 : V.cell? ⟨w3.heap.size + 1, 0, .none⟩ = some (.int .u64 (ad r)) := by rw [hV]; simp
  have s3 : w.heap.size + 1 ≤ w3.heap.size := by have := H3.out.size; have := H1.out.2.1; omega
  have B3 : Below w.heap.size w V := (H1.out.1.trans (H3.out.mono H1.out.1.size)).trans (bV.mono (by omega))
  have r1 : V.cell? ⟨w.heap.size, 0, .none⟩ = some (.int .i64 0) := (bV.cell (p := ⟨w.heap.size, 0, .none⟩) (by simp only; omega)).trans ((H3.out.cell (p := ⟨w.heap.size, 0, .none⟩) (by have := H1.out.2.1; simp only; omega)).trans H1.out.2.2.1)
  have r2 : V.frozen? ⟨w.heap.size, 0, .none⟩ = false := (bV.frozen (p := ⟨w.heap.size, 0, .none⟩) (by simp only; omega)).trans ((H3.out.frozen (p := ⟨w.heap.size, 0, .none⟩) (by have := H1.out.2.1; simp only; omega)).trans H1.out.2.2.2)
  have hseq := fun n => leaves_seq (HR.out.1.below B3) HR.out.2.1 HR.out.2.2.1 n _ _ v1 v2
  have c21 := leaves_any p (ad r) w3
  rw [← hV] at c21
  have hc : w.heap.size < V.heap.size := by omega
  have HV : Hid ((∀ n, SeqK n 98 #[.pointer (some ⟨w3.heap.size, 0, .none⟩), .pointer (some ⟨w3.heap.size + 1, 0, .none⟩)] lvE (lvl (evs F lf 0)) p b mm V) ∧ Below w.heap.size w V ∧ V.cell? ⟨w.heap.size, 0, .none⟩ = some (.int .i64 0) ∧ V.frozen? ⟨w.heap.size, 0, .none⟩ = false ∧ p < w.heap.size ∧ b < w.heap.size ∧ mm < w.heap.size) := ⟨hseq, B3, r1, r2, HR.out.1.mem.plt, HR.out.1.mem.blt, HR.out.1.mem.mlt⟩
  clear hseq B3 r1 r2 sV s3 hV bV v1 v2 H1 H3
  go_wp2_with (go_at_call 61; refine c21.mono ?_; rintro _ w5 ⟨rfl, e5⟩; obtain rfl : V = w5 := e5.symm; clear e5 c21)
  refine (wpIn_wide (n := 3)).1 (range_K (α := Int × Int) (by omega) (gf := 98) (lb := #[.pointer (some ⟨w3.heap.size, 0, .none⟩), .pointer (some ⟨w3.heap.size + 1, 0, .none⟩)]) rfl (enters_of Tryz.func98 (by kernel_rfl) rfl) (Below.refl _ _) (HV.out.1 2) (by have := HV.out; omega) (fun _ => rfl)
    (FrI V w.heap.size) (fun k _ => V.heap.size ≤ k) (FrI.own hc) (FrI.gd hc) (fun s k W l o o' h hk _ _ _ _ => hk) ⟨rfl, ⟨Nat.le_refl _, rfl, rfl, rfl, fun _ _ _ => rfl⟩, rfl⟩ (FrX V w.heap.size) (fun pre W l o o' h hl _ _ => h.put hc o' hl) (fun _ _ _ h hm => h.mv hc hm) (fun s k W l o o' h hk _ _ _ _ => hk)
    (fun x a' W => a' = { tmps := #[.pointer (some ⟨p, 0, .none⟩), .int .u64 (ad r), undef, undef, .pointer (some ⟨w.heap.size, 0, .none⟩), undef, undef, .bool false, .pointer (some ⟨p, 0, .none⟩), .bool true, .bool false, .bool false, .pointer (some ⟨p, 0, .none⟩), .int .u64 (ad r), .bool true, .bool false, .pointer (some ⟨p, 0, .none⟩), .int .u64 (ad r), .func (.func 98) #[] #[.pointer (some ⟨w3.heap.size, 0, .none⟩), .pointer (some ⟨w3.heap.size + 1, 0, .none⟩)], .int .u64 x.1, .int .u64 x.2, undef, undef, undef, undef, undef, undef, undef, undef, undef, undef, undef, undef], defers := [] }) (fun x a' W l o o' h _ _ _ => h) ?assign ?body ?done ?left)
  case assign =>
    intro l' x U K hU hK
    simp only [lvE]
    gi_wp2
    exact hK _ _ (Below.refl _ _) rfl
  case left =>
    rintro D U pre hD hpre hX hDd
    refine absurd ?_ hX.1
    have h1 := HL.out.len
    have h2 := hpre.length_le
    rw [hl] at h1
    simp at h1
    rw [h1] at h2
    exact List.length_eq_zero_iff.1 (by simpa using h2)
  case body =>
    rintro l' pre x a' U hI rfl hlen
    obtain ⟨rfl, hS, hc4⟩ := hI
    have q1 := (World.cell?_of_block (a := ⟨w.heap.size, 0, .none⟩) hc4).trans HV.out.2.2.1
    have q2 := (World.frozen?_of_block (a := ⟨w.heap.size, 0, .none⟩) hc4).trans HV.out.2.2.2.1
    have kb : ∀ k, k ≠ w.heap.size → (U.setCell ⟨w.heap.size, 0, .none⟩ (.int .i64 87)).heap[k]? = U.heap[k]? := fun k hk => Below.heap_setCell _ _ _ k hk
    have sz : (U.setCell ⟨w.heap.size, 0, .none⟩ (.int .i64 87)).heap.size = U.heap.size := by simp
    have HE : Hid (KeepsFrom V.heap.size U (U.setCell ⟨w.heap.size, 0, .none⟩ (.int .i64 87)) ∧ KpG (fun k _ => V.heap.size ≤ k) p b mm U (U.setCell ⟨w.heap.size, 0, .none⟩ (.int .i64 87)) ∧ FrX V w.heap.size ([] ++ [x]) (U.setCell ⟨w.heap.size, 0, .none⟩ (.int .i64 87))) := by
      have hp := HV.out.2.2.2.2
      refine ⟨⟨by omega, fun k o hk ho _ => (kb k (by omega)).trans ho⟩, ⟨fun k o hk ho => ⟨(kb k (by omega)).trans ho, hk⟩, kb p (by omega), kb b (by omega), kb mm (by omega), by omega⟩, by simp, ⟨by rw [sz]; exact hS.size, hS.os, hS.tape, hS.output, fun k hk hn => (kb k hn).trans (hS.block k hk hn)⟩, World.cell?_setCell_same' _ _ _ (by rw [q1]; rfl)⟩
    clear hS hc4 kb sz hlen
    gi_wp2
    exact HE.out
  case done =>
    rintro D U hD hI hDd
    obtain ⟨_, hS, hc4⟩ := hI
    have hBU := hS.below HV.out.2.1 (Nat.le_refl _)
    have q1 := (World.cell?_of_block (a := ⟨w.heap.size, 0, .none⟩) hc4).trans HV.out.2.2.1
    have q2 := (World.frozen?_of_block (a := ⟨w.heap.size, 0, .none⟩) hc4).trans HV.out.2.2.2.1
    have hnl : ndl r (evs F lf 0) = [ad r] := by
      have := HR.out.2.2.2.nodes HR.out.2.1 r
      rw [hl] at this
      have h1 : (ndl r (evs F lf 0)).length = 1 := this
      unfold ndl at h1 ⊢
      rw [List.length_cons] at h1
      rw [List.length_eq_zero_iff.1 (Nat.succ.inj h1)]
    have c12 := nodes_any (HR.out.1.below hBU) HR.out.2.1 HR.out.2.2.1
    rw [hnl] at c12
    have hDU : D < U.heap.size := (Array.getElem?_eq_some_iff.1 hDd).1
    have HD : Hid (Below w.heap.size w U ∧ D < U.heap.size ∧ w.heap.size < D ∧ U.heap[D]? = some (.deferred (some [])) ∧ U.cell? ⟨w.heap.size, 0, .none⟩ = some (.int .i64 0) ∧ U.frozen? ⟨w.heap.size, 0, .none⟩ = false) := ⟨hBU, hDU, by omega, hDd, q1, q2⟩
    clear hS hc4 hBU q1 q2 hnl hDU hDd hD HL hl
    dsimp only
    go_wp2_with (first | (go_at_call 59; refine c12.mono ?_; rintro _ w7 ⟨g7, c7, rfl, own7, b7⟩; clear c12))
    obtain ⟨hr1, hrN, hrL⟩ := HR.out.2.1.held 0 r HR.out.2.2.1
    have BU := HD.out.1
    have c52 : Calls Tryz.prog 35 #[.pointer (some ⟨p, 0, .none⟩), .int .u64 (ad r)] w7 fun e w' => e = .returned (.int .i64 0) ∧ Ram w' p b mm N (thr B r (adr L)) (r :: L) ∧ Fra p b mm w7 w' := free_held r ((HR.out.1.below BU).below b7) hr1 hrN hrL
    have e0 : w7.cell? ⟨g7, 0, .none⟩ = some (.int .u64 (ad r)) := by
      exact own7.cellAt 0 (by simp)
    have h7 : Below w.heap.size w w7 := BU.trans (b7.mono BU.size)
    have q7 := (b7.cell (p := ⟨w.heap.size, 0, .none⟩) (by have := HD.out; simp only; omega)).trans HD.out.2.2.2.2.1
    have q8 := (b7.frozen (p := ⟨w.heap.size, 0, .none⟩) (by have := HD.out; simp only; omega)).trans HD.out.2.2.2.2.2
    have d7 := (b7.block D HD.out.2.1).trans HD.out.2.2.2.1
    have HW : Hid (Below w.heap.size w w7 ∧ w7.cell? ⟨w.heap.size, 0, .none⟩ = some (.int .i64 0) ∧ w7.frozen? ⟨w.heap.size, 0, .none⟩ = false ∧ w7.heap[D]? = some (.deferred (some [])) ∧ w.heap.size < D ∧ D < w7.heap.size) := ⟨h7, q7, q8, d7, HD.out.2.2.1, Nat.lt_of_lt_of_le HD.out.2.1 b7.size⟩
    clear own7 b7 BU h7 q7 q8 d7 HD hr1 hrN hrL
    go_loopw [25] (fun v wr => (v = .int .i64 0 ∧ wr = w7) ∨ (v = .int .i64 1 ∧ Hid (Ram wr p b mm N (thr B r (adr L)) (r :: L) ∧ Fra p b mm w7 wr))) (fun v _ => (1 - intOf v).toNat)
    case atStart => exact .inl ⟨rfl, rfl⟩
    case round =>
      rcases hrel with ⟨rfl, rfl⟩ | ⟨rfl, HF⟩
      · go_wp2_with (first | (go_at_call 35; refine c52.mono ?_; rintro _ w8 ⟨rfl, k8, f8⟩; have HF : Hid (Ram w8 p b mm N (thr B r (adr L)) (r :: L) ∧ Fra p b mm wr w8) := ⟨k8, f8⟩; clear k8 f8 c52))
        exact ⟨.inr ⟨rfl, HF⟩, by simp [intOf]⟩
      · obtain ⟨h7, q7, q8, d7, hwD, hD7⟩ := HW.out
        have hp := HV.out.2.2.2.2
        have f8 := HF.out.2
        have x1 := (f8.cell (x := ⟨w.heap.size, 0, .none⟩) (by simp only; omega) (by simp only; omega) (by simp only; omega) (by simp only; omega)).trans q7
        have x2 := (f8.frozen (x := ⟨w.heap.size, 0, .none⟩) (by simp only; omega) (by simp only; omega) (by simp only; omega) (by simp only; omega)).trans q8
        have x3 := (f8.block D hD7 (by omega) (by omega) (by omega)).trans d7
        have x4 : (wr.setCell ⟨w.heap.size, 0, .none⟩ (.int .i64 0)).heap[D]? = some (.deferred (some [])) := (Below.heap_setCell _ _ _ D (by simp only; omega)).trans x3
        obtain ⟨X, hX⟩ : ∃ X, X = (wr.setCell ⟨w.heap.size, 0, .none⟩ (.int .i64 0)).putObj D (.deferred none) := ⟨_, rfl⟩
        have y1 : X.cell? ⟨w.heap.size, 0, .none⟩ = some (.int .i64 0) := by
          rw [hX]
          exact (World.cell?_of_block (a := ⟨w.heap.size, 0, .none⟩) (World.putObj_heap_other (by simp only; omega))).trans (World.cell?_setCell_same' _ _ _ (by rw [x1]; rfl))
        have kb : ∀ k, k ≠ D → k ≠ w.heap.size → X.heap[k]? = wr.heap[k]? := fun k h1 h2 => by rw [hX]; exact (World.putObj_heap_other h1).trans (Below.heap_setCell _ _ _ k h2)
        have HE : Hid (Ram X p b mm N (thr B r (adr L)) (r :: L) ∧ Fra p b mm w X) := by
          have hR8 := HF.out.1
          have hs7 := h7.size
          refine ⟨⟨hR8.mem.keep (kb p (by omega) (by omega)) (kb b (by omega) (by omega)) (kb mm (by omega) (by omega)), hR8.nd, hR8.lt, hR8.thr⟩, ⟨?_, ?_, ?_, ?_, fun k hk h1 h2 h3 => (kb k (by omega) (by omega)).trans ((f8.block k (by omega) h1 h2 h3).trans (h7.block k hk))⟩⟩
          · rw [hX]; exact f8.os.trans h7.os
          · rw [hX]; exact f8.tape.trans h7.tape
          · rw [hX]; exact f8.output.trans h7.output
          · rw [hX]; simp [World.putObj]; exact Nat.le_trans h7.size f8.size
        clear kb f8 HF d7 q7 q8 h7
        go_wp2
        refine ⟨by simp, .inl ⟨_, _, rfl, run_takeDeferred x4, ?_⟩⟩
        rw [← hX]
        exact ⟨.int .i64 0, by simp [results, Tryz.results104, go_sem, y1], rfl, _, HE.out⟩
end Go.Proofs.YtblmkkhiojbcjaaGreat
namespace Go.Proofs.YtblmkkhiojbcjaaGreat
open Go Go.RowKit Go.Shelf
attribute [local go_sem] Oper.semAt_some
set_option linter.unusedVariables false
set_option linter.unusedSimpArgs false
attribute [local irreducible] eM evs
/-- The permissions of a page of the law's. -/
def pgP (c : Int) : Int := bits .or .u64 (bits .and .u64 c 254) 2
set_option maxRecDepth 100000 in
theorem low_and : ∀ k : Fin 1024, k.val &&& 254 = (k.val % 256) &&& 254 := by decide
set_option maxRecDepth 100000 in
theorem pg_bits : ∀ k : Fin 256, 0 ≤ pgP (k.val : Int) ∧ pgP (k.val : Int) < 256 ∧ pgP (k.val : Int) % 2 = 0 ∧ hs (pgP (k.val : Int)) 2 = true ∧ ho (pgP (k.val : Int)) 10 = true ∧ ho (pgP (k.val : Int)) 18446744073709551361 = false := by decide +kernel
theorem pgP_low (c : Int) (hc : 0 ≤ c ∧ c < 18446744073709551616) : pgP c = pgP ((c % 256).toNat : Int) := by
  unfold pgP
  have h1 : bits .and .u64 c ((254 : Nat) : Int) = (((c % 1024).toNat &&& 254 : Nat) : Int) := and_low c hc 254 (by omega)
  have h2 : bits .and .u64 ((c % 256).toNat : Int) ((254 : Nat) : Int) = (((((c % 256).toNat : Int) % 1024).toNat &&& 254 : Nat) : Int) := and_low _ (by omega) 254 (by omega)
  have h3 := low_and ⟨(c % 1024).toNat, by omega⟩
  simp only at h3
  rw [show ((254 : Nat) : Int) = 254 from rfl] at h1 h2
  rw [h1, h2, h3, show (c % 1024).toNat % 256 = (((c % 256).toNat : Int) % 1024).toNat by omega]
theorem pgP_all (c : Int) (hc : 0 ≤ c ∧ c < 18446744073709551616) : 0 ≤ pgP c ∧ pgP c < 256 ∧ pgP c % 2 = 0 ∧ hs (pgP c) 2 = true ∧ ho (pgP c) 10 = true ∧ ho (pgP c) 18446744073709551361 = false := by
  rw [pgP_low c hc]
  exact pg_bits ⟨(c % 256).toNat, by omega⟩
def pg3 (a b c : Int) : Pg := (pgV a, pgA b, pgP c)
theorem pg_ok (a b c : Int) (hc : 0 ≤ c ∧ c < 18446744073709551616) : okP (pg3 a b c) ∧ (!ho (pg3 a b c).2.2 18446744073709551361 && ho (pg3 a b c).2.2 10 && (!hs (pg3 a b c).2.2 4 || hs (pg3 a b c).2.2 2)) = true := by
  obtain ⟨h1, h2, h3, h4, h5, h6⟩ := pgP_all c hc
  have hv := pgV_b a
  have ha := pgA_b b
  unfold pg3
  simp only
  refine ⟨⟨⟨hv.1, hv.2.2, hv.2.1⟩, ⟨ha.1, ha.2.2, ha.2.1⟩, ⟨h1, h2, h3⟩, ?_⟩, by rw [h4, h5, h6]; simp⟩
  have b4 := hs_low (pgP c) ⟨h1, h2⟩ 2 (by omega)
  have b5 : ho (pgP c) 10 = ((((pgP c % 1024).toNat &&& 10 : Nat) : Int) != 0) := by
    unfold ho
    rw [show (10 : Int) = ((10 : Nat) : Int) from rfl, and_low (pgP c) (by omega) 10 (by omega)]
  have key : ∀ k : Fin 256, k.val % 2 = 0 → ((k.val &&& 2 == 2) = true → ((k.val + 1) &&& 2 == 2) = true) ∧ ((k.val &&& 10 != 0) = true → ((k.val + 1) &&& 10 != 0) = true) := by decide +kernel
  obtain ⟨k1, k2⟩ := key ⟨(pgP c).toNat, by omega⟩ (by simp only; omega)
  simp only at k1 k2
  refine kd_leaf (pgA b) (pgP c) ⟨ha.1, ha.2.2⟩ ha.2.1 ⟨h1, h2⟩ h3 (fun _ => ?_) ?_
  · have := hs_toP (pgA b) (pgP c) ⟨ha.1, ha.2.2⟩ (by omega) h3 2 (by omega)
    rw [show ((2 : Nat) : Int) = 2 from rfl] at this b4
    rw [this, show (pgP c + 1).toNat = (pgP c).toNat + 1 by omega]
    rw [h4] at b4
    have := k1 b4.symm
    rw [beq_iff_eq] at this ⊢
    omega
  · have := ho_toP (pgA b) (pgP c) ⟨ha.1, ha.2.2⟩ (by omega) h3 10 (by omega)
    rw [show ((10 : Nat) : Int) = 10 from rfl] at this
    rw [this, show (pgP c + 1).toNat = (pgP c).toNat + 1 by omega]
    rw [h5] at b5
    have h9 := k2 (by
      have h8 := b5.symm
      rw [bne_iff_ne] at h8 ⊢
      rw [show pgP c % 1024 = pgP c by omega] at h8
      omega)
    rw [bne_iff_ne] at h9 ⊢
    omega
/-- A table with just these pages, and how many frames there are for its nodes. -/
def Tb (p b m N r K : Nat) (l : List Pg) (W : World) : Prop := (∃ B L F lf, Ram W p b m N B L ∧ PT N L B F lf ∧ F 0 = some r ∧ TL F lf l ∧ L.length + nodesF F = K) ∧ l.Pairwise (fun a b => a.1 ≠ b.1)
section
variable {p b m N r K : Nat} {l : List Pg} {W : World}
theorem Tb.below {W' : World} (h : Tb p b m N r K l W) (k : Below W.heap.size W W') : Tb p b m N r K l W' := by
  obtain ⟨⟨B, L, F, lf, h1, h2⟩, h3⟩ := h
  exact ⟨⟨B, L, F, lf, h1.below k, h2⟩, h3⟩
theorem Tb.lt (h : Tb p b m N r K l W) : p < W.heap.size ∧ b < W.heap.size ∧ m < W.heap.size := by
  obtain ⟨⟨B, L, F, lf, h1, h2⟩, h3⟩ := h
  exact ⟨h1.mem.plt, h1.mem.blt, h1.mem.mlt⟩
theorem Tb.ok (h : Tb p b m N r K l W) : (∀ x ∈ l, okP x) ∧ (∀ x ∈ l, ∀ z ∈ l, x.1 = z.1 → x = z) := by
  obtain ⟨⟨B, L, F, lf, h1, h2, h3, h4, h5⟩, h6⟩ := h
  exact ⟨h4.ok, h4.uniq⟩
theorem Tb.parts (h : Tb p b m N r K l W) : prt (gV l) 1073741824 l.length + prt (gV l) 2097152 l.length ≤ K := by
  obtain ⟨⟨B, L, F, lf, h1, h2, h3, h4, h5⟩, h6⟩ := h
  have := h4.nodesF h2
  omega
theorem Tb.count (h : Tb p b m N r K l W) : Calls Tryz.prog 30 #[.pointer (some ⟨p, 0, .none⟩)] W fun e w' => e = .returned (.int .i64 ((K : Int) - (prt (gV l) 1073741824 l.length : Nat) - (prt (gV l) 2097152 l.length : Nat))) ∧ Below W.heap.size W w' := by
  obtain ⟨⟨B, L, F, lf, h1, h2, h3, h4, h5⟩, h6⟩ := h
  have e := h4.nodesF h2
  have hl := length_le N L h1.mem.n1 h1.nd h1.lt
  refine (count_any h1.mem (by omega)).mono fun e w' ⟨h7, k, h8⟩ => ⟨?_, ?_⟩
  · rw [h7]
    refine congrArg Ending.returned (congrArg (Value.int .i64) ?_)
    omega
  · rw [h8]; exact blw_drewN _ _ _
theorem Tb.unmap (h : Tb p b m N r K l W) {y : Pg} (hy : y ∈ l) {lm : List Pg} (hm : ∀ z, z ∈ lm ↔ z ∈ l ∧ z ≠ y) (hpw : lm.Pairwise (fun a b => a.1 ≠ b.1)) : Calls Tryz.prog 88 #[.pointer (some ⟨p, 0, .none⟩), .int .u64 (ad r), .int .u64 y.1] W fun e w' => e = .returned (.tuple #[.int .u64 (toP y.2.1 y.2.2), .int .i64 0]) ∧ Tb p b m N r K lm w' ∧ Fra p b m W w' := by
  obtain ⟨⟨B, L, F, lf, h1, h2, h3, h4, h5⟩, h6⟩ := h
  have hok := h4.ok y hy
  have hlf := h4.leaf y hy
  refine (unmap_some h1 h2 h3 y.1 hok.1 (by rw [hlf]; exact hok.ne)).mono fun e w' hU => ?_
  obtain ⟨he, g, q, B', L', F', lf', e1, e2, e3, e4, e5, e6⟩ := hU
  rw [hlf] at he
  refine ⟨he, ⟨⟨B', L', F', lf', e5, e3, ?_, h4.unmap hy hm e4, ?_⟩, hpw⟩, e6⟩
  · have hy0 := y0_ge y.1
    have hy1 := y1_le y.1
    rcases e4 with ⟨_, rfl, _⟩ | ⟨_, rfl, _⟩ | ⟨_, rfl, _⟩
    · exact h3
    · unfold setN; rw [if_neg (by omega)]; exact h3
    · unfold setN; rw [if_neg (by omega), if_neg (by omega)]; exact h3
  · have := e4.len e1 e2
    omega
theorem Tb.unmapNone (h : Tb p b m N r K l W) (va : Int) (hv : 0 ≤ va ∧ va < 274877906944 ∧ va % 4096 = 0) (hn : ∀ x ∈ l, x.1 ≠ va) : Calls Tryz.prog 88 #[.pointer (some ⟨p, 0, .none⟩), .int .u64 (ad r), .int .u64 va] W fun e w' => e = .returned (.tuple #[.int .u64 0, .int .i64 86]) ∧ Below W.heap.size W w' := by
  obtain ⟨⟨B, L, F, lf, h1, h2, h3, h4, h5⟩, h6⟩ := h
  exact unmap_none h1 h2 h3 va hv (h4.none_at va hv hn)
/-- What Map comes to. -/
def MpP (p b m N r K nd : Nat) (l : List Pg) (x : Pg) (W : World) (e : Ending) (w' : World) : Prop :=
  ((∃ y ∈ l, y.1 = x.1) ∧ e = .returned (.int .i64 84) ∧ Below W.heap.size W w') ∨
  ((∀ y ∈ l, y.1 ≠ x.1) ∧ K < nd + prt (gV l) 1073741824 l.length + prt (gV l) 2097152 l.length ∧ e = .returned (.int .i64 85) ∧ Below W.heap.size W w') ∨
  ((∀ y ∈ l, y.1 ≠ x.1) ∧ nd + prt (gV l) 1073741824 l.length + prt (gV l) 2097152 l.length ≤ K ∧ e = .returned (.int .i64 0) ∧ Tb p b m N r K (l ++ [x]) w' ∧ Fra p b m W w')
theorem Tb.freeLeft (h : Tb p b m N r K l W) (hl : l ≠ []) : Calls Tryz.prog 104 #[.pointer (some ⟨p, 0, .none⟩), .int .u64 (ad r)] W fun e w' => e = .returned (.int .i64 87) ∧ Below W.heap.size W w' := by
  obtain ⟨⟨B, L, F, lf, h1, h2, h3, h4, h5⟩, h6⟩ := h
  exact free_left h1 h2 h3 h4 h6 hl
theorem Tb.freeAll (h : Tb p b m N r K [] W) : Calls Tryz.prog 104 #[.pointer (some ⟨p, 0, .none⟩), .int .u64 (ad r)] W fun e w' => e = .returned (.int .i64 0) ∧ Fra p b m W w' ∧ Calls Tryz.prog 30 #[.pointer (some ⟨p, 0, .none⟩)] w' fun e w9 => e = .returned (.int .i64 (K + 1 : Nat)) ∧ Below w'.heap.size w' w9 := by
  obtain ⟨⟨B, L, F, lf, h1, h2, h3, h4, h5⟩, h6⟩ := h
  have e : nodesF F = 0 := h4.nodesF h2
  refine (free_all h1 h2 h3 h4 h6 rfl).mono fun e w' ⟨k1, B', k2, k3⟩ => ⟨k1, k3, ?_⟩
  have hl := length_le N (r :: L) k2.mem.n1 k2.nd k2.lt
  refine (count_any k2.mem (by omega)).mono fun e w9 ⟨h7, k, h8⟩ => ⟨?_, ?_⟩
  · rw [h7]
    refine congrArg Ending.returned (congrArg (Value.int .i64) ?_)
    rw [List.length_cons] at hl ⊢
    omega
  · rw [h8]; exact blw_drewN _ _ _
end
end Go.Proofs.YtblmkkhiojbcjaaGreat
