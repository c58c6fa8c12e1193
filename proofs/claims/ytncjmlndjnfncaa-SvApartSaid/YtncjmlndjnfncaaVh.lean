import Derived.Test.YtncjmlndjnfncaaVg
namespace Go.Proofs.Ytncjmlndjnfncaa
open Go Go.RowKit Go.Shelf
attribute [local go_sem] Oper.semAt_some
set_option linter.unusedVariables false
set_option linter.unusedSimpArgs false
attribute [local irreducible] eM evs
theorem leaves_any (p : Nat) (root : Int) (w : World) : Calls Try.prog 21 #[.pointer (some ⟨p, 0, .none⟩), .int .u64 root] w fun e w' => e = .returned (.func (.func 53) #[] #[.pointer (some ⟨w.heap.size, 0, .none⟩), .pointer (some ⟨w.heap.size + 1, 0, .none⟩)]) ∧ w' = (w.alloc (.cells #[.pointer (some ⟨p, 0, .none⟩)] 23)).alloc (.cells #[.int .u64 root] 28) := by
  go_enter Try.func21, Try.ntmps21
  go_wp2
  go_ret
  exact ⟨rfl, rfl⟩
theorem func_not_nil (X : Array Value) (V : World) : Sem.run Try.prog (Go.binOp .eql 56 (.func (.func 53) #[] X) .nilFunc) V = .ok (.bool false) V := by
  kernel_rfl
attribute [local go_sem] func_not_nil
def NdQ (W1 : World) (nn : Nat) (e : Ending) (w' : World) : Prop := ∃ g c, e = .returned (.slice (some ⟨g, 0, .none⟩) nn c) ∧ Below W1.heap.size W1 w'
/-- The last address that was met. -/
def lst (pre : List (Int × Int)) : Int := (pre.getLast?.map (·.1)).getD 0
/-- What the range in holds holds on to. -/
structure HoI (V : World) (cn cl : Nat) (pre : List (Int × Int)) (W : World) : Prop where
  size : V.heap.size ≤ W.heap.size
  os : W.os = V.os
  tape : W.tape = V.tape
  output : W.output = V.output
  block : ∀ k, k < V.heap.size → k ≠ cn → k ≠ cl → W.heap[k]? = V.heap[k]?
  n : W.cell? ⟨cn, 0, .none⟩ = some (.int .i64 pre.length)
  l : W.cell? ⟨cl, 0, .none⟩ = some (.int .u64 (lst pre))
  fn : W.frozen? ⟨cn, 0, .none⟩ = false
  fl : W.frozen? ⟨cl, 0, .none⟩ = false
theorem HoI.keep {V W W' : World} {cn cl : Nat} {pre : List (Int × Int)} (h : HoI V cn cl pre W) (h1 : W'.os = W.os) (h2 : W'.tape = W.tape) (h3 : W'.output = W.output) (hs : W.heap.size ≤ W'.heap.size) (hc : cn < V.heap.size ∧ cl < V.heap.size) (hb : ∀ k, k < V.heap.size → W'.heap[k]? = W.heap[k]?) : HoI V cn cl pre W' :=
  ⟨Nat.le_trans h.size hs, h1.trans h.os, h2.trans h.tape, h3.trans h.output, fun k hk a c => (hb k hk).trans (h.block k hk a c), (World.cell?_of_block (a := ⟨cn, 0, .none⟩) (hb _ hc.1)).trans h.n, (World.cell?_of_block (a := ⟨cl, 0, .none⟩) (hb _ hc.2)).trans h.l, (World.frozen?_of_block (a := ⟨cn, 0, .none⟩) (hb _ hc.1)).trans h.fn, (World.frozen?_of_block (a := ⟨cl, 0, .none⟩) (hb _ hc.2)).trans h.fl⟩
theorem HoI.gd {V : World} {cn cl : Nat} (hc : cn < V.heap.size ∧ cl < V.heap.size) : GdJ (fun k _ => V.heap.size ≤ k) (HoI V cn cl) :=
  ⟨fun s W W' hs hm => hs.keep hm.os hm.tape hm.output hm.size hc (fun k hk => hm.block k (Nat.lt_of_lt_of_le hk hs.size) (by omega)), fun s W W' k hs hm hk => hk, fun s W W' k hs hm hk => Nat.le_trans hs.size hk⟩
theorem HoI.own {V : World} {cn cl : Nat} (hc : cn < V.heap.size ∧ cl < V.heap.size) : OwnFrom V.heap.size (HoI V cn cl) := fun s W W' row hs hg hr =>
  hs.keep hg.os hg.tape hg.output hg.size hc (fun k hk => hg.block k (Nat.lt_of_lt_of_le hk hs.size) (fun e => by have := (hr k e.symm).1; omega))
theorem HoI.below {w V W : World} {cn cl : Nat} {pre : List (Int × Int)} (h : HoI V cn cl pre W) (b : Below w.heap.size w V) (hc : w.heap.size ≤ cn ∧ w.heap.size ≤ cl) : Below w.heap.size w W :=
  ⟨h.os.trans b.os, h.tape.trans b.tape, h.output.trans b.output, Nat.le_trans b.size h.size, fun k hk => (h.block k (Nat.lt_of_lt_of_le hk b.size) (by omega) (by omega)).trans (b.block k hk)⟩
theorem lst_app (pre : List (Int × Int)) (x : Int × Int) : lst (pre ++ [x]) = x.1 := by simp [lst]
theorem HoI.step {V U : World} {cn cl p b mm : Nat} {pre : List (Int × Int)} {x : Int × Int} (h : HoI V cn cl pre U) (hc : cn < V.heap.size ∧ cl < V.heap.size) (hne : cn ≠ cl) (hp : p < V.heap.size ∧ b < V.heap.size ∧ mm < V.heap.size) (hq : p ≠ cn ∧ p ≠ cl ∧ b ≠ cn ∧ b ≠ cl ∧ mm ≠ cn ∧ mm ≠ cl) :
    KeepsFrom V.heap.size U ((U.drew.setCell ⟨cl, 0, .none⟩ (.int .u64 x.1)).setCell ⟨cn, 0, .none⟩ (.int .i64 (pre.length + 1))) ∧ KpG (fun k _ => V.heap.size ≤ k) p b mm U ((U.drew.setCell ⟨cl, 0, .none⟩ (.int .u64 x.1)).setCell ⟨cn, 0, .none⟩ (.int .i64 (pre.length + 1))) ∧ HoI V cn cl (pre ++ [x]) ((U.drew.setCell ⟨cl, 0, .none⟩ (.int .u64 x.1)).setCell ⟨cn, 0, .none⟩ (.int .i64 (pre.length + 1))) := by
  obtain ⟨X, hX⟩ : ∃ X, X = (U.drew.setCell ⟨cl, 0, .none⟩ (.int .u64 x.1)).setCell ⟨cn, 0, .none⟩ (.int .i64 (pre.length + 1)) := ⟨_, rfl⟩
  have kb : ∀ k, k ≠ cn → k ≠ cl → X.heap[k]? = U.heap[k]? := fun k h1 h2 => by rw [hX]; exact (Below.heap_setCell _ _ _ k h1).trans (Below.heap_setCell U.drew _ _ k h2)
  have sz : X.heap.size = U.heap.size := by rw [hX]; simp
  have i1 : (U.drew.setCell ⟨cl, 0, .none⟩ (.int .u64 x.1)).cell? ⟨cl, 0, .none⟩ = some (.int .u64 x.1) := World.cell?_setCell_same' _ _ _ (by show (U.cell? _).isSome = true; rw [h.l]; rfl)
  have i2 : (U.drew.setCell ⟨cl, 0, .none⟩ (.int .u64 x.1)).cell? ⟨cn, 0, .none⟩ = some (.int .i64 pre.length) := (World.cell?_setCell_far _ _ _ _ (Ne.symm hne)).trans h.n
  have j1 : X.cell? ⟨cn, 0, .none⟩ = some (.int .i64 (pre.length + 1)) := by rw [hX]; exact World.cell?_setCell_same' _ _ _ (by rw [i2]; rfl)
  have j2 : X.cell? ⟨cl, 0, .none⟩ = some (.int .u64 x.1) := by rw [hX]; exact (World.cell?_setCell_far _ _ _ _ hne).trans i1
  have j3 : X.frozen? ⟨cn, 0, .none⟩ = false := by rw [hX, World.frozen?_setCell, World.frozen?_setCell]; exact h.fn
  have j4 : X.frozen? ⟨cl, 0, .none⟩ = false := by rw [hX, World.frozen?_setCell, World.frozen?_setCell]; exact h.fl
  have o1 : X.os = U.os := by rw [hX]; rfl
  have o2 : X.tape = U.tape := by rw [hX]; rfl
  have o3 : X.output = U.output := by rw [hX]; rfl
  rw [← hX]
  refine ⟨⟨by omega, fun k o hk ho _ => (kb k (by omega) (by omega)).trans ho⟩, ⟨fun k o hk ho => ⟨(kb k (by omega) (by omega)).trans ho, hk⟩, kb p hq.1 hq.2.1, kb b hq.2.2.1 hq.2.2.2.1, kb mm hq.2.2.2.2.1 hq.2.2.2.2.2, by omega⟩, ?_⟩
  exact ⟨by rw [sz]; exact h.size, o1.trans h.os, o2.trans h.tape, o3.trans h.output, fun k hk a c => (kb k a c).trans (h.block k hk a c), by rw [j1]; simp, by rw [lst_app]; exact j2, j3, j4⟩
theorem lst_lt {ll pre : List (Int × Int)} {x : Int × Int} (h : ll.Pairwise (fun a b => a.1 < b.1)) (hp : pre ++ [x] <+: ll) (hne : pre ≠ []) : lst pre < x.1 := by
  have h2 := h.sublist hp.sublist
  rw [List.pairwise_append] at h2
  unfold lst
  rw [List.getLast?_eq_some_getLast hne]
  exact h2.2.2 _ (List.getLast_mem hne) x (by simp)
theorem fnd_page {l : List Pg} {y : Pg} {k : Int} (hu : ∀ x ∈ l, ∀ z ∈ l, x.1 = z.1 → x = z) (hy : y ∈ l) (hf : Fnd (gV l) l.length y.1 k) : ∃ i : Nat, i < l.length ∧ k = i ∧ gA l i = y.2.1 ∧ gP l i = y.2.2 := by
  rcases hf with ⟨_, hn⟩ | ⟨i, hi, hk, hv, _⟩
  · obtain ⟨i, hi, he⟩ := List.getElem_of_mem hy
    refine absurd ?_ (hn i hi)
    unfold gV
    rw [List.getD_eq_getElem?_getD, List.getElem?_eq_getElem hi, Option.getD_some, he]
  · have hm : l[i] ∈ l := List.getElem_mem hi
    have e : l[i] = y := hu _ hm _ hy (by
      unfold gV at hv
      rw [List.getD_eq_getElem?_getD, List.getElem?_eq_getElem hi, Option.getD_some] at hv
      exact hv)
    refine ⟨i, hi, hk, ?_, ?_⟩
    · unfold gA; rw [List.getD_eq_getElem?_getD, List.getElem?_eq_getElem hi, Option.getD_some, e]
    · unfold gP; rw [List.getD_eq_getElem?_getD, List.getElem?_eq_getElem hi, Option.getD_some, e]
theorem gV_b {l : List Pg} (h : ∀ x ∈ l, okP x) (i : Nat) : 0 ≤ gV l i ∧ gV l i < 18446744073709551616 := by
  unfold gV
  rw [List.getD_eq_getElem?_getD]
  cases hi : l[i]? with
  | none => simp
  | some x =>
    have := (h x (List.mem_of_getElem? hi)).1
    simp only [Option.getD_some]
    omega
theorem region_only {P : Program} {id : Nat} {ops : Array Oper} {Q : Exit → Act → World → Prop} {a : Act} {w : World} (h : (Code.region id ops true).wp P (fun e a w => e = .normal ∧ Q .normal a w) a w) : (Code.region id ops true).wp P Q a w :=
  wp_mono h (fun e a w h => by obtain ⟨rfl, h⟩ := h; exact h)
set_option maxRecDepth 100000 in
set_option maxHeartbeats 2000000 in
theorem holds_any {w : World} {p b mm N r c : Nat} {B : Nat → Int} {L : List Nat} {F : Nat → Option Nat} {lf : Nat → Nat → Int} {q : Option Addr} {l : List Pg} (hR : Ram w p b mm N B L) (hP : PT N L B F lf) (hr : F 0 = some r) (hT : TL F lf l) (hnd : l.Pairwise (fun a b => a.1 ≠ b.1)) (hn : l.length ≤ 1000) (hsee : SeP w q l.length (gV l) (gA l) (gP l)) :
    Calls Try.prog 25 #[.pointer (some ⟨p, 0, .none⟩), .int .u64 (ad r), .slice q l.length c] w fun e w' => e = .returned (.bool true) ∧ Below w.heap.size w w' := by
  obtain ⟨W1, hW1⟩ : ∃ W1, W1 = (w.alloc (.cells #[.slice q l.length c] 61)).alloc (.cells #[.bool false] 4) := ⟨_, rfl⟩
  have b1 : Below w.heap.size w W1 := by rw [hW1]; exact ((Below.refl _ _).alloc (Nat.le_refl _) _).alloc (by simp) _
  have hs1 : W1.heap.size = w.heap.size + 2 := by rw [hW1]; simp
  have hbox : W1.cell? ⟨w.heap.size, 0, .none⟩ = some (.slice q l.length c) := by rw [hW1]; simp
  have hres : W1.cell? ⟨w.heap.size + 1, 0, .none⟩ = some (.bool false) := by rw [hW1]; simp
  have hresf : W1.frozen? ⟨w.heap.size + 1, 0, .none⟩ = false := by rw [hW1]; simp
  have hnn := hT.nodes hP r
  obtain ⟨nn, hnn2⟩ : ∃ nn, nn = (ndl r (evs F lf 0)).length := ⟨_, rfl⟩
  have p1 := prt_le (gV l) 1073741824 l.length
  have p2 := prt_le (gV l) 2097152 l.length
  have c12 : ∀ W, Below W1.heap.size W1 W → Calls Try.prog 12 #[.pointer (some ⟨p, 0, .none⟩), .int .u64 (ad r)] W (NdQ W1 nn) := fun W hW => (nodes_any ((hR.below b1).below hW) hP hr).mono (fun e w' h => by
    obtain ⟨g, c, h1, _, h3⟩ := h
    rw [← hnn2] at h1
    exact ⟨g, c, h1, hW.trans (h3.mono hW.size)⟩)
  have c29a : ∀ W, Below W1.heap.size W1 W → Calls Try.prog 29 #[.slice q l.length c, .int .u64 1073741824] W fun e w' => e = .returned (.int .i64 (prt (gV l) 1073741824 l.length)) ∧ Below W1.heap.size W1 w' := fun W hW => (parts_any ((hsee.keep b1).keep hW) (gV_b hT.ok) 1073741824 (.inl rfl) (by omega)).mono (fun e w' h => ⟨h.1, hW.trans (h.2.mono hW.size)⟩)
  have c29b : ∀ W, Below W1.heap.size W1 W → Calls Try.prog 29 #[.slice q l.length c, .int .u64 2097152] W fun e w' => e = .returned (.int .i64 (prt (gV l) 2097152 l.length)) ∧ Below W1.heap.size W1 w' := fun W hW => (parts_any ((hsee.keep b1).keep hW) (gV_b hT.ok) 2097152 (.inr rfl) (by omega)).mono (fun e w' h => ⟨h.1, hW.trans (h.2.mono hW.size)⟩)
  rw [← hnn2] at hnn
  obtain ⟨t1, ht1⟩ : ∃ t1, t1 = prt (gV l) 1073741824 l.length := ⟨_, rfl⟩
  obtain ⟨t2, ht2⟩ : ∃ t2, t2 = prt (gV l) 2097152 l.length := ⟨_, rfl⟩
  rw [← ht1] at hnn p1 c29a
  rw [← ht2] at hnn p2 c29b
  have HR : Hid (Ram w p b mm N B L ∧ PT N L B F lf ∧ F 0 = some r) := ⟨hR, hP, hr⟩
  have HT : Hid (TL F lf l ∧ LvS l (lvl (evs F lf 0)) ∧ SeP w q l.length (gV l) (gA l) (gP l) ∧ l.length ≤ 1000) := ⟨hT, hT.leaves hP hnd, hsee, hn⟩
  have H1 : Hid (Below w.heap.size w W1 ∧ W1.heap.size = w.heap.size + 2 ∧ W1.cell? ⟨w.heap.size, 0, .none⟩ = some (.slice q l.length c) ∧ W1.cell? ⟨w.heap.size + 1, 0, .none⟩ = some (.bool false) ∧ W1.frozen? ⟨w.heap.size + 1, 0, .none⟩ = false) := ⟨b1, hs1, hbox, hres, hresf⟩
  obtain ⟨m, hm⟩ : ∃ m, m = l.length := ⟨_, rfl⟩
  rw [← hm] at hW1 hbox p1 p2 c29a c29b HT H1 hn ⊢
  have HM : Hid (m = l.length) := hm
  clear hm
  subst hnn
  clear hR hP hr hT hnd hsee hnn2 ht1 ht2 b1 hs1 hres hresf
  refine (callsIn_wide (n := 3)).1 ?_
  refine callsIn_of_wp_marks Try.func25 rfl trivial ?_ rfl
  refine wpIn_wide.2 ?_
  simp only [Try.ntmps25, List.size_toArray, List.length_cons, List.length_nil, Nat.reduceAdd, Nat.reduceSub, Array.replicate_succ, Array.replicate_zero, List.push_toArray, List.append_toArray, List.nil_append, List.cons_append]
  go_wp2_with fail
  rw [← hW1]
  clear hW1
  have hwa : IntKind.i64.wrap (1 + (t1 : Int)) = 1 + t1 := by rw [IntKind.wrap_i64]; omega
  have hwb : IntKind.i64.wrap (1 + (t1 : Int) + t2) = 1 + t1 + t2 := by rw [IntKind.wrap_i64]; omega
  have hlt : w.heap.size < W1.heap.size := by have := H1.out.2.1; omega
  have kS : Below W1.heap.size W1 W1.drew := (Below.refl _ _).drew
  refine region_only ?_
  refine wp_region_held_drew (S := fun X => Below W1.heap.size W1 X) (by kernel_rfl) kS (fun hHeld => ?_)
  refine wpAnyH_take (i := 0) (v := (.pointer (some ⟨p, 0, .none⟩))) rfl (by kernel_rfl) (by kernel_rfl) (by kernel_rfl) (fun _ _ _ h => by cases h.1) (Or.inl ⟨by rfl, fun ww hSw => by (try dsimp only at hSw); go_simp⟩) (by assumption) ?_
  simp only [Act.put, List.setIfInBounds_toArray, List.set_cons_zero, List.set_cons_succ, List.getElem_toArray, List.getElem_cons_succ, List.getElem_cons_zero]
  refine wpAnyH_take (i := 1) (v := (.int .u64 (ad r))) rfl (by kernel_rfl) (by kernel_rfl) (by kernel_rfl) (fun _ _ _ h => by cases h.1) (Or.inl ⟨by rfl, fun ww hSw => by (try dsimp only at hSw); go_simp⟩) (by assumption) ?_
  simp only [Act.put, List.setIfInBounds_toArray, List.set_cons_zero, List.set_cons_succ, List.getElem_toArray, List.getElem_cons_succ, List.getElem_cons_zero]
  refine wpAnyH_take (i := 4) (v := (.slice q m c)) rfl (by kernel_rfl) (by kernel_rfl) (by kernel_rfl) (fun _ _ _ h => by cases h.1) (Or.inl ⟨by rfl, fun ww hSw => by (try dsimp only at hSw); have q0 := (Below.cell hSw (p := ⟨w.heap.size, 0, .none⟩) hlt).trans hbox; go_simp⟩) (by assumption) ?_
  simp only [Act.put, List.setIfInBounds_toArray, List.set_cons_zero, List.set_cons_succ, List.getElem_toArray, List.getElem_cons_succ, List.getElem_cons_zero]
  refine wpAnyH_take (i := 7) (v := (.slice q m c)) rfl (by kernel_rfl) (by kernel_rfl) (by kernel_rfl) (fun _ _ _ h => by cases h.1) (Or.inl ⟨by rfl, fun ww hSw => by (try dsimp only at hSw); have q0 := (Below.cell hSw (p := ⟨w.heap.size, 0, .none⟩) hlt).trans hbox; go_simp⟩) (by assumption) ?_
  simp only [Act.put, List.setIfInBounds_toArray, List.set_cons_zero, List.set_cons_succ, List.getElem_toArray, List.getElem_cons_succ, List.getElem_cons_zero]
  refine wpAnyH_ready (rs := [2]) (by kernel_rfl) (by simp) ?_
  refine AllReadyH.cons rfl (fun K hK => ?_) AllReadyH.nil
  go_simp
  go_at_call 12
  refine (c12 _ hHeld).mono ?_
  rintro _ w2 ⟨g, cc, rfl, k2⟩
  clear hHeld
  refine hK.out _ _ k2 (fun hHeld => ?_)
  clear hK K
  try simp only [Act.put, List.setIfInBounds_toArray, List.set_cons_zero, List.set_cons_succ, List.getElem_toArray, List.getElem_cons_succ, List.getElem_cons_zero]
  refine wpAnyH_take (i := 3) (v := (.int .i64 (1 + t1 + t2 : Nat))) rfl (by kernel_rfl) (by kernel_rfl) (by kernel_rfl) (fun _ _ _ h => by cases h.1) (Or.inl ⟨by rfl, fun ww hSw => by (try dsimp only at hSw); go_simp⟩) (by assumption) ?_
  simp only [Act.put, List.setIfInBounds_toArray, List.set_cons_zero, List.set_cons_succ, List.getElem_toArray, List.getElem_cons_succ, List.getElem_cons_zero]
  refine wpAnyH_ready (rs := [5]) (by kernel_rfl) (by simp) ?_
  refine AllReadyH.cons rfl (fun K hK => ?_) AllReadyH.nil
  go_simp
  go_at_call 29
  refine (c29a _ hHeld).mono ?_
  rintro _ w3 ⟨rfl, k3⟩
  clear hHeld
  refine hK.out _ _ k3 (fun hHeld => ?_)
  clear hK K
  try simp only [Act.put, List.setIfInBounds_toArray, List.set_cons_zero, List.set_cons_succ, List.getElem_toArray, List.getElem_cons_succ, List.getElem_cons_zero]
  refine wpAnyH_take (i := 6) (v := (.int .i64 (1 + t1 : Nat))) rfl (by kernel_rfl) (by kernel_rfl) (by kernel_rfl) (fun _ _ _ h => by cases h.1) (Or.inl ⟨by rfl, fun ww hSw => by (try dsimp only at hSw); go_simp⟩) (by assumption) ?_
  simp only [Act.put, List.setIfInBounds_toArray, List.set_cons_zero, List.set_cons_succ, List.getElem_toArray, List.getElem_cons_succ, List.getElem_cons_zero]
  refine wpAnyH_ready (rs := [8]) (by kernel_rfl) (by simp) ?_
  refine AllReadyH.cons rfl (fun K hK => ?_) AllReadyH.nil
  go_simp
  go_at_call 29
  refine (c29b _ hHeld).mono ?_
  rintro _ w4 ⟨rfl, k4⟩
  clear hHeld
  refine hK.out _ _ k4 (fun hHeld => ?_)
  clear hK K
  try simp only [Act.put, List.setIfInBounds_toArray, List.set_cons_zero, List.set_cons_succ, List.getElem_toArray, List.getElem_cons_succ, List.getElem_cons_zero]
  refine wpAnyH_take (i := 9) (v := (.int .i64 (1 + t1 + t2 : Nat))) rfl (by kernel_rfl) (by kernel_rfl) (by kernel_rfl) (fun _ _ _ h => by cases h.1) (Or.inl ⟨by rfl, fun ww hSw => by (try dsimp only at hSw); go_simp⟩) (by assumption) ?_
  simp only [Act.put, List.setIfInBounds_toArray, List.set_cons_zero, List.set_cons_succ, List.getElem_toArray, List.getElem_cons_succ, List.getElem_cons_zero]
  refine wpAnyH_take (i := 10) (v := (.bool false)) rfl (by kernel_rfl) (by kernel_rfl) (by kernel_rfl) (fun _ _ _ h => by cases h.1) (Or.inl ⟨by rfl, fun ww hSw => by (try dsimp only at hSw); go_simp⟩) (by assumption) ?_
  simp only [Act.put, List.setIfInBounds_toArray, List.set_cons_zero, List.set_cons_succ, List.getElem_toArray, List.getElem_cons_succ, List.getElem_cons_zero]
  refine wpAnyH_done (by kernel_rfl) ?_ _
  refine ⟨rfl, ?_⟩
  clear c12 c29a c29b hHeld kS hbox hlt hwa hwb
  obtain ⟨V0, hV0⟩ : ∃ V0, V0 = (w4.alloc (.cells #[.int .i64 0] 3)).alloc (.cells #[.int .u64 0] 28) := ⟨_, rfl⟩
  obtain ⟨V, hV⟩ : ∃ V, V = (V0.alloc (.cells #[.pointer (some ⟨p, 0, .none⟩)] 23)).alloc (.cells #[.int .u64 (ad r)] 28) := ⟨_, rfl⟩
  have b0 : Below w4.heap.size w4 V0 := by rw [hV0]; exact ((Below.refl _ _).alloc (Nat.le_refl _) _).alloc (by simp) _
  have bV : Below V0.heap.size V0 V := by rw [hV]; exact ((Below.refl _ _).alloc (Nat.le_refl _) _).alloc (by simp) _
  have s0 : V0.heap.size = w4.heap.size + 2 := by rw [hV0]; simp
  have sV : V.heap.size = w4.heap.size + 4 := by rw [hV]; simp [s0]
  have v1 : V.cell? ⟨V0.heap.size, 0, .none⟩ = some (.pointer (some ⟨p, 0, .none⟩)) := by rw [hV]; simp
  have v2 : V.cell? ⟨V0.heap.size + 1, 0, .none⟩ = some (.int .u64 (ad r)) := by rw [hV]; simp
  have u1 : V0.cell? ⟨w4.heap.size, 0, .none⟩ = some (.int .i64 0) := by rw [hV0]; simp
  have u2 : V0.cell? ⟨w4.heap.size + 1, 0, .none⟩ = some (.int .u64 0) := by rw [hV0]; simp
  have f1 : V0.frozen? ⟨w4.heap.size, 0, .none⟩ = false := by rw [hV0]; simp
  have f2 : V0.frozen? ⟨w4.heap.size + 1, 0, .none⟩ = false := by rw [hV0]; simp
  have hs4 : w.heap.size + 2 ≤ w4.heap.size := by have := k4.size; have := H1.out.2.1; omega
  have B1 : Below w.heap.size w w4 := H1.out.1.trans (k4.mono H1.out.1.size)
  have BV : Below w.heap.size w V := (B1.trans (b0.mono (by omega))).trans (bV.mono (by omega))
  have r1 : V.cell? ⟨w.heap.size, 0, .none⟩ = some (.slice q m c) := ((bV.cell (p := ⟨w.heap.size, 0, .none⟩) (by simp only; omega)).trans ((b0.cell (p := ⟨w.heap.size, 0, .none⟩) (by simp only; omega)).trans ((k4.cell (p := ⟨w.heap.size, 0, .none⟩) (by have := H1.out.2.1; simp only; omega)).trans H1.out.2.2.1)))
  have r2 : V.cell? ⟨w.heap.size + 1, 0, .none⟩ = some (.bool false) := ((bV.cell (p := ⟨w.heap.size + 1, 0, .none⟩) (by simp only; omega)).trans ((b0.cell (p := ⟨w.heap.size + 1, 0, .none⟩) (by simp only; omega)).trans ((k4.cell (p := ⟨w.heap.size + 1, 0, .none⟩) (by have := H1.out.2.1; simp only; omega)).trans H1.out.2.2.2.1)))
  have r3 : V.frozen? ⟨w.heap.size + 1, 0, .none⟩ = false := ((bV.frozen (p := ⟨w.heap.size + 1, 0, .none⟩) (by simp only; omega)).trans ((b0.frozen (p := ⟨w.heap.size + 1, 0, .none⟩) (by simp only; omega)).trans ((k4.frozen (p := ⟨w.heap.size + 1, 0, .none⟩) (by have := H1.out.2.1; simp only; omega)).trans H1.out.2.2.2.2)))
  have hseq := fun n => leaves_seq (HR.out.1.below BV) HR.out.2.1 HR.out.2.2 n _ _ v1 v2
  have h0 : HoI V w4.heap.size (w4.heap.size + 1) [] V := ⟨Nat.le_refl _, rfl, rfl, rfl, fun _ _ _ _ => rfl, (bV.cell (p := ⟨w4.heap.size, 0, .none⟩) (by simp only; omega)).trans u1, (bV.cell (p := ⟨w4.heap.size + 1, 0, .none⟩) (by simp only; omega)).trans u2, (bV.frozen (p := ⟨w4.heap.size, 0, .none⟩) (by simp only; omega)).trans f1, (bV.frozen (p := ⟨w4.heap.size + 1, 0, .none⟩) (by simp only; omega)).trans f2⟩
  have c21 := leaves_any p (ad r) V0
  rw [← hV] at c21
  have HV : Hid (HoI V w4.heap.size (w4.heap.size + 1) [] V ∧ (∀ n, SeqK n 53 #[.pointer (some ⟨V0.heap.size, 0, .none⟩), .pointer (some ⟨V0.heap.size + 1, 0, .none⟩)] lvE (lvl (evs F lf 0)) p b mm V) ∧ Below w.heap.size w V ∧ V.cell? ⟨w.heap.size, 0, .none⟩ = some (.slice q m c) ∧ V.cell? ⟨w.heap.size + 1, 0, .none⟩ = some (.bool false) ∧ V.frozen? ⟨w.heap.size + 1, 0, .none⟩ = false ∧ V.heap.size = w4.heap.size + 4 ∧ w.heap.size + 2 ≤ w4.heap.size ∧ V0.heap.size = w4.heap.size + 2) := ⟨h0, hseq, BV, r1, r2, r3, sV, hs4, s0⟩
  clear h0 hseq BV r1 r2 r3 sV s0 hV b0 bV v1 v2 u1 u2 f1 f2 B1 k4 hs4 k2 k3 H1
  go_wp2_with (first | fail)
  rw [← hV0]
  clear hV0
  go_wp2_with (go_at_call 21; refine c21.mono ?_; rintro _ w5 ⟨rfl, e5⟩; obtain rfl : V = w5 := e5.symm; clear e5 c21)
  have hc : w4.heap.size < V.heap.size ∧ w4.heap.size + 1 < V.heap.size := by have := HV.out.2.2.2.2.2.2.1; omega
  refine (wpIn_wide (n := 3)).1 (range_K (α := Int × Int) (by omega) (gf := 53) (lb := #[.pointer (some ⟨V0.heap.size, 0, .none⟩), .pointer (some ⟨V0.heap.size + 1, 0, .none⟩)]) rfl (enters_of Try.func53 (by kernel_rfl) rfl) (Below.refl _ _) (HV.out.2.1 2) (by have h1 := HR.out.1.mem.plt; have h2 := HR.out.1.mem.blt; have h3 := HR.out.1.mem.mlt; have := HV.out.2.2.1.size; omega) (fun _ => rfl)
    (HoI V w4.heap.size (w4.heap.size + 1)) (fun k _ => V.heap.size ≤ k) (HoI.own hc) (HoI.gd hc) (fun s k W l o o' h hk _ _ _ _ => hk) HV.out.1 (fun _ _ => False) (fun _ _ _ _ _ h _ _ _ => h.elim) (fun _ _ _ h _ => h.elim) (fun _ _ _ _ _ _ h _ _ _ _ _ => h.elim)
    (fun x a' W => a' = { tmps := #[.pointer (some ⟨p, 0, .none⟩), .int .u64 (ad r), .slice q m c, undef, undef, .pointer (some ⟨w.heap.size, 0, .none⟩), .pointer (some ⟨w.heap.size + 1, 0, .none⟩), .pointer (some ⟨w4.heap.size, 0, .none⟩), .pointer (some ⟨w4.heap.size + 1, 0, .none⟩), .func (.func 53) #[] #[.pointer (some ⟨V0.heap.size, 0, .none⟩), .pointer (some ⟨V0.heap.size + 1, 0, .none⟩)], .int .u64 x.1, .int .u64 x.2, undef, .pointer (some ⟨p, 0, .none⟩), .int .u64 (ad r), .slice (some ⟨g, 0, .none⟩) (1 + t1 + t2) cc, .int .i64 (1 + t1 + t2), .slice q m c, .int .i64 t1, .int .i64 (1 + t1), .slice q m c, .int .i64 t2, .int .i64 (1 + t1 + t2), .bool false, .pointer (some ⟨p, 0, .none⟩), .int .u64 (ad r), .func (.func 53) #[] #[.pointer (some ⟨V0.heap.size, 0, .none⟩), .pointer (some ⟨V0.heap.size + 1, 0, .none⟩)], .func (.func 53) #[] #[.pointer (some ⟨V0.heap.size, 0, .none⟩), .pointer (some ⟨V0.heap.size + 1, 0, .none⟩)], .bool false, .func (.func 53) #[] #[.pointer (some ⟨V0.heap.size, 0, .none⟩), .pointer (some ⟨V0.heap.size + 1, 0, .none⟩)], .int .u64 x.1, .int .u64 x.2, undef, undef, undef, undef, undef, undef, undef, undef, undef, undef, undef, undef, undef, undef, undef, undef, undef, undef, undef, undef, undef, undef, undef, undef, undef, undef, undef, undef, undef, undef, undef, undef, undef, undef, undef, undef, undef, undef, undef], defers := [] }) (fun x a' W l o o' h _ _ _ => h) ?assign ?body ?done (fun D W pre _ _ h _ => h.elim))
  case assign =>
    intro l' x U K hU hK
    simp only [lvE]
    gi_wp2
    exact hK _ _ (Below.refl _ _) rfl
  case done =>
    rintro D U hD hI hDd
    have n1 := hI.n
    rw [HT.out.2.1.len, ← HM.out] at n1
    obtain ⟨_, _, bV, r1, r2, r3, sV, hs4, s0⟩ := HV.out
    have z1 : U.heap[w.heap.size]? = V.heap[w.heap.size]? := hI.block _ (by omega) (by omega) (by omega)
    have z2 : U.heap[w.heap.size + 1]? = V.heap[w.heap.size + 1]? := hI.block _ (by omega) (by omega) (by omega)
    have r1' := (World.cell?_of_block (a := ⟨w.heap.size, 0, .none⟩) z1).trans r1
    have r2' := (World.cell?_of_block (a := ⟨w.heap.size + 1, 0, .none⟩) z2).trans r2
    have r3' := (World.frozen?_of_block (a := ⟨w.heap.size + 1, 0, .none⟩) z2).trans r3
    have HD : Hid (Below w.heap.size w U ∧ w.heap.size + 1 < D) := ⟨hI.below bV (by omega), by omega⟩
    clear hI r1 r2 r3 z1 z2 sV hs4 s0 bV hD
    have hDd2 : (U.setCell ⟨w.heap.size + 1, 0, .none⟩ (.bool true)).heap[D]? = some (.deferred (some [])) := (Below.heap_setCell _ _ _ D (by have := HD.out.2; simp only; omega)).trans hDd
    dsimp only
    go_wp2
    have hres : ((U.setCell ⟨w.heap.size + 1, 0, .none⟩ (.bool true)).putObj D (.deferred none)).cell? ⟨w.heap.size + 1, 0, .none⟩ = some (.bool true) := (World.cell?_of_block (a := ⟨w.heap.size + 1, 0, .none⟩) (World.putObj_heap_other (by have := HD.out.2; simp only; omega))).trans (World.cell?_setCell_same' _ _ _ (by rw [r2']; rfl))
    refine ⟨by simp, .inl ⟨_, _, rfl, run_takeDeferred hDd2, ?_⟩⟩
    refine ⟨.bool true, by simp [results, Try.results25, go_sem, hres], rfl, ?_⟩
    have hb := HD.out.1
    have hd := HD.out.2
    exact ⟨hb.os, hb.tape, hb.output, by simp [World.putObj]; exact hb.size, fun k hk => (World.putObj_heap_other (by omega)).trans ((Below.heap_setCell _ _ _ k (by simp only; omega)).trans (hb.block k hk))⟩
  case body =>
    rintro l' pre x a' U hI rfl hlen
    obtain ⟨y, hy, hxy⟩ := HT.out.2.1.mem x (hlen.subset (by simp))
    obtain ⟨_, _, bV, r1, r2, r3, sV, hs4, s0⟩ := HV.out
    have hBU : Below w.heap.size w U := hI.below bV (by omega)
    have hok := HT.out.1.ok y hy
    have hplen : pre.length ≤ 1000 := by
      have h1 := hlen.length_le
      rw [HT.out.2.1.len] at h1
      have := HT.out.2.2.2
      rw [HM.out] at this
      simp at h1
      omega
    have hlast : pre ≠ [] → lst pre < x.1 := fun hne => lst_lt HT.out.2.1.up hlen hne
    have z1 : U.heap[w.heap.size]? = V.heap[w.heap.size]? := hI.block _ (by omega) (by omega) (by omega)
    have r1' := (World.cell?_of_block (a := ⟨w.heap.size, 0, .none⟩) z1).trans r1
    have hseeU : SeP U q m (gV l) (gA l) (gP l) := HT.out.2.2.1.keep hBU
    have c28 : Calls Try.prog 28 #[.slice q m c, .int .u64 y.1] U fun e w' => ∃ i : Nat, (i < m ∧ gA l i = y.2.1 ∧ gP l i = y.2.2) ∧ e = .returned (.int .i64 i) ∧ w' = U := (find_any hseeU (by have := HT.out.2.2.2; omega) y.1).mono (fun e w' h => by
      obtain ⟨k, h1, h2, h3⟩ := h
      rw [HM.out] at h2
      obtain ⟨i, hi, hk, ha, hp⟩ := fnd_page HT.out.1.uniq hy h2
      rw [hk] at h1
      exact ⟨i, ⟨by rw [HM.out]; exact hi, ha, hp⟩, h1, h3⟩)
    have hst := HoI.step (x := x) (p := p) (b := b) (mm := mm) hI hc (by omega) (by have h1 := HR.out.1.mem.plt; have h2 := HR.out.1.mem.blt; have h3 := HR.out.1.mem.mlt; omega) (by have h1 := HR.out.1.mem.plt; have h2 := HR.out.1.mem.blt; have h3 := HR.out.1.mem.mlt; omega)
    have i1 := hI.n
    have i2 := hI.l
    have i3 := hI.fn
    have i4 := hI.fl
    obtain ⟨va, pa, pm⟩ := y
    simp only at hxy hok c28
    subst hxy
    simp only at hst hlast
    have HST : Hid (KeepsFrom V.heap.size U ((U.drew.setCell ⟨w4.heap.size + 1, 0, .none⟩ (.int .u64 va)).setCell ⟨w4.heap.size, 0, .none⟩ (.int .i64 (pre.length + 1))) ∧ KpG (fun k _ => V.heap.size ≤ k) p b mm U ((U.drew.setCell ⟨w4.heap.size + 1, 0, .none⟩ (.int .u64 va)).setCell ⟨w4.heap.size, 0, .none⟩ (.int .i64 (pre.length + 1))) ∧ HoI V w4.heap.size (w4.heap.size + 1) (pre ++ [(va, toP pa pm)]) ((U.drew.setCell ⟨w4.heap.size + 1, 0, .none⟩ (.int .u64 va)).setCell ⟨w4.heap.size, 0, .none⟩ (.int .i64 (pre.length + 1)))) := hst
    have HS2 : Hid (SeP U q m (gV l) (gA l) (gP l)) := hseeU
    have hb1 := hok.1
    have hb2 := hok.2.1
    have hb3 := hok.2.2.1
    simp only at hb1 hb2 hb3
    clear hst hseeU hI hlen hy hBU bV r1 r2 r3 z1 sV hs4 s0 hok hc
    dsimp only
    gi_wp2_with (first | (refine ⟨trivial, ?_⟩; gi_at_call 28; refine (CallsIn.inRound _ (callsIn_wide.2 c28)).mono ?_; rintro e9 w9 ⟨i, hi, rfl, rfl⟩))
    obtain ⟨him, hga, hgp⟩ := hi
    rcases HS2.out with h0 | ⟨g2, rfl, hg2, hcells⟩
    · omega
    obtain ⟨_, q1, q2⟩ := hcells i him
    rw [hga] at q1
    rw [hgp] at q2
    clear hcells hga hgp HS2 c28 hg2
    have hquo : IntKind.u64.wrap (pa.tdiv 4096) = pa / 4096 := by rw [Int.tdiv_eq_ediv_of_nonneg (by omega), IntKind.wrap_u64]; omega
    have hshl : IntKind.u64.wrap (pa / 4096 * 1024) = pa / 4096 * 1024 := by rw [IntKind.wrap_u64]; omega
    have kS : w9.drew.cell? ⟨w.heap.size, 0, .none⟩ = some (.slice (some ⟨g2, 0, .none⟩) m c) ∧ w9.drew.cell? ⟨g2, i * 3 + 1, .none⟩ = some (.int .u64 pa) ∧ w9.drew.cell? ⟨g2, i * 3 + 2, .none⟩ = some (.int .u64 pm) ∧ w9.drew.cell? ⟨w4.heap.size, 0, .none⟩ = some (.int .i64 pre.length) ∧ w9.drew.cell? ⟨w4.heap.size + 1, 0, .none⟩ = some (.int .u64 (lst pre)) := ⟨r1', q1, q2, i1, i2⟩
    refine wpIn_region_R (S := fun X => X.cell? ⟨w.heap.size, 0, .none⟩ = some (.slice (some ⟨g2, 0, .none⟩) m c) ∧ X.cell? ⟨g2, i * 3 + 1, .none⟩ = some (.int .u64 pa) ∧ X.cell? ⟨g2, i * 3 + 2, .none⟩ = some (.int .u64 pm) ∧ X.cell? ⟨w4.heap.size, 0, .none⟩ = some (.int .i64 pre.length) ∧ X.cell? ⟨w4.heap.size + 1, 0, .none⟩ = some (.int .u64 (lst pre))) (by kernel_rfl) ?_
    refine wpAnyR_take (i := 0) (v := (.int .i64 i)) (no_defer_of (by kernel_rfl)) rfl (by kernel_rfl) (by kernel_rfl) (by kernel_rfl) (fun _ _ _ h => h) (Or.inl ⟨by rfl, fun ww hSw => by (try dsimp only at hSw); go_simp⟩) (by assumption) ?_
    simp only [Act.put, List.setIfInBounds_toArray, List.set_cons_zero, List.set_cons_succ, List.getElem_toArray, List.getElem_cons_succ, List.getElem_cons_zero]
    refine wpAnyR_take (i := 1) (v := (.bool false)) (no_defer_of (by kernel_rfl)) rfl (by kernel_rfl) (by kernel_rfl) (by kernel_rfl) (fun _ _ _ h => h) (Or.inl ⟨by rfl, fun ww hSw => by (try dsimp only at hSw); go_simp⟩) (by assumption) ?_
    simp only [Act.put, List.setIfInBounds_toArray, List.set_cons_zero, List.set_cons_succ, List.getElem_toArray, List.getElem_cons_succ, List.getElem_cons_zero]
    refine wpAnyR_take (i := 2) (v := (.bool false)) (no_defer_of (by kernel_rfl)) rfl (by kernel_rfl) (by kernel_rfl) (by kernel_rfl) (fun _ _ _ h => h) (Or.inl ⟨by rfl, fun ww hSw => by (try dsimp only at hSw); go_simp⟩) (by assumption) ?_
    simp only [Act.put, List.setIfInBounds_toArray, List.set_cons_zero, List.set_cons_succ, List.getElem_toArray, List.getElem_cons_succ, List.getElem_cons_zero]
    refine wpAnyR_take (i := 3) (v := (.int .u64 (toP pa pm))) (no_defer_of (by kernel_rfl)) rfl (by kernel_rfl) (by kernel_rfl) (by kernel_rfl) (fun _ _ _ h => h) (Or.inl ⟨by rfl, fun ww hSw => by (try dsimp only at hSw); go_simp⟩) (by assumption) ?_
    simp only [Act.put, List.setIfInBounds_toArray, List.set_cons_zero, List.set_cons_succ, List.getElem_toArray, List.getElem_cons_succ, List.getElem_cons_zero]
    refine wpAnyR_take (i := 4) (v := (.slice (some ⟨g2, 0, .none⟩) m c)) (no_defer_of (by kernel_rfl)) rfl (by kernel_rfl) (by kernel_rfl) (by kernel_rfl) (fun _ _ _ h => h) (Or.inl ⟨by rfl, fun ww hSw => by (try dsimp only at hSw); obtain ⟨s1, s2, s3, s4, s5⟩ := hSw; go_simp⟩) (by assumption) ?_
    simp only [Act.put, List.setIfInBounds_toArray, List.set_cons_zero, List.set_cons_succ, List.getElem_toArray, List.getElem_cons_succ, List.getElem_cons_zero]
    refine wpAnyR_take (i := 5) (v := (.int .i64 i)) (no_defer_of (by kernel_rfl)) rfl (by kernel_rfl) (by kernel_rfl) (by kernel_rfl) (fun _ _ _ h => h) (Or.inl ⟨by rfl, fun ww hSw => by (try dsimp only at hSw); go_simp⟩) (by assumption) ?_
    simp only [Act.put, List.setIfInBounds_toArray, List.set_cons_zero, List.set_cons_succ, List.getElem_toArray, List.getElem_cons_succ, List.getElem_cons_zero]
    refine wpAnyR_take (i := 6) (v := (.pointer (some ⟨g2, i * 3, .none⟩))) (no_defer_of (by kernel_rfl)) rfl (by kernel_rfl) (by kernel_rfl) (by kernel_rfl) (fun _ _ _ h => h) (Or.inl ⟨by rfl, fun ww hSw => by (try dsimp only at hSw); go_simp⟩) (by assumption) ?_
    simp only [Act.put, List.setIfInBounds_toArray, List.set_cons_zero, List.set_cons_succ, List.getElem_toArray, List.getElem_cons_succ, List.getElem_cons_zero]
    refine wpAnyR_take (i := 7) (v := (.pointer (some ⟨g2, i * 3 + 1, .none⟩))) (no_defer_of (by kernel_rfl)) rfl (by kernel_rfl) (by kernel_rfl) (by kernel_rfl) (fun _ _ _ h => h) (Or.inl ⟨by rfl, fun ww hSw => by (try dsimp only at hSw); go_simp⟩) (by assumption) ?_
    simp only [Act.put, List.setIfInBounds_toArray, List.set_cons_zero, List.set_cons_succ, List.getElem_toArray, List.getElem_cons_succ, List.getElem_cons_zero]
    refine wpAnyR_take (i := 8) (v := (.int .u64 pa)) (no_defer_of (by kernel_rfl)) rfl (by kernel_rfl) (by kernel_rfl) (by kernel_rfl) (fun _ _ _ h => h) (Or.inl ⟨by rfl, fun ww hSw => by (try dsimp only at hSw); obtain ⟨s1, s2, s3, s4, s5⟩ := hSw; go_simp⟩) (by assumption) ?_
    simp only [Act.put, List.setIfInBounds_toArray, List.set_cons_zero, List.set_cons_succ, List.getElem_toArray, List.getElem_cons_succ, List.getElem_cons_zero]
    refine wpAnyR_take (i := 9) (v := (.int .u64 (pa / 4096))) (no_defer_of (by kernel_rfl)) rfl (by kernel_rfl) (by kernel_rfl) (by kernel_rfl) (fun _ _ _ h => h) (Or.inl ⟨by rfl, fun ww hSw => by (try dsimp only at hSw); go_simp⟩) (by assumption) ?_
    simp only [Act.put, List.setIfInBounds_toArray, List.set_cons_zero, List.set_cons_succ, List.getElem_toArray, List.getElem_cons_succ, List.getElem_cons_zero]
    refine wpAnyR_take (i := 10) (v := (.int .u64 (pa / 4096 * 1024))) (no_defer_of (by kernel_rfl)) rfl (by kernel_rfl) (by kernel_rfl) (by kernel_rfl) (fun _ _ _ h => h) (Or.inl ⟨by rfl, fun ww hSw => by (try dsimp only at hSw); go_simp⟩) (by assumption) ?_
    simp only [Act.put, List.setIfInBounds_toArray, List.set_cons_zero, List.set_cons_succ, List.getElem_toArray, List.getElem_cons_succ, List.getElem_cons_zero]
    refine wpAnyR_take (i := 11) (v := (.slice (some ⟨g2, 0, .none⟩) m c)) (no_defer_of (by kernel_rfl)) rfl (by kernel_rfl) (by kernel_rfl) (by kernel_rfl) (fun _ _ _ h => h) (Or.inl ⟨by rfl, fun ww hSw => by (try dsimp only at hSw); obtain ⟨s1, s2, s3, s4, s5⟩ := hSw; go_simp⟩) (by assumption) ?_
    simp only [Act.put, List.setIfInBounds_toArray, List.set_cons_zero, List.set_cons_succ, List.getElem_toArray, List.getElem_cons_succ, List.getElem_cons_zero]
    refine wpAnyR_take (i := 12) (v := (.int .i64 i)) (no_defer_of (by kernel_rfl)) rfl (by kernel_rfl) (by kernel_rfl) (by kernel_rfl) (fun _ _ _ h => h) (Or.inl ⟨by rfl, fun ww hSw => by (try dsimp only at hSw); go_simp⟩) (by assumption) ?_
    simp only [Act.put, List.setIfInBounds_toArray, List.set_cons_zero, List.set_cons_succ, List.getElem_toArray, List.getElem_cons_succ, List.getElem_cons_zero]
    refine wpAnyR_take (i := 13) (v := (.pointer (some ⟨g2, i * 3, .none⟩))) (no_defer_of (by kernel_rfl)) rfl (by kernel_rfl) (by kernel_rfl) (by kernel_rfl) (fun _ _ _ h => h) (Or.inl ⟨by rfl, fun ww hSw => by (try dsimp only at hSw); go_simp⟩) (by assumption) ?_
    simp only [Act.put, List.setIfInBounds_toArray, List.set_cons_zero, List.set_cons_succ, List.getElem_toArray, List.getElem_cons_succ, List.getElem_cons_zero]
    refine wpAnyR_take (i := 14) (v := (.pointer (some ⟨g2, i * 3 + 2, .none⟩))) (no_defer_of (by kernel_rfl)) rfl (by kernel_rfl) (by kernel_rfl) (by kernel_rfl) (fun _ _ _ h => h) (Or.inl ⟨by rfl, fun ww hSw => by (try dsimp only at hSw); go_simp⟩) (by assumption) ?_
    simp only [Act.put, List.setIfInBounds_toArray, List.set_cons_zero, List.set_cons_succ, List.getElem_toArray, List.getElem_cons_succ, List.getElem_cons_zero]
    refine wpAnyR_take (i := 15) (v := (.int .u64 pm)) (no_defer_of (by kernel_rfl)) rfl (by kernel_rfl) (by kernel_rfl) (by kernel_rfl) (fun _ _ _ h => h) (Or.inl ⟨by rfl, fun ww hSw => by (try dsimp only at hSw); obtain ⟨s1, s2, s3, s4, s5⟩ := hSw; go_simp⟩) (by assumption) ?_
    simp only [Act.put, List.setIfInBounds_toArray, List.set_cons_zero, List.set_cons_succ, List.getElem_toArray, List.getElem_cons_succ, List.getElem_cons_zero]
    refine wpAnyR_take (i := 16) (v := (.int .u64 (bits .or .u64 (pa / 4096 * 1024) pm))) (no_defer_of (by kernel_rfl)) rfl (by kernel_rfl) (by kernel_rfl) (by kernel_rfl) (fun _ _ _ h => h) (Or.inl ⟨by rfl, fun ww hSw => by (try dsimp only at hSw); go_simp⟩) (by assumption) ?_
    simp only [Act.put, List.setIfInBounds_toArray, List.set_cons_zero, List.set_cons_succ, List.getElem_toArray, List.getElem_cons_succ, List.getElem_cons_zero]
    refine wpAnyR_take (i := 17) (v := (.int .u64 (toP pa pm))) (no_defer_of (by kernel_rfl)) rfl (by kernel_rfl) (by kernel_rfl) (by kernel_rfl) (fun _ _ _ h => h) (Or.inl ⟨by rfl, fun ww hSw => by (try dsimp only at hSw); go_simp; rfl⟩) (by assumption) ?_
    simp only [Act.put, List.setIfInBounds_toArray, List.set_cons_zero, List.set_cons_succ, List.getElem_toArray, List.getElem_cons_succ, List.getElem_cons_zero]
    refine wpAnyR_take (i := 18) (v := (.bool false)) (no_defer_of (by kernel_rfl)) rfl (by kernel_rfl) (by kernel_rfl) (by kernel_rfl) (fun _ _ _ h => h) (Or.inl ⟨by rfl, fun ww hSw => by (try dsimp only at hSw); go_simp⟩) (by assumption) ?_
    simp only [Act.put, List.setIfInBounds_toArray, List.set_cons_zero, List.set_cons_succ, List.getElem_toArray, List.getElem_cons_succ, List.getElem_cons_zero]
    refine wpAnyR_take (i := 19) (v := (.bool false)) (no_defer_of (by kernel_rfl)) rfl (by kernel_rfl) (by kernel_rfl) (by kernel_rfl) (fun _ _ _ h => h) (Or.inl ⟨by rfl, fun ww hSw => by (try dsimp only at hSw); go_simp⟩) (by assumption) ?_
    simp only [Act.put, List.setIfInBounds_toArray, List.set_cons_zero, List.set_cons_succ, List.getElem_toArray, List.getElem_cons_succ, List.getElem_cons_zero]
    refine wpAnyR_take (i := 20) (v := (.bool false)) (no_defer_of (by kernel_rfl)) rfl (by kernel_rfl) (by kernel_rfl) (by kernel_rfl) (fun _ _ _ h => h) (Or.inl ⟨by rfl, fun ww hSw => by (try dsimp only at hSw); go_simp⟩) (by assumption) ?_
    simp only [Act.put, List.setIfInBounds_toArray, List.set_cons_zero, List.set_cons_succ, List.getElem_toArray, List.getElem_cons_succ, List.getElem_cons_zero]
    refine wpAnyR_take (i := 21) (v := (.int .i64 pre.length)) (no_defer_of (by kernel_rfl)) rfl (by kernel_rfl) (by kernel_rfl) (by kernel_rfl) (fun _ _ _ h => h) (Or.inl ⟨by rfl, fun ww hSw => by (try dsimp only at hSw); obtain ⟨s1, s2, s3, s4, s5⟩ := hSw; go_simp⟩) (by assumption) ?_
    simp only [Act.put, List.setIfInBounds_toArray, List.set_cons_zero, List.set_cons_succ, List.getElem_toArray, List.getElem_cons_succ, List.getElem_cons_zero]
    by_cases hpe : pre = []
    · subst hpe
      refine wpAnyR_take (i := 22) (v := (.bool false)) (no_defer_of (by kernel_rfl)) rfl (by kernel_rfl) (by kernel_rfl) (by kernel_rfl) (fun _ _ _ h => h) (Or.inl ⟨by rfl, fun ww hSw => by (try dsimp only at hSw); go_simp⟩) (by assumption) ?_
      simp only [Act.put, List.setIfInBounds_toArray, List.set_cons_zero, List.set_cons_succ, List.getElem_toArray, List.getElem_cons_succ, List.getElem_cons_zero]
      refine wpAnyR_take (i := 23) (v := (.bool false)) (no_defer_of (by kernel_rfl)) rfl (by kernel_rfl) (by kernel_rfl) (by kernel_rfl) (fun _ _ _ h => h) (Or.inl ⟨by rfl, fun ww hSw => by (try dsimp only at hSw); go_simp⟩) (by assumption) ?_
      simp only [Act.put, List.setIfInBounds_toArray, List.set_cons_zero, List.set_cons_succ, List.getElem_toArray, List.getElem_cons_succ, List.getElem_cons_zero]
      refine wpAnyR_take (i := 24) (v := undef) (no_defer_of (by kernel_rfl)) rfl (by kernel_rfl) (by kernel_rfl) (by kernel_rfl) (fun _ _ _ h => h) (Or.inr ⟨by rfl, rfl⟩) (by assumption) ?_
      simp only [Act.put, List.setIfInBounds_toArray, List.set_cons_zero, List.set_cons_succ, List.getElem_toArray, List.getElem_cons_succ, List.getElem_cons_zero]
      refine wpAnyR_take (i := 25) (v := undef) (no_defer_of (by kernel_rfl)) rfl (by kernel_rfl) (by kernel_rfl) (by kernel_rfl) (fun _ _ _ h => h) (Or.inr ⟨by rfl, rfl⟩) (by assumption) ?_
      simp only [Act.put, List.setIfInBounds_toArray, List.set_cons_zero, List.set_cons_succ, List.getElem_toArray, List.getElem_cons_succ, List.getElem_cons_zero]
      refine wpAnyR_take (i := 26) (v := undef) (no_defer_of (by kernel_rfl)) rfl (by kernel_rfl) (by kernel_rfl) (by kernel_rfl) (fun _ _ _ h => h) (Or.inr ⟨by rfl, rfl⟩) (by assumption) ?_
      simp only [Act.put, List.setIfInBounds_toArray, List.set_cons_zero, List.set_cons_succ, List.getElem_toArray, List.getElem_cons_succ, List.getElem_cons_zero]
      refine wpAnyR_take (i := 27) (v := (.bool false)) (no_defer_of (by kernel_rfl)) rfl (by kernel_rfl) (by kernel_rfl) (by kernel_rfl) (fun _ _ _ h => h) (Or.inl ⟨by rfl, fun ww hSw => by (try dsimp only at hSw); go_simp⟩) (by assumption) ?_
      simp only [Act.put, List.setIfInBounds_toArray, List.set_cons_zero, List.set_cons_succ, List.getElem_toArray, List.getElem_cons_succ, List.getElem_cons_zero]
      refine wpAnyR_take (i := 28) (v := (.bool false)) (no_defer_of (by kernel_rfl)) rfl (by kernel_rfl) (by kernel_rfl) (by kernel_rfl) (fun _ _ _ h => h) (Or.inl ⟨by rfl, fun ww hSw => by (try dsimp only at hSw); go_simp⟩) (by assumption) ?_
      simp only [Act.put, List.setIfInBounds_toArray, List.set_cons_zero, List.set_cons_succ, List.getElem_toArray, List.getElem_cons_succ, List.getElem_cons_zero]
      refine wpAnyR_done (by kernel_rfl) ?_ _
      gi_wp2
      exact HST.out
    · have hl9 := hlast hpe
      have hp9 : 0 < pre.length := List.length_pos_iff.2 hpe
      refine wpAnyR_take (i := 22) (v := (.bool true)) (no_defer_of (by kernel_rfl)) rfl (by kernel_rfl) (by kernel_rfl) (by kernel_rfl) (fun _ _ _ h => h) (Or.inl ⟨by rfl, fun ww hSw => by (try dsimp only at hSw); go_simp⟩) (by assumption) ?_
      simp only [Act.put, List.setIfInBounds_toArray, List.set_cons_zero, List.set_cons_succ, List.getElem_toArray, List.getElem_cons_succ, List.getElem_cons_zero]
      refine wpAnyR_take (i := 23) (v := (.bool true)) (no_defer_of (by kernel_rfl)) rfl (by kernel_rfl) (by kernel_rfl) (by kernel_rfl) (fun _ _ _ h => h) (Or.inl ⟨by rfl, fun ww hSw => by (try dsimp only at hSw); go_simp⟩) (by assumption) ?_
      simp only [Act.put, List.setIfInBounds_toArray, List.set_cons_zero, List.set_cons_succ, List.getElem_toArray, List.getElem_cons_succ, List.getElem_cons_zero]
      refine wpAnyR_take (i := 24) (v := (.int .u64 va)) (no_defer_of (by kernel_rfl)) rfl (by kernel_rfl) (by kernel_rfl) (by kernel_rfl) (fun _ _ _ h => h) (Or.inl ⟨by rfl, fun ww hSw => by (try dsimp only at hSw); go_simp⟩) (by assumption) ?_
      simp only [Act.put, List.setIfInBounds_toArray, List.set_cons_zero, List.set_cons_succ, List.getElem_toArray, List.getElem_cons_succ, List.getElem_cons_zero]
      refine wpAnyR_take (i := 25) (v := (.int .u64 (lst pre))) (no_defer_of (by kernel_rfl)) rfl (by kernel_rfl) (by kernel_rfl) (by kernel_rfl) (fun _ _ _ h => h) (Or.inl ⟨by rfl, fun ww hSw => by (try dsimp only at hSw); obtain ⟨s1, s2, s3, s4, s5⟩ := hSw; go_simp⟩) (by assumption) ?_
      simp only [Act.put, List.setIfInBounds_toArray, List.set_cons_zero, List.set_cons_succ, List.getElem_toArray, List.getElem_cons_succ, List.getElem_cons_zero]
      refine wpAnyR_take (i := 26) (v := (.bool false)) (no_defer_of (by kernel_rfl)) rfl (by kernel_rfl) (by kernel_rfl) (by kernel_rfl) (fun _ _ _ h => h) (Or.inl ⟨by rfl, fun ww hSw => by (try dsimp only at hSw); go_simp⟩) (by assumption) ?_
      simp only [Act.put, List.setIfInBounds_toArray, List.set_cons_zero, List.set_cons_succ, List.getElem_toArray, List.getElem_cons_succ, List.getElem_cons_zero]
      refine wpAnyR_take (i := 27) (v := (.bool false)) (no_defer_of (by kernel_rfl)) rfl (by kernel_rfl) (by kernel_rfl) (by kernel_rfl) (fun _ _ _ h => h) (Or.inl ⟨by rfl, fun ww hSw => by (try dsimp only at hSw); go_simp⟩) (by assumption) ?_
      simp only [Act.put, List.setIfInBounds_toArray, List.set_cons_zero, List.set_cons_succ, List.getElem_toArray, List.getElem_cons_succ, List.getElem_cons_zero]
      refine wpAnyR_take (i := 28) (v := (.bool false)) (no_defer_of (by kernel_rfl)) rfl (by kernel_rfl) (by kernel_rfl) (by kernel_rfl) (fun _ _ _ h => h) (Or.inl ⟨by rfl, fun ww hSw => by (try dsimp only at hSw); go_simp⟩) (by assumption) ?_
      simp only [Act.put, List.setIfInBounds_toArray, List.set_cons_zero, List.set_cons_succ, List.getElem_toArray, List.getElem_cons_succ, List.getElem_cons_zero]
      refine wpAnyR_done (by kernel_rfl) ?_ _
      gi_wp2
      exact HST.out
end Go.Proofs.Ytncjmlndjnfncaa
