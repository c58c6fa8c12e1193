import Derived.Test.YtdkidhipiglbkaaPrC
import Derived.Deep.RegionHeld3
import Derived.Deep.DeepCutAuto
import Derived.Deep.CutRange
namespace Go.Proofs.Ytdkidhipiglbkaa
open Go.RowKit
set_option linter.unusedVariables false
set_option linter.unusedSimpArgs false
/-- An append as one step of a region that draws. -/
theorem step_append_at {P : Program} {ops : Array Oper} {o : Oper} {a : Act} {w : World} {K : Act → World → Prop} {Q : Exit → Act → World → Prop} {E : Prop} (hgd : o.guard = none) (s x : Operand) (t : TypeId)
    (hop : o.op = .call { callee := .builtin .append, args := #[s, x], argTypes := #[t, t] }) (base : Nat) (e : TypeId) (i : TypeInfo) (z : Value) (size bytes : Nat) (ht : P.underlying t = some (.slice e)) (hi : P.info? e = some i) (hz : i.zero = some z)
    (hsize : i.size = size) (hby : i.bytes = bytes) (hzs : z.cells.size = size) (hsz : 0 < size) (v : Value) (k : Nat) (xs : List Value) (hs : a.eval s = v) (hown : w.ownsRow base e size v k xs)
    (ad : Addr) (m c : Nat) (news : List Value) (hx : a.eval x = .slice (some ad) m c) (hl : news.length = m * size) (hnews : ∀ j u, news[j]? = some u → w.cell? (ad.add j) = some u) (h1 : ∀ u ∈ news, u.oneCell' = true)
    (h63 : k + m ≤ maxLen) (hbytes : (k + m) * bytes ≤ 140737488355328) (hbase : base ≤ w.heap.size)
    (h : ∀ v' w', w'.ownsRow base e size v' (k + m) (xs ++ news) → w.grownBy w' v.ownBlock → K (a.put o.dst v') w') : if Region.wanted o (yielded ops a.tmps) = true then Oper.wp P o a w K Q else E := by
  have hw : Region.wanted o (yielded ops a.tmps) = true := by simp [Region.wanted, hgd]
  rw [if_pos hw]
  obtain ⟨v', w', hrun, r1, r2, _⟩ := run_append_own (P := P) w base t o.type e i z size bytes ht hi hz hsize hby hzs hsz v k xs hown ad m c news hl hnews h1 h63 hbytes hbase
  unfold Oper.wp
  simp [execOp, hop, resolve, invoke, builtin, hs, hx, hrun, Result.andThen]
  exact h v' w' r1 r2
/-- What the segments of an image are: address, rights, length in memory, bytes. -/
def keyA (n : Nat) (xs : List Int) : List (Int × Int × Int × List Int) := if n = 0 then [] else [(0, 5, (n : Int), xs)]
def keyB (da M : Int) (ys : List Int) : List (Int × Int × Int × List Int) := if M = 0 then [] else [(da, 6, M, ys)]
theorem newBytes_n {p : Option Addr} {n c : Nat} {xs : List Int} {w : World} (h : Byt w p n c xs) (hn : n < 1000000) : Calls Try.prog 10 #[.slice p n c] w fun e w' => ∃ p c, e = .returned (.slice p n c) ∧ w'.ownsRow w.heap.size 5 1 (.slice p n c) n (by8 xs) ∧ Below w.heap.size w w' := by
  have e := h.1
  subst e
  exact newBytes_any h hn
theorem copied_n {p : Option Addr} {n c : Nat} {xs : List Int} {w : World} (h : Byt w p n c xs) (hn : n < 1000000) : Calls Try.prog 11 #[.slice p n c] w fun e w' => ∃ p c, e = .returned (.slice p n c) ∧ w'.ownsRow w.heap.size 5 1 (.slice p n c) n (by8 xs) ∧ Below w.heap.size w w' := by
  have e := h.1
  subst e
  exact copied_any h hn
theorem ps_begin (w : World) (J : Im) : Ps w (((w.alloc (.cells #[.slice J.p1 J.n1 J.c1, .slice J.p2 J.n2 J.c2, .int .u64 J.da, .int .u64 J.ba, .int .u64 J.bs, .int .u64 J.en, .slice J.p3 J.n3 J.c3] 26)).alloc (.cells #[.int .u64 0, .slice none 0 0] 30)).alloc (.cells #[.int .u64 J.en, .slice none 0 0] 30)) w.heap.size J none 0 0 [] := by
  generalize hA : (w.alloc (.cells #[.slice J.p1 J.n1 J.c1, .slice J.p2 J.n2 J.c2, .int .u64 J.da, .int .u64 J.ba, .int .u64 J.bs, .int .u64 J.en, .slice J.p3 J.n3 J.c3] 26)) = A
  have zA : A.heap.size = w.heap.size + 1 := by rw [← hA, World.size_alloc]
  have bA : Below w.heap.size w A := by rw [← hA]; exact (Below.refl _ _).alloc (Nat.le_refl _) _
  have sA : S7 w.heap.size J A := by
    rw [← hA]
    refine ⟨?_, ?_, ?_, ?_, ?_, ?_, ?_⟩ <;> simp
  clear hA
  generalize hC : A.alloc (.cells #[.int .u64 0, .slice none 0 0] 30) = C
  have zC : C.heap.size = w.heap.size + 1 + 1 := by rw [← hC, World.size_alloc, zA]
  have bC : Below (w.heap.size + 1) A C := by rw [← hC]; exact (Below.refl _ _).alloc (by omega) _
  have c0 : C.cell? ⟨w.heap.size + 1, 0, .none⟩ = some (.int .u64 0) := by rw [← hC, ← zA]; simp
  have c1 : C.cell? ⟨w.heap.size + 1, 1, .none⟩ = some (.slice none 0 0) := by rw [← hC, ← zA]; simp
  have cf : ∀ i, C.frozen? ⟨w.heap.size + 1, i, .none⟩ = false := fun i => by rw [← hC, ← zA]; exact World.frozen?_alloc_new _ _ _ _
  clear hC
  have bD : Below (w.heap.size + 1 + 1) C (C.alloc (.cells #[.int .u64 J.en, .slice none 0 0] 30)) := (Below.refl _ _).alloc (by omega) _
  refine ⟨s7_keep (s7_keep sA bC (by omega)) bD (by omega), (bD.cell (by show w.heap.size + 1 < _; omega)).trans c0, (bD.cell (by show w.heap.size + 1 < _; omega)).trans c1, ?_, ?_, fun i => (bD.frozen (by show w.heap.size + 1 < _; omega)).trans (cf i), fun i => ?_, ⟨World.ownsRow_nil _ _ _ _, rfl, fun s hs => by cases hs⟩, bA.trans ((bC.mono (by omega)).trans (bD.mono (by omega))), ?_⟩
  · rw [← zC]; simp
  · rw [← zC]; simp
  · rw [← zC]; exact World.frozen?_alloc_new _ _ _ _
  · rw [World.size_alloc, zC]; omega
theorem res_elf {fn : Func} (h : fn.results = #[.cell 2 30]) (tmps : Array Value) (W : World) (b : Nat) (x0 x1 : Value) (hp : tmps.getD 2 undef = .pointer (some ⟨b, 0, .none⟩)) (h0 : W.cell? ⟨b, 0, .none⟩ = some x0) (h1 : W.cell? ⟨b, 1, .none⟩ = some x1) :
    (results fn tmps).run Try.prog W = .ok (.agg #[x0, x1]) W := by
  have hp' : tmps[2]?.getD undef = .pointer (some ⟨b, 0, .none⟩) := by simpa using hp
  simp [results, h, hp', asAddr]
  go_simp
theorem ps_end {w W : World} {B : Nat} {J : Im} {p : Option Addr} {n c : Nat} {L : List Sg} (h : Ps w W B J p n c L) :
    ((W.setCell ⟨B + 1, 0, .none⟩ (.int .u64 J.en)).setCell ⟨B + 1, 1, .none⟩ (.slice p n c)).cell? ⟨B + 1, 0, .none⟩ = some (.int .u64 J.en) ∧ ((W.setCell ⟨B + 1, 0, .none⟩ (.int .u64 J.en)).setCell ⟨B + 1, 1, .none⟩ (.slice p n c)).cell? ⟨B + 1, 1, .none⟩ = some (.slice p n c) ∧
    Segs ((W.setCell ⟨B + 1, 0, .none⟩ (.int .u64 J.en)).setCell ⟨B + 1, 1, .none⟩ (.slice p n c)) B p n c L ∧ Below B w ((W.setCell ⟨B + 1, 0, .none⟩ (.int .u64 J.en)).setCell ⟨B + 1, 1, .none⟩ (.slice p n c)) := by
  have hb : ∀ k, k ≠ B + 1 → ((W.setCell ⟨B + 1, 0, .none⟩ (.int .u64 J.en)).setCell ⟨B + 1, 1, .none⟩ (.slice p n c)).heap[k]? = W.heap[k]? := fun k hk => (Below.heap_setCell _ _ _ k (by show k ≠ B + 1; exact hk)).trans (Below.heap_setCell _ _ _ k (by show k ≠ B + 1; exact hk))
  have hrow : ∀ {e sz k : Nat} {v : Value} {xs : List Value}, W.ownsRow (B + 3) e sz v k xs → ((W.setCell ⟨B + 1, 0, .none⟩ (.int .u64 J.en)).setCell ⟨B + 1, 1, .none⟩ (.slice p n c)).ownsRow B e sz v k xs := by
    intro e sz k v xs hk
    rcases hk with ⟨h1, h2 | ⟨g, cap, cur, rfl, h3, h4, h5⟩⟩
    · exact ⟨h1, .inl h2⟩
    · exact ⟨h1, .inr ⟨g, cap, cur, rfl, by omega, (hb g (by omega)).trans h4, h5⟩⟩
  have y0 := World.cell?_setCell_same (w := W) (a := ⟨B + 1, 0, .none⟩) (v := .int .u64 J.en) h.r0
  have y1 := (World.cell?_setCell_other (w := W) (a := ⟨B + 1, 0, .none⟩) (b := ⟨B + 1, 1, .none⟩) (v := .int .u64 J.en) (fun e => by simp at e)).trans h.r1
  refine ⟨(World.cell?_setCell_other (w := W.setCell ⟨B + 1, 0, .none⟩ (.int .u64 J.en)) (a := ⟨B + 1, 1, .none⟩) (b := ⟨B + 1, 0, .none⟩) (v := .slice p n c) (h := fun e => by simp at e) ..).trans y0, World.cell?_setCell_same (w := W.setCell ⟨B + 1, 0, .none⟩ (.int .u64 J.en)) (a := ⟨B + 1, 1, .none⟩) (v := .slice p n c) (h := y1) .., ⟨hrow h.segs.1, h.segs.2.1, fun s hs => hrow (h.segs.2.2 s hs)⟩, h.bel.trans ⟨rfl, rfl, rfl, by simp, fun k hk => hb k (by omega)⟩⟩
theorem app_mid {w V V7 : World} {B : Nat} {J : Im} {p : Option Addr} {n c : Nat} {L : List Sg} (h : Ps w V B J p n c L) (hg : V.grownBy V7 (Value.ownBlock (.slice p n c))) : S7 B J V7 ∧ V7.cell? ⟨B + 1 + 1, 1, .none⟩ = some (.slice p n c) ∧ V7.frozen? ⟨B + 1 + 1, 1, .none⟩ = false := by
  have b1 : Below (B + 3) V V7 := (Below.refl _ _).grown hg h.sz (own_block h.segs.1)
  exact ⟨s7_keep h.box b1 (by omega), (b1.cell (by show B + 1 + 1 < _; omega)).trans h.e1, (b1.frozen (by show B + 1 + 1 < _; omega)).trans (h.f2 1)⟩
set_option maxHeartbeats 8000000 in
set_option maxRecDepth 100000 in
theorem program5 (J : Im) (xs ys : List Int) (M : Int) (w : World) (h1 : Byt w J.p1 J.n1 J.c1 xs) (h2 : Byt w J.p2 J.n2 J.c2 ys) (s1 : J.n1 < 1000000) (s2 : J.n2 < 1000000) (hM : IntKind.u64.wrap (IntKind.u64.wrap (J.ba + J.bs) - J.da) = M) (hM0 : 0 ≤ M) :
    Calls Try.prog 5 #[.agg #[.slice J.p1 J.n1 J.c1, .slice J.p2 J.n2 J.c2, .int .u64 J.da, .int .u64 J.ba, .int .u64 J.bs, .int .u64 J.en, .slice J.p3 J.n3 J.c3]] w fun e w' => ∃ p n c L, e = .returned (.agg #[.int .u64 J.en, .slice p n c]) ∧ Segs w' w.heap.size p n c L ∧ L.map Sg.key = keyA J.n1 xs ++ keyB J.da M ys ∧ Below w.heap.size w w' := by
  obtain ⟨i3, z3, hi3, hz3, hs3, hb3, hzs3⟩ := seg_info
  have HI : Hid (Try.prog.info? 37 = some i3 ∧ i3.zero = some z3 ∧ i3.size = 4 ∧ i3.bytes = 48 ∧ z3.cells.size = 4) := ⟨hi3, hz3, hs3, hb3, hzs3⟩
  clear hi3 hz3 hs3 hb3 hzs3
  have H1 : Hid (Byt w J.p1 J.n1 J.c1 xs) := h1
  have H2 : Hid (Byt w J.p2 J.n2 J.c2 ys) := h2
  have hl1 := h1.1
  have hl2 := h2.1
  have hw1 : IntKind.u64.wrap (J.n1 : Int) = (J.n1 : Int) := by rw [IntKind.wrap_u64]; omega
  clear h1 h2 hl1 hl2
  have HB : Hid (Ps w (((w.alloc (.cells #[.slice J.p1 J.n1 J.c1, .slice J.p2 J.n2 J.c2, .int .u64 J.da, .int .u64 J.ba, .int .u64 J.bs, .int .u64 J.en, .slice J.p3 J.n3 J.c3] 26)).alloc (.cells #[.int .u64 0, .slice none 0 0] 30)).alloc (.cells #[.int .u64 J.en, .slice none 0 0] 30)) w.heap.size J none 0 0 []) := ps_begin w J
  go_enter Try.func5, Try.ntmps5
  go_upto_if 11 with fail
  go_cut [3] from 11 to 24 (fun s3 W => s3 = .pointer (some ⟨w.heap.size + 1 + 1, 0, .none⟩) ∧ ∃ p n c L, n ≤ 1 ∧ Hid (Ps w W w.heap.size J p n c L ∧ L.map Sg.key = keyA J.n1 xs))
  case first =>
    have HP := HB
    clear HB
    generalize (((w.alloc (.cells #[.slice J.p1 J.n1 J.c1, .slice J.p2 J.n2 J.c2, .int .u64 J.da, .int .u64 J.ba, .int .u64 J.bs, .int .u64 J.en, .slice J.p3 J.n3 J.c3] 26)).alloc (.cells #[.int .u64 0, .slice none 0 0] 30)).alloc (.cells #[.int .u64 J.en, .slice none 0 0] 30)) = WW at *
    by_cases h0 : J.n1 = 0
    · have g0 : ¬ (0 : Int) < (J.n1 : Int) := by omega
      have HK : Hid (keyA J.n1 xs = []) := by show keyA J.n1 xs = _; unfold keyA; rw [if_pos h0]
      clear h0
      go_wp2_with fail
      go_meet
      exact ⟨rfl, none, 0, 0, [], by omega, HP.out, HK.out.symm⟩
    · have g0 : (0 : Int) < (J.n1 : Int) := by omega
      have HK : Hid (keyA J.n1 xs = [(0, 5, (J.n1 : Int), xs)]) := by show keyA J.n1 xs = _; unfold keyA; rw [if_neg h0]
      clear h0
      go_upto_region 3 with fail
      have HP0 : Hid (Ps w WW.drew w.heap.size J none 0 0 []) := HP.out.drew
      have k0 := HP0.out.box
      have HBy : Hid (Byt WW.drew J.p1 J.n1 J.c1 xs) := byt_keep' H1.out HP0.out.bel (Nat.le_refl _)
      refine wp_region_held_drew (S := S7 w.heap.size J) (by kernel_rfl) k0 (fun hHeld => ?_)
      generalize WW.drew = W0 at *
      refine wpAnyH_take (i := 0) (v := (.pointer (some ⟨w.heap.size + 1 + 1, 1, .none⟩))) rfl (by kernel_rfl) (by kernel_rfl) (by kernel_rfl) (fun _ _ _ h => h) (Or.inl ⟨by rfl, fun ww hSw => by (try dsimp only at hSw); go_simp⟩) (by assumption) ?_
      simp only [Act.put, List.setIfInBounds_toArray, List.set_cons_zero, List.set_cons_succ, List.getElem_toArray, List.getElem_cons_succ, List.getElem_cons_zero]
      refine wpAnyH_take (i := 2) (v := (.pointer (some ⟨w.heap.size, 0, .none⟩))) rfl (by kernel_rfl) (by kernel_rfl) (by kernel_rfl) (fun _ _ _ h => h) (Or.inl ⟨by rfl, fun ww hSw => by (try dsimp only at hSw); go_simp⟩) (by assumption) ?_
      simp only [Act.put, List.setIfInBounds_toArray, List.set_cons_zero, List.set_cons_succ, List.getElem_toArray, List.getElem_cons_succ, List.getElem_cons_zero]
      refine wpAnyH_take (i := 3) (v := (.slice J.p1 J.n1 J.c1)) rfl (by kernel_rfl) (by kernel_rfl) (by kernel_rfl) (fun _ _ _ h => h) (Or.inl ⟨by rfl, fun ww hSw => by (try dsimp only at hSw); obtain ⟨q0, q1, q2, q3, q4, q5, q6⟩ := hSw; go_simp⟩) (by assumption) ?_
      simp only [Act.put, List.setIfInBounds_toArray, List.set_cons_zero, List.set_cons_succ, List.getElem_toArray, List.getElem_cons_succ, List.getElem_cons_zero]
      refine wpAnyH_take (i := 5) (v := (.pointer (some ⟨w.heap.size, 0, .none⟩))) rfl (by kernel_rfl) (by kernel_rfl) (by kernel_rfl) (fun _ _ _ h => h) (Or.inl ⟨by rfl, fun ww hSw => by (try dsimp only at hSw); go_simp⟩) (by assumption) ?_
      simp only [Act.put, List.setIfInBounds_toArray, List.set_cons_zero, List.set_cons_succ, List.getElem_toArray, List.getElem_cons_succ, List.getElem_cons_zero]
      refine wpAnyH_take (i := 6) (v := (.slice J.p1 J.n1 J.c1)) rfl (by kernel_rfl) (by kernel_rfl) (by kernel_rfl) (fun _ _ _ h => h) (Or.inl ⟨by rfl, fun ww hSw => by (try dsimp only at hSw); obtain ⟨q0, q1, q2, q3, q4, q5, q6⟩ := hSw; go_simp⟩) (by assumption) ?_
      simp only [Act.put, List.setIfInBounds_toArray, List.set_cons_zero, List.set_cons_succ, List.getElem_toArray, List.getElem_cons_succ, List.getElem_cons_zero]
      refine wpAnyH_take (i := 7) (v := (.int .i64 (J.n1 : Int))) rfl (by kernel_rfl) (by kernel_rfl) (by kernel_rfl) (fun _ _ _ h => h) (Or.inl ⟨by rfl, fun ww hSw => by (try dsimp only at hSw); go_simp⟩) (by assumption) ?_
      simp only [Act.put, List.setIfInBounds_toArray, List.set_cons_zero, List.set_cons_succ, List.getElem_toArray, List.getElem_cons_succ, List.getElem_cons_zero]
      refine wpAnyH_take (i := 8) (v := (.int .u64 (J.n1 : Int))) rfl (by kernel_rfl) (by kernel_rfl) (by kernel_rfl) (fun _ _ _ h => h) (Or.inl ⟨by rfl, fun ww hSw => by (try dsimp only at hSw); go_simp⟩) (by assumption) ?_
      simp only [Act.put, List.setIfInBounds_toArray, List.set_cons_zero, List.set_cons_succ, List.getElem_toArray, List.getElem_cons_succ, List.getElem_cons_zero]
      refine wpAnyH_ready (rs := [1, 4]) (by kernel_rfl) (by simp) ?_
      refine AllReadyH.cons rfl (fun K hK => ?_) (AllReadyH.cons rfl (fun K hK => ?_) AllReadyH.nil)
      · skip
        have q1 := HP0.out.e1
        go_simp
        clear q1
        refine hK.out _ _ k0 (fun hHeld => ?_)
        clear hK K
        try simp only [Act.put, List.setIfInBounds_toArray, List.set_cons_zero, List.set_cons_succ, List.getElem_toArray, List.getElem_cons_succ, List.getElem_cons_zero]
        refine wpAnyH_ready (rs := [4]) (by kernel_rfl) (by simp) ?_
        refine AllReadyH.cons rfl (fun K hK => ?_) AllReadyH.nil
        go_simp
        go_at_call 10
        refine (newBytes_n HBy.out (by omega)).mono ?_
        rintro e W5 ⟨q5, d5, rfl, o5, b5⟩
        have HP5 : Hid (Ps w W5 w.heap.size J none 0 0 []) := HP0.out.keep b5
        have HA5 : Hid (∀ o, Ps w (W5.alloc o) w.heap.size J none 0 0 [] ∧ (W5.alloc o).ownsRow (w.heap.size + 3) 5 1 (.slice q5 J.n1 d5) J.n1 (by8 xs)) := fun o => ⟨(HP0.out.keep b5).alloc o, own_mono (o5.alloc o) HP0.out.sz⟩
        clear o5 b5
        have k5 := HP5.out.box
        refine hK.out _ _ k5 (fun hHeld => ?_)
        clear hK K
        try simp only [Act.put, List.setIfInBounds_toArray, List.set_cons_zero, List.set_cons_succ, List.getElem_toArray, List.getElem_cons_succ, List.getElem_cons_zero]
        refine wpAnyH_take (i := 9) (v := (.agg #[.int .u64 0, .int .u32 5, .slice q5 J.n1 d5, .int .u64 (J.n1 : Int)])) rfl (by kernel_rfl) (by kernel_rfl) (by kernel_rfl) (fun _ _ _ h => h) (Or.inl ⟨by rfl, fun ww hSw => by (try dsimp only at hSw); go_simp⟩) (by assumption) ?_
        simp only [Act.put, List.setIfInBounds_toArray, List.set_cons_zero, List.set_cons_succ, List.getElem_toArray, List.getElem_cons_succ, List.getElem_cons_zero]
        refine wpAnyH_ready (rs := [10]) (by kernel_rfl) (by simp) ?_
        refine AllReadyH.cons rfl (fun K hK => ?_) AllReadyH.nil
        go_simp
        refine hK.out _ _ (HA5.out _).1.box (fun hHeld => ?_)
        clear hK K
        try simp only [Act.put, List.setIfInBounds_toArray, List.set_cons_zero, List.set_cons_succ, List.getElem_toArray, List.getElem_cons_succ, List.getElem_cons_zero]
        refine wpAnyH_ready (rs := [11]) (by kernel_rfl) (by simp) ?_
        refine AllReadyH.cons rfl (fun K hK => ?_) AllReadyH.nil
        refine step_append_at rfl (.tmp 13) (.tmp 22) 28 rfl (w.heap.size + 3) 37 i3 z3 4 48 Try.underlying28 HI.out.1 HI.out.2.1 HI.out.2.2.1 HI.out.2.2.2.1 HI.out.2.2.2.2 (by decide) (.slice none 0 0) 0 (segc []) (by simp [Act.eval, Act.put]) (HA5.out _).1.segs.1 ⟨W5.heap.size, 0, .none⟩ 1 1 (Sg.cells ⟨0, 5, (J.n1 : Int), q5, J.n1, d5, xs⟩) (by simp [Act.eval, Act.put]) rfl (cells4_new _ _ _ _ _ _ _ _ _) (sg_one _) (by simp only [maxLen]; omega) (by omega) (HA5.out _).1.sz ?_
        intro v7 W7 own7 grow7
        obtain ⟨p7, c7, rfl⟩ := one_slice own7
        have HP7 : Hid (Ps w (W7.setCell ⟨w.heap.size + 1 + 1, 1, .none⟩ (.slice p7 (0 + 1) c7)) w.heap.size J p7 (0 + 1) c7 ([] ++ [⟨0, 5, (J.n1 : Int), q5, J.n1, d5, xs⟩])) := (HA5.out _).1.add (s := ⟨0, 5, (J.n1 : Int), q5, J.n1, d5, xs⟩) (HA5.out _).2 own7 grow7
        obtain ⟨s7, y1, y2⟩ := app_mid (HA5.out _).1 grow7
        clear own7 grow7
        refine hK.out _ _ s7 (fun hHeld => ?_)
        clear hK K
        try simp only [Act.put, List.setIfInBounds_toArray, List.set_cons_zero, List.set_cons_succ, List.getElem_toArray, List.getElem_cons_succ, List.getElem_cons_zero]
        refine wpAnyH_take (i := 12) (v := (.pointer (some ⟨w.heap.size + 1 + 1, 1, .none⟩))) rfl (by kernel_rfl) (by kernel_rfl) (by kernel_rfl) (fun _ _ _ h => h) (Or.inl ⟨by rfl, fun ww hSw => by (try dsimp only at hSw); go_simp⟩) (by assumption) ?_
        simp only [Act.put, List.setIfInBounds_toArray, List.set_cons_zero, List.set_cons_succ, List.getElem_toArray, List.getElem_cons_succ, List.getElem_cons_zero]
        refine wpAnyH_ready (rs := [13]) (by kernel_rfl) (by simp) ?_
        refine AllReadyH.cons rfl (fun K hK => ?_) AllReadyH.nil
        go_simp
        refine hK.out _ _ HP7.out.box (fun hHeld => ?_)
        clear hK K
        try simp only [Act.put, List.setIfInBounds_toArray, List.set_cons_zero, List.set_cons_succ, List.getElem_toArray, List.getElem_cons_succ, List.getElem_cons_zero]
        refine wpAnyH_done (by kernel_rfl) ?_ _
        go_wp2_with fail
        go_meet
        exact ⟨rfl, p7, 1, c7, _, by omega, HP7.out, HK.out.symm⟩
      · skip
        go_simp
        go_at_call 10
        refine (newBytes_n HBy.out (by omega)).mono ?_
        rintro e W5 ⟨q5, d5, rfl, o5, b5⟩
        have HP5 : Hid (Ps w W5 w.heap.size J none 0 0 []) := HP0.out.keep b5
        have HA5 : Hid (∀ o, Ps w (W5.alloc o) w.heap.size J none 0 0 [] ∧ (W5.alloc o).ownsRow (w.heap.size + 3) 5 1 (.slice q5 J.n1 d5) J.n1 (by8 xs)) := fun o => ⟨(HP0.out.keep b5).alloc o, own_mono (o5.alloc o) HP0.out.sz⟩
        clear o5 b5
        have k5 := HP5.out.box
        refine hK.out _ _ k5 (fun hHeld => ?_)
        clear hK K
        try simp only [Act.put, List.setIfInBounds_toArray, List.set_cons_zero, List.set_cons_succ, List.getElem_toArray, List.getElem_cons_succ, List.getElem_cons_zero]
        refine wpAnyH_take (i := 9) (v := (.agg #[.int .u64 0, .int .u32 5, .slice q5 J.n1 d5, .int .u64 (J.n1 : Int)])) rfl (by kernel_rfl) (by kernel_rfl) (by kernel_rfl) (fun _ _ _ h => h) (Or.inl ⟨by rfl, fun ww hSw => by (try dsimp only at hSw); go_simp⟩) (by assumption) ?_
        simp only [Act.put, List.setIfInBounds_toArray, List.set_cons_zero, List.set_cons_succ, List.getElem_toArray, List.getElem_cons_succ, List.getElem_cons_zero]
        refine wpAnyH_ready (rs := [1, 10]) (by kernel_rfl) (by simp) ?_
        refine AllReadyH.cons rfl (fun K hK => ?_) (AllReadyH.cons rfl (fun K hK => ?_) AllReadyH.nil)
        · skip
          have q1 := HP5.out.e1
          go_simp
          clear q1
          refine hK.out _ _ k5 (fun hHeld => ?_)
          clear hK K
          try simp only [Act.put, List.setIfInBounds_toArray, List.set_cons_zero, List.set_cons_succ, List.getElem_toArray, List.getElem_cons_succ, List.getElem_cons_zero]
          refine wpAnyH_ready (rs := [10]) (by kernel_rfl) (by simp) ?_
          refine AllReadyH.cons rfl (fun K hK => ?_) AllReadyH.nil
          go_simp
          refine hK.out _ _ (HA5.out _).1.box (fun hHeld => ?_)
          clear hK K
          try simp only [Act.put, List.setIfInBounds_toArray, List.set_cons_zero, List.set_cons_succ, List.getElem_toArray, List.getElem_cons_succ, List.getElem_cons_zero]
          refine wpAnyH_ready (rs := [11]) (by kernel_rfl) (by simp) ?_
          refine AllReadyH.cons rfl (fun K hK => ?_) AllReadyH.nil
          refine step_append_at rfl (.tmp 13) (.tmp 22) 28 rfl (w.heap.size + 3) 37 i3 z3 4 48 Try.underlying28 HI.out.1 HI.out.2.1 HI.out.2.2.1 HI.out.2.2.2.1 HI.out.2.2.2.2 (by decide) (.slice none 0 0) 0 (segc []) (by simp [Act.eval, Act.put]) (HA5.out _).1.segs.1 ⟨W5.heap.size, 0, .none⟩ 1 1 (Sg.cells ⟨0, 5, (J.n1 : Int), q5, J.n1, d5, xs⟩) (by simp [Act.eval, Act.put]) rfl (cells4_new _ _ _ _ _ _ _ _ _) (sg_one _) (by simp only [maxLen]; omega) (by omega) (HA5.out _).1.sz ?_
          intro v7 W7 own7 grow7
          obtain ⟨p7, c7, rfl⟩ := one_slice own7
          have HP7 : Hid (Ps w (W7.setCell ⟨w.heap.size + 1 + 1, 1, .none⟩ (.slice p7 (0 + 1) c7)) w.heap.size J p7 (0 + 1) c7 ([] ++ [⟨0, 5, (J.n1 : Int), q5, J.n1, d5, xs⟩])) := (HA5.out _).1.add (s := ⟨0, 5, (J.n1 : Int), q5, J.n1, d5, xs⟩) (HA5.out _).2 own7 grow7
          obtain ⟨s7, y1, y2⟩ := app_mid (HA5.out _).1 grow7
          clear own7 grow7
          refine hK.out _ _ s7 (fun hHeld => ?_)
          clear hK K
          try simp only [Act.put, List.setIfInBounds_toArray, List.set_cons_zero, List.set_cons_succ, List.getElem_toArray, List.getElem_cons_succ, List.getElem_cons_zero]
          refine wpAnyH_take (i := 12) (v := (.pointer (some ⟨w.heap.size + 1 + 1, 1, .none⟩))) rfl (by kernel_rfl) (by kernel_rfl) (by kernel_rfl) (fun _ _ _ h => h) (Or.inl ⟨by rfl, fun ww hSw => by (try dsimp only at hSw); go_simp⟩) (by assumption) ?_
          simp only [Act.put, List.setIfInBounds_toArray, List.set_cons_zero, List.set_cons_succ, List.getElem_toArray, List.getElem_cons_succ, List.getElem_cons_zero]
          refine wpAnyH_ready (rs := [13]) (by kernel_rfl) (by simp) ?_
          refine AllReadyH.cons rfl (fun K hK => ?_) AllReadyH.nil
          go_simp
          refine hK.out _ _ HP7.out.box (fun hHeld => ?_)
          clear hK K
          try simp only [Act.put, List.setIfInBounds_toArray, List.set_cons_zero, List.set_cons_succ, List.getElem_toArray, List.getElem_cons_succ, List.getElem_cons_zero]
          refine wpAnyH_done (by kernel_rfl) ?_ _
          go_wp2_with fail
          go_meet
          exact ⟨rfl, p7, 1, c7, _, by omega, HP7.out, HK.out.symm⟩
        · go_simp
          refine hK.out _ _ (HA5.out _).1.box (fun hHeld => ?_)
          clear hK K
          try simp only [Act.put, List.setIfInBounds_toArray, List.set_cons_zero, List.set_cons_succ, List.getElem_toArray, List.getElem_cons_succ, List.getElem_cons_zero]
          refine wpAnyH_ready (rs := [1]) (by kernel_rfl) (by simp) ?_
          refine AllReadyH.cons rfl (fun K hK => ?_) AllReadyH.nil
          have q1 := (HA5.out (.cells #[.int .u64 0, .int .u32 5, .slice q5 J.n1 d5, .int .u64 (J.n1 : Int)] 37)).1.e1
          go_simp
          clear q1
          refine hK.out _ _ (HA5.out _).1.box (fun hHeld => ?_)
          clear hK K
          try simp only [Act.put, List.setIfInBounds_toArray, List.set_cons_zero, List.set_cons_succ, List.getElem_toArray, List.getElem_cons_succ, List.getElem_cons_zero]
          refine wpAnyH_ready (rs := [11]) (by kernel_rfl) (by simp) ?_
          refine AllReadyH.cons rfl (fun K hK => ?_) AllReadyH.nil
          refine step_append_at rfl (.tmp 13) (.tmp 22) 28 rfl (w.heap.size + 3) 37 i3 z3 4 48 Try.underlying28 HI.out.1 HI.out.2.1 HI.out.2.2.1 HI.out.2.2.2.1 HI.out.2.2.2.2 (by decide) (.slice none 0 0) 0 (segc []) (by simp [Act.eval, Act.put]) (HA5.out _).1.segs.1 ⟨W5.heap.size, 0, .none⟩ 1 1 (Sg.cells ⟨0, 5, (J.n1 : Int), q5, J.n1, d5, xs⟩) (by simp [Act.eval, Act.put]) rfl (cells4_new _ _ _ _ _ _ _ _ _) (sg_one _) (by simp only [maxLen]; omega) (by omega) (HA5.out _).1.sz ?_
          intro v7 W7 own7 grow7
          obtain ⟨p7, c7, rfl⟩ := one_slice own7
          have HP7 : Hid (Ps w (W7.setCell ⟨w.heap.size + 1 + 1, 1, .none⟩ (.slice p7 (0 + 1) c7)) w.heap.size J p7 (0 + 1) c7 ([] ++ [⟨0, 5, (J.n1 : Int), q5, J.n1, d5, xs⟩])) := (HA5.out _).1.add (s := ⟨0, 5, (J.n1 : Int), q5, J.n1, d5, xs⟩) (HA5.out _).2 own7 grow7
          obtain ⟨s7, y1, y2⟩ := app_mid (HA5.out _).1 grow7
          clear own7 grow7
          refine hK.out _ _ s7 (fun hHeld => ?_)
          clear hK K
          try simp only [Act.put, List.setIfInBounds_toArray, List.set_cons_zero, List.set_cons_succ, List.getElem_toArray, List.getElem_cons_succ, List.getElem_cons_zero]
          refine wpAnyH_take (i := 12) (v := (.pointer (some ⟨w.heap.size + 1 + 1, 1, .none⟩))) rfl (by kernel_rfl) (by kernel_rfl) (by kernel_rfl) (fun _ _ _ h => h) (Or.inl ⟨by rfl, fun ww hSw => by (try dsimp only at hSw); go_simp⟩) (by assumption) ?_
          simp only [Act.put, List.setIfInBounds_toArray, List.set_cons_zero, List.set_cons_succ, List.getElem_toArray, List.getElem_cons_succ, List.getElem_cons_zero]
          refine wpAnyH_ready (rs := [13]) (by kernel_rfl) (by simp) ?_
          refine AllReadyH.cons rfl (fun K hK => ?_) AllReadyH.nil
          go_simp
          refine hK.out _ _ HP7.out.box (fun hHeld => ?_)
          clear hK K
          try simp only [Act.put, List.setIfInBounds_toArray, List.set_cons_zero, List.set_cons_succ, List.getElem_toArray, List.getElem_cons_succ, List.getElem_cons_zero]
          refine wpAnyH_done (by kernel_rfl) ?_ _
          go_wp2_with fail
          go_meet
          exact ⟨rfl, p7, 1, c7, _, by omega, HP7.out, HK.out.symm⟩
  case rest =>
    obtain ⟨rfl, p, n, c, L, hn, HPK⟩ := hcut
    have HP : Hid (Ps w wc w.heap.size J p n c L) := HPK.out.1
    have HKA : Hid (L.map Sg.key = keyA J.n1 xs) := HPK.out.2
    obtain ⟨k0, k1, k2, k3, k4, k5, k6⟩ := HP.out.box
    clear HPK HB
    go_upto_if 34 with fail
    clear k0 k1 k2 k3 k4 k5 k6
    go_cut [3] from 33 to 46 (fun s3 W => s3 = .pointer (some ⟨w.heap.size + 1 + 1, 0, .none⟩) ∧ ∃ p n c L, Hid (Ps w W w.heap.size J p n c L ∧ L.map Sg.key = keyA J.n1 xs ++ keyB J.da M ys))
    case first =>
      generalize wc = WW at *
      by_cases h0 : M = 0
      · have g0 : ¬ (0 : Int) < M := by omega
        have HK : Hid (keyB J.da M ys = []) := by show keyB J.da M ys = _; unfold keyB; rw [if_pos h0]
        clear h0
        go_wp2_with fail
        go_meet
        exact ⟨rfl, p, n, c, L, HP.out, by rw [HKA.out, HK.out, List.append_nil]⟩
      · have g0 : (0 : Int) < M := by omega
        have HK : Hid (keyB J.da M ys = [(J.da, 6, M, ys)]) := by show keyB J.da M ys = _; unfold keyB; rw [if_neg h0]
        clear h0
        go_upto_region 6 with fail
        have HP0 : Hid (Ps w WW.drew w.heap.size J p n c L) := HP.out.drew
        have k0 := HP0.out.box
        have HBy : Hid (Byt WW.drew J.p2 J.n2 J.c2 ys) := byt_keep' H2.out HP0.out.bel (Nat.le_refl _)
        refine wp_region_held_drew (S := S7 w.heap.size J) (by kernel_rfl) k0 (fun hHeld => ?_)
        generalize WW.drew = W0 at *
        refine wpAnyH_take (i := 0) (v := (.pointer (some ⟨w.heap.size + 1 + 1, 1, .none⟩))) rfl (by kernel_rfl) (by kernel_rfl) (by kernel_rfl) (fun _ _ _ h => h) (Or.inl ⟨by rfl, fun ww hSw => by (try dsimp only at hSw); go_simp⟩) (by assumption) ?_
        simp only [Act.put, List.setIfInBounds_toArray, List.set_cons_zero, List.set_cons_succ, List.getElem_toArray, List.getElem_cons_succ, List.getElem_cons_zero]
        refine wpAnyH_take (i := 2) (v := (.pointer (some ⟨w.heap.size, 2, .none⟩))) rfl (by kernel_rfl) (by kernel_rfl) (by kernel_rfl) (fun _ _ _ h => h) (Or.inl ⟨by rfl, fun ww hSw => by (try dsimp only at hSw); go_simp⟩) (by assumption) ?_
        simp only [Act.put, List.setIfInBounds_toArray, List.set_cons_zero, List.set_cons_succ, List.getElem_toArray, List.getElem_cons_succ, List.getElem_cons_zero]
        refine wpAnyH_take (i := 3) (v := (.int .u64 J.da)) rfl (by kernel_rfl) (by kernel_rfl) (by kernel_rfl) (fun _ _ _ h => h) (Or.inl ⟨by rfl, fun ww hSw => by (try dsimp only at hSw); obtain ⟨q0, q1, q2, q3, q4, q5, q6⟩ := hSw; go_simp⟩) (by assumption) ?_
        simp only [Act.put, List.setIfInBounds_toArray, List.set_cons_zero, List.set_cons_succ, List.getElem_toArray, List.getElem_cons_succ, List.getElem_cons_zero]
        refine wpAnyH_take (i := 4) (v := (.pointer (some ⟨w.heap.size, 1, .none⟩))) rfl (by kernel_rfl) (by kernel_rfl) (by kernel_rfl) (fun _ _ _ h => h) (Or.inl ⟨by rfl, fun ww hSw => by (try dsimp only at hSw); go_simp⟩) (by assumption) ?_
        simp only [Act.put, List.setIfInBounds_toArray, List.set_cons_zero, List.set_cons_succ, List.getElem_toArray, List.getElem_cons_succ, List.getElem_cons_zero]
        refine wpAnyH_take (i := 5) (v := (.slice J.p2 J.n2 J.c2)) rfl (by kernel_rfl) (by kernel_rfl) (by kernel_rfl) (fun _ _ _ h => h) (Or.inl ⟨by rfl, fun ww hSw => by (try dsimp only at hSw); obtain ⟨q0, q1, q2, q3, q4, q5, q6⟩ := hSw; go_simp⟩) (by assumption) ?_
        simp only [Act.put, List.setIfInBounds_toArray, List.set_cons_zero, List.set_cons_succ, List.getElem_toArray, List.getElem_cons_succ, List.getElem_cons_zero]
        refine wpAnyH_take (i := 7) (v := (.int .u64 M)) rfl (by kernel_rfl) (by kernel_rfl) (by kernel_rfl) (fun _ _ _ h => h) (Or.inl ⟨by rfl, fun ww hSw => by (try dsimp only at hSw); go_simp⟩) (by assumption) ?_
        simp only [Act.put, List.setIfInBounds_toArray, List.set_cons_zero, List.set_cons_succ, List.getElem_toArray, List.getElem_cons_succ, List.getElem_cons_zero]
        refine wpAnyH_ready (rs := [1, 6]) (by kernel_rfl) (by simp) ?_
        refine AllReadyH.cons rfl (fun K hK => ?_) (AllReadyH.cons rfl (fun K hK => ?_) AllReadyH.nil)
        · skip
          have q1 := HP0.out.e1
          go_simp
          clear q1
          refine hK.out _ _ k0 (fun hHeld => ?_)
          clear hK K
          try simp only [Act.put, List.setIfInBounds_toArray, List.set_cons_zero, List.set_cons_succ, List.getElem_toArray, List.getElem_cons_succ, List.getElem_cons_zero]
          refine wpAnyH_ready (rs := [6]) (by kernel_rfl) (by simp) ?_
          refine AllReadyH.cons rfl (fun K hK => ?_) AllReadyH.nil
          go_simp
          go_at_call 10
          refine (newBytes_n HBy.out (by omega)).mono ?_
          rintro e W5 ⟨q5, d5, rfl, o5, b5⟩
          have HP5 : Hid (Ps w W5 w.heap.size J p n c L) := HP0.out.keep b5
          have HA5 : Hid (∀ o, Ps w (W5.alloc o) w.heap.size J p n c L ∧ (W5.alloc o).ownsRow (w.heap.size + 3) 5 1 (.slice q5 J.n2 d5) J.n2 (by8 ys)) := fun o => ⟨(HP0.out.keep b5).alloc o, own_mono (o5.alloc o) HP0.out.sz⟩
          clear o5 b5
          have k5 := HP5.out.box
          refine hK.out _ _ k5 (fun hHeld => ?_)
          clear hK K
          try simp only [Act.put, List.setIfInBounds_toArray, List.set_cons_zero, List.set_cons_succ, List.getElem_toArray, List.getElem_cons_succ, List.getElem_cons_zero]
          refine wpAnyH_take (i := 8) (v := (.agg #[.int .u64 J.da, .int .u32 6, .slice q5 J.n2 d5, .int .u64 M])) rfl (by kernel_rfl) (by kernel_rfl) (by kernel_rfl) (fun _ _ _ h => h) (Or.inl ⟨by rfl, fun ww hSw => by (try dsimp only at hSw); go_simp⟩) (by assumption) ?_
          simp only [Act.put, List.setIfInBounds_toArray, List.set_cons_zero, List.set_cons_succ, List.getElem_toArray, List.getElem_cons_succ, List.getElem_cons_zero]
          refine wpAnyH_ready (rs := [9]) (by kernel_rfl) (by simp) ?_
          refine AllReadyH.cons rfl (fun K hK => ?_) AllReadyH.nil
          go_simp
          refine hK.out _ _ (HA5.out _).1.box (fun hHeld => ?_)
          clear hK K
          try simp only [Act.put, List.setIfInBounds_toArray, List.set_cons_zero, List.set_cons_succ, List.getElem_toArray, List.getElem_cons_succ, List.getElem_cons_zero]
          refine wpAnyH_ready (rs := [10]) (by kernel_rfl) (by simp) ?_
          refine AllReadyH.cons rfl (fun K hK => ?_) AllReadyH.nil
          refine step_append_at rfl (.tmp 36) (.tmp 44) 28 rfl (w.heap.size + 3) 37 i3 z3 4 48 Try.underlying28 HI.out.1 HI.out.2.1 HI.out.2.2.1 HI.out.2.2.2.1 HI.out.2.2.2.2 (by decide) (.slice p n c) n (segc L) (by simp [Act.eval, Act.put]) (HA5.out _).1.segs.1 ⟨W5.heap.size, 0, .none⟩ 1 1 (Sg.cells ⟨J.da, 6, M, q5, J.n2, d5, ys⟩) (by simp [Act.eval, Act.put]) rfl (cells4_new _ _ _ _ _ _ _ _ _) (sg_one _) (by simp only [maxLen]; omega) (by omega) (HA5.out _).1.sz ?_
          intro v7 W7 own7 grow7
          obtain ⟨p7, c7, rfl⟩ := one_slice own7
          have HP7 : Hid (Ps w (W7.setCell ⟨w.heap.size + 1 + 1, 1, .none⟩ (.slice p7 (n + 1) c7)) w.heap.size J p7 (n + 1) c7 (L ++ [⟨J.da, 6, M, q5, J.n2, d5, ys⟩])) := (HA5.out _).1.add (s := ⟨J.da, 6, M, q5, J.n2, d5, ys⟩) (HA5.out _).2 own7 grow7
          obtain ⟨s7, y1, y2⟩ := app_mid (HA5.out _).1 grow7
          clear own7 grow7
          refine hK.out _ _ s7 (fun hHeld => ?_)
          clear hK K
          try simp only [Act.put, List.setIfInBounds_toArray, List.set_cons_zero, List.set_cons_succ, List.getElem_toArray, List.getElem_cons_succ, List.getElem_cons_zero]
          refine wpAnyH_take (i := 11) (v := (.pointer (some ⟨w.heap.size + 1 + 1, 1, .none⟩))) rfl (by kernel_rfl) (by kernel_rfl) (by kernel_rfl) (fun _ _ _ h => h) (Or.inl ⟨by rfl, fun ww hSw => by (try dsimp only at hSw); go_simp⟩) (by assumption) ?_
          simp only [Act.put, List.setIfInBounds_toArray, List.set_cons_zero, List.set_cons_succ, List.getElem_toArray, List.getElem_cons_succ, List.getElem_cons_zero]
          refine wpAnyH_ready (rs := [12]) (by kernel_rfl) (by simp) ?_
          refine AllReadyH.cons rfl (fun K hK => ?_) AllReadyH.nil
          go_simp
          refine hK.out _ _ HP7.out.box (fun hHeld => ?_)
          clear hK K
          try simp only [Act.put, List.setIfInBounds_toArray, List.set_cons_zero, List.set_cons_succ, List.getElem_toArray, List.getElem_cons_succ, List.getElem_cons_zero]
          refine wpAnyH_done (by kernel_rfl) ?_ _
          go_wp2_with fail
          go_meet
          exact ⟨rfl, p7, n + 1, c7, _, HP7.out, by rw [List.map_append, HKA.out, HK.out]; rfl⟩
        · skip
          go_simp
          go_at_call 10
          refine (newBytes_n HBy.out (by omega)).mono ?_
          rintro e W5 ⟨q5, d5, rfl, o5, b5⟩
          have HP5 : Hid (Ps w W5 w.heap.size J p n c L) := HP0.out.keep b5
          have HA5 : Hid (∀ o, Ps w (W5.alloc o) w.heap.size J p n c L ∧ (W5.alloc o).ownsRow (w.heap.size + 3) 5 1 (.slice q5 J.n2 d5) J.n2 (by8 ys)) := fun o => ⟨(HP0.out.keep b5).alloc o, own_mono (o5.alloc o) HP0.out.sz⟩
          clear o5 b5
          have k5 := HP5.out.box
          refine hK.out _ _ k5 (fun hHeld => ?_)
          clear hK K
          try simp only [Act.put, List.setIfInBounds_toArray, List.set_cons_zero, List.set_cons_succ, List.getElem_toArray, List.getElem_cons_succ, List.getElem_cons_zero]
          refine wpAnyH_take (i := 8) (v := (.agg #[.int .u64 J.da, .int .u32 6, .slice q5 J.n2 d5, .int .u64 M])) rfl (by kernel_rfl) (by kernel_rfl) (by kernel_rfl) (fun _ _ _ h => h) (Or.inl ⟨by rfl, fun ww hSw => by (try dsimp only at hSw); go_simp⟩) (by assumption) ?_
          simp only [Act.put, List.setIfInBounds_toArray, List.set_cons_zero, List.set_cons_succ, List.getElem_toArray, List.getElem_cons_succ, List.getElem_cons_zero]
          refine wpAnyH_ready (rs := [1, 9]) (by kernel_rfl) (by simp) ?_
          refine AllReadyH.cons rfl (fun K hK => ?_) (AllReadyH.cons rfl (fun K hK => ?_) AllReadyH.nil)
          · skip
            have q1 := HP5.out.e1
            go_simp
            clear q1
            refine hK.out _ _ k5 (fun hHeld => ?_)
            clear hK K
            try simp only [Act.put, List.setIfInBounds_toArray, List.set_cons_zero, List.set_cons_succ, List.getElem_toArray, List.getElem_cons_succ, List.getElem_cons_zero]
            refine wpAnyH_ready (rs := [9]) (by kernel_rfl) (by simp) ?_
            refine AllReadyH.cons rfl (fun K hK => ?_) AllReadyH.nil
            go_simp
            refine hK.out _ _ (HA5.out _).1.box (fun hHeld => ?_)
            clear hK K
            try simp only [Act.put, List.setIfInBounds_toArray, List.set_cons_zero, List.set_cons_succ, List.getElem_toArray, List.getElem_cons_succ, List.getElem_cons_zero]
            refine wpAnyH_ready (rs := [10]) (by kernel_rfl) (by simp) ?_
            refine AllReadyH.cons rfl (fun K hK => ?_) AllReadyH.nil
            refine step_append_at rfl (.tmp 36) (.tmp 44) 28 rfl (w.heap.size + 3) 37 i3 z3 4 48 Try.underlying28 HI.out.1 HI.out.2.1 HI.out.2.2.1 HI.out.2.2.2.1 HI.out.2.2.2.2 (by decide) (.slice p n c) n (segc L) (by simp [Act.eval, Act.put]) (HA5.out _).1.segs.1 ⟨W5.heap.size, 0, .none⟩ 1 1 (Sg.cells ⟨J.da, 6, M, q5, J.n2, d5, ys⟩) (by simp [Act.eval, Act.put]) rfl (cells4_new _ _ _ _ _ _ _ _ _) (sg_one _) (by simp only [maxLen]; omega) (by omega) (HA5.out _).1.sz ?_
            intro v7 W7 own7 grow7
            obtain ⟨p7, c7, rfl⟩ := one_slice own7
            have HP7 : Hid (Ps w (W7.setCell ⟨w.heap.size + 1 + 1, 1, .none⟩ (.slice p7 (n + 1) c7)) w.heap.size J p7 (n + 1) c7 (L ++ [⟨J.da, 6, M, q5, J.n2, d5, ys⟩])) := (HA5.out _).1.add (s := ⟨J.da, 6, M, q5, J.n2, d5, ys⟩) (HA5.out _).2 own7 grow7
            obtain ⟨s7, y1, y2⟩ := app_mid (HA5.out _).1 grow7
            clear own7 grow7
            refine hK.out _ _ s7 (fun hHeld => ?_)
            clear hK K
            try simp only [Act.put, List.setIfInBounds_toArray, List.set_cons_zero, List.set_cons_succ, List.getElem_toArray, List.getElem_cons_succ, List.getElem_cons_zero]
            refine wpAnyH_take (i := 11) (v := (.pointer (some ⟨w.heap.size + 1 + 1, 1, .none⟩))) rfl (by kernel_rfl) (by kernel_rfl) (by kernel_rfl) (fun _ _ _ h => h) (Or.inl ⟨by rfl, fun ww hSw => by (try dsimp only at hSw); go_simp⟩) (by assumption) ?_
            simp only [Act.put, List.setIfInBounds_toArray, List.set_cons_zero, List.set_cons_succ, List.getElem_toArray, List.getElem_cons_succ, List.getElem_cons_zero]
            refine wpAnyH_ready (rs := [12]) (by kernel_rfl) (by simp) ?_
            refine AllReadyH.cons rfl (fun K hK => ?_) AllReadyH.nil
            go_simp
            refine hK.out _ _ HP7.out.box (fun hHeld => ?_)
            clear hK K
            try simp only [Act.put, List.setIfInBounds_toArray, List.set_cons_zero, List.set_cons_succ, List.getElem_toArray, List.getElem_cons_succ, List.getElem_cons_zero]
            refine wpAnyH_done (by kernel_rfl) ?_ _
            go_wp2_with fail
            go_meet
            exact ⟨rfl, p7, n + 1, c7, _, HP7.out, by rw [List.map_append, HKA.out, HK.out]; rfl⟩
          · go_simp
            refine hK.out _ _ (HA5.out _).1.box (fun hHeld => ?_)
            clear hK K
            try simp only [Act.put, List.setIfInBounds_toArray, List.set_cons_zero, List.set_cons_succ, List.getElem_toArray, List.getElem_cons_succ, List.getElem_cons_zero]
            refine wpAnyH_ready (rs := [1]) (by kernel_rfl) (by simp) ?_
            refine AllReadyH.cons rfl (fun K hK => ?_) AllReadyH.nil
            have q1 := (HA5.out (.cells #[.int .u64 J.da, .int .u32 6, .slice q5 J.n2 d5, .int .u64 M] 37)).1.e1
            go_simp
            clear q1
            refine hK.out _ _ (HA5.out _).1.box (fun hHeld => ?_)
            clear hK K
            try simp only [Act.put, List.setIfInBounds_toArray, List.set_cons_zero, List.set_cons_succ, List.getElem_toArray, List.getElem_cons_succ, List.getElem_cons_zero]
            refine wpAnyH_ready (rs := [10]) (by kernel_rfl) (by simp) ?_
            refine AllReadyH.cons rfl (fun K hK => ?_) AllReadyH.nil
            refine step_append_at rfl (.tmp 36) (.tmp 44) 28 rfl (w.heap.size + 3) 37 i3 z3 4 48 Try.underlying28 HI.out.1 HI.out.2.1 HI.out.2.2.1 HI.out.2.2.2.1 HI.out.2.2.2.2 (by decide) (.slice p n c) n (segc L) (by simp [Act.eval, Act.put]) (HA5.out _).1.segs.1 ⟨W5.heap.size, 0, .none⟩ 1 1 (Sg.cells ⟨J.da, 6, M, q5, J.n2, d5, ys⟩) (by simp [Act.eval, Act.put]) rfl (cells4_new _ _ _ _ _ _ _ _ _) (sg_one _) (by simp only [maxLen]; omega) (by omega) (HA5.out _).1.sz ?_
            intro v7 W7 own7 grow7
            obtain ⟨p7, c7, rfl⟩ := one_slice own7
            have HP7 : Hid (Ps w (W7.setCell ⟨w.heap.size + 1 + 1, 1, .none⟩ (.slice p7 (n + 1) c7)) w.heap.size J p7 (n + 1) c7 (L ++ [⟨J.da, 6, M, q5, J.n2, d5, ys⟩])) := (HA5.out _).1.add (s := ⟨J.da, 6, M, q5, J.n2, d5, ys⟩) (HA5.out _).2 own7 grow7
            obtain ⟨s7, y1, y2⟩ := app_mid (HA5.out _).1 grow7
            clear own7 grow7
            refine hK.out _ _ s7 (fun hHeld => ?_)
            clear hK K
            try simp only [Act.put, List.setIfInBounds_toArray, List.set_cons_zero, List.set_cons_succ, List.getElem_toArray, List.getElem_cons_succ, List.getElem_cons_zero]
            refine wpAnyH_take (i := 11) (v := (.pointer (some ⟨w.heap.size + 1 + 1, 1, .none⟩))) rfl (by kernel_rfl) (by kernel_rfl) (by kernel_rfl) (fun _ _ _ h => h) (Or.inl ⟨by rfl, fun ww hSw => by (try dsimp only at hSw); go_simp⟩) (by assumption) ?_
            simp only [Act.put, List.setIfInBounds_toArray, List.set_cons_zero, List.set_cons_succ, List.getElem_toArray, List.getElem_cons_succ, List.getElem_cons_zero]
            refine wpAnyH_ready (rs := [12]) (by kernel_rfl) (by simp) ?_
            refine AllReadyH.cons rfl (fun K hK => ?_) AllReadyH.nil
            go_simp
            refine hK.out _ _ HP7.out.box (fun hHeld => ?_)
            clear hK K
            try simp only [Act.put, List.setIfInBounds_toArray, List.set_cons_zero, List.set_cons_succ, List.getElem_toArray, List.getElem_cons_succ, List.getElem_cons_zero]
            refine wpAnyH_done (by kernel_rfl) ?_ _
            go_wp2_with fail
            go_meet
            exact ⟨rfl, p7, n + 1, c7, _, HP7.out, by rw [List.map_append, HKA.out, HK.out]; rfl⟩
    case rest =>
      obtain ⟨rfl, p, n, c, L, HPK⟩ := hcut
      have HP2 : Hid (Ps w wc w.heap.size J p n c L) := HPK.out.1
      have HK2 : Hid (L.map Sg.key = keyA J.n1 xs ++ keyB J.da M ys) := HPK.out.2
      have y0 := HP2.out.e0
      have y1 := HP2.out.e1
      have y2 := HP2.out.r0
      have y3 := HP2.out.r1
      have y4 := HP2.out.f1 0
      have y5 := HP2.out.f1 1
      clear HPK HP HKA
      go_wp2
      obtain ⟨v0, v1, v2, v3⟩ := ps_end HP2.out
      exact bodyPost_ret (v := .agg #[.int .u64 J.en, .slice p n c]) (res_elf rfl _ _ (w.heap.size + 1) _ _ rfl v0 v1) rfl ⟨p, n, c, L, rfl, v2, HK2.out, v3⟩
set_option maxHeartbeats 8000000 in
set_option maxRecDepth 100000 in
theorem program6 (J : Im) (xs ys : List Int) (M : Int) (w : World) (h1 : Byt w J.p1 J.n1 J.c1 xs) (h2 : Byt w J.p2 J.n2 J.c2 ys) (s1 : J.n1 < 1000000) (s2 : J.n2 < 1000000) (hM : IntKind.u64.wrap (IntKind.u64.wrap (J.ba + J.bs) - J.da) = M) (hM0 : 0 ≤ M) :
    Calls Try.prog 6 #[.agg #[.slice J.p1 J.n1 J.c1, .slice J.p2 J.n2 J.c2, .int .u64 J.da, .int .u64 J.ba, .int .u64 J.bs, .int .u64 J.en, .slice J.p3 J.n3 J.c3]] w fun e w' => ∃ p n c L, e = .returned (.agg #[.int .u64 J.en, .slice p n c]) ∧ Segs w' w.heap.size p n c L ∧ L.map Sg.key = keyA J.n1 xs ++ keyB J.da M ys ∧ Below w.heap.size w w' := by
  obtain ⟨i3, z3, hi3, hz3, hs3, hb3, hzs3⟩ := seg_info
  have HI : Hid (Try.prog.info? 37 = some i3 ∧ i3.zero = some z3 ∧ i3.size = 4 ∧ i3.bytes = 48 ∧ z3.cells.size = 4) := ⟨hi3, hz3, hs3, hb3, hzs3⟩
  clear hi3 hz3 hs3 hb3 hzs3
  have H1 : Hid (Byt w J.p1 J.n1 J.c1 xs) := h1
  have H2 : Hid (Byt w J.p2 J.n2 J.c2 ys) := h2
  have hl1 := h1.1
  have hl2 := h2.1
  have hw1 : IntKind.u64.wrap (J.n1 : Int) = (J.n1 : Int) := by rw [IntKind.wrap_u64]; omega
  clear h1 h2 hl1 hl2
  have HB : Hid (Ps w (((w.alloc (.cells #[.slice J.p1 J.n1 J.c1, .slice J.p2 J.n2 J.c2, .int .u64 J.da, .int .u64 J.ba, .int .u64 J.bs, .int .u64 J.en, .slice J.p3 J.n3 J.c3] 26)).alloc (.cells #[.int .u64 0, .slice none 0 0] 30)).alloc (.cells #[.int .u64 J.en, .slice none 0 0] 30)) w.heap.size J none 0 0 []) := ps_begin w J
  go_enter Try.func6, Try.ntmps6
  go_upto_if 11 with fail
  go_cut [3] from 11 to 24 (fun s3 W => s3 = .pointer (some ⟨w.heap.size + 1 + 1, 0, .none⟩) ∧ ∃ p n c L, n ≤ 1 ∧ Hid (Ps w W w.heap.size J p n c L ∧ L.map Sg.key = keyA J.n1 xs))
  case first =>
    have HP := HB
    clear HB
    generalize (((w.alloc (.cells #[.slice J.p1 J.n1 J.c1, .slice J.p2 J.n2 J.c2, .int .u64 J.da, .int .u64 J.ba, .int .u64 J.bs, .int .u64 J.en, .slice J.p3 J.n3 J.c3] 26)).alloc (.cells #[.int .u64 0, .slice none 0 0] 30)).alloc (.cells #[.int .u64 J.en, .slice none 0 0] 30)) = WW at *
    by_cases h0 : J.n1 = 0
    · have g0 : ¬ (0 : Int) < (J.n1 : Int) := by omega
      have HK : Hid (keyA J.n1 xs = []) := by show keyA J.n1 xs = _; unfold keyA; rw [if_pos h0]
      clear h0
      go_wp2_with fail
      go_meet
      exact ⟨rfl, none, 0, 0, [], by omega, HP.out, HK.out.symm⟩
    · have g0 : (0 : Int) < (J.n1 : Int) := by omega
      have HK : Hid (keyA J.n1 xs = [(0, 5, (J.n1 : Int), xs)]) := by show keyA J.n1 xs = _; unfold keyA; rw [if_neg h0]
      clear h0
      go_upto_region 3 with fail
      have HP0 : Hid (Ps w WW.drew w.heap.size J none 0 0 []) := HP.out.drew
      have k0 := HP0.out.box
      have HBy : Hid (Byt WW.drew J.p1 J.n1 J.c1 xs) := byt_keep' H1.out HP0.out.bel (Nat.le_refl _)
      refine wp_region_held_drew (S := S7 w.heap.size J) (by kernel_rfl) k0 (fun hHeld => ?_)
      generalize WW.drew = W0 at *
      refine wpAnyH_take (i := 0) (v := (.pointer (some ⟨w.heap.size + 1 + 1, 1, .none⟩))) rfl (by kernel_rfl) (by kernel_rfl) (by kernel_rfl) (fun _ _ _ h => h) (Or.inl ⟨by rfl, fun ww hSw => by (try dsimp only at hSw); go_simp⟩) (by assumption) ?_
      simp only [Act.put, List.setIfInBounds_toArray, List.set_cons_zero, List.set_cons_succ, List.getElem_toArray, List.getElem_cons_succ, List.getElem_cons_zero]
      refine wpAnyH_take (i := 2) (v := (.pointer (some ⟨w.heap.size, 0, .none⟩))) rfl (by kernel_rfl) (by kernel_rfl) (by kernel_rfl) (fun _ _ _ h => h) (Or.inl ⟨by rfl, fun ww hSw => by (try dsimp only at hSw); go_simp⟩) (by assumption) ?_
      simp only [Act.put, List.setIfInBounds_toArray, List.set_cons_zero, List.set_cons_succ, List.getElem_toArray, List.getElem_cons_succ, List.getElem_cons_zero]
      refine wpAnyH_take (i := 3) (v := (.slice J.p1 J.n1 J.c1)) rfl (by kernel_rfl) (by kernel_rfl) (by kernel_rfl) (fun _ _ _ h => h) (Or.inl ⟨by rfl, fun ww hSw => by (try dsimp only at hSw); obtain ⟨q0, q1, q2, q3, q4, q5, q6⟩ := hSw; go_simp⟩) (by assumption) ?_
      simp only [Act.put, List.setIfInBounds_toArray, List.set_cons_zero, List.set_cons_succ, List.getElem_toArray, List.getElem_cons_succ, List.getElem_cons_zero]
      refine wpAnyH_take (i := 5) (v := (.pointer (some ⟨w.heap.size, 0, .none⟩))) rfl (by kernel_rfl) (by kernel_rfl) (by kernel_rfl) (fun _ _ _ h => h) (Or.inl ⟨by rfl, fun ww hSw => by (try dsimp only at hSw); go_simp⟩) (by assumption) ?_
      simp only [Act.put, List.setIfInBounds_toArray, List.set_cons_zero, List.set_cons_succ, List.getElem_toArray, List.getElem_cons_succ, List.getElem_cons_zero]
      refine wpAnyH_take (i := 6) (v := (.slice J.p1 J.n1 J.c1)) rfl (by kernel_rfl) (by kernel_rfl) (by kernel_rfl) (fun _ _ _ h => h) (Or.inl ⟨by rfl, fun ww hSw => by (try dsimp only at hSw); obtain ⟨q0, q1, q2, q3, q4, q5, q6⟩ := hSw; go_simp⟩) (by assumption) ?_
      simp only [Act.put, List.setIfInBounds_toArray, List.set_cons_zero, List.set_cons_succ, List.getElem_toArray, List.getElem_cons_succ, List.getElem_cons_zero]
      refine wpAnyH_take (i := 7) (v := (.int .i64 (J.n1 : Int))) rfl (by kernel_rfl) (by kernel_rfl) (by kernel_rfl) (fun _ _ _ h => h) (Or.inl ⟨by rfl, fun ww hSw => by (try dsimp only at hSw); go_simp⟩) (by assumption) ?_
      simp only [Act.put, List.setIfInBounds_toArray, List.set_cons_zero, List.set_cons_succ, List.getElem_toArray, List.getElem_cons_succ, List.getElem_cons_zero]
      refine wpAnyH_take (i := 8) (v := (.int .u64 (J.n1 : Int))) rfl (by kernel_rfl) (by kernel_rfl) (by kernel_rfl) (fun _ _ _ h => h) (Or.inl ⟨by rfl, fun ww hSw => by (try dsimp only at hSw); go_simp⟩) (by assumption) ?_
      simp only [Act.put, List.setIfInBounds_toArray, List.set_cons_zero, List.set_cons_succ, List.getElem_toArray, List.getElem_cons_succ, List.getElem_cons_zero]
      refine wpAnyH_ready (rs := [1, 4]) (by kernel_rfl) (by simp) ?_
      refine AllReadyH.cons rfl (fun K hK => ?_) (AllReadyH.cons rfl (fun K hK => ?_) AllReadyH.nil)
      · skip
        have q1 := HP0.out.e1
        go_simp
        clear q1
        refine hK.out _ _ k0 (fun hHeld => ?_)
        clear hK K
        try simp only [Act.put, List.setIfInBounds_toArray, List.set_cons_zero, List.set_cons_succ, List.getElem_toArray, List.getElem_cons_succ, List.getElem_cons_zero]
        refine wpAnyH_ready (rs := [4]) (by kernel_rfl) (by simp) ?_
        refine AllReadyH.cons rfl (fun K hK => ?_) AllReadyH.nil
        go_simp
        go_at_call 11
        refine (copied_n HBy.out (by omega)).mono ?_
        rintro e W5 ⟨q5, d5, rfl, o5, b5⟩
        have HP5 : Hid (Ps w W5 w.heap.size J none 0 0 []) := HP0.out.keep b5
        have HA5 : Hid (∀ o, Ps w (W5.alloc o) w.heap.size J none 0 0 [] ∧ (W5.alloc o).ownsRow (w.heap.size + 3) 5 1 (.slice q5 J.n1 d5) J.n1 (by8 xs)) := fun o => ⟨(HP0.out.keep b5).alloc o, own_mono (o5.alloc o) HP0.out.sz⟩
        clear o5 b5
        have k5 := HP5.out.box
        refine hK.out _ _ k5 (fun hHeld => ?_)
        clear hK K
        try simp only [Act.put, List.setIfInBounds_toArray, List.set_cons_zero, List.set_cons_succ, List.getElem_toArray, List.getElem_cons_succ, List.getElem_cons_zero]
        refine wpAnyH_take (i := 9) (v := (.agg #[.int .u64 0, .int .u32 5, .slice q5 J.n1 d5, .int .u64 (J.n1 : Int)])) rfl (by kernel_rfl) (by kernel_rfl) (by kernel_rfl) (fun _ _ _ h => h) (Or.inl ⟨by rfl, fun ww hSw => by (try dsimp only at hSw); go_simp⟩) (by assumption) ?_
        simp only [Act.put, List.setIfInBounds_toArray, List.set_cons_zero, List.set_cons_succ, List.getElem_toArray, List.getElem_cons_succ, List.getElem_cons_zero]
        refine wpAnyH_ready (rs := [10]) (by kernel_rfl) (by simp) ?_
        refine AllReadyH.cons rfl (fun K hK => ?_) AllReadyH.nil
        go_simp
        refine hK.out _ _ (HA5.out _).1.box (fun hHeld => ?_)
        clear hK K
        try simp only [Act.put, List.setIfInBounds_toArray, List.set_cons_zero, List.set_cons_succ, List.getElem_toArray, List.getElem_cons_succ, List.getElem_cons_zero]
        refine wpAnyH_ready (rs := [11]) (by kernel_rfl) (by simp) ?_
        refine AllReadyH.cons rfl (fun K hK => ?_) AllReadyH.nil
        refine step_append_at rfl (.tmp 13) (.tmp 22) 28 rfl (w.heap.size + 3) 37 i3 z3 4 48 Try.underlying28 HI.out.1 HI.out.2.1 HI.out.2.2.1 HI.out.2.2.2.1 HI.out.2.2.2.2 (by decide) (.slice none 0 0) 0 (segc []) (by simp [Act.eval, Act.put]) (HA5.out _).1.segs.1 ⟨W5.heap.size, 0, .none⟩ 1 1 (Sg.cells ⟨0, 5, (J.n1 : Int), q5, J.n1, d5, xs⟩) (by simp [Act.eval, Act.put]) rfl (cells4_new _ _ _ _ _ _ _ _ _) (sg_one _) (by simp only [maxLen]; omega) (by omega) (HA5.out _).1.sz ?_
        intro v7 W7 own7 grow7
        obtain ⟨p7, c7, rfl⟩ := one_slice own7
        have HP7 : Hid (Ps w (W7.setCell ⟨w.heap.size + 1 + 1, 1, .none⟩ (.slice p7 (0 + 1) c7)) w.heap.size J p7 (0 + 1) c7 ([] ++ [⟨0, 5, (J.n1 : Int), q5, J.n1, d5, xs⟩])) := (HA5.out _).1.add (s := ⟨0, 5, (J.n1 : Int), q5, J.n1, d5, xs⟩) (HA5.out _).2 own7 grow7
        obtain ⟨s7, y1, y2⟩ := app_mid (HA5.out _).1 grow7
        clear own7 grow7
        refine hK.out _ _ s7 (fun hHeld => ?_)
        clear hK K
        try simp only [Act.put, List.setIfInBounds_toArray, List.set_cons_zero, List.set_cons_succ, List.getElem_toArray, List.getElem_cons_succ, List.getElem_cons_zero]
        refine wpAnyH_take (i := 12) (v := (.pointer (some ⟨w.heap.size + 1 + 1, 1, .none⟩))) rfl (by kernel_rfl) (by kernel_rfl) (by kernel_rfl) (fun _ _ _ h => h) (Or.inl ⟨by rfl, fun ww hSw => by (try dsimp only at hSw); go_simp⟩) (by assumption) ?_
        simp only [Act.put, List.setIfInBounds_toArray, List.set_cons_zero, List.set_cons_succ, List.getElem_toArray, List.getElem_cons_succ, List.getElem_cons_zero]
        refine wpAnyH_ready (rs := [13]) (by kernel_rfl) (by simp) ?_
        refine AllReadyH.cons rfl (fun K hK => ?_) AllReadyH.nil
        go_simp
        refine hK.out _ _ HP7.out.box (fun hHeld => ?_)
        clear hK K
        try simp only [Act.put, List.setIfInBounds_toArray, List.set_cons_zero, List.set_cons_succ, List.getElem_toArray, List.getElem_cons_succ, List.getElem_cons_zero]
        refine wpAnyH_done (by kernel_rfl) ?_ _
        go_wp2_with fail
        go_meet
        exact ⟨rfl, p7, 1, c7, _, by omega, HP7.out, HK.out.symm⟩
      · skip
        go_simp
        go_at_call 11
        refine (copied_n HBy.out (by omega)).mono ?_
        rintro e W5 ⟨q5, d5, rfl, o5, b5⟩
        have HP5 : Hid (Ps w W5 w.heap.size J none 0 0 []) := HP0.out.keep b5
        have HA5 : Hid (∀ o, Ps w (W5.alloc o) w.heap.size J none 0 0 [] ∧ (W5.alloc o).ownsRow (w.heap.size + 3) 5 1 (.slice q5 J.n1 d5) J.n1 (by8 xs)) := fun o => ⟨(HP0.out.keep b5).alloc o, own_mono (o5.alloc o) HP0.out.sz⟩
        clear o5 b5
        have k5 := HP5.out.box
        refine hK.out _ _ k5 (fun hHeld => ?_)
        clear hK K
        try simp only [Act.put, List.setIfInBounds_toArray, List.set_cons_zero, List.set_cons_succ, List.getElem_toArray, List.getElem_cons_succ, List.getElem_cons_zero]
        refine wpAnyH_take (i := 9) (v := (.agg #[.int .u64 0, .int .u32 5, .slice q5 J.n1 d5, .int .u64 (J.n1 : Int)])) rfl (by kernel_rfl) (by kernel_rfl) (by kernel_rfl) (fun _ _ _ h => h) (Or.inl ⟨by rfl, fun ww hSw => by (try dsimp only at hSw); go_simp⟩) (by assumption) ?_
        simp only [Act.put, List.setIfInBounds_toArray, List.set_cons_zero, List.set_cons_succ, List.getElem_toArray, List.getElem_cons_succ, List.getElem_cons_zero]
        refine wpAnyH_ready (rs := [1, 10]) (by kernel_rfl) (by simp) ?_
        refine AllReadyH.cons rfl (fun K hK => ?_) (AllReadyH.cons rfl (fun K hK => ?_) AllReadyH.nil)
        · skip
          have q1 := HP5.out.e1
          go_simp
          clear q1
          refine hK.out _ _ k5 (fun hHeld => ?_)
          clear hK K
          try simp only [Act.put, List.setIfInBounds_toArray, List.set_cons_zero, List.set_cons_succ, List.getElem_toArray, List.getElem_cons_succ, List.getElem_cons_zero]
          refine wpAnyH_ready (rs := [10]) (by kernel_rfl) (by simp) ?_
          refine AllReadyH.cons rfl (fun K hK => ?_) AllReadyH.nil
          go_simp
          refine hK.out _ _ (HA5.out _).1.box (fun hHeld => ?_)
          clear hK K
          try simp only [Act.put, List.setIfInBounds_toArray, List.set_cons_zero, List.set_cons_succ, List.getElem_toArray, List.getElem_cons_succ, List.getElem_cons_zero]
          refine wpAnyH_ready (rs := [11]) (by kernel_rfl) (by simp) ?_
          refine AllReadyH.cons rfl (fun K hK => ?_) AllReadyH.nil
          refine step_append_at rfl (.tmp 13) (.tmp 22) 28 rfl (w.heap.size + 3) 37 i3 z3 4 48 Try.underlying28 HI.out.1 HI.out.2.1 HI.out.2.2.1 HI.out.2.2.2.1 HI.out.2.2.2.2 (by decide) (.slice none 0 0) 0 (segc []) (by simp [Act.eval, Act.put]) (HA5.out _).1.segs.1 ⟨W5.heap.size, 0, .none⟩ 1 1 (Sg.cells ⟨0, 5, (J.n1 : Int), q5, J.n1, d5, xs⟩) (by simp [Act.eval, Act.put]) rfl (cells4_new _ _ _ _ _ _ _ _ _) (sg_one _) (by simp only [maxLen]; omega) (by omega) (HA5.out _).1.sz ?_
          intro v7 W7 own7 grow7
          obtain ⟨p7, c7, rfl⟩ := one_slice own7
          have HP7 : Hid (Ps w (W7.setCell ⟨w.heap.size + 1 + 1, 1, .none⟩ (.slice p7 (0 + 1) c7)) w.heap.size J p7 (0 + 1) c7 ([] ++ [⟨0, 5, (J.n1 : Int), q5, J.n1, d5, xs⟩])) := (HA5.out _).1.add (s := ⟨0, 5, (J.n1 : Int), q5, J.n1, d5, xs⟩) (HA5.out _).2 own7 grow7
          obtain ⟨s7, y1, y2⟩ := app_mid (HA5.out _).1 grow7
          clear own7 grow7
          refine hK.out _ _ s7 (fun hHeld => ?_)
          clear hK K
          try simp only [Act.put, List.setIfInBounds_toArray, List.set_cons_zero, List.set_cons_succ, List.getElem_toArray, List.getElem_cons_succ, List.getElem_cons_zero]
          refine wpAnyH_take (i := 12) (v := (.pointer (some ⟨w.heap.size + 1 + 1, 1, .none⟩))) rfl (by kernel_rfl) (by kernel_rfl) (by kernel_rfl) (fun _ _ _ h => h) (Or.inl ⟨by rfl, fun ww hSw => by (try dsimp only at hSw); go_simp⟩) (by assumption) ?_
          simp only [Act.put, List.setIfInBounds_toArray, List.set_cons_zero, List.set_cons_succ, List.getElem_toArray, List.getElem_cons_succ, List.getElem_cons_zero]
          refine wpAnyH_ready (rs := [13]) (by kernel_rfl) (by simp) ?_
          refine AllReadyH.cons rfl (fun K hK => ?_) AllReadyH.nil
          go_simp
          refine hK.out _ _ HP7.out.box (fun hHeld => ?_)
          clear hK K
          try simp only [Act.put, List.setIfInBounds_toArray, List.set_cons_zero, List.set_cons_succ, List.getElem_toArray, List.getElem_cons_succ, List.getElem_cons_zero]
          refine wpAnyH_done (by kernel_rfl) ?_ _
          go_wp2_with fail
          go_meet
          exact ⟨rfl, p7, 1, c7, _, by omega, HP7.out, HK.out.symm⟩
        · go_simp
          refine hK.out _ _ (HA5.out _).1.box (fun hHeld => ?_)
          clear hK K
          try simp only [Act.put, List.setIfInBounds_toArray, List.set_cons_zero, List.set_cons_succ, List.getElem_toArray, List.getElem_cons_succ, List.getElem_cons_zero]
          refine wpAnyH_ready (rs := [1]) (by kernel_rfl) (by simp) ?_
          refine AllReadyH.cons rfl (fun K hK => ?_) AllReadyH.nil
          have q1 := (HA5.out (.cells #[.int .u64 0, .int .u32 5, .slice q5 J.n1 d5, .int .u64 (J.n1 : Int)] 37)).1.e1
          go_simp
          clear q1
          refine hK.out _ _ (HA5.out _).1.box (fun hHeld => ?_)
          clear hK K
          try simp only [Act.put, List.setIfInBounds_toArray, List.set_cons_zero, List.set_cons_succ, List.getElem_toArray, List.getElem_cons_succ, List.getElem_cons_zero]
          refine wpAnyH_ready (rs := [11]) (by kernel_rfl) (by simp) ?_
          refine AllReadyH.cons rfl (fun K hK => ?_) AllReadyH.nil
          refine step_append_at rfl (.tmp 13) (.tmp 22) 28 rfl (w.heap.size + 3) 37 i3 z3 4 48 Try.underlying28 HI.out.1 HI.out.2.1 HI.out.2.2.1 HI.out.2.2.2.1 HI.out.2.2.2.2 (by decide) (.slice none 0 0) 0 (segc []) (by simp [Act.eval, Act.put]) (HA5.out _).1.segs.1 ⟨W5.heap.size, 0, .none⟩ 1 1 (Sg.cells ⟨0, 5, (J.n1 : Int), q5, J.n1, d5, xs⟩) (by simp [Act.eval, Act.put]) rfl (cells4_new _ _ _ _ _ _ _ _ _) (sg_one _) (by simp only [maxLen]; omega) (by omega) (HA5.out _).1.sz ?_
          intro v7 W7 own7 grow7
          obtain ⟨p7, c7, rfl⟩ := one_slice own7
          have HP7 : Hid (Ps w (W7.setCell ⟨w.heap.size + 1 + 1, 1, .none⟩ (.slice p7 (0 + 1) c7)) w.heap.size J p7 (0 + 1) c7 ([] ++ [⟨0, 5, (J.n1 : Int), q5, J.n1, d5, xs⟩])) := (HA5.out _).1.add (s := ⟨0, 5, (J.n1 : Int), q5, J.n1, d5, xs⟩) (HA5.out _).2 own7 grow7
          obtain ⟨s7, y1, y2⟩ := app_mid (HA5.out _).1 grow7
          clear own7 grow7
          refine hK.out _ _ s7 (fun hHeld => ?_)
          clear hK K
          try simp only [Act.put, List.setIfInBounds_toArray, List.set_cons_zero, List.set_cons_succ, List.getElem_toArray, List.getElem_cons_succ, List.getElem_cons_zero]
          refine wpAnyH_take (i := 12) (v := (.pointer (some ⟨w.heap.size + 1 + 1, 1, .none⟩))) rfl (by kernel_rfl) (by kernel_rfl) (by kernel_rfl) (fun _ _ _ h => h) (Or.inl ⟨by rfl, fun ww hSw => by (try dsimp only at hSw); go_simp⟩) (by assumption) ?_
          simp only [Act.put, List.setIfInBounds_toArray, List.set_cons_zero, List.set_cons_succ, List.getElem_toArray, List.getElem_cons_succ, List.getElem_cons_zero]
          refine wpAnyH_ready (rs := [13]) (by kernel_rfl) (by simp) ?_
          refine AllReadyH.cons rfl (fun K hK => ?_) AllReadyH.nil
          go_simp
          refine hK.out _ _ HP7.out.box (fun hHeld => ?_)
          clear hK K
          try simp only [Act.put, List.setIfInBounds_toArray, List.set_cons_zero, List.set_cons_succ, List.getElem_toArray, List.getElem_cons_succ, List.getElem_cons_zero]
          refine wpAnyH_done (by kernel_rfl) ?_ _
          go_wp2_with fail
          go_meet
          exact ⟨rfl, p7, 1, c7, _, by omega, HP7.out, HK.out.symm⟩
  case rest =>
    obtain ⟨rfl, p, n, c, L, hn, HPK⟩ := hcut
    have HP : Hid (Ps w wc w.heap.size J p n c L) := HPK.out.1
    have HKA : Hid (L.map Sg.key = keyA J.n1 xs) := HPK.out.2
    obtain ⟨k0, k1, k2, k3, k4, k5, k6⟩ := HP.out.box
    clear HPK HB
    go_upto_if 34 with fail
    clear k0 k1 k2 k3 k4 k5 k6
    go_cut [3] from 33 to 46 (fun s3 W => s3 = .pointer (some ⟨w.heap.size + 1 + 1, 0, .none⟩) ∧ ∃ p n c L, Hid (Ps w W w.heap.size J p n c L ∧ L.map Sg.key = keyA J.n1 xs ++ keyB J.da M ys))
    case first =>
      generalize wc = WW at *
      by_cases h0 : M = 0
      · have g0 : ¬ (0 : Int) < M := by omega
        have HK : Hid (keyB J.da M ys = []) := by show keyB J.da M ys = _; unfold keyB; rw [if_pos h0]
        clear h0
        go_wp2_with fail
        go_meet
        exact ⟨rfl, p, n, c, L, HP.out, by rw [HKA.out, HK.out, List.append_nil]⟩
      · have g0 : (0 : Int) < M := by omega
        have HK : Hid (keyB J.da M ys = [(J.da, 6, M, ys)]) := by show keyB J.da M ys = _; unfold keyB; rw [if_neg h0]
        clear h0
        go_upto_region 6 with fail
        have HP0 : Hid (Ps w WW.drew w.heap.size J p n c L) := HP.out.drew
        have k0 := HP0.out.box
        have HBy : Hid (Byt WW.drew J.p2 J.n2 J.c2 ys) := byt_keep' H2.out HP0.out.bel (Nat.le_refl _)
        refine wp_region_held_drew (S := S7 w.heap.size J) (by kernel_rfl) k0 (fun hHeld => ?_)
        generalize WW.drew = W0 at *
        refine wpAnyH_take (i := 0) (v := (.pointer (some ⟨w.heap.size + 1 + 1, 1, .none⟩))) rfl (by kernel_rfl) (by kernel_rfl) (by kernel_rfl) (fun _ _ _ h => h) (Or.inl ⟨by rfl, fun ww hSw => by (try dsimp only at hSw); go_simp⟩) (by assumption) ?_
        simp only [Act.put, List.setIfInBounds_toArray, List.set_cons_zero, List.set_cons_succ, List.getElem_toArray, List.getElem_cons_succ, List.getElem_cons_zero]
        refine wpAnyH_take (i := 2) (v := (.pointer (some ⟨w.heap.size, 2, .none⟩))) rfl (by kernel_rfl) (by kernel_rfl) (by kernel_rfl) (fun _ _ _ h => h) (Or.inl ⟨by rfl, fun ww hSw => by (try dsimp only at hSw); go_simp⟩) (by assumption) ?_
        simp only [Act.put, List.setIfInBounds_toArray, List.set_cons_zero, List.set_cons_succ, List.getElem_toArray, List.getElem_cons_succ, List.getElem_cons_zero]
        refine wpAnyH_take (i := 3) (v := (.int .u64 J.da)) rfl (by kernel_rfl) (by kernel_rfl) (by kernel_rfl) (fun _ _ _ h => h) (Or.inl ⟨by rfl, fun ww hSw => by (try dsimp only at hSw); obtain ⟨q0, q1, q2, q3, q4, q5, q6⟩ := hSw; go_simp⟩) (by assumption) ?_
        simp only [Act.put, List.setIfInBounds_toArray, List.set_cons_zero, List.set_cons_succ, List.getElem_toArray, List.getElem_cons_succ, List.getElem_cons_zero]
        refine wpAnyH_take (i := 4) (v := (.pointer (some ⟨w.heap.size, 1, .none⟩))) rfl (by kernel_rfl) (by kernel_rfl) (by kernel_rfl) (fun _ _ _ h => h) (Or.inl ⟨by rfl, fun ww hSw => by (try dsimp only at hSw); go_simp⟩) (by assumption) ?_
        simp only [Act.put, List.setIfInBounds_toArray, List.set_cons_zero, List.set_cons_succ, List.getElem_toArray, List.getElem_cons_succ, List.getElem_cons_zero]
        refine wpAnyH_take (i := 5) (v := (.slice J.p2 J.n2 J.c2)) rfl (by kernel_rfl) (by kernel_rfl) (by kernel_rfl) (fun _ _ _ h => h) (Or.inl ⟨by rfl, fun ww hSw => by (try dsimp only at hSw); obtain ⟨q0, q1, q2, q3, q4, q5, q6⟩ := hSw; go_simp⟩) (by assumption) ?_
        simp only [Act.put, List.setIfInBounds_toArray, List.set_cons_zero, List.set_cons_succ, List.getElem_toArray, List.getElem_cons_succ, List.getElem_cons_zero]
        refine wpAnyH_take (i := 7) (v := (.int .u64 M)) rfl (by kernel_rfl) (by kernel_rfl) (by kernel_rfl) (fun _ _ _ h => h) (Or.inl ⟨by rfl, fun ww hSw => by (try dsimp only at hSw); go_simp⟩) (by assumption) ?_
        simp only [Act.put, List.setIfInBounds_toArray, List.set_cons_zero, List.set_cons_succ, List.getElem_toArray, List.getElem_cons_succ, List.getElem_cons_zero]
        refine wpAnyH_ready (rs := [1, 6]) (by kernel_rfl) (by simp) ?_
        refine AllReadyH.cons rfl (fun K hK => ?_) (AllReadyH.cons rfl (fun K hK => ?_) AllReadyH.nil)
        · skip
          have q1 := HP0.out.e1
          go_simp
          clear q1
          refine hK.out _ _ k0 (fun hHeld => ?_)
          clear hK K
          try simp only [Act.put, List.setIfInBounds_toArray, List.set_cons_zero, List.set_cons_succ, List.getElem_toArray, List.getElem_cons_succ, List.getElem_cons_zero]
          refine wpAnyH_ready (rs := [6]) (by kernel_rfl) (by simp) ?_
          refine AllReadyH.cons rfl (fun K hK => ?_) AllReadyH.nil
          go_simp
          go_at_call 11
          refine (copied_n HBy.out (by omega)).mono ?_
          rintro e W5 ⟨q5, d5, rfl, o5, b5⟩
          have HP5 : Hid (Ps w W5 w.heap.size J p n c L) := HP0.out.keep b5
          have HA5 : Hid (∀ o, Ps w (W5.alloc o) w.heap.size J p n c L ∧ (W5.alloc o).ownsRow (w.heap.size + 3) 5 1 (.slice q5 J.n2 d5) J.n2 (by8 ys)) := fun o => ⟨(HP0.out.keep b5).alloc o, own_mono (o5.alloc o) HP0.out.sz⟩
          clear o5 b5
          have k5 := HP5.out.box
          refine hK.out _ _ k5 (fun hHeld => ?_)
          clear hK K
          try simp only [Act.put, List.setIfInBounds_toArray, List.set_cons_zero, List.set_cons_succ, List.getElem_toArray, List.getElem_cons_succ, List.getElem_cons_zero]
          refine wpAnyH_take (i := 8) (v := (.agg #[.int .u64 J.da, .int .u32 6, .slice q5 J.n2 d5, .int .u64 M])) rfl (by kernel_rfl) (by kernel_rfl) (by kernel_rfl) (fun _ _ _ h => h) (Or.inl ⟨by rfl, fun ww hSw => by (try dsimp only at hSw); go_simp⟩) (by assumption) ?_
          simp only [Act.put, List.setIfInBounds_toArray, List.set_cons_zero, List.set_cons_succ, List.getElem_toArray, List.getElem_cons_succ, List.getElem_cons_zero]
          refine wpAnyH_ready (rs := [9]) (by kernel_rfl) (by simp) ?_
          refine AllReadyH.cons rfl (fun K hK => ?_) AllReadyH.nil
          go_simp
          refine hK.out _ _ (HA5.out _).1.box (fun hHeld => ?_)
          clear hK K
          try simp only [Act.put, List.setIfInBounds_toArray, List.set_cons_zero, List.set_cons_succ, List.getElem_toArray, List.getElem_cons_succ, List.getElem_cons_zero]
          refine wpAnyH_ready (rs := [10]) (by kernel_rfl) (by simp) ?_
          refine AllReadyH.cons rfl (fun K hK => ?_) AllReadyH.nil
          refine step_append_at rfl (.tmp 36) (.tmp 44) 28 rfl (w.heap.size + 3) 37 i3 z3 4 48 Try.underlying28 HI.out.1 HI.out.2.1 HI.out.2.2.1 HI.out.2.2.2.1 HI.out.2.2.2.2 (by decide) (.slice p n c) n (segc L) (by simp [Act.eval, Act.put]) (HA5.out _).1.segs.1 ⟨W5.heap.size, 0, .none⟩ 1 1 (Sg.cells ⟨J.da, 6, M, q5, J.n2, d5, ys⟩) (by simp [Act.eval, Act.put]) rfl (cells4_new _ _ _ _ _ _ _ _ _) (sg_one _) (by simp only [maxLen]; omega) (by omega) (HA5.out _).1.sz ?_
          intro v7 W7 own7 grow7
          obtain ⟨p7, c7, rfl⟩ := one_slice own7
          have HP7 : Hid (Ps w (W7.setCell ⟨w.heap.size + 1 + 1, 1, .none⟩ (.slice p7 (n + 1) c7)) w.heap.size J p7 (n + 1) c7 (L ++ [⟨J.da, 6, M, q5, J.n2, d5, ys⟩])) := (HA5.out _).1.add (s := ⟨J.da, 6, M, q5, J.n2, d5, ys⟩) (HA5.out _).2 own7 grow7
          obtain ⟨s7, y1, y2⟩ := app_mid (HA5.out _).1 grow7
          clear own7 grow7
          refine hK.out _ _ s7 (fun hHeld => ?_)
          clear hK K
          try simp only [Act.put, List.setIfInBounds_toArray, List.set_cons_zero, List.set_cons_succ, List.getElem_toArray, List.getElem_cons_succ, List.getElem_cons_zero]
          refine wpAnyH_take (i := 11) (v := (.pointer (some ⟨w.heap.size + 1 + 1, 1, .none⟩))) rfl (by kernel_rfl) (by kernel_rfl) (by kernel_rfl) (fun _ _ _ h => h) (Or.inl ⟨by rfl, fun ww hSw => by (try dsimp only at hSw); go_simp⟩) (by assumption) ?_
          simp only [Act.put, List.setIfInBounds_toArray, List.set_cons_zero, List.set_cons_succ, List.getElem_toArray, List.getElem_cons_succ, List.getElem_cons_zero]
          refine wpAnyH_ready (rs := [12]) (by kernel_rfl) (by simp) ?_
          refine AllReadyH.cons rfl (fun K hK => ?_) AllReadyH.nil
          go_simp
          refine hK.out _ _ HP7.out.box (fun hHeld => ?_)
          clear hK K
          try simp only [Act.put, List.setIfInBounds_toArray, List.set_cons_zero, List.set_cons_succ, List.getElem_toArray, List.getElem_cons_succ, List.getElem_cons_zero]
          refine wpAnyH_done (by kernel_rfl) ?_ _
          go_wp2_with fail
          go_meet
          exact ⟨rfl, p7, n + 1, c7, _, HP7.out, by rw [List.map_append, HKA.out, HK.out]; rfl⟩
        · skip
          go_simp
          go_at_call 11
          refine (copied_n HBy.out (by omega)).mono ?_
          rintro e W5 ⟨q5, d5, rfl, o5, b5⟩
          have HP5 : Hid (Ps w W5 w.heap.size J p n c L) := HP0.out.keep b5
          have HA5 : Hid (∀ o, Ps w (W5.alloc o) w.heap.size J p n c L ∧ (W5.alloc o).ownsRow (w.heap.size + 3) 5 1 (.slice q5 J.n2 d5) J.n2 (by8 ys)) := fun o => ⟨(HP0.out.keep b5).alloc o, own_mono (o5.alloc o) HP0.out.sz⟩
          clear o5 b5
          have k5 := HP5.out.box
          refine hK.out _ _ k5 (fun hHeld => ?_)
          clear hK K
          try simp only [Act.put, List.setIfInBounds_toArray, List.set_cons_zero, List.set_cons_succ, List.getElem_toArray, List.getElem_cons_succ, List.getElem_cons_zero]
          refine wpAnyH_take (i := 8) (v := (.agg #[.int .u64 J.da, .int .u32 6, .slice q5 J.n2 d5, .int .u64 M])) rfl (by kernel_rfl) (by kernel_rfl) (by kernel_rfl) (fun _ _ _ h => h) (Or.inl ⟨by rfl, fun ww hSw => by (try dsimp only at hSw); go_simp⟩) (by assumption) ?_
          simp only [Act.put, List.setIfInBounds_toArray, List.set_cons_zero, List.set_cons_succ, List.getElem_toArray, List.getElem_cons_succ, List.getElem_cons_zero]
          refine wpAnyH_ready (rs := [1, 9]) (by kernel_rfl) (by simp) ?_
          refine AllReadyH.cons rfl (fun K hK => ?_) (AllReadyH.cons rfl (fun K hK => ?_) AllReadyH.nil)
          · skip
            have q1 := HP5.out.e1
            go_simp
            clear q1
            refine hK.out _ _ k5 (fun hHeld => ?_)
            clear hK K
            try simp only [Act.put, List.setIfInBounds_toArray, List.set_cons_zero, List.set_cons_succ, List.getElem_toArray, List.getElem_cons_succ, List.getElem_cons_zero]
            refine wpAnyH_ready (rs := [9]) (by kernel_rfl) (by simp) ?_
            refine AllReadyH.cons rfl (fun K hK => ?_) AllReadyH.nil
            go_simp
            refine hK.out _ _ (HA5.out _).1.box (fun hHeld => ?_)
            clear hK K
            try simp only [Act.put, List.setIfInBounds_toArray, List.set_cons_zero, List.set_cons_succ, List.getElem_toArray, List.getElem_cons_succ, List.getElem_cons_zero]
            refine wpAnyH_ready (rs := [10]) (by kernel_rfl) (by simp) ?_
            refine AllReadyH.cons rfl (fun K hK => ?_) AllReadyH.nil
            refine step_append_at rfl (.tmp 36) (.tmp 44) 28 rfl (w.heap.size + 3) 37 i3 z3 4 48 Try.underlying28 HI.out.1 HI.out.2.1 HI.out.2.2.1 HI.out.2.2.2.1 HI.out.2.2.2.2 (by decide) (.slice p n c) n (segc L) (by simp [Act.eval, Act.put]) (HA5.out _).1.segs.1 ⟨W5.heap.size, 0, .none⟩ 1 1 (Sg.cells ⟨J.da, 6, M, q5, J.n2, d5, ys⟩) (by simp [Act.eval, Act.put]) rfl (cells4_new _ _ _ _ _ _ _ _ _) (sg_one _) (by simp only [maxLen]; omega) (by omega) (HA5.out _).1.sz ?_
            intro v7 W7 own7 grow7
            obtain ⟨p7, c7, rfl⟩ := one_slice own7
            have HP7 : Hid (Ps w (W7.setCell ⟨w.heap.size + 1 + 1, 1, .none⟩ (.slice p7 (n + 1) c7)) w.heap.size J p7 (n + 1) c7 (L ++ [⟨J.da, 6, M, q5, J.n2, d5, ys⟩])) := (HA5.out _).1.add (s := ⟨J.da, 6, M, q5, J.n2, d5, ys⟩) (HA5.out _).2 own7 grow7
            obtain ⟨s7, y1, y2⟩ := app_mid (HA5.out _).1 grow7
            clear own7 grow7
            refine hK.out _ _ s7 (fun hHeld => ?_)
            clear hK K
            try simp only [Act.put, List.setIfInBounds_toArray, List.set_cons_zero, List.set_cons_succ, List.getElem_toArray, List.getElem_cons_succ, List.getElem_cons_zero]
            refine wpAnyH_take (i := 11) (v := (.pointer (some ⟨w.heap.size + 1 + 1, 1, .none⟩))) rfl (by kernel_rfl) (by kernel_rfl) (by kernel_rfl) (fun _ _ _ h => h) (Or.inl ⟨by rfl, fun ww hSw => by (try dsimp only at hSw); go_simp⟩) (by assumption) ?_
            simp only [Act.put, List.setIfInBounds_toArray, List.set_cons_zero, List.set_cons_succ, List.getElem_toArray, List.getElem_cons_succ, List.getElem_cons_zero]
            refine wpAnyH_ready (rs := [12]) (by kernel_rfl) (by simp) ?_
            refine AllReadyH.cons rfl (fun K hK => ?_) AllReadyH.nil
            go_simp
            refine hK.out _ _ HP7.out.box (fun hHeld => ?_)
            clear hK K
            try simp only [Act.put, List.setIfInBounds_toArray, List.set_cons_zero, List.set_cons_succ, List.getElem_toArray, List.getElem_cons_succ, List.getElem_cons_zero]
            refine wpAnyH_done (by kernel_rfl) ?_ _
            go_wp2_with fail
            go_meet
            exact ⟨rfl, p7, n + 1, c7, _, HP7.out, by rw [List.map_append, HKA.out, HK.out]; rfl⟩
          · go_simp
            refine hK.out _ _ (HA5.out _).1.box (fun hHeld => ?_)
            clear hK K
            try simp only [Act.put, List.setIfInBounds_toArray, List.set_cons_zero, List.set_cons_succ, List.getElem_toArray, List.getElem_cons_succ, List.getElem_cons_zero]
            refine wpAnyH_ready (rs := [1]) (by kernel_rfl) (by simp) ?_
            refine AllReadyH.cons rfl (fun K hK => ?_) AllReadyH.nil
            have q1 := (HA5.out (.cells #[.int .u64 J.da, .int .u32 6, .slice q5 J.n2 d5, .int .u64 M] 37)).1.e1
            go_simp
            clear q1
            refine hK.out _ _ (HA5.out _).1.box (fun hHeld => ?_)
            clear hK K
            try simp only [Act.put, List.setIfInBounds_toArray, List.set_cons_zero, List.set_cons_succ, List.getElem_toArray, List.getElem_cons_succ, List.getElem_cons_zero]
            refine wpAnyH_ready (rs := [10]) (by kernel_rfl) (by simp) ?_
            refine AllReadyH.cons rfl (fun K hK => ?_) AllReadyH.nil
            refine step_append_at rfl (.tmp 36) (.tmp 44) 28 rfl (w.heap.size + 3) 37 i3 z3 4 48 Try.underlying28 HI.out.1 HI.out.2.1 HI.out.2.2.1 HI.out.2.2.2.1 HI.out.2.2.2.2 (by decide) (.slice p n c) n (segc L) (by simp [Act.eval, Act.put]) (HA5.out _).1.segs.1 ⟨W5.heap.size, 0, .none⟩ 1 1 (Sg.cells ⟨J.da, 6, M, q5, J.n2, d5, ys⟩) (by simp [Act.eval, Act.put]) rfl (cells4_new _ _ _ _ _ _ _ _ _) (sg_one _) (by simp only [maxLen]; omega) (by omega) (HA5.out _).1.sz ?_
            intro v7 W7 own7 grow7
            obtain ⟨p7, c7, rfl⟩ := one_slice own7
            have HP7 : Hid (Ps w (W7.setCell ⟨w.heap.size + 1 + 1, 1, .none⟩ (.slice p7 (n + 1) c7)) w.heap.size J p7 (n + 1) c7 (L ++ [⟨J.da, 6, M, q5, J.n2, d5, ys⟩])) := (HA5.out _).1.add (s := ⟨J.da, 6, M, q5, J.n2, d5, ys⟩) (HA5.out _).2 own7 grow7
            obtain ⟨s7, y1, y2⟩ := app_mid (HA5.out _).1 grow7
            clear own7 grow7
            refine hK.out _ _ s7 (fun hHeld => ?_)
            clear hK K
            try simp only [Act.put, List.setIfInBounds_toArray, List.set_cons_zero, List.set_cons_succ, List.getElem_toArray, List.getElem_cons_succ, List.getElem_cons_zero]
            refine wpAnyH_take (i := 11) (v := (.pointer (some ⟨w.heap.size + 1 + 1, 1, .none⟩))) rfl (by kernel_rfl) (by kernel_rfl) (by kernel_rfl) (fun _ _ _ h => h) (Or.inl ⟨by rfl, fun ww hSw => by (try dsimp only at hSw); go_simp⟩) (by assumption) ?_
            simp only [Act.put, List.setIfInBounds_toArray, List.set_cons_zero, List.set_cons_succ, List.getElem_toArray, List.getElem_cons_succ, List.getElem_cons_zero]
            refine wpAnyH_ready (rs := [12]) (by kernel_rfl) (by simp) ?_
            refine AllReadyH.cons rfl (fun K hK => ?_) AllReadyH.nil
            go_simp
            refine hK.out _ _ HP7.out.box (fun hHeld => ?_)
            clear hK K
            try simp only [Act.put, List.setIfInBounds_toArray, List.set_cons_zero, List.set_cons_succ, List.getElem_toArray, List.getElem_cons_succ, List.getElem_cons_zero]
            refine wpAnyH_done (by kernel_rfl) ?_ _
            go_wp2_with fail
            go_meet
            exact ⟨rfl, p7, n + 1, c7, _, HP7.out, by rw [List.map_append, HKA.out, HK.out]; rfl⟩
    case rest =>
      obtain ⟨rfl, p, n, c, L, HPK⟩ := hcut
      have HP2 : Hid (Ps w wc w.heap.size J p n c L) := HPK.out.1
      have HK2 : Hid (L.map Sg.key = keyA J.n1 xs ++ keyB J.da M ys) := HPK.out.2
      have y0 := HP2.out.e0
      have y1 := HP2.out.e1
      have y2 := HP2.out.r0
      have y3 := HP2.out.r1
      have y4 := HP2.out.f1 0
      have y5 := HP2.out.f1 1
      clear HPK HP HKA
      go_wp2
      obtain ⟨v0, v1, v2, v3⟩ := ps_end HP2.out
      exact bodyPost_ret (v := .agg #[.int .u64 J.en, .slice p n c]) (res_elf rfl _ _ (w.heap.size + 1) _ _ rfl v0 v1) rfl ⟨p, n, c, L, rfl, v2, HK2.out, v3⟩
end Go.Proofs.Ytdkidhipiglbkaa
