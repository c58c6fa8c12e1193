import Derived.Test.YtblmkkhiojbcjaaGreatSLay
import Derived.Laws.Bits64b
namespace Go.Proofs.YtblmkkhiojbcjaaGreat
open Go.RowKit
set_option linter.unusedVariables false
set_option linter.unusedSimpArgs false
theorem land_low (x c : Nat) (hc : c < 1024) : x &&& c = (x % 1024) &&& c := by
  have e : c = 1023 &&& c := by
    have : c % 1024 = c := Nat.mod_eq_of_lt hc
    have h := Nat.and_two_pow_sub_one_eq_mod c 10
    rw [Nat.and_comm]
    simpa [this] using h.symm
  have h2 : x % 1024 = x &&& 1023 := (Nat.and_two_pow_sub_one_eq_mod x 10).symm
  rw [h2, Nat.and_assoc, ← e]
/-- The bits below 1024 of an entry are its remainder. -/
theorem and_low (e : Int) (he : 0 ≤ e ∧ e < 18446744073709551616) (c : Nat) (hc : c < 1024) : bits .and .u64 e c = (((e % 1024).toNat &&& c : Nat) : Int) := by
  obtain ⟨n, rfl⟩ : ∃ n : Nat, e = n := ⟨e.toNat, by omega⟩
  have h := bits_and_u64_nat n c (by omega) (by omega)
  rw [h, land_low n c hc]
  congr 2
theorem join_u (i : Nat) (x y : Int) (hx₀ : 0 ≤ x) (hx : x % 2 ^ i = 0) (hx₁ : x < 18446744073709551616) (hy₀ : 0 ≤ y) (hy : y < 2 ^ i) (hy₁ : y < 18446744073709551616) : bits .or .u64 x y = x + y :=
  bits_join .u64 64 (by decide) (fun n h0 h1 => by rw [IntKind.wrap_u64]; omega) i x y hx₀ hx (by omega) hy₀ hy (by omega)
/-- An entry that is laid down, as a number. -/
theorem toP_val (pa c : Int) (hp : 0 ≤ pa ∧ pa < 72057594037927936) (hc : 0 ≤ c ∧ c < 1023) (he : c % 2 = 0) : toP pa c = pa / 4096 * 1024 + c + 1 := by
  unfold toP
  rw [join_u 10 (pa / 4096 * 1024) c (by omega) (by omega) (by omega) hc.1 (by omega) (by omega), join_u 1 (pa / 4096 * 1024 + c) 1 (by omega) (by omega) (by omega) (by omega) (by omega) (by omega)]
theorem adE_toP (pa c : Int) (hp : 0 ≤ pa ∧ pa < 72057594037927936) (ha : pa % 4096 = 0) (hc : 0 ≤ c ∧ c < 1023) (he : c % 2 = 0) : adE (toP pa c) = pa := by
  rw [toP_val pa c hp hc he]
  unfold adE
  omega
theorem hs_toP (pa c : Int) (hp : 0 ≤ pa ∧ pa < 72057594037927936) (hc : 0 ≤ c ∧ c < 1023) (he : c % 2 = 0) (d : Nat) (hd : d < 1024) : hs (toP pa c) d = ((((c + 1).toNat &&& d : Nat) : Int) == (d : Int)) := by
  have hv := toP_val pa c hp hc he
  unfold hs
  rw [and_low (toP pa c) (toP_b pa c) d hd, hv, show (pa / 4096 * 1024 + c + 1) % 1024 = c + 1 by omega]
theorem ho_toP (pa c : Int) (hp : 0 ≤ pa ∧ pa < 72057594037927936) (hc : 0 ≤ c ∧ c < 1023) (he : c % 2 = 0) (d : Nat) (hd : d < 1024) : ho (toP pa c) d = ((((c + 1).toNat &&& d : Nat) : Int) != 0) := by
  have hv := toP_val pa c hp hc he
  unfold ho
  rw [and_low (toP pa c) (toP_b pa c) d hd, hv, show (pa / 4096 * 1024 + c + 1) % 1024 = c + 1 by omega]
/-- A pointer to a node is one. -/
theorem kd_node (pa l : Int) (hp : 0 ≤ pa ∧ pa < 72057594037927936) (hl : l = 1 ∨ l = 2) : kd (toP pa 0) l = 3 := by
  have h1 := hs_toP pa 0 hp (by omega) (by omega) 1 (by omega)
  have h4 := hs_toP pa 0 hp (by omega) (by omega) 4 (by omega)
  have h10 := ho_toP pa 0 hp (by omega) (by omega) 10 (by omega)
  have h208 := ho_toP pa 0 hp (by omega) (by omega) 208 (by omega)
  have hv := toP_val pa 0 hp (by omega) (by omega)
  have e1 : hs (toP pa 0) 1 = true := h1
  have e4 : hs (toP pa 0) 4 = false := h4
  have e10 : ho (toP pa 0) 10 = false := h10
  have e208 : ho (toP pa 0) 208 = false := h208
  have hlt : ¬ 18014398509481984 ≤ toP pa 0 := by rw [hv]; omega
  unfold kd
  simp only [e1, e4, e10, e208, hlt, Bool.false_eq_true, if_false, false_and]
  rcases hl with rfl | rfl <;> simp
/-- A page with permissions is a leaf at the lowest level. -/
theorem kd_leaf (pa c : Int) (hp : 0 ≤ pa ∧ pa < 72057594037927936) (ha : pa % 4096 = 0) (hc : 0 ≤ c ∧ c < 256) (he : c % 2 = 0) (hrw : hs (toP pa c) 4 = true → hs (toP pa c) 2 = true) (hrx : ho (toP pa c) 10 = true) : kd (toP pa c) 0 = 2 := by
  have h1 := hs_toP pa c hp (by omega) he 1 (by omega)
  have e1 : hs (toP pa c) 1 = true := by
    have hx : ((c + 1).toNat &&& 1 : Nat) = 1 := by
      rw [Nat.and_one_is_mod]
      omega
    rw [show hs (toP pa c) 1 = ((((c + 1).toNat &&& 1 : Nat) : Int) == ((1 : Nat) : Int)) from h1, hx]
    rfl
  have hv := toP_val pa c hp (by omega) he
  have hlt : ¬ 18014398509481984 ≤ toP pa c := by rw [hv]; omega
  have hno : ¬ (hs (toP pa c) 4 = true ∧ hs (toP pa c) 2 = false) := fun e => by
    have := hrw e.1
    rw [this] at e
    simp at e
  unfold kd
  rw [if_neg (by rw [e1]; simp), if_neg hlt, if_neg hno, if_pos hrx, adE_toP pa c hp ha (by omega) he, spn0, if_pos ha]
end Go.Proofs.YtblmkkhiojbcjaaGreat
namespace Go.Proofs.YtblmkkhiojbcjaaGreat
open Go.RowKit
set_option linter.unusedVariables false
set_option linter.unusedSimpArgs false
theorem C6.fra {W W' : World} {p b m P : Nat} {x0 x1 x2 x3 x4 x5 : Value} (h : C6 W P x0 x1 x2 x3 x4 x5) (f : Fra p b m W W') (h1 : P ≠ p) (h2 : P ≠ b) (h3 : P ≠ m) : C6 W' P x0 x1 x2 x3 x4 x5 := by
  have hP : P < W.heap.size := lt_of_cell h.c0
  exact ⟨(f.cell (x := ⟨P, 0, .none⟩) hP h1 h2 h3).trans h.c0, (f.cell (x := ⟨P, 1, .none⟩) hP h1 h2 h3).trans h.c1, (f.cell (x := ⟨P, 2, .none⟩) hP h1 h2 h3).trans h.c2, (f.cell (x := ⟨P, 3, .none⟩) hP h1 h2 h3).trans h.c3, (f.cell (x := ⟨P, 4, .none⟩) hP h1 h2 h3).trans h.c4, (f.cell (x := ⟨P, 5, .none⟩) hP h1 h2 h3).trans h.c5,
    (f.frozen (x := ⟨P, 0, .none⟩) hP h1 h2 h3).trans h.f0, (f.frozen (x := ⟨P, 1, .none⟩) hP h1 h2 h3).trans h.f1, (f.frozen (x := ⟨P, 2, .none⟩) hP h1 h2 h3).trans h.f2, (f.frozen (x := ⟨P, 3, .none⟩) hP h1 h2 h3).trans h.f3, (f.frozen (x := ⟨P, 4, .none⟩) hP h1 h2 h3).trans h.f4, (f.frozen (x := ⟨P, 5, .none⟩) hP h1 h2 h3).trans h.f5⟩
/-- How a leaf is laid down below a node of level l: what lies in memory behind it. -/
def Lays (N : Nat) (va leaf : Int) : Nat → (Nat → Int) → List Nat → Int → (Nat → Int) → List Nat → Prop
  | 0, B, L, nd, B', L' => ndB N L nd = true ∧ kd (ent B nd va 0) 0 = 0 ∧ B' = over B (fi nd * 4096 + (ix va 0).toNat * 8) (le leaf 8) ∧ L' = L
  | l + 1, B, L, nd, B', L' => ndB N L nd = true ∧ ((kd (ent B nd va (l + 1 : Nat)) (l + 1 : Nat) = 3 ∧ Lays N va leaf l B L (adE (ent B nd va (l + 1 : Nat))) B' L') ∨
      (kd (ent B nd va (l + 1 : Nat)) (l + 1 : Nat) = 0 ∧ ∃ i L1, L = i :: L1 ∧ ndB N L1 nd = true ∧ Lays N va leaf l (over (zer B i) (fi nd * 4096 + (ix va (l + 1 : Nat)).toNat * 8) (le (toP (2147483648 + i * 4096) 0) 8)) L1 (2147483648 + i * 4096) B' L'))
/-- What stands besides the memory while a leaf is laid down: the guide's own box, the result, the path. -/
structure LW (w W : World) (p b m : Nat) (leaf : Int) (a0 a1 a2 l e k : Int) : Prop where
  c : C6 W (w.heap.size + 1 + 1) (.int .u64 a0) (.int .u64 a1) (.int .u64 a2) (.int .i64 l) (.int .u64 e) (.int .i64 k)
  r : C6 W (w.heap.size + 1) (.int .u64 0) (.int .u64 0) (.int .u64 0) (.int .i64 0) (.int .u64 0) (.int .i64 0)
  g0 : W.cell? ⟨w.heap.size, 0, .none⟩ = some (.pointer (some ⟨p, 0, .none⟩))
  g1 : W.cell? ⟨w.heap.size, 1, .none⟩ = some (.int .u64 leaf)
  f : Fra p b m w W
section
variable {w W W' : World} {p b m : Nat} {leaf a0 a1 a2 l e k : Int}
theorem LW.fra (h : LW w W p b m leaf a0 a1 a2 l e k) (hp : p < w.heap.size) (hb : b < w.heap.size) (hm : m < w.heap.size) (f : Fra p b m W W') : LW w W' p b m leaf a0 a1 a2 l e k := by
  have h0 : w.heap.size < W.heap.size := lt_of_cell h.g0
  exact ⟨h.c.fra f (by omega) (by omega) (by omega), h.r.fra f (by omega) (by omega) (by omega), (f.cell (x := ⟨w.heap.size, 0, .none⟩) h0 (by show w.heap.size ≠ p; omega) (by show w.heap.size ≠ b; omega) (by show w.heap.size ≠ m; omega)).trans h.g0, (f.cell (x := ⟨w.heap.size, 1, .none⟩) h0 (by show w.heap.size ≠ p; omega) (by show w.heap.size ≠ b; omega) (by show w.heap.size ≠ m; omega)).trans h.g1, h.f.trans f⟩
theorem LW.below (h : LW w W p b m leaf a0 a1 a2 l e k) (hp : p < w.heap.size) (hb : b < w.heap.size) (hm : m < w.heap.size) (f : Below W.heap.size W W') : LW w W' p b m leaf a0 a1 a2 l e k := h.fra hp hb hm (Fra.below f)
end
/-- A store beside the three blocks. -/
theorem Fra.beside {p b m : Nat} {w W : World} (h : Fra p b m w W) (a : Addr) (v : Value) (ha : w.heap.size ≤ a.block) : Fra p b m w (W.setCell a v) := by
  have g : Below w.heap.size W (W.setCell a v) := (Below.refl _ _).setCell ha _
  exact ⟨g.os.trans h.os, g.tape.trans h.tape, g.output.trans h.output, Nat.le_trans h.size g.size, fun k hk h1 h2 h3 => (g.block k hk).trans (h.block k hk h1 h2 h3)⟩
end Go.Proofs.YtblmkkhiojbcjaaGreat
namespace Go.Proofs.YtblmkkhiojbcjaaGreat
open Go.RowKit
set_option linter.unusedVariables false
set_option linter.unusedSimpArgs false
theorem kd_zero (l : Int) : kd 0 l = 0 := by
  have h : hs 0 1 = false := by decide
  unfold kd
  rw [if_pos h]
theorem fi_adr (i : Nat) : fi (2147483648 + (i : Int) * 4096) = i := by unfold fi; omega
theorem ent_zero (B : Nat → Int) (nd va l : Int) (h : ∀ k, k < 4096 → B (fi nd * 4096 + k) = 0) : ent B nd va l = 0 := by
  have hi := ix_b va l
  have key : ∀ j, j ≤ 8 → num B (fi nd * 4096 + (ix va l).toNat * 8) j = 0 := by
    intro j
    induction j with
    | zero => intro _; rfl
    | succ j ih =>
      intro hj
      have e := h ((ix va l).toNat * 8 + j) (by omega)
      simp only [num, ih (by omega)]
      rw [show fi nd * 4096 + (ix va l).toNat * 8 + j = fi nd * 4096 + ((ix va l).toNat * 8 + j) by omega, e]
      simp
  exact key 8 (by omega)
theorem ndB_mk {N : Nat} {L : List Nat} {i : Nat} (h1 : 1 ≤ i) (h2 : i < N) (h3 : i ∉ L) : ndB N L (2147483648 + (i : Int) * 4096) = true := by
  unfold ndB
  rw [fi_adr]
  simp only [decide_eq_true_eq]
  exact ⟨trivial, h1, h2, h3⟩
theorem ndB_cons {N : Nat} {L : List Nat} {i : Nat} {nd : Int} (h : ndB N (i :: L) nd = true) : ndB N L nd = true ∧ fi nd ≠ i := by
  obtain ⟨h1, h2, h3, h4⟩ := ndB_spec h
  rw [List.mem_cons, not_or] at h4
  refine ⟨?_, h4.1⟩
  unfold ndB
  simp only [decide_eq_true_eq]
  exact ⟨h1, h2, h3, h4.2⟩
/-- A new node is empty, whatever entry has been laid down elsewhere. -/
theorem new_zero (B : Nat → Int) (i f o : Nat) (vs : List Int) (hv : vs.length = 8) (ho : o + 8 ≤ 4096) (hf : f ≠ i) : ∀ k, k < 4096 → over (zer B i) (f * 4096 + o) vs (fi (2147483648 + (i : Int) * 4096) * 4096 + k) = 0 := fun k hk => by
  rw [fi_adr]
  unfold over
  rw [if_neg (by rw [hv]; omega)]
  exact zer_in B i k hk
/-- Below an empty node there is room for a leaf, if there are frames. -/
theorem lays_zero (N : Nat) (va leaf : Int) : ∀ (l : Nat) (B : Nat → Int) (L : List Nat) (nd : Int), (∀ k, k < 4096 → B (fi nd * 4096 + k) = 0) → ndB N L nd = true → L.Nodup → (∀ i ∈ L, 1 ≤ i ∧ i < N) → l ≤ L.length → ∃ B' L', Lays N va leaf l B L nd B' L' ∧ L = L.take l ++ L'
  | 0, B, L, nd, hz, hn, hd, hl, hle => ⟨_, L, ⟨hn, by rw [ent_zero B nd va 0 hz]; exact kd_zero 0, rfl, rfl⟩, by simp⟩
  | l + 1, B, [], nd, hz, hn, hd, hl, hle => by simp at hle
  | l + 1, B, i :: L1, nd, hz, hn, hd, hl, hle => by
    obtain ⟨hn2, hne⟩ := ndB_cons hn
    obtain ⟨hi, hd2⟩ := List.nodup_cons.1 hd
    have hb := ix_b va (l + 1 : Nat)
    have hil := hl i (by simp)
    obtain ⟨B', L', h1, h2⟩ := lays_zero N va leaf l (over (zer B i) (fi nd * 4096 + (ix va (l + 1 : Nat)).toNat * 8) (le (toP (2147483648 + i * 4096) 0) 8)) L1 (2147483648 + (i : Int) * 4096)
      (new_zero B i (fi nd) ((ix va (l + 1 : Nat)).toNat * 8) _ (le_len _ _) (by omega) hne) (ndB_mk hil.1 hil.2 hi) hd2 (fun j hj => hl j (List.mem_cons_of_mem _ hj)) (by simpa using hle)
    refine ⟨B', L', ⟨hn, .inr ⟨by rw [ent_zero B nd va _ hz]; exact kd_zero _, i, L1, rfl, hn2, h1⟩⟩, ?_⟩
    rw [List.take_succ_cons, List.cons_append, ← h2]
/-- Where the walk down meets an empty entry, a leaf can be laid down, if there are frames enough. -/
theorem lays_look (N : Nat) (va leaf : Int) (B : Nat → Int) (L : List Nat) (hd : L.Nodup) (hl : ∀ i ∈ L, 1 ≤ i ∧ i < N) : ∀ (l : Nat) (nd a0 a1 a2 e : Int), (wk N L B va l nd a0 a1 a2 e).k = 0 → (wk N L B va l nd a0 a1 a2 e).l ≤ L.length → ∃ B' L', Lays N va leaf l B L nd B' L' ∧ L = L.take (wk N L B va l nd a0 a1 a2 e).l.toNat ++ L'
  | 0, nd, a0, a1, a2, e => fun hk hle => by
    by_cases hn : ndB N L nd = true
    · have ew := wk_stop0 (B := B) (va := va) (a0 := a0) (a1 := a1) (a2 := a2) (e := e) hn
      rw [ew] at hk ⊢
      exact ⟨_, L, ⟨hn, hk, rfl, rfl⟩, by simp⟩
    · have ew : wk N L B va 0 nd a0 a1 a2 e = ⟨a0, a1, a2, 0, e, 4⟩ := if_neg hn
      rw [ew] at hk
      simp at hk
  | l + 1, nd, a0, a1, a2, e => fun hk hle => by
    by_cases hn : ndB N L nd = true
    · by_cases h3 : kd (ent B nd va (l + 1 : Nat)) (l + 1 : Nat) = 3
      · have ew : wk N L B va (l + 1) nd a0 a1 a2 e = wk N L B va l (adE (ent B nd va (l + 1 : Nat))) a0 (if l = 0 then st nd va 1 else a1) (if l = 1 then st nd va 2 else a2) (ent B nd va (l + 1 : Nat)) := (if_pos hn).trans (if_pos h3)
        rw [ew] at hk hle ⊢
        obtain ⟨B', L', h1, h2⟩ := lays_look N va leaf B L hd hl l _ _ _ _ _ hk hle
        exact ⟨B', L', ⟨hn, .inl ⟨h3, h1⟩⟩, h2⟩
      · have ew : wk N L B va (l + 1) nd a0 a1 a2 e = ⟨a0, if l = 0 then st nd va 1 else a1, if l = 1 then st nd va 2 else a2, (l + 1 : Nat), ent B nd va (l + 1 : Nat), kd (ent B nd va (l + 1 : Nat)) (l + 1 : Nat)⟩ := (if_pos hn).trans (if_neg h3)
        rw [ew] at hk hle ⊢
        simp only at hk hle ⊢
        rw [Int.toNat_natCast]
        match L, hd, hl, hn, hle with
        | [], hd, hl, hn, hle => simp at hle; omega
        | i :: L1, hd, hl, hn, hle =>
          obtain ⟨hn2, hne⟩ := ndB_cons hn
          obtain ⟨hi, hd2⟩ := List.nodup_cons.1 hd
          have hb := ix_b va (l + 1 : Nat)
          have hil := hl i (by simp)
          obtain ⟨B', L', h1, h2⟩ := lays_zero N va leaf l (over (zer B i) (fi nd * 4096 + (ix va (l + 1 : Nat)).toNat * 8) (le (toP (2147483648 + i * 4096) 0) 8)) L1 (2147483648 + (i : Int) * 4096)
            (new_zero B i (fi nd) ((ix va (l + 1 : Nat)).toNat * 8) _ (le_len _ _) (by omega) hne) (ndB_mk hil.1 hil.2 hi) hd2 (fun j hj => hl j (List.mem_cons_of_mem _ hj)) (by simp at hle; omega)
          refine ⟨B', L', ⟨hn, .inr ⟨hk, i, L1, rfl, hn2, h1⟩⟩, ?_⟩
          rw [List.take_succ_cons, List.cons_append, ← h2]
    · have ew : wk N L B va (l + 1) nd a0 a1 a2 e = ⟨a0, a1, a2, (l + 1 : Nat), e, 4⟩ := if_neg hn
      rw [ew] at hk
      simp at hk
end Go.Proofs.YtblmkkhiojbcjaaGreat
