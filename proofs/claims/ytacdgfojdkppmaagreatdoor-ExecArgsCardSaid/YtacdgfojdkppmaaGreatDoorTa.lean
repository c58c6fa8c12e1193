import Derived.Test.YtacdgfojdkppmaaGreatDoorSLay
import Derived.Laws.Bits64b
namespace Go.Proofs.YtacdgfojdkppmaaGreatDoor.Rm
open Go.RowKit
set_option linter.unusedVariables false
set_option linter.unusedSimpArgs false
theorem land_low (x c : Nat) (hc : c < 1024) : x &&& c = (x % 1024) &&& c := by
 have e : c = 1023 &&& c := by
  have : c % 1024 = c := Nat.mod_eq_of_lt hc
  have h := Nat.and_two_pow_sub_one_eq_mod c 10
  rw [Nat.and_comm]
  simpa [this] using h.symm
 have h2 : x % 1024 = x &&& 1023 := (Nat.and_two_pow_sub_one_eq_mod x 10).symm
 rw [h2, Nat.and_assoc, ← e]
/-- The bits below 1024 of an entry are its remainder. -/
theorem and_low (e : Int) (he : 0 ≤ e ∧ e < 18446744073709551616) (c : Nat) (hc : c < 1024) : bits .and .u64 e c = (((e % 1024).toNat &&& c : Nat) : Int) := by
 obtain ⟨n, rfl⟩ : ∃ n : Nat, e = n := ⟨e.toNat, by omega⟩
 have h := bits_and_u64_nat n c (by omega) (by omega)
 rw [h, land_low n c hc]
 congr 2
theorem join_u (i : Nat) (x y : Int) (hx₀ : 0 ≤ x) (hx : x % 2 ^ i = 0) (hx₁ : x < 18446744073709551616) (hy₀ : 0 ≤ y) (hy : y < 2 ^ i) (hy₁ : y < 18446744073709551616) : bits .or .u64 x y = x + y :=
 bits_join .u64 64 (by decide) (fun n h0 h1 => by rw [IntKind.wrap_u64]; omega) i x y hx₀ hx (by omega) hy₀ hy (by omega)
/-- An entry that is laid down, as a number. -/
theorem toP_val (pa c : Int) (hp : 0 ≤ pa ∧ pa < 72057594037927936) (hc : 0 ≤ c ∧ c < 1023) (he : c % 2 = 0) : toP pa c = pa / 4096 * 1024 + c + 1 := by
 unfold toP
 rw [join_u 10 (pa / 4096 * 1024) c (by omega) (by omega) (by omega) hc.1 (by omega) (by omega), join_u 1 (pa / 4096 * 1024 + c) 1 (by omega) (by omega) (by omega) (by omega) (by omega) (by omega)]
theorem adE_toP (pa c : Int) (hp : 0 ≤ pa ∧ pa < 72057594037927936) (ha : pa % 4096 = 0) (hc : 0 ≤ c ∧ c < 1023) (he : c % 2 = 0) : adE (toP pa c) = pa := by
 rw [toP_val pa c hp hc he]
 unfold adE
 omega
theorem hs_toP (pa c : Int) (hp : 0 ≤ pa ∧ pa < 72057594037927936) (hc : 0 ≤ c ∧ c < 1023) (he : c % 2 = 0) (d : Nat) (hd : d < 1024) : hs (toP pa c) d = ((((c + 1).toNat &&& d : Nat) : Int) == (d : Int)) := by
 have hv := toP_val pa c hp hc he
 unfold hs
 rw [and_low (toP pa c) (toP_b pa c) d hd, hv, show (pa / 4096 * 1024 + c + 1) % 1024 = c + 1 by omega]
theorem ho_toP (pa c : Int) (hp : 0 ≤ pa ∧ pa < 72057594037927936) (hc : 0 ≤ c ∧ c < 1023) (he : c % 2 = 0) (d : Nat) (hd : d < 1024) : ho (toP pa c) d = ((((c + 1).toNat &&& d : Nat) : Int) != 0) := by
 have hv := toP_val pa c hp hc he
 unfold ho
 rw [and_low (toP pa c) (toP_b pa c) d hd, hv, show (pa / 4096 * 1024 + c + 1) % 1024 = c + 1 by omega]
/-- A pointer to a node is one. -/
theorem kd_node (pa l : Int) (hp : 0 ≤ pa ∧ pa < 72057594037927936) (hl : l = 1 ∨ l = 2) : kd (toP pa 0) l = 3 := by
 have h1 := hs_toP pa 0 hp (by omega) (by omega) 1 (by omega)
 have h4 := hs_toP pa 0 hp (by omega) (by omega) 4 (by omega)
 have h10 := ho_toP pa 0 hp (by omega) (by omega) 10 (by omega)
 have h208 := ho_toP pa 0 hp (by omega) (by omega) 208 (by omega)
 have hv := toP_val pa 0 hp (by omega) (by omega)
 have e1 : hs (toP pa 0) 1 = true := h1
 have e4 : hs (toP pa 0) 4 = false := h4
 have e10 : ho (toP pa 0) 10 = false := h10
 have e208 : ho (toP pa 0) 208 = false := h208
 have hlt : ¬ 18014398509481984 ≤ toP pa 0 := by rw [hv]; omega
 unfold kd
 simp only [e1, e4, e10, e208, hlt, Bool.false_eq_true, if_false, false_and]
 rcases hl with rfl | rfl <;> simp
/-- A page with permissions is a leaf at the lowest level. -/
theorem kd_leaf (pa c : Int) (hp : 0 ≤ pa ∧ pa < 72057594037927936) (ha : pa % 4096 = 0) (hc : 0 ≤ c ∧ c < 256) (he : c % 2 = 0) (hrw : hs (toP pa c) 4 = true → hs (toP pa c) 2 = true) (hrx : ho (toP pa c) 10 = true) : kd (toP pa c) 0 = 2 := by
 have h1 := hs_toP pa c hp (by omega) he 1 (by omega)
 have e1 : hs (toP pa c) 1 = true := by
  have hx : ((c + 1).toNat &&& 1 : Nat) = 1 := by
   rw [Nat.and_one_is_mod]
   omega
  rw [show hs (toP pa c) 1 = ((((c + 1).toNat &&& 1 : Nat) : Int) == ((1 : Nat) : Int)) from h1, hx]
  rfl
 have hv := toP_val pa c hp (by omega) he
 have hlt : ¬ 18014398509481984 ≤ toP pa c := by rw [hv]; omega
 have hno : ¬ (hs (toP pa c) 4 = true ∧ hs (toP pa c) 2 = false) := fun e => by
  have := hrw e.1
  rw [this] at e
  simp at e
 unfold kd
 rw [if_neg (by rw [e1]; simp), if_neg hlt, if_neg hno, if_pos hrx, adE_toP pa c hp ha (by omega) he, spn0, if_pos ha]
end Go.Proofs.YtacdgfojdkppmaaGreatDoor.Rm
namespace Go.Proofs.YtacdgfojdkppmaaGreatDoor.Rm
open Go.RowKit
set_option linter.unusedVariables false
set_option linter.unusedSimpArgs false
theorem C6.fra {W W' : World} {p b m P : Nat} {x0 x1 x2 x3 x4 x5 : Value} (h : C6 W P x0 x1 x2 x3 x4 x5) (f : Fra p b m W W') (h1 : P ≠ p) (h2 : P ≠ b) (h3 : P ≠ m) : C6 W' P x0 x1 x2 x3 x4 x5 := by
 have hP : P < W.heap.size := lt_of_cell h.c0
 exact ⟨(f.cell (x := ⟨P, 0, .none⟩) hP h1 h2 h3).trans h.c0, (f.cell (x := ⟨P, 1, .none⟩) hP h1 h2 h3).trans h.c1, (f.cell (x := ⟨P, 2, .none⟩) hP h1 h2 h3).trans h.c2, (f.cell (x := ⟨P, 3, .none⟩) hP h1 h2 h3).trans h.c3, (f.cell (x := ⟨P, 4, .none⟩) hP h1 h2 h3).trans h.c4, (f.cell (x := ⟨P, 5, .none⟩) hP h1 h2 h3).trans h.c5,
  (f.frozen (x := ⟨P, 0, .none⟩) hP h1 h2 h3).trans h.f0, (f.frozen (x := ⟨P, 1, .none⟩) hP h1 h2 h3).trans h.f1, (f.frozen (x := ⟨P, 2, .none⟩) hP h1 h2 h3).trans h.f2, (f.frozen (x := ⟨P, 3, .none⟩) hP h1 h2 h3).trans h.f3, (f.frozen (x := ⟨P, 4, .none⟩) hP h1 h2 h3).trans h.f4, (f.frozen (x := ⟨P, 5, .none⟩) hP h1 h2 h3).trans h.f5⟩
/-- How a leaf is laid down below a node of level l: what lies in memory behind it. -/
def Lays (N : Nat) (va leaf : Int) : Nat → (Nat → Int) → List Nat → Int → (Nat → Int) → List Nat → Prop
 | 0, B, L, nd, B', L' => ndB N L nd = true ∧ kd (ent B nd va 0) 0 = 0 ∧ B' = over B (fi nd * 4096 + (ix va 0).toNat * 8) (le leaf 8) ∧ L' = L
 | l + 1, B, L, nd, B', L' => ndB N L nd = true ∧ ((kd (ent B nd va (l + 1 : Nat)) (l + 1 : Nat) = 3 ∧ Lays N va leaf l B L (adE (ent B nd va (l + 1 : Nat))) B' L') ∨
   (kd (ent B nd va (l + 1 : Nat)) (l + 1 : Nat) = 0 ∧ ∃ i L1, L = i :: L1 ∧ ndB N L1 nd = true ∧ Lays N va leaf l (over (zer B i) (fi nd * 4096 + (ix va (l + 1 : Nat)).toNat * 8) (le (toP (2147483648 + i * 4096) 0) 8)) L1 (2147483648 + i * 4096) B' L'))
/-- What stands besides the memory while a leaf is laid down: the guide's own box, the result, the path. -/
structure LW (w W : World) (p b m : Nat) (leaf : Int) (a0 a1 a2 l e k : Int) : Prop where
 c : C6 W (w.heap.size + 1 + 1) (.int .u64 a0) (.int .u64 a1) (.int .u64 a2) (.int .i64 l) (.int .u64 e) (.int .i64 k)
 r : C6 W (w.heap.size + 1) (.int .u64 0) (.int .u64 0) (.int .u64 0) (.int .i64 0) (.int .u64 0) (.int .i64 0)
 g0 : W.cell? ⟨w.heap.size, 0, .none⟩ = some (.pointer (some ⟨p, 0, .none⟩))
 g1 : W.cell? ⟨w.heap.size, 1, .none⟩ = some (.int .u64 leaf)
 f : Fra p b m w W
section
variable {w W W' : World} {p b m : Nat} {leaf a0 a1 a2 l e k : Int}
theorem LW.fra (h : LW w W p b m leaf a0 a1 a2 l e k) (hp : p < w.heap.size) (hb : b < w.heap.size) (hm : m < w.heap.size) (f : Fra p b m W W') : LW w W' p b m leaf a0 a1 a2 l e k := by
 have h0 : w.heap.size < W.heap.size := lt_of_cell h.g0
 exact ⟨h.c.fra f (by omega) (by omega) (by omega), h.r.fra f (by omega) (by omega) (by omega), (f.cell (x := ⟨w.heap.size, 0, .none⟩) h0 (by show w.heap.size ≠ p; omega) (by show w.heap.size ≠ b; omega) (by show w.heap.size ≠ m; omega)).trans h.g0, (f.cell (x := ⟨w.heap.size, 1, .none⟩) h0 (by show w.heap.size ≠ p; omega) (by show w.heap.size ≠ b; omega) (by show w.heap.size ≠ m; omega)).trans h.g1, h.f.trans f⟩
theorem LW.below (h : LW w W p b m leaf a0 a1 a2 l e k) (hp : p < w.heap.size) (hb : b < w.heap.size) (hm : m < w.heap.size) (f : Below W.heap.size W W') : LW w W' p b m leaf a0 a1 a2 l e k := h.fra hp hb hm (Fra.below f)
end
/-- A store beside the three blocks. -/
theorem Fra.beside {p b m : Nat} {w W : World} (h : Fra p b m w W) (a : Addr) (v : Value) (ha : w.heap.size ≤ a.block) : Fra p b m w (W.setCell a v) := by
 have g : Below w.heap.size W (W.setCell a v) := (Below.refl _ _).setCell ha _
 exact ⟨g.os.trans h.os, g.tape.trans h.tape, g.output.trans h.output, Nat.le_trans h.size g.size, fun k hk h1 h2 h3 => (g.block k hk).trans (h.block k hk h1 h2 h3)⟩
end Go.Proofs.YtacdgfojdkppmaaGreatDoor.Rm
namespace Go.Proofs.YtacdgfojdkppmaaGreatDoor.Rm
open Go.RowKit
set_option linter.unusedVariables false
set_option linter.unusedSimpArgs false
theorem kd_zero (l : Int) : kd 0 l = 0 := by
 have h : hs 0 1 = false := by decide
 unfold kd
 rw [if_pos h]
theorem fi_adr (i : Nat) : fi (2147483648 + (i : Int) * 4096) = i := by unfold fi; omega
theorem ent_zero (B : Nat → Int) (nd va l : Int) (h : ∀ k, k < 4096 → B (fi nd * 4096 + k) = 0) : ent B nd va l = 0 := by
 have hi := ix_b va l
 have key : ∀ j, j ≤ 8 → num B (fi nd * 4096 + (ix va l).toNat * 8) j = 0 := by
  intro j
  induction j with
  | zero => intro _; rfl
  | succ j ih =>
   intro hj
   have e := h ((ix va l).toNat * 8 + j) (by omega)
   simp only [num, ih (by omega)]
   rw [show fi nd * 4096 + (ix va l).toNat * 8 + j = fi nd * 4096 + ((ix va l).toNat * 8 + j) by omega, e]
   simp
 exact key 8 (by omega)
theorem ndB_mk {N : Nat} {L : List Nat} {i : Nat} (h1 : 1 ≤ i) (h2 : i < N) (h3 : i ∉ L) : ndB N L (2147483648 + (i : Int) * 4096) = true := by
 unfold ndB
 rw [fi_adr]
 simp only [decide_eq_true_eq]
 exact ⟨trivial, h1, h2, h3⟩
theorem ndB_cons {N : Nat} {L : List Nat} {i : Nat} {nd : Int} (h : ndB N (i :: L) nd = true) : ndB N L nd = true ∧ fi nd ≠ i := by
 obtain ⟨h1, h2, h3, h4⟩ := ndB_spec h
 rw [List.mem_cons, not_or] at h4
 refine ⟨?_, h4.1⟩
 unfold ndB
 simp only [decide_eq_true_eq]
 exact ⟨h1, h2, h3, h4.2⟩
/-- A new node is empty, whatever entry has been laid down elsewhere. -/
theorem new_zero (B : Nat → Int) (i f o : Nat) (vs : List Int) (hv : vs.length = 8) (ho : o + 8 ≤ 4096) (hf : f ≠ i) : ∀ k, k < 4096 → over (zer B i) (f * 4096 + o) vs (fi (2147483648 + (i : Int) * 4096) * 4096 + k) = 0 := fun k hk => by
 rw [fi_adr]
 unfold over
 rw [if_neg (by rw [hv]; omega)]
 exact zer_in B i k hk
/-- Below an empty node there is room for a leaf, if there are frames. -/
theorem lays_zero (N : Nat) (va leaf : Int) : ∀ (l : Nat) (B : Nat → Int) (L : List Nat) (nd : Int), (∀ k, k < 4096 → B (fi nd * 4096 + k) = 0) → ndB N L nd = true → L.Nodup → (∀ i ∈ L, 1 ≤ i ∧ i < N) → l ≤ L.length → ∃ B' L', Lays N va leaf l B L nd B' L' ∧ L = L.take l ++ L'
 | 0, B, L, nd, hz, hn, hd, hl, hle => ⟨_, L, ⟨hn, by rw [ent_zero B nd va 0 hz]; exact kd_zero 0, rfl, rfl⟩, by simp⟩
 | l + 1, B, [], nd, hz, hn, hd, hl, hle => by simp at hle
 | l + 1, B, i :: L1, nd, hz, hn, hd, hl, hle => by
  obtain ⟨hn2, hne⟩ := ndB_cons hn
  obtain ⟨hi, hd2⟩ := List.nodup_cons.1 hd
  have hb := ix_b va (l + 1 : Nat)
  have hil := hl i (by simp)
  obtain ⟨B', L', h1, h2⟩ := lays_zero N va leaf l (over (zer B i) (fi nd * 4096 + (ix va (l + 1 : Nat)).toNat * 8) (le (toP (2147483648 + i * 4096) 0) 8)) L1 (2147483648 + (i : Int) * 4096)
   (new_zero B i (fi nd) ((ix va (l + 1 : Nat)).toNat * 8) _ (le_len _ _) (by omega) hne) (ndB_mk hil.1 hil.2 hi) hd2 (fun j hj => hl j (List.mem_cons_of_mem _ hj)) (by simpa using hle)
  refine ⟨B', L', ⟨hn, .inr ⟨by rw [ent_zero B nd va _ hz]; exact kd_zero _, i, L1, rfl, hn2, h1⟩⟩, ?_⟩
  rw [List.take_succ_cons, List.cons_append, ← h2]
/-- Where the walk down meets an empty entry, a leaf can be laid down, if there are frames enough. -/
theorem lays_look (N : Nat) (va leaf : Int) (B : Nat → Int) (L : List Nat) (hd : L.Nodup) (hl : ∀ i ∈ L, 1 ≤ i ∧ i < N) : ∀ (l : Nat) (nd a0 a1 a2 e : Int), (wk N L B va l nd a0 a1 a2 e).k = 0 → (wk N L B va l nd a0 a1 a2 e).l ≤ L.length → ∃ B' L', Lays N va leaf l B L nd B' L' ∧ L = L.take (wk N L B va l nd a0 a1 a2 e).l.toNat ++ L'
 | 0, nd, a0, a1, a2, e => fun hk hle => by
  by_cases hn : ndB N L nd = true
  ·have ew := wk_stop0 (B := B) (va := va) (a0 := a0) (a1 := a1) (a2 := a2) (e := e) hn
   rw [ew] at hk ⊢
   exact ⟨_, L, ⟨hn, hk, rfl, rfl⟩, by simp⟩
  ·have ew : wk N L B va 0 nd a0 a1 a2 e = ⟨a0, a1, a2, 0, e, 4⟩ := if_neg hn
   rw [ew] at hk
   simp at hk
 | l + 1, nd, a0, a1, a2, e => fun hk hle => by
  by_cases hn : ndB N L nd = true
  ·by_cases h3 : kd (ent B nd va (l + 1 : Nat)) (l + 1 : Nat) = 3
   ·have ew : wk N L B va (l + 1) nd a0 a1 a2 e = wk N L B va l (adE (ent B nd va (l + 1 : Nat))) a0 (if l = 0 then st nd va 1 else a1) (if l = 1 then st nd va 2 else a2) (ent B nd va (l + 1 : Nat)) := (if_pos hn).trans (if_pos h3)
    rw [ew] at hk hle ⊢
    obtain ⟨B', L', h1, h2⟩ := lays_look N va leaf B L hd hl l _ _ _ _ _ hk hle
    exact ⟨B', L', ⟨hn, .inl ⟨h3, h1⟩⟩, h2⟩
   ·have ew : wk N L B va (l + 1) nd a0 a1 a2 e = ⟨a0, if l = 0 then st nd va 1 else a1, if l = 1 then st nd va 2 else a2, (l + 1 : Nat), ent B nd va (l + 1 : Nat), kd (ent B nd va (l + 1 : Nat)) (l + 1 : Nat)⟩ := (if_pos hn).trans (if_neg h3)
    rw [ew] at hk hle ⊢
    simp only at hk hle ⊢
    rw [Int.toNat_natCast]
    match L, hd, hl, hn, hle with
    | [], hd, hl, hn, hle => simp at hle; omega
    | i :: L1, hd, hl, hn, hle =>
     obtain ⟨hn2, hne⟩ := ndB_cons hn
     obtain ⟨hi, hd2⟩ := List.nodup_cons.1 hd
     have hb := ix_b va (l + 1 : Nat)
     have hil := hl i (by simp)
     obtain ⟨B', L', h1, h2⟩ := lays_zero N va leaf l (over (zer B i) (fi nd * 4096 + (ix va (l + 1 : Nat)).toNat * 8) (le (toP (2147483648 + i * 4096) 0) 8)) L1 (2147483648 + (i : Int) * 4096)
      (new_zero B i (fi nd) ((ix va (l + 1 : Nat)).toNat * 8) _ (le_len _ _) (by omega) hne) (ndB_mk hil.1 hil.2 hi) hd2 (fun j hj => hl j (List.mem_cons_of_mem _ hj)) (by simp at hle; omega)
     refine ⟨B', L', ⟨hn, .inr ⟨hk, i, L1, rfl, hn2, h1⟩⟩, ?_⟩
     rw [List.take_succ_cons, List.cons_append, ← h2]
  ·have ew : wk N L B va (l + 1) nd a0 a1 a2 e = ⟨a0, a1, a2, (l + 1 : Nat), e, 4⟩ := if_neg hn
   rw [ew] at hk
   simp at hk
end Go.Proofs.YtacdgfojdkppmaaGreatDoor.Rm
namespace Go.Proofs.YtacdgfojdkppmaaGreatDoor.Rm
open Go.RowKit
set_option linter.unusedVariables false
set_option linter.unusedSimpArgs false
/-- The address of a frame. -/
def ad (f : Nat) : Int := 2147483648 + (f : Int) * 4096
/-- An entry of a node. -/
def evn (B : Nat → Int) (f i : Nat) : Int := num B (f * 4096 + i * 8) 8
theorem ent_evn (B : Nat → Int) (f : Nat) (va l : Int) : ent B (ad f) va l = evn B f (ix va l).toNat := by unfold ent evn ad; rw [fi_adr]
theorem num_ext (B B' : Nat → Int) (o : Nat) : ∀ n, (∀ k, k < n → B' (o + k) = B (o + k)) → num B' o n = num B o n
 | 0, _ => rfl
 | n + 1, h => by
  simp only [num]
  rw [num_ext B B' o n (fun k hk => h k (by omega)), h n (by omega)]
theorem leG (v : Int) (n k : Nat) (hk : k < n) : (le v n).getD k 0 = v / 256 ^ k % 256 := by
 rw [List.getD_eq_getElem?_getD]
 simp [le, hk]
theorem evn_over_same (B : Nat → Int) (f i : Nat) (v : Int) (hv : 0 ≤ v ∧ v < 18446744073709551616) : evn (over B (f * 4096 + i * 8) (le v 8)) f i = v := by
 refine num_jb _ _ _ hv fun k hk => ?_
 unfold over
 rw [if_pos ⟨by omega, by rw [le_len]; omega⟩, show f * 4096 + i * 8 + k - (f * 4096 + i * 8) = k by omega]
 exact leG v 8 k hk
theorem over_out (B : Nat → Int) (f i : Nat) (v : Int) (j : Nat) (h : j < f * 4096 + i * 8 ∨ f * 4096 + i * 8 + 8 ≤ j) : over B (f * 4096 + i * 8) (le v 8) j = B j := by
 unfold over
 rw [if_neg (by rw [le_len]; omega)]
theorem evn_over_other (B : Nat → Int) (f i g j : Nat) (v : Int) (hi : i < 512) (hj : j < 512) (h : g ≠ f ∨ j ≠ i) : evn (over B (f * 4096 + i * 8) (le v 8)) g j = evn B g j := by
 refine num_ext _ _ _ _ fun k hk => over_out _ _ _ _ _ ?_
 rcases h with h | h
 ·rcases Nat.lt_or_gt_of_ne h with h | h <;> omega
 ·by_cases e : g = f
  ·subst e
   omega
  ·rcases Nat.lt_or_gt_of_ne e with h | h <;> omega
theorem evn_zer_same (B : Nat → Int) (f i : Nat) (hi : i < 512) : evn (zer B f) f i = 0 := by
 refine num_jb _ _ _ (by omega) fun k hk => ?_
 rw [Nat.add_assoc, zer_in B f _ (by omega)]
 simp
theorem evn_zer_other (B : Nat → Int) (f g i : Nat) (hi : i < 512) (h : g ≠ f) : evn (zer B f) g i = evn B g i := by
 refine num_ext _ _ _ _ fun k hk => zer_out _ _ _ ?_
 rcases Nat.lt_or_gt_of_ne h with h | h <;> omega
/-- The entry that leads to a node. -/
def ptr : Option Nat → Int
 | none => 0
 | some f => toP (ad f) 0
/-- The nodes of a table by numbers: the root is 0; 1 to 512 those of level 1; behind them those of level 0. -/
def ch (x e : Nat) : Nat := if x = 0 then 1 + e else 513 + 512 * (x - 1) + e
theorem ch_inj {x y e d : Nat} (hx : x ≤ 512) (hy : y ≤ 512) (he : e < 512) (hd : d < 512) (h : ch x e = ch y d) : x = y ∧ e = d := by
 unfold ch at h
 split at h <;> split at h <;> omega
theorem ch_pos (x e : Nat) : 0 < ch x e := by unfold ch; split <;> omega
def setO (F : Nat → Option Nat) (x f : Nat) : Nat → Option Nat := fun y => if y = x then some f else F y
def setE (lf : Nat → Nat → Int) (y k : Nat) (v : Int) : Nat → Nat → Int := fun a b => if a = y ∧ b = k then v else lf a b
/-- A table as it lies in memory: its nodes' frames by their numbers, and its leaves. -/
structure PT (N : Nat) (L : List Nat) (B : Nat → Int) (F : Nat → Option Nat) (lf : Nat → Nat → Int) : Prop where
 root : ∃ r, F 0 = some r
 held : ∀ x f, F x = some f → 1 ≤ f ∧ f < N ∧ f ∉ L
 inj : ∀ x y f, F x = some f → F y = some f → x = y
 up : ∀ x e, x ≤ 512 → e < 512 → F (ch x e) ≠ none → F x ≠ none
 dom : ∀ x, F x ≠ none → x < 262657
 ep : ∀ x g, x ≤ 512 → F x = some g → ∀ e, e < 512 → evn B g e = ptr (F (ch x e))
 el : ∀ y g, 513 ≤ y → F y = some g → ∀ k, k < 512 → evn B g k = lf y k
 lv : ∀ y k, lf y k = 0 ∨ (kd (lf y k) 0 = 2 ∧ 0 ≤ lf y k ∧ lf y k < 18446744073709551616)
 ln : ∀ y, F y = none → ∀ k, lf y k = 0
section
variable {N : Nat} {L : List Nat} {B : Nat → Int} {F : Nat → Option Nat} {lf : Nat → Nat → Int}
theorem toPb (f N : Nat) (hf : f < N) (hN : N ≤ 4096) : 0 ≤ toP (ad f) 0 ∧ toP (ad f) 0 < 18446744073709551616 := by
 rw [toP_val (ad f) 0 (by unfold ad; omega) (by omega) (by omega)]
 unfold ad
 omega
/-- A table of other bytes, where its nodes stay. -/
theorem PT.keep {B' : Nat → Int} {L' : List Nat} (h : PT N L B F lf) (hB : ∀ x f, F x = some f → ∀ k, k < 4096 → B' (f * 4096 + k) = B (f * 4096 + k)) (hL : ∀ x f, F x = some f → f ∉ L') : PT N L' B' F lf := by
 have he : ∀ x f, F x = some f → ∀ e, e < 512 → evn B' f e = evn B f e := fun x f hf e he => num_ext _ _ _ _ fun k hk => by rw [Nat.add_assoc]; exact hB x f hf _ (by omega)
 exact ⟨h.root, fun x f hf => ⟨(h.held x f hf).1, (h.held x f hf).2.1, hL x f hf⟩, h.inj, h.up, h.dom, fun x g hx hg e h1 => (he x g hg e h1).trans (h.ep x g hx hg e h1), fun y g hy hg k hk => (he y g hg k hk).trans (h.el y g hy hg k hk), h.lv, h.ln⟩
/-- A leaf is written over. -/
theorem PT.leaf {y q k : Nat} {v : Int} (h : PT N L B F lf) (hy : 513 ≤ y) (hq : F y = some q) (hk : k < 512) (hv : v = 0 ∨ (kd v 0 = 2 ∧ 0 ≤ v ∧ v < 18446744073709551616)) : PT N L (over B (q * 4096 + k * 8) (le v 8)) F (setE lf y k v) := by
 have hvb : 0 ≤ v ∧ v < 18446744073709551616 := by rcases hv with e | e <;> omega
 refine ⟨h.root, h.held, h.inj, h.up, h.dom, fun x g hx hg e he => ?_, fun z g hz hg d hd => ?_, fun z d => ?_, fun z hz d => ?_⟩
 ·rw [evn_over_other _ _ _ _ _ _ hk he (.inl (fun e2 => by subst e2; have := h.inj x y g hg hq; omega))]
  exact h.ep x g hx hg e he
 ·unfold setE
  by_cases e : z = y ∧ d = k
  ·obtain ⟨rfl, rfl⟩ := e
   rw [hq] at hg
   injection hg with hg
   subst hg
   rw [if_pos ⟨rfl, rfl⟩]
   exact evn_over_same _ _ _ _ hvb
  ·rw [if_neg e, evn_over_other _ _ _ _ _ _ hk hd (by
    by_cases e2 : g = q
    ·subst e2
     have := h.inj z y g hg hq
     exact .inr (fun e3 => e ⟨this, e3⟩)
    ·exact .inl e2)]
   exact h.el z g hz hg d hd
 ·unfold setE
  split
  ·exact hv
  ·exact h.lv z d
 ·unfold setE
  rw [if_neg (by rintro ⟨rfl, _⟩; rw [hq] at hz; cases hz)]
  exact h.ln z hz d
/-- A node is taken. -/
theorem PT.node {f x g e : Nat} {L1 : List Nat} (h : PT N (f :: L1) B F lf) (hN : N ≤ 4096) (hd : (f :: L1).Nodup) (hf : 1 ≤ f ∧ f < N) (hx : x ≤ 512) (hg : F x = some g) (he : e < 512) (hn : F (ch x e) = none) :
  PT N L1 (over (zer B f) (g * 4096 + e * 8) (le (toP (ad f) 0) 8)) (setO F (ch x e) f) lf := by
 have hfn : ∀ z q, F z = some q → q ≠ f := fun z q hz e => (h.held z q hz).2.2 (by rw [e]; exact List.mem_cons_self ..)
 have hgf : g ≠ f := hfn x g hg
 have hb := toPb f N hf.2 hN
 have hxc : x ≠ ch x e := fun e2 => by rw [← e2, hg] at hn; cases hn
 have hfL : f ∉ L1 := (List.nodup_cons.1 hd).1
 have evo : ∀ q d, d < 512 → q ≠ f → (q ≠ g ∨ d ≠ e) → evn (over (zer B f) (g * 4096 + e * 8) (le (toP (ad f) 0) 8)) q d = evn B q d := fun q d h1 h2 h3 => by rw [evn_over_other _ _ _ _ _ _ he h1 h3, evn_zer_other _ _ _ _ h1 h2]
 have evf : ∀ d, d < 512 → evn (over (zer B f) (g * 4096 + e * 8) (le (toP (ad f) 0) 8)) f d = 0 := fun d h1 => by rw [evn_over_other _ _ _ _ _ _ he h1 (.inl (Ne.symm hgf)), evn_zer_same _ _ _ h1]
 have sF : ∀ z, z ≠ ch x e → setO F (ch x e) f z = F z := fun z hz => by unfold setO; rw [if_neg hz]
 have sT : setO F (ch x e) f (ch x e) = some f := by unfold setO; rw [if_pos rfl]
 refine ⟨?_, fun z q hz => ?_, fun z y q hz hy => ?_, fun z d hz hd2 hne => ?_, fun z hz => ?_, fun z q hz hq d hd2 => ?_, fun z q hz hq d hd2 => ?_, h.lv, fun z hz d => ?_⟩
 ·obtain ⟨r, hr⟩ := h.root
  exact ⟨r, by rw [sF 0 (by have := ch_pos x e; omega)]; exact hr⟩
 ·by_cases e2 : z = ch x e
  ·subst e2
   rw [sT] at hz
   injection hz with hz
   subst hz
   exact ⟨hf.1, hf.2, hfL⟩
  ·rw [sF z e2] at hz
   have := h.held z q hz
   exact ⟨this.1, this.2.1, fun hm => this.2.2 (List.mem_cons_of_mem _ hm)⟩
 ·by_cases e2 : z = ch x e <;> by_cases e3 : y = ch x e
  ·rw [e2, e3]
  ·rw [e2, sT] at hz
   injection hz with hz
   rw [sF y e3] at hy
   exact absurd hz.symm (hfn y q hy)
  ·rw [e3, sT] at hy
   injection hy with hy
   rw [sF z e2] at hz
   exact absurd hy.symm (hfn z q hz)
  ·rw [sF z e2] at hz
   rw [sF y e3] at hy
   exact h.inj z y q hz hy
 ·by_cases e2 : z = ch x e
  ·rw [e2, sT]; simp
  ·rw [sF z e2]
   by_cases e3 : ch z d = ch x e
   ·obtain ⟨rfl, _⟩ := ch_inj hz hx hd2 he e3
    rw [hg]; simp
   ·rw [sF _ e3] at hne
    exact h.up z d hz hd2 hne
 ·by_cases e2 : z = ch x e
  ·subst e2
   unfold ch
   split <;> omega
  ·rw [sF z e2] at hz
   exact h.dom z hz
 ·by_cases e2 : z = ch x e
  ·subst e2
   rw [sT] at hq
   injection hq with hq
   subst hq
   rw [evf d hd2]
   have : setO F (ch x e) f (ch (ch x e) d) = none := by
    have e3 : ch (ch x e) d ≠ ch x e := fun e3 => by
     unfold ch at e3 hz
     split at e3 <;> split at e3 <;> omega
    rw [sF _ e3]
    cases hc : F (ch (ch x e) d) with
    | none => rfl
    | some q => exact absurd hn (h.up (ch x e) d hz hd2 (by rw [hc]; simp))
   rw [this]
   rfl
  ·rw [sF z e2] at hq
   by_cases e3 : q = g ∧ d = e
   ·obtain ⟨rfl, rfl⟩ := e3
    obtain rfl : z = x := h.inj z x q hq hg
    rw [sT, evn_over_same _ _ _ _ hb]
    rfl
   ·rw [evo q d hd2 (hfn z q hq) (by
     by_cases e4 : q = g
     ·exact .inr (fun e5 => e3 ⟨e4, e5⟩)
     ·exact .inl e4)]
    rw [h.ep z q hz hq d hd2]
    rw [sF]
    intro e4
    obtain ⟨rfl, rfl⟩ := ch_inj hz hx hd2 he e4
    rw [hg] at hq
    injection hq with hq
    exact e3 ⟨hq.symm, rfl⟩
 ·by_cases e2 : z = ch x e
  ·subst e2
   rw [sT] at hq
   injection hq with hq
   subst hq
   rw [evf d hd2, h.ln _ hn]
  ·rw [sF z e2] at hq
   rw [evo q d hd2 (hfn z q hq) (.inl (fun e3 => by subst e3; have := h.inj z x q hq hg; omega))]
   exact h.el z q hz hq d hd2
 ·by_cases e2 : z = ch x e
  ·subst e2
   rw [sT] at hz
   cases hz
  ·rw [sF z e2] at hz
   exact h.ln z hz d
end
end Go.Proofs.YtacdgfojdkppmaaGreatDoor.Rm
