import Derived.Test.YtblmkkhiojbcjaaGreatVk
import Derived.Test.YtblmkkhiojbcjaaGreatUm
namespace Go.Proofs.YtblmkkhiojbcjaaGreat
open Go Go.RowKit Go.Shelf
attribute [local go_sem] Oper.semAt_some
set_option linter.unusedVariables false
set_option linter.unusedSimpArgs false
attribute [local irreducible] eM evs
/-- The permissions of a page of the law's. -/
def pgP (c : Int) : Int := bits .or .u64 (bits .and .u64 c 254) 2
set_option maxRecDepth 100000 in
theorem low_and : ∀ k : Fin 1024, k.val &&& 254 = (k.val % 256) &&& 254 := by decide
set_option maxRecDepth 100000 in
theorem pg_bits : ∀ k : Fin 256, 0 ≤ pgP (k.val : Int) ∧ pgP (k.val : Int) < 256 ∧ pgP (k.val : Int) % 2 = 0 ∧ hs (pgP (k.val : Int)) 2 = true ∧ ho (pgP (k.val : Int)) 10 = true ∧ ho (pgP (k.val : Int)) 18446744073709551361 = false := by decide +kernel
theorem pgP_low (c : Int) (hc : 0 ≤ c ∧ c < 18446744073709551616) : pgP c = pgP ((c % 256).toNat : Int) := by
  unfold pgP
  have h1 : bits .and .u64 c ((254 : Nat) : Int) = (((c % 1024).toNat &&& 254 : Nat) : Int) := and_low c hc 254 (by omega)
  have h2 : bits .and .u64 ((c % 256).toNat : Int) ((254 : Nat) : Int) = (((((c % 256).toNat : Int) % 1024).toNat &&& 254 : Nat) : Int) := and_low _ (by omega) 254 (by omega)
  have h3 := low_and ⟨(c % 1024).toNat, by omega⟩
  simp only at h3
  rw [show ((254 : Nat) : Int) = 254 from rfl] at h1 h2
  rw [h1, h2, h3, show (c % 1024).toNat % 256 = (((c % 256).toNat : Int) % 1024).toNat by omega]
theorem pgP_all (c : Int) (hc : 0 ≤ c ∧ c < 18446744073709551616) : 0 ≤ pgP c ∧ pgP c < 256 ∧ pgP c % 2 = 0 ∧ hs (pgP c) 2 = true ∧ ho (pgP c) 10 = true ∧ ho (pgP c) 18446744073709551361 = false := by
  rw [pgP_low c hc]
  exact pg_bits ⟨(c % 256).toNat, by omega⟩
def pg3 (a b c : Int) : Pg := (pgV a, pgA b, pgP c)
theorem pg_ok (a b c : Int) (hc : 0 ≤ c ∧ c < 18446744073709551616) : okP (pg3 a b c) ∧ (!ho (pg3 a b c).2.2 18446744073709551361 && ho (pg3 a b c).2.2 10 && (!hs (pg3 a b c).2.2 4 || hs (pg3 a b c).2.2 2)) = true := by
  obtain ⟨h1, h2, h3, h4, h5, h6⟩ := pgP_all c hc
  have hv := pgV_b a
  have ha := pgA_b b
  unfold pg3
  simp only
  refine ⟨⟨⟨hv.1, hv.2.2, hv.2.1⟩, ⟨ha.1, ha.2.2, ha.2.1⟩, ⟨h1, h2, h3⟩, ?_⟩, by rw [h4, h5, h6]; simp⟩
  have b4 := hs_low (pgP c) ⟨h1, h2⟩ 2 (by omega)
  have b5 : ho (pgP c) 10 = ((((pgP c % 1024).toNat &&& 10 : Nat) : Int) != 0) := by
    unfold ho
    rw [show (10 : Int) = ((10 : Nat) : Int) from rfl, and_low (pgP c) (by omega) 10 (by omega)]
  have key : ∀ k : Fin 256, k.val % 2 = 0 → ((k.val &&& 2 == 2) = true → ((k.val + 1) &&& 2 == 2) = true) ∧ ((k.val &&& 10 != 0) = true → ((k.val + 1) &&& 10 != 0) = true) := by decide +kernel
  obtain ⟨k1, k2⟩ := key ⟨(pgP c).toNat, by omega⟩ (by simp only; omega)
  simp only at k1 k2
  refine kd_leaf (pgA b) (pgP c) ⟨ha.1, ha.2.2⟩ ha.2.1 ⟨h1, h2⟩ h3 (fun _ => ?_) ?_
  · have := hs_toP (pgA b) (pgP c) ⟨ha.1, ha.2.2⟩ (by omega) h3 2 (by omega)
    rw [show ((2 : Nat) : Int) = 2 from rfl] at this b4
    rw [this, show (pgP c + 1).toNat = (pgP c).toNat + 1 by omega]
    rw [h4] at b4
    have := k1 b4.symm
    rw [beq_iff_eq] at this ⊢
    omega
  · have := ho_toP (pgA b) (pgP c) ⟨ha.1, ha.2.2⟩ (by omega) h3 10 (by omega)
    rw [show ((10 : Nat) : Int) = 10 from rfl] at this
    rw [this, show (pgP c + 1).toNat = (pgP c).toNat + 1 by omega]
    rw [h5] at b5
    have h9 := k2 (by
      have h8 := b5.symm
      rw [bne_iff_ne] at h8 ⊢
      rw [show pgP c % 1024 = pgP c by omega] at h8
      omega)
    rw [bne_iff_ne] at h9 ⊢
    omega
/-- A table with just these pages, and how many frames there are for its nodes. -/
def Tb (p b m N r K : Nat) (l : List Pg) (W : World) : Prop := (∃ B L F lf, Ram W p b m N B L ∧ PT N L B F lf ∧ F 0 = some r ∧ TL F lf l ∧ L.length + nodesF F = K) ∧ l.Pairwise (fun a b => a.1 ≠ b.1)
section
variable {p b m N r K : Nat} {l : List Pg} {W : World}
theorem Tb.below {W' : World} (h : Tb p b m N r K l W) (k : Below W.heap.size W W') : Tb p b m N r K l W' := by
  obtain ⟨⟨B, L, F, lf, h1, h2⟩, h3⟩ := h
  exact ⟨⟨B, L, F, lf, h1.below k, h2⟩, h3⟩
theorem Tb.lt (h : Tb p b m N r K l W) : p < W.heap.size ∧ b < W.heap.size ∧ m < W.heap.size := by
  obtain ⟨⟨B, L, F, lf, h1, h2⟩, h3⟩ := h
  exact ⟨h1.mem.plt, h1.mem.blt, h1.mem.mlt⟩
theorem Tb.ok (h : Tb p b m N r K l W) : (∀ x ∈ l, okP x) ∧ (∀ x ∈ l, ∀ z ∈ l, x.1 = z.1 → x = z) := by
  obtain ⟨⟨B, L, F, lf, h1, h2, h3, h4, h5⟩, h6⟩ := h
  exact ⟨h4.ok, h4.uniq⟩
theorem Tb.parts (h : Tb p b m N r K l W) : prt (gV l) 1073741824 l.length + prt (gV l) 2097152 l.length ≤ K := by
  obtain ⟨⟨B, L, F, lf, h1, h2, h3, h4, h5⟩, h6⟩ := h
  have := h4.nodesF h2
  omega
theorem Tb.count (h : Tb p b m N r K l W) : Calls Tryz.prog 30 #[.pointer (some ⟨p, 0, .none⟩)] W fun e w' => e = .returned (.int .i64 ((K : Int) - (prt (gV l) 1073741824 l.length : Nat) - (prt (gV l) 2097152 l.length : Nat))) ∧ Below W.heap.size W w' := by
  obtain ⟨⟨B, L, F, lf, h1, h2, h3, h4, h5⟩, h6⟩ := h
  have e := h4.nodesF h2
  have hl := length_le N L h1.mem.n1 h1.nd h1.lt
  refine (count_any h1.mem (by omega)).mono fun e w' ⟨h7, k, h8⟩ => ⟨?_, ?_⟩
  · rw [h7]
    refine congrArg Ending.returned (congrArg (Value.int .i64) ?_)
    omega
  · rw [h8]; exact blw_drewN _ _ _
theorem Tb.unmap (h : Tb p b m N r K l W) {y : Pg} (hy : y ∈ l) {lm : List Pg} (hm : ∀ z, z ∈ lm ↔ z ∈ l ∧ z ≠ y) (hpw : lm.Pairwise (fun a b => a.1 ≠ b.1)) : Calls Tryz.prog 88 #[.pointer (some ⟨p, 0, .none⟩), .int .u64 (ad r), .int .u64 y.1] W fun e w' => e = .returned (.tuple #[.int .u64 (toP y.2.1 y.2.2), .int .i64 0]) ∧ Tb p b m N r K lm w' ∧ Fra p b m W w' := by
  obtain ⟨⟨B, L, F, lf, h1, h2, h3, h4, h5⟩, h6⟩ := h
  have hok := h4.ok y hy
  have hlf := h4.leaf y hy
  refine (unmap_some h1 h2 h3 y.1 hok.1 (by rw [hlf]; exact hok.ne)).mono fun e w' hU => ?_
  obtain ⟨he, g, q, B', L', F', lf', e1, e2, e3, e4, e5, e6⟩ := hU
  rw [hlf] at he
  refine ⟨he, ⟨⟨B', L', F', lf', e5, e3, ?_, h4.unmap hy hm e4, ?_⟩, hpw⟩, e6⟩
  · have hy0 := y0_ge y.1
    have hy1 := y1_le y.1
    rcases e4 with ⟨_, rfl, _⟩ | ⟨_, rfl, _⟩ | ⟨_, rfl, _⟩
    · exact h3
    · unfold setN; rw [if_neg (by omega)]; exact h3
    · unfold setN; rw [if_neg (by omega), if_neg (by omega)]; exact h3
  · have := e4.len e1 e2
    omega
theorem Tb.unmapNone (h : Tb p b m N r K l W) (va : Int) (hv : 0 ≤ va ∧ va < 274877906944 ∧ va % 4096 = 0) (hn : ∀ x ∈ l, x.1 ≠ va) : Calls Tryz.prog 88 #[.pointer (some ⟨p, 0, .none⟩), .int .u64 (ad r), .int .u64 va] W fun e w' => e = .returned (.tuple #[.int .u64 0, .int .i64 86]) ∧ Below W.heap.size W w' := by
  obtain ⟨⟨B, L, F, lf, h1, h2, h3, h4, h5⟩, h6⟩ := h
  exact unmap_none h1 h2 h3 va hv (h4.none_at va hv hn)
/-- What Map comes to. -/
def MpP (p b m N r K nd : Nat) (l : List Pg) (x : Pg) (W : World) (e : Ending) (w' : World) : Prop :=
  ((∃ y ∈ l, y.1 = x.1) ∧ e = .returned (.int .i64 84) ∧ Below W.heap.size W w') ∨
  ((∀ y ∈ l, y.1 ≠ x.1) ∧ K < nd + prt (gV l) 1073741824 l.length + prt (gV l) 2097152 l.length ∧ e = .returned (.int .i64 85) ∧ Below W.heap.size W w') ∨
  ((∀ y ∈ l, y.1 ≠ x.1) ∧ nd + prt (gV l) 1073741824 l.length + prt (gV l) 2097152 l.length ≤ K ∧ e = .returned (.int .i64 0) ∧ Tb p b m N r K (l ++ [x]) w' ∧ Fra p b m W w')
theorem Tb.freeLeft (h : Tb p b m N r K l W) (hl : l ≠ []) : Calls Tryz.prog 104 #[.pointer (some ⟨p, 0, .none⟩), .int .u64 (ad r)] W fun e w' => e = .returned (.int .i64 87) ∧ Below W.heap.size W w' := by
  obtain ⟨⟨B, L, F, lf, h1, h2, h3, h4, h5⟩, h6⟩ := h
  exact free_left h1 h2 h3 h4 h6 hl
theorem Tb.freeAll (h : Tb p b m N r K [] W) : Calls Tryz.prog 104 #[.pointer (some ⟨p, 0, .none⟩), .int .u64 (ad r)] W fun e w' => e = .returned (.int .i64 0) ∧ Fra p b m W w' ∧ Calls Tryz.prog 30 #[.pointer (some ⟨p, 0, .none⟩)] w' fun e w9 => e = .returned (.int .i64 (K + 1 : Nat)) ∧ Below w'.heap.size w' w9 := by
  obtain ⟨⟨B, L, F, lf, h1, h2, h3, h4, h5⟩, h6⟩ := h
  have e : nodesF F = 0 := h4.nodesF h2
  refine (free_all h1 h2 h3 h4 h6 rfl).mono fun e w' ⟨k1, B', k2, k3⟩ => ⟨k1, k3, ?_⟩
  have hl := length_le N (r :: L) k2.mem.n1 k2.nd k2.lt
  refine (count_any k2.mem (by omega)).mono fun e w9 ⟨h7, k, h8⟩ => ⟨?_, ?_⟩
  · rw [h7]
    refine congrArg Ending.returned (congrArg (Value.int .i64) ?_)
    rw [List.length_cons] at hl ⊢
    omega
  · rw [h8]; exact blw_drewN _ _ _
end
end Go.Proofs.YtblmkkhiojbcjaaGreat
