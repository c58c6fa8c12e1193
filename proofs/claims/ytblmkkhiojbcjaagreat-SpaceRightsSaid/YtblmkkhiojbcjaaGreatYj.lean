import Derived.Test.YtblmkkhiojbcjaaGreatYi
namespace Go.Proofs.YtblmkkhiojbcjaaGreat
open Go.RowKit
set_option linter.unusedVariables false
set_option linter.unusedSimpArgs false
section
variable {w : World} {s p b m N : Nat} {B : Nat → Int} {L : List Nat} {F : Nat → Option Nat} {lf : Nat → Nat → Int}
theorem write_pg (h : Ram w p b m N B L) (q o n : Nat) (hq : q < N ∧ q ∉ L) (hn : 1 ≤ n) (ho : o + n ≤ 4096) (g k c : Nat) (R : Nat → Int) (hR : ∀ i, 0 ≤ R i ∧ R i < 256) (hg : ∀ i, i < n → w.cell? ⟨g, k + i, .none⟩ = some (.int .u8 (R i))) :
    Calls Tryz.prog 85 #[.pointer (some ⟨p, 0, .none⟩), .int .u64 (ad q + o), .slice (some ⟨g, k, .none⟩) n c] w fun e w' => e = .returned (.bool true) ∧ Ram w' p b m N (over B (q * 4096 + o) ((List.range n).map R)) L ∧ Fra p b m w w' := by
  have hc := write_ok h.mem (q * 4096 + o) n hn (by omega) (fun f h1 h2 => by
    have : f = q := by omega
    rw [this, hdL_in hq.1]
    simp [hq.2]) g k c R hR hg
  rw [show (2147483648 + ((q * 4096 + o : Nat) : Int)) = ad q + o by unfold ad; omega] at hc
  refine hc.mono fun e w' ⟨h1, h2, h3⟩ => ⟨h1, h.laid h2 (fun j hj => ?_), h3⟩
  have hjq : j ≠ q := fun e => hq.2 (e ▸ hj)
  simp only [List.length_map, List.length_range]
  rcases Nat.lt_or_gt_of_ne hjq with h | h <;> omega
theorem ext_lowY (va : Int) (h : 0 ≤ va ∧ va < 274877906944) : ext va = va := by unfold ext; rw [if_pos (by omega)]; omega
/-- The leaf of a page that a table has. -/
theorem leaf_pt (hP : PT N L B F lf) (hN : N ≤ 4096) {r g1 q1 : Nat} (hr : F 0 = some r) (va : Int) (hv : 0 ≤ va ∧ va < 274877906944) (h1 : F (y1 va) = some g1) (h0 : F (y0 va) = some q1) (hk : kd (lf (y0 va) (i0 va)) 0 = 2) :
    (if finds (look N L B (ad r) va) va = true then (look N L B (ad r) va).e else 0) = lf (y0 va) (i0 va) := by
  rw [look_0 hP hN hr va h1 h0]
  have : finds ⟨st (ad q1) va 0, st (ad g1) va 1, st (ad r) va 2, 0, lf (y0 va) (i0 va), kd (lf (y0 va) (i0 va)) 0⟩ va = true := by
    unfold finds
    rw [ext_lowY va hv]
    simp [hk]
  rw [if_pos this]
/-- A page is there: its way, its leaf, its frame. -/
structure Pag (N : Nat) (L : List Nat) (F : Nat → Option Nat) (lf : Nat → Nat → Int) (va : Int) (q : Nat) (c : Int) : Prop where
  w1 : ∃ g, F (y1 va) = some g
  w0 : ∃ g, F (y0 va) = some g
  l : lf (y0 va) (i0 va) = toP (ad q) c
  k : kd (toP (ad q) c) 0 = 2
  cb : 0 ≤ c ∧ c < 256 ∧ c % 2 = 0
  qb : q < N ∧ q ∉ L
  nn : ∀ x, F x ≠ some q
theorem Pag.val {va : Int} {q : Nat} {c : Int} (h : Pag N L F lf va q c) (hN : N ≤ 4096) : toP (ad q) c = ad q / 4096 * 1024 + c + 1 := by
  have hb := ad_b q N h.qb.1 hN
  exact toP_val _ _ ⟨hb.1, hb.2.1⟩ (by have := h.cb; omega) h.cb.2.2
theorem kern_pt {r q : Nat} {size c : Int} (hS : Sp w s p (ad r) size) (h : Ram w p b m N B L) (hP : PT N L B F lf) (hr : F 0 = some r) (va : Int) (hv : 0 ≤ va ∧ va < 274877906944) (hq : Pag N L F lf va q c) :
    Calls Tryz.prog 58 #[.pointer (some ⟨s, 0, .none⟩), .int .u64 va] w fun e w' => e = .returned (.tuple #[.int .u64 (ad q + va % 4096), .bool true]) ∧ Below w.heap.size w w' := by
  have hN := h.mem.n2
  have hb := ad_b q N hq.qb.1 hN
  have hrb := ad_b r N (hP.held 0 r hr).2.1 hN
  obtain ⟨g1, e1⟩ := hq.w1
  obtain ⟨g0, e0⟩ := hq.w0
  have c151 := leaf_any h (ad r) va ⟨hrb.1, by omega⟩ (by omega)
  rw [leaf_pt hP hN hr va hv e1 e0 (by rw [hq.l]; exact hq.k), hq.l] at c151
  have hval := hq.val hN
  have hcc := hq.cb
  have hbd : 0 ≤ toP (ad q) c ∧ toP (ad q) c < 18014398509481984 := by rw [hval]; omega
  have hfr : toP (ad q) c / 1024 * 4096 = ad q := by rw [hval]; omega
  have hnz : (toP (ad q) c != 0) = true := by
    have : toP (ad q) c ≠ 0 := by rw [hval]; omega
    simpa using this
  have c152 := fun W => frameOf_any (toP (ad q) c) hbd W
  rw [hfr] at c152
  have hwr : IntKind.u64.wrap (ad q + va % 4096) = ad q + va % 4096 := by rw [IntKind.wrap_u64]; omega
  have k0 := hS.c0
  have k1 := hS.c1
  generalize toP (ad q) c = tp at *
  clear h hP hq hval hfr hS e1 e0
  go_enter Tryz.func58, Tryz.ntmps58
  go_wp2_with first | (go_at_call 75; refine c151.mono ?_; rintro _ w1 ⟨rfl, b1⟩) | (go_at_call 62; refine (c152 _).mono ?_; rintro _ w2 ⟨rfl, e2⟩; obtain rfl : w1 = w2 := e2.symm)
  refine bodyPost_ret (v := .tuple #[.int .u64 (ad q + va % 4096), .bool true]) (by simp [results, Tryz.results58, go_sem]) rfl ⟨rfl, b1⟩
end
end Go.Proofs.YtblmkkhiojbcjaaGreat
