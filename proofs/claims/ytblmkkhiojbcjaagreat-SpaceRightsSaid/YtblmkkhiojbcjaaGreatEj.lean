import Derived.Test.YtblmkkhiojbcjaaGreatEi
import Derived.Test.YtblmkkhiojbcjaaGreatEf
namespace Go.Proofs.YtblmkkhiojbcjaaGreat
open Go Go.RowKit
set_option linter.unusedVariables false
set_option linter.unusedSimpArgs false
section
variable {w : World} {s p b m N r P : Nat} {size : Int} {B : Nat → Int} {L : List Nat} {F : Nat → Option Nat} {lf : Nat → Nat → Int} {fr : Nat → Nat} {c : Nat → Int}
theorem y1_off (va o : Int) (hv : 0 ≤ va ∧ va < 274877906944 ∧ va % 4096 = 0) (ho : 0 ≤ o ∧ o < 4096) : y1 (va + o) = y1 va := by
  unfold y1 i2
  rw [show ix (va + o) 2 = ix va 2 by unfold ix; rw [show spn 2 = 1073741824 from rfl]; omega]
theorem Pag.off {va o : Int} {q : Nat} {x : Int} (h : Pag N L F lf va q x) (hv : 0 ≤ va ∧ va < 274877906944 ∧ va % 4096 = 0) (ho : 0 ≤ o ∧ o < 4096) : Pag N L F lf (va + o) q x := by
  have e1 := y1_off va o hv ho
  have e2 := y_off va o hv ho
  exact ⟨by rw [e1]; exact h.w1, by rw [e2.1]; exact h.w0, by rw [e2.1, e2.2]; exact h.l, h.k, h.cb, h.qb, h.nn⟩
/-- What bytes that are written come to. -/
def WrP (w : World) (s p b m N r P : Nat) (size : Int) (B : Nat → Int) (L : List Nat) (F : Nat → Option Nat) (lf : Nat → Nat → Int) (fr : Nat → Nat) (c : Nat → Int) (va n : Nat) (R : Nat → Int) (e : Ending) (w' : World) : Prop := e = .returned (.bool true) ∧ SpU w' s p b m N r P size (wrU B fr va R n) L F lf fr c ∧ Fra p b m w w'
set_option maxHeartbeats 1000000 in
theorem put_kern (h : SpU w s p b m N r P size B L F lf fr c) (va n : Nat) (hn : 1 ≤ n) (hf : va + n ≤ P * 4096) (g k0 cc : Nat) (hcc : n ≤ cc ∧ cc ≤ 9223372036854775807) (R : Nat → Int) (hR : ∀ i, 0 ≤ R i ∧ R i < 256) (hg : ∀ i, i < n → w.cell? ⟨g, k0 + i, .none⟩ = some (.int .u8 (R i))) (hgp : g ≠ p ∧ g ≠ b ∧ g ≠ m) :
    Calls Tryz.prog 57 #[.pointer (some ⟨s, 0, .none⟩), .int .u64 va, .slice (some ⟨g, k0, .none⟩) n cc, .func (.func 58) #[.pointer (some ⟨s, 0, .none⟩)] #[]] w (WrP w s p b m N r P size B L F lf fr c va n R) := by
  have hm := h.pm
  have hpl := h.ram.mem.plt
  have hbl := h.ram.mem.blt
  have hml := h.ram.mem.mlt
  obtain ⟨w1, hw1⟩ : ∃ w1, w1 = w.alloc (.cells #[.pointer (some ⟨s, 0, .none⟩)] 26) := ⟨_, rfl⟩
  obtain ⟨w2, hw2⟩ : ∃ w2, w2 = w1.alloc (.cells #[.slice (some ⟨g, k0, .none⟩) n cc] 24) := ⟨_, rfl⟩
  have z1 : w1.heap.size = w.heap.size + 1 := by rw [hw1]; simp
  have b1 : Below w.heap.size w w1 := by rw [hw1]; exact below1 _ _
  have b12 : Below w1.heap.size w1 w2 := by rw [hw2]; exact below1 _ _
  have b2 := b1.trans (b12.mono b1.size)
  have ks : w2.cell? ⟨w.heap.size, 0, .none⟩ = some (.pointer (some ⟨s, 0, .none⟩)) := (b12.cell (p := ⟨w.heap.size, 0, .none⟩) (by show w.heap.size < w1.heap.size; omega)).trans (by rw [hw1]; simp)
  have kb : w2.cell? ⟨w.heap.size + 1, 0, .none⟩ = some (.slice (some ⟨g, k0, .none⟩) n cc) := by rw [← z1, hw2]; simp
  have kf : w2.frozen? ⟨w.heap.size + 1, 0, .none⟩ = false := by rw [← z1, hw2]; exact World.frozen?_alloc_new _ _ _ _
  have c52 := each_poke (d1 := w.heap.size + 1) (d2 := w.heap.size) (w := w2) (s := s) (va : Int) n (by omega) (PuJ w s p b m N r P size B L F lf fr c g k0 cc (w.heap.size + 1) w.heap.size va n R) (fun _ => False) (fun k => ad (fr ((va + k) / 4096)) + ((va + k) % 4096 : Nat)) (fun _ => true) (fun _ => true)
    (fun k W hk hJ => by
      have hS := h.wr (W' := W) (va := va) (k := k) (R := R) (by omega) hJ.sp hJ.ram
      have hq := hS.pag ((va + k) / 4096) (by omega)
      have hq2 : Pag N L F lf ((va : Int) + k) (fr ((va + k) / 4096)) (c ((va + k) / 4096)) := by
        have h9 := hq.off (o := ((va + k) % 4096 : Nat)) (by omega) (by omega)
        rw [show (((va + k) / 4096 : Nat) : Int) * 4096 + (((va + k) % 4096 : Nat) : Int) = (va : Int) + k by omega] at h9
        exact h9
      have := kern_pt hS.sp hS.ram hS.pt hS.rt ((va : Int) + k) (by omega) hq2
      rw [show ((va : Int) + k) % 4096 = ((va + k) % 4096 : Nat) by omega] at this
      exact this.mono (fun e W' h9 => ⟨h9.1, hJ.below h9.2⟩)) (fun k W hk e => by cases e) (fun k W hk _ hJ => (hJ.piece h hk hf hcc hR hg hgp (by omega) (by omega) (Nat.le_refl _)).mono (fun e W' h9 => ⟨h9.1, fun _ => h9.2, fun e => by cases e⟩))
    ⟨Fra.below b2, h.sp.below b2, h.ram.below b2, ks, ⟨some ⟨g, k0, .none⟩, kb, fun _ => rfl⟩, kf⟩
  have HH : Hid (SpU w s p b m N r P size B L F lf fr c) := h
  clear h ks kf b1 b12 b2 z1 hg hR
  go_enter Tryz.func57, Tryz.ntmps57
  go_upto_region 1 with fail
  rw [← hw1, ← hw2]
  have ks : w2.cell? ⟨w.heap.size, 0, .none⟩ = some (.pointer (some ⟨s, 0, .none⟩)) := by rw [hw2, hw1]; simp
  clear hw1 hw2
  go_wp2_with fail
  refine c52.mono ?_
  rintro e9 w9 (⟨rfl, hJ⟩ | ⟨_, hJ⟩)
  · have HJ : Hid (WrP w s p b m N r P size B L F lf fr c va n R (.returned (.bool true)) w9) := ⟨rfl, HH.out.wr hf hJ.sp hJ.ram, hJ.fra⟩
    clear hJ
    go_wp2_with fail
    go_ret
    exact HJ.out
  · exact hJ.elim
set_option maxHeartbeats 1000000 in
theorem put_user (h : SpU w s p b m N r P size B L F lf fr c) (va n : Nat) (hn : 1 ≤ n) (hf : va + n ≤ P * 4096) (hacc : ∀ j, j < n → accU c 2 (va + j) = true) (u1 u2 : Nat) (e1 : w.cell? ⟨u1, 0, .none⟩ = some (.pointer (some ⟨s, 0, .none⟩))) (e2 : w.cell? ⟨u2, 0, .none⟩ = some (.int .i64 3)) (hu : u1 ≠ p ∧ u1 ≠ b ∧ u1 ≠ m ∧ u2 ≠ p ∧ u2 ≠ b ∧ u2 ≠ m) (g k0 cc : Nat) (hcc : n ≤ cc ∧ cc ≤ 9223372036854775807) (R : Nat → Int) (hR : ∀ i, 0 ≤ R i ∧ R i < 256) (hg : ∀ i, i < n → w.cell? ⟨g, k0 + i, .none⟩ = some (.int .u8 (R i))) (hgp : g ≠ p ∧ g ≠ b ∧ g ≠ m) :
    Calls Tryz.prog 57 #[.pointer (some ⟨s, 0, .none⟩), .int .u64 va, .slice (some ⟨g, k0, .none⟩) n cc, .func (.func 89) #[] #[.pointer (some ⟨u1, 0, .none⟩), .pointer (some ⟨u2, 0, .none⟩)]] w (WrP w s p b m N r P size B L F lf fr c va n R) := by
  have hm := h.pm
  have hpl := h.ram.mem.plt
  have hbl := h.ram.mem.blt
  have hml := h.ram.mem.mlt
  obtain ⟨w1, hw1⟩ : ∃ w1, w1 = w.alloc (.cells #[.pointer (some ⟨s, 0, .none⟩)] 26) := ⟨_, rfl⟩
  obtain ⟨w2, hw2⟩ : ∃ w2, w2 = w1.alloc (.cells #[.slice (some ⟨g, k0, .none⟩) n cc] 24) := ⟨_, rfl⟩
  have z1 : w1.heap.size = w.heap.size + 1 := by rw [hw1]; simp
  have b1 : Below w.heap.size w w1 := by rw [hw1]; exact below1 _ _
  have b12 : Below w1.heap.size w1 w2 := by rw [hw2]; exact below1 _ _
  have b2 := b1.trans (b12.mono b1.size)
  have ks : w2.cell? ⟨w.heap.size, 0, .none⟩ = some (.pointer (some ⟨s, 0, .none⟩)) := (b12.cell (p := ⟨w.heap.size, 0, .none⟩) (by show w.heap.size < w1.heap.size; omega)).trans (by rw [hw1]; simp)
  have kb : w2.cell? ⟨w.heap.size + 1, 0, .none⟩ = some (.slice (some ⟨g, k0, .none⟩) n cc) := by rw [← z1, hw2]; simp
  have kf : w2.frozen? ⟨w.heap.size + 1, 0, .none⟩ = false := by rw [← z1, hw2]; exact World.frozen?_alloc_new _ _ _ _
  have c52 := each_out (u1 := u1) (u2 := u2) (d1 := w.heap.size + 1) (d2 := w.heap.size) (w := w2) (s := s) (va : Int) n (by omega) (PuJ w s p b m N r P size B L F lf fr c g k0 cc (w.heap.size + 1) w.heap.size va n R) (fun _ => False) (fun k => ad (fr ((va + k) / 4096)) + ((va + k) % 4096 : Nat)) (fun _ => true) (fun _ => true)
    (fun k W hk hJ => by
      have hS := h.wr (W' := W) (va := va) (k := k) (R := R) (by omega) hJ.sp hJ.ram
      have := user_any hS.sp ((va + k : Nat) : Int) 3 _ _ ((hJ.fra.cell (x := ⟨u1, 0, .none⟩) (lt_of_cell e1) hu.1 hu.2.1 hu.2.2.1).trans e1) ((hJ.fra.cell (x := ⟨u2, 0, .none⟩) (lt_of_cell e2) hu.2.2.2.1 hu.2.2.2.2.1 hu.2.2.2.2.2).trans e2) (fun W2 b2 => (hS.below b2).tra (va + k) 2 (by omega) (by omega))
      rw [show ((va + k : Nat) : Int) = (va : Int) + k by omega, hacc k hk] at this
      exact this.mono (fun e W' h9 => ⟨h9.1, hJ.below h9.2⟩)) (fun k W hk e => by cases e) (fun k W hk _ hJ => (hJ.piece h hk hf hcc hR hg hgp (by omega) (by omega) (Nat.le_refl _)).mono (fun e W' h9 => ⟨h9.1, fun _ => h9.2, fun e => by cases e⟩))
    ⟨Fra.below b2, h.sp.below b2, h.ram.below b2, ks, ⟨some ⟨g, k0, .none⟩, kb, fun _ => rfl⟩, kf⟩
  have HH : Hid (SpU w s p b m N r P size B L F lf fr c) := h
  clear h ks kf b1 b12 b2 z1 hg hR
  go_enter Tryz.func57, Tryz.ntmps57
  go_upto_region 1 with fail
  rw [← hw1, ← hw2]
  have ks : w2.cell? ⟨w.heap.size, 0, .none⟩ = some (.pointer (some ⟨s, 0, .none⟩)) := by rw [hw2, hw1]; simp
  clear hw1 hw2
  go_wp2_with fail
  refine c52.mono ?_
  rintro e9 w9 (⟨rfl, hJ⟩ | ⟨_, hJ⟩)
  · have HJ : Hid (WrP w s p b m N r P size B L F lf fr c va n R (.returned (.bool true)) w9) := ⟨rfl, HH.out.wr hf hJ.sp hJ.ram, hJ.fra⟩
    clear hJ
    go_wp2_with fail
    go_ret
    exact HJ.out
  · exact hJ.elim
end
end Go.Proofs.YtblmkkhiojbcjaaGreat
