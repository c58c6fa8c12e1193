import Derived.Test.YtblmkkhiojbcjaaGreatEi
import Derived.Test.YtblmkkhiojbcjaaGreatEf
namespace Go.Proofs.YtblmkkhiojbcjaaGreat
open Go Go.RowKit
set_option linter.unusedVariables false
set_option linter.unusedSimpArgs false
section
variable {w : World} {s p b m N r P : Nat} {size : Int} {B : Nat → Int} {L : List Nat} {F : Nat → Option Nat} {lf : Nat → Nat → Int} {fr : Nat → Nat} {c : Nat → Int}
theorem y1_off (va o : Int) (hv : 0 ≤ va ∧ va < 274877906944 ∧ va % 4096 = 0) (ho : 0 ≤ o ∧ o < 4096) : y1 (va + o) = y1 va := by
  unfold y1 i2
  rw [show ix (va + o) 2 = ix va 2 by unfold ix; rw [show spn 2 = 1073741824 from rfl]; omega]
theorem Pag.off {va o : Int} {q : Nat} {x : Int} (h : Pag N L F lf va q x) (hv : 0 ≤ va ∧ va < 274877906944 ∧ va % 4096 = 0) (ho : 0 ≤ o ∧ o < 4096) : Pag N L F lf (va + o) q x := by
  have e1 := y1_off va o hv ho
  have e2 := y_off va o hv ho
  exact ⟨by rw [e1]; exact h.w1, by rw [e2.1]; exact h.w0, by rw [e2.1, e2.2]; exact h.l, h.k, h.cb, h.qb, h.nn⟩
/-- What bytes that are written come to. -/
def WrP (w : World) (s p b m N r P : Nat) (size : Int) (B : Nat → Int) (L : List Nat) (F : Nat → Option Nat) (lf : Nat → Nat → Int) (fr : Nat → Nat) (c : Nat → Int) (va n : Nat) (R : Nat → Int) (e : Ending) (w' : World) : Prop := e = .returned (.bool true) ∧ SpU w' s p b m N r P size (wrU B fr va R n) L F lf fr c ∧ Fra p b m w w'
set_option maxHeartbeats 1000000 in
theorem put_kern (h : SpU w s p b m N r P size B L F lf fr c) (va n : Nat) (hn : 1 ≤ n) (hf : va + n ≤ P * 4096) (g k0 cc : Nat) (hcc : n ≤ cc ∧ cc ≤ 9223372036854775807) (R : Nat → Int) (hR : ∀ i, 0 ≤ R i ∧ R i < 256) (hg : ∀ i, i < n → w.cell? ⟨g, k0 + i, .none⟩ = some (.int .u8 (R i))) (hgp : g ≠ p ∧ g ≠ b ∧ g ≠ m) :
    Calls Tryz.prog 57 #[.pointer (some ⟨s, 0, .none⟩), .int .u64 va, .slice (some ⟨g, k0, .none⟩) n cc, .func (.func 58) #[.pointer (some ⟨s, 0, .none⟩)] #[]] w (WrP w s p b m N r P size B L F lf fr c va n R) := by
  have hm := h.pm
  have hpl := h.ram.mem.plt
  have hbl := h.ram.mem.blt
  have hml := h.ram.mem.mlt
  obtain ⟨w1, hw1⟩ : ∃ w1, w1 = w.alloc (.cells #[.pointer (some ⟨s, 0, .none⟩)] 26) := ⟨_, rfl⟩
  obtain ⟨w2, hw2⟩ : ∃ w2, w2 = w1.alloc (.cells #[.slice (some ⟨g, k0, .none⟩) n cc] 24) := ⟨_, rfl⟩
  have z1 : w1.heap.size = w.heap.size + 1 := by rw [hw1]; simp
  have b1 : Below w.heap.size w w1 := by rw [hw1]; exact below1 _ _
  have b12 : Below w1.heap.size w1 w2 := by rw [hw2]; exact below1 _ _
  have b2 := b1.trans (b12.mono b1.size)
  have ks : w2.cell? ⟨w.heap.size, 0, .none⟩ = some (.pointer (some ⟨s, 0, .none⟩)) := (b12.cell (p := ⟨w.heap.size, 0, .none⟩) (by show w.heap.size < w1.heap.size; omega)).trans (by rw [hw1]; simp)
  have kb : w2.cell? ⟨w.heap.size + 1, 0, .none⟩ = some (.slice (some ⟨g, k0, .none⟩) n cc) := by rw [← z1, hw2]; simp
  have kf : w2.frozen? ⟨w.heap.size + 1, 0, .none⟩ = false := by rw [← z1, hw2]; exact World.frozen?_alloc_new _ _ _ _
  have c52 := each_poke (d1 := w.heap.size + 1) (d2 := w.heap.size) (w := w2) (s := s) (va : Int) n (by omega) (PuJ w s p b m N r P size B L F lf fr c g k0 cc (w.heap.size + 1) w.heap.size va n R) (fun _ => False) (fun k => ad (fr ((va + k) / 4096)) + ((va + k) % 4096 : Nat)) (fun _ => true) (fun _ => true)
    (fun k W hk hJ => by
      have hS := h.wr (W' := W) (va := va) (k := k) (R := R) (by omega) hJ.sp hJ.ram
      have hq := hS.pag ((va + k) / 4096) (by omega)
      have hq2 : Pag N L F lf ((va : Int) + k) (fr ((va + k) / 4096)) (c ((va + k) / 4096)) := by
        have h9 := hq.off (o := ((va + k) % 4096 : Nat)) (by omega) (by omega)
        rw [show (((va + k) / 4096 : Nat) : Int) * 4096 + (((va + k) % 4096 : Nat) : Int) = (va : Int) + k by omega] at h9
        exact h9
      have := kern_pt hS.sp hS.ram hS.pt hS.rt ((va : Int) + k) (by omega) hq2
      rw [show ((va : Int) + k) % 4096 = ((va + k) % 4096 : Nat) by omega] at this
      exact this.mono (fun e W' h9 => ⟨h9.1, hJ.below h9.2⟩)) (fun k W hk e => by cases e) (fun k W hk _ hJ => (hJ.piece h hk hf hcc hR hg hgp (by omega) (by omega) (Nat.le_refl _)).mono (fun e W' h9 => ⟨h9.1, fun _ => h9.2, fun e => by cases e⟩))
    ⟨Fra.below b2, h.sp.below b2, h.ram.below b2, ks, ⟨some ⟨g, k0, .none⟩, kb, fun _ => rfl⟩, kf⟩
  have HH : Hid (SpU w s p b m N r P size B L F lf fr c) := h
  clear h ks kf b1 b12 b2 z1 hg hR
  go_enter Tryz.func57, Tryz.ntmps57
  go_upto_region 1 with fail
  rw [← hw1, ← hw2]
  have ks : w2.cell? ⟨w.heap.size, 0, .none⟩ = some (.pointer (some ⟨s, 0, .none⟩)) := by rw [hw2, hw1]; simp
  clear hw1 hw2
  go_wp2_with fail
  refine c52.mono ?_
  rintro e9 w9 (⟨rfl, hJ⟩ | ⟨_, hJ⟩)
  · have HJ : Hid (WrP w s p b m N r P size B L F lf fr c va n R (.returned (.bool true)) w9) := ⟨rfl, HH.out.wr hf hJ.sp hJ.ram, hJ.fra⟩
    clear hJ
    go_wp2_with fail
    go_ret
    exact HJ.out
  · exact hJ.elim
set_option maxHeartbeats 1000000 in
theorem put_user (h : SpU w s p b m N r P size B L F lf fr c) (va n : Nat) (hn : 1 ≤ n) (hf : va + n ≤ P * 4096) (hacc : ∀ j, j < n → accU c 2 (va + j) = true) (u1 u2 : Nat) (e1 : w.cell? ⟨u1, 0, .none⟩ = some (.pointer (some ⟨s, 0, .none⟩))) (e2 : w.cell? ⟨u2, 0, .none⟩ = some (.int .i64 3)) (hu : u1 ≠ p ∧ u1 ≠ b ∧ u1 ≠ m ∧ u2 ≠ p ∧ u2 ≠ b ∧ u2 ≠ m) (g k0 cc : Nat) (hcc : n ≤ cc ∧ cc ≤ 9223372036854775807) (R : Nat → Int) (hR : ∀ i, 0 ≤ R i ∧ R i < 256) (hg : ∀ i, i < n → w.cell? ⟨g, k0 + i, .none⟩ = some (.int .u8 (R i))) (hgp : g ≠ p ∧ g ≠ b ∧ g ≠ m) :
    Calls Tryz.prog 57 #[.pointer (some ⟨s, 0, .none⟩), .int .u64 va, .slice (some ⟨g, k0, .none⟩) n cc, .func (.func 89) #[] #[.pointer (some ⟨u1, 0, .none⟩), .pointer (some ⟨u2, 0, .none⟩)]] w (WrP w s p b m N r P size B L F lf fr c va n R) := by
  have hm := h.pm
  have hpl := h.ram.mem.plt
  have hbl := h.ram.mem.blt
  have hml := h.ram.mem.mlt
  obtain ⟨w1, hw1⟩ : ∃ w1, w1 = w.alloc (.cells #[.pointer (some ⟨s, 0, .none⟩)] 26) := ⟨_, rfl⟩
  obtain ⟨w2, hw2⟩ : ∃ w2, w2 = w1.alloc (.cells #[.slice (some ⟨g, k0, .none⟩) n cc] 24) := ⟨_, rfl⟩
  have z1 : w1.heap.size = w.heap.size + 1 := by rw [hw1]; simp
  have b1 : Below w.heap.size w w1 := by rw [hw1]; exact below1 _ _
  have b12 : Below w1.heap.size w1 w2 := by rw [hw2]; exact below1 _ _
  have b2 := b1.trans (b12.mono b1.size)
  have ks : w2.cell? ⟨w.heap.size, 0, .none⟩ = some (.pointer (some ⟨s, 0, .none⟩)) := (b12.cell (p := ⟨w.heap.size, 0, .none⟩) (by show w.heap.size < w1.heap.size; omega)).trans (by rw [hw1]; simp)
  have kb : w2.cell? ⟨w.heap.size + 1, 0, .none⟩ = some (.slice (some ⟨g, k0, .none⟩) n cc) := by rw [← z1, hw2]; simp
  have kf : w2.frozen? ⟨w.heap.size + 1, 0, .none⟩ = false := by rw [← z1, hw2]; exact World.frozen?_alloc_new _ _ _ _
  have c52 := each_out (u1 := u1) (u2 := u2) (d1 := w.heap.size + 1) (d2 := w.heap.size) (w := w2) (s := s) (va : Int) n (by omega) (PuJ w s p b m N r P size B L F lf fr c g k0 cc (w.heap.size + 1) w.heap.size va n R) (fun _ => False) (fun k => ad (fr ((va + k) / 4096)) + ((va + k) % 4096 : Nat)) (fun _ => true) (fun _ => true)
    (fun k W hk hJ => by
      have hS := h.wr (W' := W) (va := va) (k := k) (R := R) (by omega) hJ.sp hJ.ram
      have := user_any hS.sp ((va + k : Nat) : Int) 3 _ _ ((hJ.fra.cell (x := ⟨u1, 0, .none⟩) (lt_of_cell e1) hu.1 hu.2.1 hu.2.2.1).trans e1) ((hJ.fra.cell (x := ⟨u2, 0, .none⟩) (lt_of_cell e2) hu.2.2.2.1 hu.2.2.2.2.1 hu.2.2.2.2.2).trans e2) (fun W2 b2 => (hS.below b2).tra (va + k) 2 (by omega) (by omega))
      rw [show ((va + k : Nat) : Int) = (va : Int) + k by omega, hacc k hk] at this
      exact this.mono (fun e W' h9 => ⟨h9.1, hJ.below h9.2⟩)) (fun k W hk e => by cases e) (fun k W hk _ hJ => (hJ.piece h hk hf hcc hR hg hgp (by omega) (by omega) (Nat.le_refl _)).mono (fun e W' h9 => ⟨h9.1, fun _ => h9.2, fun e => by cases e⟩))
    ⟨Fra.below b2, h.sp.below b2, h.ram.below b2, ks, ⟨some ⟨g, k0, .none⟩, kb, fun _ => rfl⟩, kf⟩
  have HH : Hid (SpU w s p b m N r P size B L F lf fr c) := h
  clear h ks kf b1 b12 b2 z1 hg hR
  go_enter Tryz.func57, Tryz.ntmps57
  go_upto_region 1 with fail
  rw [← hw1, ← hw2]
  have ks : w2.cell? ⟨w.heap.size, 0, .none⟩ = some (.pointer (some ⟨s, 0, .none⟩)) := by rw [hw2, hw1]; simp
  clear hw1 hw2
  go_wp2_with fail
  refine c52.mono ?_
  rintro e9 w9 (⟨rfl, hJ⟩ | ⟨_, hJ⟩)
  · have HJ : Hid (WrP w s p b m N r P size B L F lf fr c va n R (.returned (.bool true)) w9) := ⟨rfl, HH.out.wr hf hJ.sp hJ.ram, hJ.fra⟩
    clear hJ
    go_wp2_with fail
    go_ret
    exact HJ.out
  · exact hJ.elim
end
end Go.Proofs.YtblmkkhiojbcjaaGreat
namespace Go.Proofs.YtblmkkhiojbcjaaGreat
open Go Go.RowKit
set_option linter.unusedVariables false
set_option linter.unusedSimpArgs false
theorem fits_gen (va n en : Int) (hv : 0 ≤ va ∧ va < 18446744073709551616) (hn : 0 ≤ n ∧ n < 9223372036854775808) (he : 0 ≤ en ∧ en < 18446744073709551616) (w : World) : Calls Tryz.prog 50 #[.int .u64 va, .int .i64 n, .int .u64 en] w fun r w' => r = .returned (.bool (decide (va + n ≤ en))) ∧ w' = w := by
  by_cases h1 : va ≤ en
  · have h2 : IntKind.u64.wrap (en - va) = en - va := by rw [IntKind.wrap_u64]; omega
    have h3 : IntKind.u64.wrap n = n := by rw [IntKind.wrap_u64]; omega
    have h0 : (0 : Int) ≤ n := hn.1
    by_cases h4 : n ≤ en - va
    · have HD : Hid (decide (va + n ≤ en) = true) := decide_eq_true (by omega)
      go_enter Tryz.func50, Tryz.ntmps50
      go_wp2
      go_ret
      exact ⟨by rw [HD.out]; rfl, rfl⟩
    · have HD : Hid (decide (va + n ≤ en) = false) := decide_eq_false (by omega)
      go_enter Tryz.func50, Tryz.ntmps50
      go_wp2
      go_ret
      exact ⟨by rw [HD.out]; rfl, rfl⟩
  · have h0 : (0 : Int) ≤ n := hn.1
    have HD : Hid (decide (va + n ≤ en) = false) := decide_eq_false (by omega)
    go_enter Tryz.func50, Tryz.ntmps50
    go_wp2
    go_ret
    exact ⟨by rw [HD.out]; rfl, rfl⟩
section
variable {w : World} {s p b m N r P : Nat} {size : Int} {B : Nat → Int} {L : List Nat} {F : Nat → Option Nat} {lf : Nat → Nat → Int} {fr : Nat → Nat} {c : Nat → Int}
theorem yes_any (a n : Int) (W : World) : Calls Tryz.prog 56 #[.int .u64 a, .int .i64 n] W fun e w' => e = .returned (.bool true) ∧ w' = W := by
  go_enter Tryz.func56, Tryz.ntmps56
  go_wp2
  go_ret
  exact ⟨rfl, rfl⟩
/-- Where bytes may be written. -/
def canU (P : Nat) (c : Nat → Int) (va n : Nat) : Prop := va + n ≤ P * 4096 ∧ ∀ j, j < n → accU c 2 (va + j) = true
set_option maxHeartbeats 1000000 in
theorem can_any (h : SpU w s p b m N r P size B L F lf fr c) (va n : Nat) (hn : 1 ≤ n) (hvn : (va : Int) < 18446744073709551616 ∧ (n : Int) < 9223372036854775808) : Calls Tryz.prog 15 #[.pointer (some ⟨s, 0, .none⟩), .int .u64 va, .int .i64 n] w fun e w' => ∃ v : Bool, e = .returned (.bool v) ∧ (v = true ↔ canU P c va n) ∧ Below w.heap.size w w' := by
  have hm := h.pm
  have hsz := h.sz
  have c51 := end_any h.sp (by omega)
  rw [hsz.2] at c51
  have c50 := fits_gen (va : Int) n ((P : Int) * 4096) (by omega) (by omega) (by omega) w
  have hn0 : ((n : Int) == 0) = false := by rw [beq_eq_false_iff_ne]; omega
  by_cases hf : va + n ≤ P * 4096
  · rw [decide_eq_true (by omega)] at c50
    obtain ⟨w1, hw1⟩ : ∃ w1, w1 = (w.alloc (.cells #[.pointer (some ⟨s, 0, .none⟩)] 26)).alloc (.cells #[.int .i64 3] 90) := ⟨_, rfl⟩
    have b1 : Below w.heap.size w w1 := by rw [hw1]; exact ((Below.refl _ _).alloc (Nat.le_refl _) _).alloc (by simp) _
    have e1 : w1.cell? ⟨w.heap.size, 0, .none⟩ = some (.pointer (some ⟨s, 0, .none⟩)) := by rw [hw1]; simp
    have e2 : w1.cell? ⟨w.heap.size + 1, 0, .none⟩ = some (.int .i64 3) := by rw [hw1]; simp
    have c53 := forUser_any s 3 w
    rw [← hw1] at c53
    have c52 := each_can (w := w1) (s := s) (u1 := w.heap.size) (u2 := w.heap.size + 1) (va : Int) n (by omega) (fun k W => Below w1.heap.size w1 W ∧ ∀ j, j < k → accU c 2 (va + j) = true) (fun W => Below w1.heap.size w1 W ∧ ∃ j, j < n ∧ accU c 2 (va + j) = false) (fun k => if accU c 2 (va + k) then ad (fr ((va + k) / 4096)) + ((va + k) % 4096 : Nat) else 0) (fun k => accU c 2 (va + k)) (fun _ => true)
      (fun k W hk hJ => by
        have hS := (h.below b1).below hJ.1
        have := user_any hS.sp ((va + k : Nat) : Int) 3 _ _ ((hJ.1.cell (p := ⟨w.heap.size, 0, .none⟩) (lt_of_cell e1)).trans e1) ((hJ.1.cell (p := ⟨w.heap.size + 1, 0, .none⟩) (lt_of_cell e2)).trans e2) (fun W2 b2 => (hS.below b2).tra (va + k) 2 (by omega) (by omega))
        rw [show ((va + k : Nat) : Int) = (va : Int) + k by omega] at this
        exact this.mono (fun e W2 h2 => ⟨h2.1, hJ.1.trans (h2.2.mono hJ.1.size), hJ.2⟩))
      (fun k W hk hok hJ => ⟨hJ.1, k, hk, hok⟩)
      (fun k W hk hok hJ => (yes_any _ _ W).mono (fun e W2 h2 => ⟨h2.1, fun _ => by
        rw [h2.2]
        have hb := pce_b (va : Int) n k hk
        refine ⟨hJ.1, fun j hj => ?_⟩
        by_cases hjk : j < k
        · exact hJ.2 j hjk
        · have : (va + j) / 4096 = (va + k) / 4096 := by omega
          unfold accU at hok ⊢
          rw [this]
          exact hok, fun e => by cases e⟩))
      ⟨Below.refl _ _, fun j hj => by omega⟩
    have c52' := c52.mono (R' := fun e w' => ∃ v : Bool, e = .returned (.bool v) ∧ (v = true ↔ canU P c va n) ∧ Below w1.heap.size w1 w') (fun e w' h => by
      rcases h with ⟨h1, h2⟩ | ⟨h1, h2, j, hj, hx⟩
      · exact ⟨true, h1, ⟨fun _ => ⟨hf, h2.2⟩, fun _ => rfl⟩, h2.1⟩
      · exact ⟨false, h1, ⟨fun e => (by cases e), fun e => (by rw [e.2 j hj] at hx; cases hx)⟩, h2⟩)
    have HB : Hid (Below w.heap.size w w1) := b1
    clear c52 h e1 e2 b1 hw1
    go_enter Tryz.func15, Tryz.ntmps15
    go_wp2_with fail
    refine c51.mono ?_
    rintro _ x1 ⟨rfl, e9⟩
    obtain rfl : w = x1 := e9.symm
    clear e9 c51
    go_wp2_with fail
    refine c50.mono ?_
    rintro _ x1 ⟨rfl, e9⟩
    obtain rfl : w = x1 := e9.symm
    clear e9 c50
    go_wp2_with fail
    refine c53.mono ?_
    rintro _ x1 ⟨rfl, e9⟩
    obtain rfl : w1 = x1 := e9.symm
    clear e9 c53
    go_wp2_with fail
    refine c52'.mono ?_
    rintro _ x2 ⟨v, rfl, hv, b2⟩
    have HV : Hid ((v = true ↔ canU P c va n) ∧ Below w.heap.size w x2) := ⟨hv, HB.out.trans (b2.mono HB.out.size)⟩
    clear hv b2 c52'
    go_wp2_with fail
    go_ret
    exact ⟨v, rfl, HV.out⟩
  · rw [decide_eq_false (by omega)] at c50
    have HV : Hid (false = true ↔ canU P c va n) := ⟨fun e => (by cases e), fun e => absurd e.1 hf⟩
    clear h
    go_enter Tryz.func15, Tryz.ntmps15
    go_wp2_with fail
    refine c51.mono ?_
    rintro _ x1 ⟨rfl, e9⟩
    obtain rfl : w = x1 := e9.symm
    clear e9 c51
    go_wp2_with fail
    refine c50.mono ?_
    rintro _ x1 ⟨rfl, e9⟩
    obtain rfl : w = x1 := e9.symm
    clear e9 c50
    go_wp2_with fail
    go_ret
    exact ⟨false, rfl, HV.out, Below.refl _ _⟩
end
end Go.Proofs.YtblmkkhiojbcjaaGreat
