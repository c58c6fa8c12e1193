import Derived.Test.YtblmkkhiojbcjaaGreatEi
import Derived.Test.YtblmkkhiojbcjaaGreatYh
import Derived.Test.YtblmkkhiojbcjaaGreatEc
namespace Go.Proofs.YtblmkkhiojbcjaaGreat
open Go Go.RowKit
set_option linter.unusedVariables false
set_option linter.unusedSimpArgs false
section
variable {w : World} {s p b m N r P : Nat} {size : Int} {B : Nat → Int} {L : List Nat} {F : Nat → Option Nat} {lf : Nat → Nat → Int} {fr : Nat → Nat} {c : Nat → Int}
/-- What In comes to where the bytes end within the pages. -/
def InP (w : World) (va n : Nat) (B : Nat → Int) (fr : Nat → Nat) (c : Nat → Int) (e : Ending) (w' : World) : Prop :=
  Below w.heap.size w w' ∧ (((∀ j, j < n → accU c 1 (va + j) = true) ∧ ∃ g, w.heap.size ≤ g ∧ g < w'.heap.size ∧ e = .returned (.tuple #[.slice (some ⟨g, 0, .none⟩) n n, .bool true]) ∧ (∀ j, j < n → w'.cell? ⟨g, j, .none⟩ = some (.int .u8 (btU B fr (va + j))))) ∨
    ((∃ j, j < n ∧ accU c 1 (va + j) = false) ∧ e = .returned (.tuple #[.slice none 0 0, .bool false])))
theorem each_user {w0 w : World} {A d1 d2 u1 u2 va n : Nat} (h : SpU w0 s p b m N r P size B L F lf fr c) (hn : 1 ≤ n) (hf : va + n ≤ P * 4096) (hne : d2 ≠ A ∧ d1 ≠ A ∧ u1 ≠ A ∧ u2 ≠ A ∧ d1 ≠ d2 ∧ u1 ≠ d2 ∧ u2 ≠ d2) (hwA : w0.heap.size ≤ A ∧ w0.heap.size ≤ d2) (h0 : InJ w0 s A d1 d2 u1 u2 va n B fr c 0 w) :
    Calls Tryz.prog 52 #[.pointer (some ⟨s, 0, .none⟩), .int .u64 va, .int .i64 n, .func (.func 89) #[] #[.pointer (some ⟨u1, 0, .none⟩), .pointer (some ⟨u2, 0, .none⟩)], .func (.func 54) #[] #[.pointer (some ⟨d1, 0, .none⟩), .pointer (some ⟨d2, 0, .none⟩)]] w
      (EaP n (InJ w0 s A d1 d2 u1 u2 va n B fr c) (fun W => Below w0.heap.size w0 W ∧ ∃ j, j < n ∧ accU c 1 (va + j) = false)) := by
  have hm := h.pm
  have hAW : ∀ k W, InJ w0 s A d1 d2 u1 u2 va n B fr c k W → A < W.heap.size := fun k W hJ => by
    obtain ⟨v, hv⟩ := Option.isSome_iff_exists.1 (hJ.tl 0 hn).1
    exact lt_of_cell hv
  refine each_rd (va : Int) n (by omega) _ _ (fun k => if accU c 1 (va + k) then ad (fr ((va + k) / 4096)) + ((va + k) % 4096 : Nat) else 0) (fun k => accU c 1 (va + k)) (fun _ => true) (fun k W hk hJ => ?_) (fun k W hk hok hJ => ⟨hJ.bel, k, hk, hok⟩) (fun k W hk hok hJ => ?_) h0
  · have hS := h.below hJ.bel
    have := user_any hS.sp ((va + k : Nat) : Int) 2 _ _ hJ.e1 hJ.e2 (fun W2 b2 => (hS.below b2).tra (va + k) 1 (by omega) (by omega))
    rw [show ((va + k : Nat) : Int) = (va : Int) + k by omega] at this
    exact this.mono (fun e W2 h2 => ⟨h2.1, hJ.below h2.2 (hAW k W hJ)⟩)
  · have hS := h.below hJ.bel
    have hb := pce_b (va : Int) n k hk
    have hom : (((va : Int) + k) % 4096).toNat = (va + k) % 4096 := by omega
    rw [hom] at hb
    obtain ⟨q, hq1, hq2⟩ := hJ.c2
    have hq3 := hq2 hk
    subst hq3
    have hp := hS.pag ((va + k) / 4096) (by omega)
    simp only [hok, if_true]
    refine (in1_any hS.sp hS.ram (fr ((va + k) / 4096)) ((va + k) % 4096) (pce va n k) hp.qb hb.1 hb.2.2 d1 d2 A k (n - k) hJ.c1 hq1 hJ.f2 (by omega) (fun j hj => (hJ.tl (k + j) (by omega)).1) (fun j hj => (hJ.tl (k + j) (by omega)).2) hne.1).mono fun e W3 h3 => ?_
    obtain ⟨he, W2, q', b2, hw3, hq'⟩ := h3
    refine ⟨he, fun _ => ?_, fun e9 => by cases e9⟩
    rw [hw3]
    have hJ2 := hJ.below b2 (hAW k W hJ)
    have hpage : ∀ j, j < pce va n k → (va + (k + j)) / 4096 = (va + k) / 4096 ∧ (va + (k + j)) % 4096 = (va + k) % 4096 + j := fun j hj => by omega
    exact hJ2.step hne hwA (by omega) (fun j hj => by
      have := hok
      unfold accU at this ⊢
      rw [(hpage j hj).1]
      exact this) (fun j hj => by
      unfold pcB btU
      rw [List.getElem?_map, List.getElem?_range hj, (hpage j hj).1, (hpage j hj).2]
      simp only [Option.map_some]
      rw [show fr ((va + k) / 4096) * 4096 + (va + k) % 4096 + j = fr ((va + k) / 4096) * 4096 + ((va + k) % 4096 + j) by omega]) (fun hlt => hq' (by omega))
end
end Go.Proofs.YtblmkkhiojbcjaaGreat
namespace Go.Proofs.YtblmkkhiojbcjaaGreat
open Go Go.RowKit
set_option linter.unusedVariables false
set_option linter.unusedSimpArgs false
section
variable {w : World} {s p b m N r P : Nat} {size : Int} {B : Nat → Int} {L : List Nat} {F : Nat → Option Nat} {lf : Nat → Nat → Int} {fr : Nat → Nat} {c : Nat → Int}
set_option maxRecDepth 100000 in
set_option maxHeartbeats 2000000 in
theorem in_any (h : SpU w s p b m N r P size B L F lf fr c) (va n : Nat) (hn : 1 ≤ n) (hf : va + n ≤ P * 4096) : Calls Tryz.prog 13 #[.pointer (some ⟨s, 0, .none⟩), .int .u64 va, .int .i64 n] w (InP w va n B fr c) := by
  have hm := h.pm
  have hsz := h.sz
  obtain ⟨w1, hw1⟩ : ∃ w1, w1 = w.alloc (.cells #[.pointer (some ⟨s, 0, .none⟩)] 26) := ⟨_, rfl⟩
  obtain ⟨w2, hw2⟩ : ∃ w2, w2 = w1.alloc (.cells (Zs n) 5) := ⟨_, rfl⟩
  obtain ⟨w3, hw3⟩ : ∃ w3, w3 = w2.alloc (.cells #[.slice (some ⟨w1.heap.size, 0, .none⟩) n n] 24) := ⟨_, rfl⟩
  obtain ⟨w4, hw4⟩ : ∃ w4, w4 = (w3.drew.alloc (.cells #[.pointer (some ⟨s, 0, .none⟩)] 26)).alloc (.cells #[.int .i64 2] 90) := ⟨_, rfl⟩
  have b1 : Below w.heap.size w w1 := by rw [hw1]; exact below1 _ _
  have b2 : Below w1.heap.size w1 w2 := by rw [hw2]; exact below1 _ _
  have b3 : Below w2.heap.size w2 w3 := by rw [hw3]; exact below1 _ _
  have b4 : Below w3.heap.size w3 w4 := by rw [hw4]; exact ((Below.refl _ w3).drew.alloc (Nat.le_refl _) _).alloc (by simp) _
  have s1 : w1.heap.size = w.heap.size + 1 := by rw [hw1]; simp
  have s2 : w2.heap.size = w.heap.size + 2 := by rw [hw2]; simp [s1]
  have s3 : w3.heap.size = w.heap.size + 3 := by rw [hw3]; simp [s2]
  have s3d : w3.drew.heap.size = w.heap.size + 3 := s3
  have s4 : w4.heap.size = w.heap.size + 5 := by rw [hw4]; simp [s3d]
  have c51 := end_any (h.sp.below b1) (by omega)
  rw [hsz.2] at c51
  have c50 := fits_any (va : Int) n ((P : Int) * 4096) (by omega) (by omega) (by omega) (by omega) w1
  have hmk := make_bytes n (by omega) w1
  rw [← hw2] at hmk
  have q1 : w1.cell? ⟨w.heap.size, 0, .none⟩ = some (.pointer (some ⟨s, 0, .none⟩)) := by rw [hw1]; simp
  have q3 : w3.cell? ⟨w.heap.size, 0, .none⟩ = some (.pointer (some ⟨s, 0, .none⟩)) := (b3.cell (p := ⟨w.heap.size, 0, .none⟩) (by simp only; omega)).trans ((b2.cell (p := ⟨w.heap.size, 0, .none⟩) (by simp only; omega)).trans q1)
  have zA : ∀ j, j < n → w2.cell? ⟨w1.heap.size, j, .none⟩ = some (.int .u8 0) ∧ w2.frozen? ⟨w1.heap.size, j, .none⟩ = false := fun j hj => by
    rw [hw2]
    refine ⟨?_, World.frozen?_alloc_new _ _ _ _⟩
    rw [World.cell?_alloc_at _ _ _ _ rfl]
    exact Zs_at n j hj
  have h0 : InJ w s w1.heap.size w.heap.size w2.heap.size w3.heap.size (w3.heap.size + 1) va n B fr c 0 w4 := by
    have B4 : Below w.heap.size w w4 := ((b1.trans (b2.mono (by omega))).trans (b3.mono (by omega))).trans (b4.mono (by omega))
    refine ⟨B4, (b4.cell (p := ⟨w.heap.size, 0, .none⟩) (by simp only; omega)).trans q3, ?_, ?_, ⟨some ⟨w1.heap.size, 0, .none⟩, ?_, fun _ => rfl⟩, ?_, fun j hj => by omega, fun j hj => ?_, fun j hj => by omega⟩
    · rw [hw4]
      exact (fun wd : World => (by simp : ((wd.alloc (.cells #[.pointer (some ⟨s, 0, .none⟩)] 26)).alloc (.cells #[.int .i64 2] 90)).cell? ⟨wd.heap.size, 0, .none⟩ = some (.pointer (some ⟨s, 0, .none⟩)))) w3.drew
    · rw [hw4]
      exact (fun wd : World => (by simp : ((wd.alloc (.cells #[.pointer (some ⟨s, 0, .none⟩)] 26)).alloc (.cells #[.int .i64 2] 90)).cell? ⟨wd.heap.size + 1, 0, .none⟩ = some (.int .i64 2))) w3.drew
    · rw [b4.cell (p := ⟨w2.heap.size, 0, .none⟩) (by simp only; omega), hw3]; simp
    · rw [b4.frozen (p := ⟨w2.heap.size, 0, .none⟩) (by simp only; omega), hw3]; exact World.frozen?_alloc_new _ _ _ _
    · rw [b4.cell (p := ⟨w1.heap.size, j, .none⟩) (by simp only; omega), b3.cell (p := ⟨w1.heap.size, j, .none⟩) (by simp only; omega), b4.frozen (p := ⟨w1.heap.size, j, .none⟩) (by simp only; omega), b3.frozen (p := ⟨w1.heap.size, j, .none⟩) (by simp only; omega), (zA j hj).1]
      exact ⟨rfl, (zA j hj).2⟩
  have c52 := each_user h hn hf ⟨by omega, by omega, by omega, by omega, by omega, by omega, by omega⟩ ⟨by omega, by omega⟩ h0
  have c52' := c52.mono (R' := fun e w' => ∃ v : Bool, e = .returned (.bool v) ∧ ((v = true ∧ InJ w s w1.heap.size w.heap.size w2.heap.size w3.heap.size (w3.heap.size + 1) va n B fr c n w') ∨ (v = false ∧ Below w.heap.size w w' ∧ ∃ j, j < n ∧ accU c 1 (va + j) = false))) (fun e w' h => by
    rcases h with ⟨h1, h2⟩ | ⟨h1, h2⟩
    · exact ⟨true, h1, .inl ⟨rfl, h2⟩⟩
    · exact ⟨false, h1, .inr ⟨rfl, h2⟩⟩)
  clear c52
  have c53 := forUser_any s 2 w3.drew
  rw [← hw4] at c53
  have hn0 : ¬ (n : Int) = 0 := by omega
  have HS : Hid (w1.heap.size = w.heap.size + 1 ∧ w2.heap.size = w.heap.size + 2 ∧ w3.heap.size = w.heap.size + 3) := ⟨s1, s2, s3⟩
  have HW : Hid (w3 = w2.alloc (.cells #[.slice (some ⟨w1.heap.size, 0, .none⟩) n n] 24)) := hw3
  have q3' : w3.drew.cell? ⟨w.heap.size, 0, .none⟩ = some (.pointer (some ⟨s, 0, .none⟩)) := q3
  have q4 : w4.cell? ⟨w.heap.size, 0, .none⟩ = some (.pointer (some ⟨s, 0, .none⟩)) := h0.c1
  have hg := h0.bel
  clear h h0 zA b1 b2 b3 b4 s1 s2 s3 s3d s4 hw2 hw3 hw4
  go_enter Tryz.func13, Tryz.ntmps13
  go_wp2_with fail
  rw [← hw1]
  clear hw1
  refine c51.mono ?_
  rintro _ x1 ⟨rfl, e1⟩
  obtain rfl : w1 = x1 := e1.symm
  clear e1 c51
  go_wp2_with fail
  refine c50.mono ?_
  rintro _ x1 ⟨rfl, e1⟩
  obtain rfl : w1 = x1 := e1.symm
  clear e1 c50
  have hb1 : ((n : Int) == 0) = false := by simpa using hn0
  go_wp2_with fail
  rw [← HW.out]
  go_region_with (first | (go_at_call 53; refine c53.mono ?_; rintro _ x4 ⟨rfl, e4⟩; obtain rfl : w4 = x4 := e4.symm; clear e4) | (go_at_call 52; refine c52'.mono ?_; rintro _ w9 ⟨v9, rfl, h9⟩; have H9 : Hid ((v9 = true ∧ InJ w s w1.heap.size w.heap.size w2.heap.size w3.heap.size (w3.heap.size + 1) va n B fr c n w9) ∨ (v9 = false ∧ Below w.heap.size w w9 ∧ ∃ j, j < n ∧ accU c 1 (va + j) = false)) := h9; clear h9))
  all_goals
    rcases H9.out with ⟨rfl, hJ⟩ | ⟨rfl, hb, hx⟩
    · have hA : w1.heap.size < w9.heap.size := lt_of_cell (hJ.dn 0 (by omega))
      have HP : Hid (InP w va n B fr c (.returned (.tuple #[.slice (some ⟨w1.heap.size, 0, .none⟩) n n, .bool true])) w9) := ⟨hJ.bel, .inl ⟨hJ.ok, w1.heap.size, by have := HS.out.1; omega, hA, rfl, hJ.dn⟩⟩
      clear hJ H9
      go_wp2_with fail
      refine bodyPost_ret (v := .tuple #[.slice (some ⟨w1.heap.size, 0, .none⟩) n n, .bool true]) (by simp [results, Tryz.results13, go_sem]) rfl HP.out
    · have HP : Hid (InP w va n B fr c (.returned (.tuple #[.slice none 0 0, .bool false])) w9) := ⟨hb, .inr ⟨hx, rfl⟩⟩
      clear hb hx H9
      go_wp2_with fail
      refine bodyPost_ret (v := .tuple #[.slice none 0 0, .bool false]) (by simp [results, Tryz.results13, go_sem]) rfl HP.out
end
end Go.Proofs.YtblmkkhiojbcjaaGreat
namespace Go.Proofs.YtblmkkhiojbcjaaGreat
open Go Go.RowKit
set_option linter.unusedVariables false
set_option linter.unusedSimpArgs false
section
variable {w : World} {s p b m N r P : Nat} {size : Int} {B : Nat → Int} {L : List Nat} {F : Nat → Option Nat} {lf : Nat → Nat → Int} {fr : Nat → Nat} {c : Nat → Int}
theorem y1_off (va o : Int) (hv : 0 ≤ va ∧ va < 274877906944 ∧ va % 4096 = 0) (ho : 0 ≤ o ∧ o < 4096) : y1 (va + o) = y1 va := by
  unfold y1 i2
  rw [show ix (va + o) 2 = ix va 2 by unfold ix; rw [show spn 2 = 1073741824 from rfl]; omega]
theorem Pag.off {va o : Int} {q : Nat} {x : Int} (h : Pag N L F lf va q x) (hv : 0 ≤ va ∧ va < 274877906944 ∧ va % 4096 = 0) (ho : 0 ≤ o ∧ o < 4096) : Pag N L F lf (va + o) q x := by
  have e1 := y1_off va o hv ho
  have e2 := y_off va o hv ho
  exact ⟨by rw [e1]; exact h.w1, by rw [e2.1]; exact h.w0, by rw [e2.1, e2.2]; exact h.l, h.k, h.cb, h.qb, h.nn⟩
/-- What bytes that are written come to. -/
def WrP (w : World) (s p b m N r P : Nat) (size : Int) (B : Nat → Int) (L : List Nat) (F : Nat → Option Nat) (lf : Nat → Nat → Int) (fr : Nat → Nat) (c : Nat → Int) (va n : Nat) (R : Nat → Int) (e : Ending) (w' : World) : Prop := e = .returned (.bool true) ∧ SpU w' s p b m N r P size (wrU B fr va R n) L F lf fr c ∧ Fra p b m w w'
set_option maxHeartbeats 1000000 in
theorem put_kern (h : SpU w s p b m N r P size B L F lf fr c) (va n : Nat) (hn : 1 ≤ n) (hf : va + n ≤ P * 4096) (g k0 cc : Nat) (hcc : n ≤ cc ∧ cc ≤ 9223372036854775807) (R : Nat → Int) (hR : ∀ i, 0 ≤ R i ∧ R i < 256) (hg : ∀ i, i < n → w.cell? ⟨g, k0 + i, .none⟩ = some (.int .u8 (R i))) (hgp : g ≠ p ∧ g ≠ b ∧ g ≠ m) :
    Calls Tryz.prog 57 #[.pointer (some ⟨s, 0, .none⟩), .int .u64 va, .slice (some ⟨g, k0, .none⟩) n cc, .func (.func 58) #[.pointer (some ⟨s, 0, .none⟩)] #[]] w (WrP w s p b m N r P size B L F lf fr c va n R) := by
  have hm := h.pm
  have hpl := h.ram.mem.plt
  have hbl := h.ram.mem.blt
  have hml := h.ram.mem.mlt
  obtain ⟨w1, hw1⟩ : ∃ w1, w1 = w.alloc (.cells #[.pointer (some ⟨s, 0, .none⟩)] 26) := ⟨_, rfl⟩
  obtain ⟨w2, hw2⟩ : ∃ w2, w2 = w1.alloc (.cells #[.slice (some ⟨g, k0, .none⟩) n cc] 24) := ⟨_, rfl⟩
  have z1 : w1.heap.size = w.heap.size + 1 := by rw [hw1]; simp
  have b1 : Below w.heap.size w w1 := by rw [hw1]; exact below1 _ _
  have b12 : Below w1.heap.size w1 w2 := by rw [hw2]; exact below1 _ _
  have b2 := b1.trans (b12.mono b1.size)
  have ks : w2.cell? ⟨w.heap.size, 0, .none⟩ = some (.pointer (some ⟨s, 0, .none⟩)) := (b12.cell (p := ⟨w.heap.size, 0, .none⟩) (by show w.heap.size < w1.heap.size; omega)).trans (by rw [hw1]; simp)
  have kb : w2.cell? ⟨w.heap.size + 1, 0, .none⟩ = some (.slice (some ⟨g, k0, .none⟩) n cc) := by rw [← z1, hw2]; simp
  have kf : w2.frozen? ⟨w.heap.size + 1, 0, .none⟩ = false := by rw [← z1, hw2]; exact World.frozen?_alloc_new _ _ _ _
  have c52 := each_poke (d1 := w.heap.size + 1) (d2 := w.heap.size) (w := w2) (s := s) (va : Int) n (by omega) (PuJ w s p b m N r P size B L F lf fr c g k0 cc (w.heap.size + 1) w.heap.size va n R) (fun _ => False) (fun k => ad (fr ((va + k) / 4096)) + ((va + k) % 4096 : Nat)) (fun _ => true) (fun _ => true)
    (fun k W hk hJ => by
      have hS := h.wr (W' := W) (va := va) (k := k) (R := R) (by omega) hJ.sp hJ.ram
      have hq := hS.pag ((va + k) / 4096) (by omega)
      have hq2 : Pag N L F lf ((va : Int) + k) (fr ((va + k) / 4096)) (c ((va + k) / 4096)) := by
        have h9 := hq.off (o := ((va + k) % 4096 : Nat)) (by omega) (by omega)
        rw [show (((va + k) / 4096 : Nat) : Int) * 4096 + (((va + k) % 4096 : Nat) : Int) = (va : Int) + k by omega] at h9
        exact h9
      have := kern_pt hS.sp hS.ram hS.pt hS.rt ((va : Int) + k) (by omega) hq2
      rw [show ((va : Int) + k) % 4096 = ((va + k) % 4096 : Nat) by omega] at this
      exact this.mono (fun e W' h9 => ⟨h9.1, hJ.below h9.2⟩)) (fun k W hk e => by cases e) (fun k W hk _ hJ => (hJ.piece h hk hf hcc hR hg hgp (by omega) (by omega) (Nat.le_refl _)).mono (fun e W' h9 => ⟨h9.1, fun _ => h9.2, fun e => by cases e⟩))
    ⟨Fra.below b2, h.sp.below b2, h.ram.below b2, ks, ⟨some ⟨g, k0, .none⟩, kb, fun _ => rfl⟩, kf⟩
  have HH : Hid (SpU w s p b m N r P size B L F lf fr c) := h
  clear h ks kf b1 b12 b2 z1 hg hR
  go_enter Tryz.func57, Tryz.ntmps57
  go_upto_region 1 with fail
  rw [← hw1, ← hw2]
  have ks : w2.cell? ⟨w.heap.size, 0, .none⟩ = some (.pointer (some ⟨s, 0, .none⟩)) := by rw [hw2, hw1]; simp
  clear hw1 hw2
  go_wp2_with fail
  refine c52.mono ?_
  rintro e9 w9 (⟨rfl, hJ⟩ | ⟨_, hJ⟩)
  · have HJ : Hid (WrP w s p b m N r P size B L F lf fr c va n R (.returned (.bool true)) w9) := ⟨rfl, HH.out.wr hf hJ.sp hJ.ram, hJ.fra⟩
    clear hJ
    go_wp2_with fail
    go_ret
    exact HJ.out
  · exact hJ.elim
set_option maxHeartbeats 1000000 in
theorem put_user (h : SpU w s p b m N r P size B L F lf fr c) (va n : Nat) (hn : 1 ≤ n) (hf : va + n ≤ P * 4096) (hacc : ∀ j, j < n → accU c 2 (va + j) = true) (u1 u2 : Nat) (e1 : w.cell? ⟨u1, 0, .none⟩ = some (.pointer (some ⟨s, 0, .none⟩))) (e2 : w.cell? ⟨u2, 0, .none⟩ = some (.int .i64 3)) (hu : u1 ≠ p ∧ u1 ≠ b ∧ u1 ≠ m ∧ u2 ≠ p ∧ u2 ≠ b ∧ u2 ≠ m) (g k0 cc : Nat) (hcc : n ≤ cc ∧ cc ≤ 9223372036854775807) (R : Nat → Int) (hR : ∀ i, 0 ≤ R i ∧ R i < 256) (hg : ∀ i, i < n → w.cell? ⟨g, k0 + i, .none⟩ = some (.int .u8 (R i))) (hgp : g ≠ p ∧ g ≠ b ∧ g ≠ m) :
    Calls Tryz.prog 57 #[.pointer (some ⟨s, 0, .none⟩), .int .u64 va, .slice (some ⟨g, k0, .none⟩) n cc, .func (.func 89) #[] #[.pointer (some ⟨u1, 0, .none⟩), .pointer (some ⟨u2, 0, .none⟩)]] w (WrP w s p b m N r P size B L F lf fr c va n R) := by
  have hm := h.pm
  have hpl := h.ram.mem.plt
  have hbl := h.ram.mem.blt
  have hml := h.ram.mem.mlt
  obtain ⟨w1, hw1⟩ : ∃ w1, w1 = w.alloc (.cells #[.pointer (some ⟨s, 0, .none⟩)] 26) := ⟨_, rfl⟩
  obtain ⟨w2, hw2⟩ : ∃ w2, w2 = w1.alloc (.cells #[.slice (some ⟨g, k0, .none⟩) n cc] 24) := ⟨_, rfl⟩
  have z1 : w1.heap.size = w.heap.size + 1 := by rw [hw1]; simp
  have b1 : Below w.heap.size w w1 := by rw [hw1]; exact below1 _ _
  have b12 : Below w1.heap.size w1 w2 := by rw [hw2]; exact below1 _ _
  have b2 := b1.trans (b12.mono b1.size)
  have ks : w2.cell? ⟨w.heap.size, 0, .none⟩ = some (.pointer (some ⟨s, 0, .none⟩)) := (b12.cell (p := ⟨w.heap.size, 0, .none⟩) (by show w.heap.size < w1.heap.size; omega)).trans (by rw [hw1]; simp)
  have kb : w2.cell? ⟨w.heap.size + 1, 0, .none⟩ = some (.slice (some ⟨g, k0, .none⟩) n cc) := by rw [← z1, hw2]; simp
  have kf : w2.frozen? ⟨w.heap.size + 1, 0, .none⟩ = false := by rw [← z1, hw2]; exact World.frozen?_alloc_new _ _ _ _
  have c52 := each_out (u1 := u1) (u2 := u2) (d1 := w.heap.size + 1) (d2 := w.heap.size) (w := w2) (s := s) (va : Int) n (by omega) (PuJ w s p b m N r P size B L F lf fr c g k0 cc (w.heap.size + 1) w.heap.size va n R) (fun _ => False) (fun k => ad (fr ((va + k) / 4096)) + ((va + k) % 4096 : Nat)) (fun _ => true) (fun _ => true)
    (fun k W hk hJ => by
      have hS := h.wr (W' := W) (va := va) (k := k) (R := R) (by omega) hJ.sp hJ.ram
      have := user_any hS.sp ((va + k : Nat) : Int) 3 _ _ ((hJ.fra.cell (x := ⟨u1, 0, .none⟩) (lt_of_cell e1) hu.1 hu.2.1 hu.2.2.1).trans e1) ((hJ.fra.cell (x := ⟨u2, 0, .none⟩) (lt_of_cell e2) hu.2.2.2.1 hu.2.2.2.2.1 hu.2.2.2.2.2).trans e2) (fun W2 b2 => (hS.below b2).tra (va + k) 2 (by omega) (by omega))
      rw [show ((va + k : Nat) : Int) = (va : Int) + k by omega, hacc k hk] at this
      exact this.mono (fun e W' h9 => ⟨h9.1, hJ.below h9.2⟩)) (fun k W hk e => by cases e) (fun k W hk _ hJ => (hJ.piece h hk hf hcc hR hg hgp (by omega) (by omega) (Nat.le_refl _)).mono (fun e W' h9 => ⟨h9.1, fun _ => h9.2, fun e => by cases e⟩))
    ⟨Fra.below b2, h.sp.below b2, h.ram.below b2, ks, ⟨some ⟨g, k0, .none⟩, kb, fun _ => rfl⟩, kf⟩
  have HH : Hid (SpU w s p b m N r P size B L F lf fr c) := h
  clear h ks kf b1 b12 b2 z1 hg hR
  go_enter Tryz.func57, Tryz.ntmps57
  go_upto_region 1 with fail
  rw [← hw1, ← hw2]
  have ks : w2.cell? ⟨w.heap.size, 0, .none⟩ = some (.pointer (some ⟨s, 0, .none⟩)) := by rw [hw2, hw1]; simp
  clear hw1 hw2
  go_wp2_with fail
  refine c52.mono ?_
  rintro e9 w9 (⟨rfl, hJ⟩ | ⟨_, hJ⟩)
  · have HJ : Hid (WrP w s p b m N r P size B L F lf fr c va n R (.returned (.bool true)) w9) := ⟨rfl, HH.out.wr hf hJ.sp hJ.ram, hJ.fra⟩
    clear hJ
    go_wp2_with fail
    go_ret
    exact HJ.out
  · exact hJ.elim
end
end Go.Proofs.YtblmkkhiojbcjaaGreat
namespace Go.Proofs.YtblmkkhiojbcjaaGreat
open Go Go.RowKit
set_option linter.unusedVariables false
set_option linter.unusedSimpArgs false
theorem fits_gen (va n en : Int) (hv : 0 ≤ va ∧ va < 18446744073709551616) (hn : 0 ≤ n ∧ n < 9223372036854775808) (he : 0 ≤ en ∧ en < 18446744073709551616) (w : World) : Calls Tryz.prog 50 #[.int .u64 va, .int .i64 n, .int .u64 en] w fun r w' => r = .returned (.bool (decide (va + n ≤ en))) ∧ w' = w := by
  by_cases h1 : va ≤ en
  · have h2 : IntKind.u64.wrap (en - va) = en - va := by rw [IntKind.wrap_u64]; omega
    have h3 : IntKind.u64.wrap n = n := by rw [IntKind.wrap_u64]; omega
    have h0 : (0 : Int) ≤ n := hn.1
    by_cases h4 : n ≤ en - va
    · have HD : Hid (decide (va + n ≤ en) = true) := decide_eq_true (by omega)
      go_enter Tryz.func50, Tryz.ntmps50
      go_wp2
      go_ret
      exact ⟨by rw [HD.out]; rfl, rfl⟩
    · have HD : Hid (decide (va + n ≤ en) = false) := decide_eq_false (by omega)
      go_enter Tryz.func50, Tryz.ntmps50
      go_wp2
      go_ret
      exact ⟨by rw [HD.out]; rfl, rfl⟩
  · have h0 : (0 : Int) ≤ n := hn.1
    have HD : Hid (decide (va + n ≤ en) = false) := decide_eq_false (by omega)
    go_enter Tryz.func50, Tryz.ntmps50
    go_wp2
    go_ret
    exact ⟨by rw [HD.out]; rfl, rfl⟩
section
variable {w : World} {s p b m N r P : Nat} {size : Int} {B : Nat → Int} {L : List Nat} {F : Nat → Option Nat} {lf : Nat → Nat → Int} {fr : Nat → Nat} {c : Nat → Int}
theorem yes_any (a n : Int) (W : World) : Calls Tryz.prog 56 #[.int .u64 a, .int .i64 n] W fun e w' => e = .returned (.bool true) ∧ w' = W := by
  go_enter Tryz.func56, Tryz.ntmps56
  go_wp2
  go_ret
  exact ⟨rfl, rfl⟩
/-- Where bytes may be written. -/
def canU (P : Nat) (c : Nat → Int) (va n : Nat) : Prop := va + n ≤ P * 4096 ∧ ∀ j, j < n → accU c 2 (va + j) = true
set_option maxHeartbeats 1000000 in
theorem can_any (h : SpU w s p b m N r P size B L F lf fr c) (va n : Nat) (hn : 1 ≤ n) (hvn : (va : Int) < 18446744073709551616 ∧ (n : Int) < 9223372036854775808) : Calls Tryz.prog 15 #[.pointer (some ⟨s, 0, .none⟩), .int .u64 va, .int .i64 n] w fun e w' => ∃ v : Bool, e = .returned (.bool v) ∧ (v = true ↔ canU P c va n) ∧ Below w.heap.size w w' := by
  have hm := h.pm
  have hsz := h.sz
  have c51 := end_any h.sp (by omega)
  rw [hsz.2] at c51
  have c50 := fits_gen (va : Int) n ((P : Int) * 4096) (by omega) (by omega) (by omega) w
  have hn0 : ((n : Int) == 0) = false := by rw [beq_eq_false_iff_ne]; omega
  by_cases hf : va + n ≤ P * 4096
  · rw [decide_eq_true (by omega)] at c50
    obtain ⟨w1, hw1⟩ : ∃ w1, w1 = (w.alloc (.cells #[.pointer (some ⟨s, 0, .none⟩)] 26)).alloc (.cells #[.int .i64 3] 90) := ⟨_, rfl⟩
    have b1 : Below w.heap.size w w1 := by rw [hw1]; exact ((Below.refl _ _).alloc (Nat.le_refl _) _).alloc (by simp) _
    have e1 : w1.cell? ⟨w.heap.size, 0, .none⟩ = some (.pointer (some ⟨s, 0, .none⟩)) := by rw [hw1]; simp
    have e2 : w1.cell? ⟨w.heap.size + 1, 0, .none⟩ = some (.int .i64 3) := by rw [hw1]; simp
    have c53 := forUser_any s 3 w
    rw [← hw1] at c53
    have c52 := each_can (w := w1) (s := s) (u1 := w.heap.size) (u2 := w.heap.size + 1) (va : Int) n (by omega) (fun k W => Below w1.heap.size w1 W ∧ ∀ j, j < k → accU c 2 (va + j) = true) (fun W => Below w1.heap.size w1 W ∧ ∃ j, j < n ∧ accU c 2 (va + j) = false) (fun k => if accU c 2 (va + k) then ad (fr ((va + k) / 4096)) + ((va + k) % 4096 : Nat) else 0) (fun k => accU c 2 (va + k)) (fun _ => true)
      (fun k W hk hJ => by
        have hS := (h.below b1).below hJ.1
        have := user_any hS.sp ((va + k : Nat) : Int) 3 _ _ ((hJ.1.cell (p := ⟨w.heap.size, 0, .none⟩) (lt_of_cell e1)).trans e1) ((hJ.1.cell (p := ⟨w.heap.size + 1, 0, .none⟩) (lt_of_cell e2)).trans e2) (fun W2 b2 => (hS.below b2).tra (va + k) 2 (by omega) (by omega))
        rw [show ((va + k : Nat) : Int) = (va : Int) + k by omega] at this
        exact this.mono (fun e W2 h2 => ⟨h2.1, hJ.1.trans (h2.2.mono hJ.1.size), hJ.2⟩))
      (fun k W hk hok hJ => ⟨hJ.1, k, hk, hok⟩)
      (fun k W hk hok hJ => (yes_any _ _ W).mono (fun e W2 h2 => ⟨h2.1, fun _ => by
        rw [h2.2]
        have hb := pce_b (va : Int) n k hk
        refine ⟨hJ.1, fun j hj => ?_⟩
        by_cases hjk : j < k
        · exact hJ.2 j hjk
        · have : (va + j) / 4096 = (va + k) / 4096 := by omega
          unfold accU at hok ⊢
          rw [this]
          exact hok, fun e => by cases e⟩))
      ⟨Below.refl _ _, fun j hj => by omega⟩
    have c52' := c52.mono (R' := fun e w' => ∃ v : Bool, e = .returned (.bool v) ∧ (v = true ↔ canU P c va n) ∧ Below w1.heap.size w1 w') (fun e w' h => by
      rcases h with ⟨h1, h2⟩ | ⟨h1, h2, j, hj, hx⟩
      · exact ⟨true, h1, ⟨fun _ => ⟨hf, h2.2⟩, fun _ => rfl⟩, h2.1⟩
      · exact ⟨false, h1, ⟨fun e => (by cases e), fun e => (by rw [e.2 j hj] at hx; cases hx)⟩, h2⟩)
    have HB : Hid (Below w.heap.size w w1) := b1
    clear c52 h e1 e2 b1 hw1
    go_enter Tryz.func15, Tryz.ntmps15
    go_wp2_with fail
    refine c51.mono ?_
    rintro _ x1 ⟨rfl, e9⟩
    obtain rfl : w = x1 := e9.symm
    clear e9 c51
    go_wp2_with fail
    refine c50.mono ?_
    rintro _ x1 ⟨rfl, e9⟩
    obtain rfl : w = x1 := e9.symm
    clear e9 c50
    go_wp2_with fail
    refine c53.mono ?_
    rintro _ x1 ⟨rfl, e9⟩
    obtain rfl : w1 = x1 := e9.symm
    clear e9 c53
    go_wp2_with fail
    refine c52'.mono ?_
    rintro _ x2 ⟨v, rfl, hv, b2⟩
    have HV : Hid ((v = true ↔ canU P c va n) ∧ Below w.heap.size w x2) := ⟨hv, HB.out.trans (b2.mono HB.out.size)⟩
    clear hv b2 c52'
    go_wp2_with fail
    go_ret
    exact ⟨v, rfl, HV.out⟩
  · rw [decide_eq_false (by omega)] at c50
    have HV : Hid (false = true ↔ canU P c va n) := ⟨fun e => (by cases e), fun e => absurd e.1 hf⟩
    clear h
    go_enter Tryz.func15, Tryz.ntmps15
    go_wp2_with fail
    refine c51.mono ?_
    rintro _ x1 ⟨rfl, e9⟩
    obtain rfl : w = x1 := e9.symm
    clear e9 c51
    go_wp2_with fail
    refine c50.mono ?_
    rintro _ x1 ⟨rfl, e9⟩
    obtain rfl : w = x1 := e9.symm
    clear e9 c50
    go_wp2_with fail
    go_ret
    exact ⟨false, rfl, HV.out, Below.refl _ _⟩
end
end Go.Proofs.YtblmkkhiojbcjaaGreat
namespace Go.Proofs.YtblmkkhiojbcjaaGreat
open Go Go.RowKit
set_option linter.unusedVariables false
set_option linter.unusedSimpArgs false
section
variable {w : World} {s p b m N r P : Nat} {size : Int} {B : Nat → Int} {L : List Nat} {F : Nat → Option Nat} {lf : Nat → Nat → Int} {fr : Nat → Nat} {c : Nat → Int}
theorem WrP.from {w1 : World} {va n : Nat} {R : Nat → Int} {e : Ending} {w' : World} (h : WrP w1 s p b m N r P size B L F lf fr c va n R e w') (k : Below w.heap.size w w1) : WrP w s p b m N r P size B L F lf fr c va n R e w' :=
  ⟨h.1, h.2.1, (Fra.below k).trans h.2.2⟩
set_option maxHeartbeats 1000000 in
/-- Out of one byte or more. -/
theorem out_any (h : SpU w s p b m N r P size B L F lf fr c) (va n : Nat) (hn : 1 ≤ n) (hvn : (va : Int) < 18446744073709551616 ∧ (n : Int) < 9223372036854775808) (g k0 cc : Nat) (hcc : n ≤ cc ∧ cc ≤ 9223372036854775807) (R : Nat → Int) (hR : ∀ i, 0 ≤ R i ∧ R i < 256) (hg : ∀ i, i < n → w.cell? ⟨g, k0 + i, .none⟩ = some (.int .u8 (R i))) (hgp : g ≠ p ∧ g ≠ b ∧ g ≠ m) :
    Calls Tryz.prog 16 #[.pointer (some ⟨s, 0, .none⟩), .int .u64 va, .slice (some ⟨g, k0, .none⟩) n cc] w fun e w' => (canU P c va n ∧ WrP w s p b m N r P size B L F lf fr c va n R e w') ∨ (¬ canU P c va n ∧ e = .returned (.bool false) ∧ Below w.heap.size w w') := by
  have c15 := can_any h va n hn hvn
  have hpl := h.ram.mem.plt
  have hbl := h.ram.mem.blt
  have hml := h.ram.mem.mlt
  have HP : Hid (canU P c va n → ∀ x1, Below w.heap.size w x1 → Calls Tryz.prog 57 #[.pointer (some ⟨s, 0, .none⟩), .int .u64 va, .slice (some ⟨g, k0, .none⟩) n cc, .func (.func 89) #[] #[.pointer (some ⟨x1.heap.size, 0, .none⟩), .pointer (some ⟨x1.heap.size + 1, 0, .none⟩)]] ((x1.alloc (.cells #[.pointer (some ⟨s, 0, .none⟩)] 26)).alloc (.cells #[.int .i64 3] 90)) (WrP w s p b m N r P size B L F lf fr c va n R)) := fun hc x1 b1 => by
    have hs := b1.size
    have b2 : Below x1.heap.size x1 ((x1.alloc (.cells #[.pointer (some ⟨s, 0, .none⟩)] 26)).alloc (.cells #[.int .i64 3] 90)) := ((Below.refl _ _).alloc (Nat.le_refl _) _).alloc (by simp) _
    have b3 := b1.trans (b2.mono hs)
    exact (put_user (h.below b3) va n hn hc.1 hc.2 x1.heap.size (x1.heap.size + 1) (by simp) (by simp) ⟨by omega, by omega, by omega, by omega, by omega, by omega⟩ g k0 cc hcc R hR (fun i hi => (b3.cell (p := ⟨g, k0 + i, .none⟩) (lt_of_cell (hg i hi))).trans (hg i hi)) hgp).mono (fun e w' h9 => h9.from b3)
  clear h hg hR
  go_enter Tryz.func16, Tryz.ntmps16
  go_wp2_with fail
  refine c15.mono ?_
  rintro _ x1 ⟨v, rfl, hv, b1⟩
  clear c15
  cases v
  · have HV : Hid (¬ canU P c va n ∧ Below w.heap.size w x1) := ⟨fun e => (by have := hv.2 e; cases this), b1⟩
    clear hv b1
    go_wp2_with fail
    go_ret
    exact .inr ⟨HV.out.1, rfl, HV.out.2⟩
  · have hc : canU P c va n := hv.1 rfl
    have c57 := HP.out hc x1 b1
    have c53 := forUser_any s 3 x1
    obtain ⟨x2, hx2⟩ : ∃ x2, x2 = (x1.alloc (.cells #[.pointer (some ⟨s, 0, .none⟩)] 26)).alloc (.cells #[.int .i64 3] 90) := ⟨_, rfl⟩
    rw [← hx2] at c57 c53
    have HC : Hid (canU P c va n) := hc
    clear hc hv b1 hx2
    go_wp2_with fail
    refine c53.mono ?_
    rintro _ x3 ⟨rfl, e9⟩
    obtain rfl : x2 = x3 := e9.symm
    clear e9 c53
    go_wp2_with fail
    refine c57.mono ?_
    rintro _ x4 ⟨rfl, h4, f4⟩
    have H4 : Hid (WrP w s p b m N r P size B L F lf fr c va n R (.returned (.bool true)) x4) := ⟨rfl, h4, f4⟩
    clear h4 f4 c57
    go_wp2_with fail
    go_ret
    exact .inl ⟨HC.out, H4.out⟩
def PkQ (w : World) (s p b m N r P : Nat) (size : Int) (B : Nat → Int) (L : List Nat) (F : Nat → Option Nat) (lf : Nat → Nat → Int) (fr : Nat → Nat) (c : Nat → Int) (va n : Nat) (R : Nat → Int) (e : Ending) (w' : World) : Prop := ((va : Int) + n ≤ size ∧ WrP w s p b m N r P size B L F lf fr c va n R e w') ∨ (¬ (va : Int) + n ≤ size ∧ e = .returned (.bool false) ∧ w' = w)
set_option maxHeartbeats 1000000 in
/-- Poke of one byte or more. -/
theorem poke_gen (h : SpU w s p b m N r P size B L F lf fr c) (va n : Nat) (hn : 1 ≤ n) (hvn : (va : Int) < 18446744073709551616 ∧ (n : Int) < 9223372036854775808) (g k0 cc : Nat) (hcc : n ≤ cc ∧ cc ≤ 9223372036854775807) (R : Nat → Int) (hR : ∀ i, 0 ≤ R i ∧ R i < 256) (hg : ∀ i, i < n → w.cell? ⟨g, k0 + i, .none⟩ = some (.int .u8 (R i))) (hgp : g ≠ p ∧ g ≠ b ∧ g ≠ m) :
    Calls Tryz.prog 18 #[.pointer (some ⟨s, 0, .none⟩), .int .u64 va, .slice (some ⟨g, k0, .none⟩) n cc] w (PkQ w s p b m N r P size B L F lf fr c va n R) := by
  have hm := h.pm
  have hsz := h.sz
  have c43 := made_sp h.sp
  have c50 := fits_gen (va : Int) n size (by omega) (by omega) (by omega) w
  have k2 := h.sp.c2
  by_cases hf : (va : Int) + n ≤ size
  · rw [decide_eq_true hf] at c50
    have c57 := put_kern h va n hn (by omega) g k0 cc hcc R hR hg hgp
    have HF0 := hf
    have HF : Hid ((va : Int) + n ≤ size) := HF0
    clear h hg hR hf HF0
    go_enter Tryz.func18, Tryz.ntmps18
    go_wp2_with fail
    refine c43.mono ?_
    rintro _ x1 ⟨rfl, e9⟩
    obtain rfl : w = x1 := e9.symm
    clear e9 c43
    go_wp2_with fail
    refine c50.mono ?_
    rintro _ x1 ⟨rfl, e9⟩
    obtain rfl : w = x1 := e9.symm
    clear e9 c50
    go_wp2_with fail
    refine c57.mono ?_
    rintro _ x4 ⟨rfl, h4, f4⟩
    have H4 : Hid (WrP w s p b m N r P size B L F lf fr c va n R (.returned (.bool true)) x4) := ⟨rfl, h4, f4⟩
    clear h4 f4 c57
    go_wp2_with fail
    go_ret
    exact .inl ⟨HF.out, H4.out⟩
  · rw [decide_eq_false hf] at c50
    have HF0 := hf
    have HF : Hid (¬ (va : Int) + n ≤ size) := HF0
    clear h hg hR hf HF0
    go_enter Tryz.func18, Tryz.ntmps18
    go_wp2_with fail
    refine c43.mono ?_
    rintro _ x1 ⟨rfl, e9⟩
    obtain rfl : w = x1 := e9.symm
    clear e9 c43
    go_wp2_with fail
    refine c50.mono ?_
    rintro _ x1 ⟨rfl, e9⟩
    obtain rfl : w = x1 := e9.symm
    clear e9 c50
    go_wp2_with fail
    go_ret
    exact .inr ⟨by have := HF.out; omega, rfl, rfl⟩
end
end Go.Proofs.YtblmkkhiojbcjaaGreat
namespace Go.Proofs.YtblmkkhiojbcjaaGreat
open Go Go.RowKit
set_option linter.unusedVariables false
set_option linter.unusedSimpArgs false
theorem low_y1 (i : Nat) (h : i < 512) : y1 ((i : Int) * 4096) = 1 := by
  unfold y1 ch i2 ix spn
  simp
  omega
theorem low_y0 (i : Nat) (h : i < 512) : y0 ((i : Int) * 4096) = 513 := by
  unfold y0
  rw [low_y1 i h]
  unfold ch i1 ix spn
  simp
  omega
theorem low_i0 (i : Nat) (h : i < 512) : i0 ((i : Int) * 4096) = i := by
  unfold i0 ix spn
  simp
  omega
def wn1 (j : Nat) : Nat := if j = 0 then 2 else 0
/-- A space whose pages lie in the first node of level 0, with K frames for it in all. -/
structure SpG (w : World) (s p b m N r P K : Nat) (B : Nat → Int) (L : List Nat) (F : Nat → Option Nat) (lf : Nat → Nat → Int) (fr : Nat → Nat) (c : Nat → Int) : Prop where
  su : SpU w s p b m N r P ((P : Int) * 4096) B L F lf fr c
  zr : ∀ k, P ≤ k → k < 512 → lf 513 k = 0
  nod : P = 0 → F 1 = none
  len : L.length + P + (if P = 0 then 0 else 2) = K
  inj : ∀ i j, i < P → j < P → fr i = fr j → i = j
section
variable {w w' : World} {s p b m N r P K : Nat} {B : Nat → Int} {L : List Nat} {F : Nat → Option Nat} {lf : Nat → Nat → Int} {fr : Nat → Nat} {c : Nat → Int}
theorem SpG.below (h : SpG w s p b m N r P K B L F lf fr c) (k : Below w.heap.size w w') : SpG w' s p b m N r P K B L F lf fr c := ⟨h.su.below k, h.zr, h.nod, h.len, h.inj⟩
theorem SpG.need (h : SpG w s p b m N r P K B L F lf fr c) (hj : P < 512) : needY F ((P : Int) * 4096) = wn1 P := by
  unfold needY wn1
  rw [low_y1 P hj, low_y0 P hj]
  by_cases h0 : P = 0
  · rw [if_pos (h.nod h0), if_pos h0]
  · have hq := h.su.pag 0 (by omega)
    obtain ⟨g1, e1⟩ := hq.w1
    obtain ⟨g0, e0⟩ := hq.w0
    have e1' : F 1 = some g1 := by have := low_y1 0 (by omega); rw [← this]; exact e1
    have e0' : F 513 = some g0 := by have := low_y0 0 (by omega); rw [← this]; exact e0
    rw [e1', e0', if_neg h0]
    simp
theorem rgt_b {x : Int} (h : rgt x) : 0 ≤ x + 208 ∧ x + 208 < 256 ∧ (x + 208) % 2 = 0 := by rcases h with rfl | rfl | rfl | rfl | rfl <;> omega
/-- A function changed at one place. -/
def upd {α : Type} (f : Nat → α) (i : Nat) (x : α) : Nat → α := fun j => if j = i then x else f j
theorem SpG.step {f : Nat} {x : Int} {L1 L' : List Nat} {B' : Nat → Int} {F' : Nat → Option Nat} (h : SpG w s p b m N r P K B (f :: L1) F lf fr c) (hj : P < 512) (hx : rgt x)
    (hp : Sp w' s p (ad r) (((P : Int) + 1) * 4096)) (R : LP N ((P : Int) * 4096) (toP (ad f) (x + 208)) L1 (zer B f) F lf L' B' F') (hlen : L1.length = wn1 P + L'.length) (hr : Ram w' p b m N B' L') :
    SpG w' s p b m N r (P + 1) K B' L' F' (setE lf 513 P (toP (ad f) (x + 208))) (upd fr P f) (upd c P (x + 208)) := by
  have hf := h.su.ram.lt f (List.mem_cons_self ..)
  have hN := h.su.ram.mem.n2
  have hnd := List.nodup_cons.1 h.su.ram.nd
  have hfL' : f ∉ L' := fun hm => hnd.1 (R.sub f hm)
  have hpt := R.pt
  rw [low_y0 P hj, low_i0 P hj] at hpt
  have hfn : ∀ i, i < P → fr i ≠ f := fun i hi e => (h.su.pag i hi).qb.2 (by rw [e]; exact List.mem_cons_self ..)
  refine ⟨⟨by rw [show ((P + 1 : Nat) : Int) = (P : Int) + 1 by omega]; exact hp, by omega, by have := h.su.pm; omega, hr, hpt, R.ext 0 r h.su.rt, h.su.ne, fun i hi => ?_⟩, fun k h1 h2 => ?_, fun e => by omega, ?_, fun i j hi hj e => ?_⟩
  · by_cases hij : i = P
    · subst hij
      obtain ⟨g, q, e1, e0⟩ := R.has
      unfold upd
      rw [if_pos rfl, if_pos rfl]
      refine ⟨⟨g, e1⟩, ⟨q, e0⟩, ?_, (rgt_leaf hx hf.2 hN).1, rgt_b hx, ⟨hf.2, hfL'⟩, fun y hy => ?_⟩
      · rw [low_y0 i hj, low_i0 i hj]
        unfold setE
        rw [if_pos ⟨rfl, rfl⟩]
      · rcases R.new y f hy with e | ⟨e, _⟩
        · exact (h.su.pt.held y f e).2.2 (List.mem_cons_self ..)
        · exact hnd.1 e
    · have hq := h.su.pag i (by omega)
      obtain ⟨g1, e1⟩ := hq.w1
      obtain ⟨g0, e0⟩ := hq.w0
      unfold upd
      rw [if_neg hij, if_neg hij]
      refine ⟨⟨g1, R.ext _ _ e1⟩, ⟨g0, R.ext _ _ e0⟩, ?_, hq.k, hq.cb, ⟨hq.qb.1, fun hm => hq.qb.2 (List.mem_cons_of_mem _ (R.sub _ hm))⟩, fun y hy => ?_⟩
      · have := hq.l
        rw [low_y0 i (by omega), low_i0 i (by omega)] at this ⊢
        unfold setE
        rw [if_neg (fun e => hij e.2)]
        exact this
      · rcases R.new y _ hy with e | ⟨e, _⟩
        · exact hq.nn y e
        · exact hq.qb.2 (List.mem_cons_of_mem _ e)
  · unfold setE
    rw [if_neg (fun e => by omega)]
    exact h.zr k (by omega) h2
  · have := h.len
    rw [List.length_cons] at this
    unfold wn1 at hlen
    by_cases h0 : P = 0
    · rw [if_pos h0] at this hlen
      rw [if_neg (by omega)]
      omega
    · rw [if_neg h0] at this hlen
      rw [if_neg (by omega)]
      omega
  · unfold upd at e
    by_cases h1 : i = P
    · by_cases h2 : j = P
      · omega
      · rw [if_pos h1, if_neg h2] at e
        exact absurd e.symm (hfn j (by omega))
    · by_cases h2 : j = P
      · rw [if_neg h1, if_pos h2] at e
        exact absurd e (hfn i (by omega))
      · rw [if_neg h1, if_neg h2] at e
        exact h.inj i j (by omega) (by omega) e
/-- What one more page comes to. -/
def GgP (w : World) (s p b m N r P K : Nat) (fr : Nat → Nat) (c : Nat → Int) (x : Int) (e : Ending) (w' : World) : Prop := e = .returned (.int .i64 0) ∧ (∃ f B' L' F' lf', SpG w' s p b m N r (P + 1) K B' L' F' lf' (upd fr P f) (upd c P (x + 208))) ∧
  w.heap.size ≤ w'.heap.size ∧ w'.os = w.os ∧ w'.tape = w.tape ∧ w'.output = w.output ∧ ∀ k, k < w.heap.size → k ≠ p → k ≠ b → k ≠ m → k ≠ s → w'.heap[k]? = w.heap[k]?
theorem SpG.grow (h : SpG w s p b m N r P K B L F lf fr c) (hP : P < 500) (hK : P + 4 ≤ K) (x : Int) (hx : rgt x) : Calls Tryz.prog 9 #[.pointer (some ⟨s, 0, .none⟩), .int .u64 (((P : Int) + 1) * 4096), .int .u64 x] w (GgP w s p b m N r P K fr c x) := by
  have hlen := h.len
  have hLn : 1 ≤ L.length := by split at hlen <;> omega
  obtain ⟨f, L1, rfl⟩ : ∃ f L1, L = f :: L1 := by
    cases L with
    | nil => simp at hLn
    | cons f L1 => exact ⟨f, L1, rfl⟩
  have hn := h.need (by omega)
  have hw : wn1 P ≤ L1.length := by
    rw [List.length_cons] at hlen
    unfold wn1
    split <;> rename_i h0
    · rw [if_pos h0] at hlen; omega
    · omega
  refine (grow_pt h.su.sp h.su.ram h.su.pt h.su.rt h.su.ne (by omega) hx (by rw [low_y0 P (by omega), low_i0 P (by omega)]; exact h.zr P (Nat.le_refl _) (by omega)) (by rw [hn]; exact hw) ?_).mono fun e w' h9 => ?_
  · unfold ndP
    rw [List.length_cons] at hlen ⊢
    by_cases h0 : P = 0
    · subst h0
      simp at hlen ⊢
      omega
    · rw [if_neg (by omega), if_neg (by omega)]
      rw [if_neg h0] at hlen
      omega
  · obtain ⟨he, hsp, ⟨B', L', F', hR, hL, hr⟩, hrest⟩ := h9
    refine ⟨he, ⟨f, B', L', F', _, h.step (by omega) hx hsp hR ?_ hr⟩, hrest⟩
    have := congrArg List.length hL
    rw [List.length_append, List.length_take, hn, Nat.min_eq_left hw] at this
    exact this
end
end Go.Proofs.YtblmkkhiojbcjaaGreat
