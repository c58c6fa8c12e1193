import Derived.Test.YtblmkkhiojbcjaaGreatEm
namespace Go.Proofs.YtblmkkhiojbcjaaGreat
open Go Go.RowKit
set_option linter.unusedVariables false
set_option linter.unusedSimpArgs false
section
variable {w W W' : World} {s p b m N r P : Nat} {size : Int} {B : Nat → Int} {L : List Nat} {F : Nat → Option Nat} {lf : Nat → Nat → Int} {fr : Nat → Nat} {c : Nat → Int}
/-- The block is a row of n bytes. -/
def Shp (W : World) (A n : Nat) : Prop := ∃ cur, W.heap[A]? = some (.cells cur 5 (0, 0)) ∧ cur.size = n
theorem Shp.set {A n : Nat} (h : Shp W A n) (a : Addr) (v : Value) (ha : a.spot = none) : Shp (W.setCell a v) A n := by
  obtain ⟨cur, h1, h2⟩ := h
  by_cases e : a.block = A
  · subst e
    obtain ⟨ab, ao, asp⟩ := a
    simp only at ha h1
    subst ha
    refine ⟨cur.setIfInBounds ao v, ?_, by simpa using h2⟩
    simp [World.setCell, Array.getElem?_modify, h1]
  · exact ⟨cur, (Below.heap_setCell W a v A (fun e9 => e e9.symm)).trans h1, h2⟩
theorem Shp.sets {A n b : Nat} : ∀ (vs : List Value) (o : Nat) (W : World), Shp W A n → Shp (W.setCells b o vs) A n
  | [], o, W, h => h
  | v :: vs, o, W, h => Shp.sets vs (o + 1) _ (h.set ⟨b, o, .none⟩ v rfl)
theorem shp_own {A n va : Nat} {base : Nat} (h : Shp W A n) (hd : ∀ j, j < n → W.cell? ⟨A, j, .none⟩ = some (.int .u8 (btU B fr (va + j)))) (hb : base ≤ A) (hn : n ≤ 1000000000) : W.ownsRow base 5 1 (.slice (some ⟨A, 0, .none⟩) n n) n ((List.range n).map fun j => .int .u8 (btU B fr (va + j))) := by
  obtain ⟨cur, h1, h2⟩ := h
  refine ⟨by simp, .inr ⟨A, n, cur, rfl, hb, h1, Nat.le_refl _, by unfold maxLen; omega, by omega, ?_⟩⟩
  apply List.ext_getElem?
  intro j
  by_cases hj : j < n
  · have e := hd j hj
    simp [World.cell?, h1] at e
    rw [List.getElem?_take_of_lt (by omega), List.getElem?_map, List.getElem?_range hj]
    simpa using e
  · rw [List.getElem?_eq_none (by simp; omega), List.getElem?_eq_none (by simp; omega)]
def InK (w : World) (s A d1 d2 u1 u2 va n : Nat) (B : Nat → Int) (fr : Nat → Nat) (c : Nat → Int) (k : Nat) (W : World) : Prop := InJ w s A d1 d2 u1 u2 va n B fr c k W ∧ Shp W A n
theorem InK.below {w : World} {A d1 d2 u1 u2 va n k : Nat} (h : InK w s A d1 d2 u1 u2 va n B fr c k W) (b : Below W.heap.size W W') (hA : A < W.heap.size) : InK w s A d1 d2 u1 u2 va n B fr c k W' := by
  obtain ⟨cur, h1, h2⟩ := h.2
  exact ⟨h.1.below b hA, cur, (b.block A hA).trans h1, h2⟩
theorem InK.step {w : World} {A d1 d2 u1 u2 va n k pc : Nat} {q' : Option Addr} (h : InK w s A d1 d2 u1 u2 va n B fr c k W) (hne : d2 ≠ A ∧ d1 ≠ A ∧ u1 ≠ A ∧ u2 ≠ A ∧ d1 ≠ d2 ∧ u1 ≠ d2 ∧ u2 ≠ d2) (hwA : w.heap.size ≤ A ∧ w.heap.size ≤ d2) (hk : k + pc ≤ n) (hacc : ∀ j, j < pc → accU c 1 (va + (k + j)) = true) (hbt : ∀ j, j < pc → (pcB B (fr ((va + k) / 4096) * 4096 + (va + k) % 4096) pc)[j]? = some (.int .u8 (btU B fr (va + (k + j)))))
    (hq : k + pc < n → q' = some ⟨A, k + pc, .none⟩) : InK w s A d1 d2 u1 u2 va n B fr c (k + pc) ((W.setCells A k (pcB B (fr ((va + k) / 4096) * 4096 + (va + k) % 4096) pc)).setCell ⟨d2, 0, .none⟩ (.slice q' (n - k - pc : Nat) (n - k - pc : Nat))) :=
  ⟨h.1.step hne hwA hk hacc hbt hq, (Shp.sets _ _ _ h.2).set _ _ rfl⟩
/-- What In comes to, its row a row of its own. -/
def InO (w : World) (va n : Nat) (B : Nat → Int) (fr : Nat → Nat) (e : Ending) (w' : World) : Prop := Below w.heap.size w w' ∧ ∃ g, e = .returned (.tuple #[.slice (some ⟨g, 0, .none⟩) n n, .bool true]) ∧ w'.ownsRow w.heap.size 5 1 (.slice (some ⟨g, 0, .none⟩) n n) n ((List.range n).map fun j => .int .u8 (btU B fr (va + j)))
theorem Zs_size (n : Nat) : (Zs n).size = n := by unfold Zs; rw [size_madeCells]
theorem each_user2 {w0 w : World} {A d1 d2 u1 u2 va n : Nat} (h : SpU w0 s p b m N r P size B L F lf fr c) (hn : 1 ≤ n) (hf : va + n ≤ P * 4096) (hne : d2 ≠ A ∧ d1 ≠ A ∧ u1 ≠ A ∧ u2 ≠ A ∧ d1 ≠ d2 ∧ u1 ≠ d2 ∧ u2 ≠ d2) (hwA : w0.heap.size ≤ A ∧ w0.heap.size ≤ d2) (h0 : InK w0 s A d1 d2 u1 u2 va n B fr c 0 w) :
    Calls Tryz.prog 52 #[.pointer (some ⟨s, 0, .none⟩), .int .u64 va, .int .i64 n, .func (.func 89) #[] #[.pointer (some ⟨u1, 0, .none⟩), .pointer (some ⟨u2, 0, .none⟩)], .func (.func 54) #[] #[.pointer (some ⟨d1, 0, .none⟩), .pointer (some ⟨d2, 0, .none⟩)]] w
      (EaP n (InK w0 s A d1 d2 u1 u2 va n B fr c) (fun W => Below w0.heap.size w0 W ∧ ∃ j, j < n ∧ accU c 1 (va + j) = false)) := by
  have hm := h.pm
  have hAW : ∀ k W, InK w0 s A d1 d2 u1 u2 va n B fr c k W → A < W.heap.size := fun k W hJ => by
    obtain ⟨v, hv⟩ := Option.isSome_iff_exists.1 (hJ.1.tl 0 hn).1
    exact lt_of_cell hv
  refine each_rd (va : Int) n (by omega) _ _ (fun k => if accU c 1 (va + k) then ad (fr ((va + k) / 4096)) + ((va + k) % 4096 : Nat) else 0) (fun k => accU c 1 (va + k)) (fun _ => true) (fun k W hk hJ => ?_) (fun k W hk hok hJ => ⟨hJ.1.bel, k, hk, hok⟩) (fun k W hk hok hJ => ?_) h0
  · have hS := h.below hJ.1.bel
    have := user_any hS.sp ((va + k : Nat) : Int) 2 _ _ hJ.1.e1 hJ.1.e2 (fun W2 b2 => (hS.below b2).tra (va + k) 1 (by omega) (by omega))
    rw [show ((va + k : Nat) : Int) = (va : Int) + k by omega] at this
    exact this.mono (fun e W2 h2 => ⟨h2.1, hJ.below h2.2 (hAW k W hJ)⟩)
  · have hS := h.below hJ.1.bel
    have hb := pce_b (va : Int) n k hk
    have hom : (((va : Int) + k) % 4096).toNat = (va + k) % 4096 := by omega
    rw [hom] at hb
    obtain ⟨q, hq1, hq2⟩ := hJ.1.c2
    have hq3 := hq2 hk
    subst hq3
    have hp := hS.pag ((va + k) / 4096) (by omega)
    simp only [hok, if_true]
    refine (in1_any hS.sp hS.ram (fr ((va + k) / 4096)) ((va + k) % 4096) (pce va n k) hp.qb hb.1 hb.2.2 d1 d2 A k (n - k) hJ.1.c1 hq1 hJ.1.f2 (by omega) (fun j hj => (hJ.1.tl (k + j) (by omega)).1) (fun j hj => (hJ.1.tl (k + j) (by omega)).2) hne.1).mono fun e W3 h3 => ?_
    obtain ⟨he, W2, q', b2, hw3, hq'⟩ := h3
    refine ⟨he, fun _ => ?_, fun e9 => by cases e9⟩
    rw [hw3]
    have hJ2 := hJ.below b2 (hAW k W hJ)
    have hpage : ∀ j, j < pce va n k → (va + (k + j)) / 4096 = (va + k) / 4096 ∧ (va + (k + j)) % 4096 = (va + k) % 4096 + j := fun j hj => by omega
    exact InK.step hJ2 hne hwA (by omega) (fun j hj => by
      have := hok
      unfold accU at this ⊢
      rw [(hpage j hj).1]
      exact this) (fun j hj => by
      unfold pcB btU
      rw [List.getElem?_map, List.getElem?_range hj, (hpage j hj).1, (hpage j hj).2]
      simp only [Option.map_some]
      rw [show fr ((va + k) / 4096) * 4096 + (va + k) % 4096 + j = fr ((va + k) / 4096) * 4096 + ((va + k) % 4096 + j) by omega]) (fun hlt => hq' (by omega))
set_option maxRecDepth 100000 in
set_option maxHeartbeats 2000000 in
theorem in_own (h : SpU w s p b m N r P size B L F lf fr c) (va n : Nat) (hn : 1 ≤ n) (hf : va + n ≤ P * 4096) (ha : ∀ j, j < n → accU c 1 (va + j) = true) : Calls Tryz.prog 13 #[.pointer (some ⟨s, 0, .none⟩), .int .u64 va, .int .i64 n] w (InO w va n B fr) := by
  have hm := h.pm
  have hsz := h.sz
  obtain ⟨w1, hw1⟩ : ∃ w1, w1 = w.alloc (.cells #[.pointer (some ⟨s, 0, .none⟩)] 26) := ⟨_, rfl⟩
  obtain ⟨w2, hw2⟩ : ∃ w2, w2 = w1.alloc (.cells (Zs n) 5) := ⟨_, rfl⟩
  obtain ⟨w3, hw3⟩ : ∃ w3, w3 = w2.alloc (.cells #[.slice (some ⟨w1.heap.size, 0, .none⟩) n n] 24) := ⟨_, rfl⟩
  obtain ⟨w4, hw4⟩ : ∃ w4, w4 = (w3.drew.alloc (.cells #[.pointer (some ⟨s, 0, .none⟩)] 26)).alloc (.cells #[.int .i64 2] 90) := ⟨_, rfl⟩
  have b1 : Below w.heap.size w w1 := by rw [hw1]; exact below1 _ _
  have b2 : Below w1.heap.size w1 w2 := by rw [hw2]; exact below1 _ _
  have b3 : Below w2.heap.size w2 w3 := by rw [hw3]; exact below1 _ _
  have b4 : Below w3.heap.size w3 w4 := by rw [hw4]; exact ((Below.refl _ w3).drew.alloc (Nat.le_refl _) _).alloc (by simp) _
  have s1 : w1.heap.size = w.heap.size + 1 := by rw [hw1]; simp
  have s2 : w2.heap.size = w.heap.size + 2 := by rw [hw2]; simp [s1]
  have s3 : w3.heap.size = w.heap.size + 3 := by rw [hw3]; simp [s2]
  have s3d : w3.drew.heap.size = w.heap.size + 3 := s3
  have s4 : w4.heap.size = w.heap.size + 5 := by rw [hw4]; simp [s3d]
  have c51 := end_any (h.sp.below b1) (by omega)
  rw [hsz.2] at c51
  have c50 := fits_any (va : Int) n ((P : Int) * 4096) (by omega) (by omega) (by omega) (by omega) w1
  have hmk := make_bytes n (by omega) w1
  rw [← hw2] at hmk
  have q1 : w1.cell? ⟨w.heap.size, 0, .none⟩ = some (.pointer (some ⟨s, 0, .none⟩)) := by rw [hw1]; simp
  have q3 : w3.cell? ⟨w.heap.size, 0, .none⟩ = some (.pointer (some ⟨s, 0, .none⟩)) := (b3.cell (p := ⟨w.heap.size, 0, .none⟩) (by simp only; omega)).trans ((b2.cell (p := ⟨w.heap.size, 0, .none⟩) (by simp only; omega)).trans q1)
  have zA : ∀ j, j < n → w2.cell? ⟨w1.heap.size, j, .none⟩ = some (.int .u8 0) ∧ w2.frozen? ⟨w1.heap.size, j, .none⟩ = false := fun j hj => by
    rw [hw2]
    refine ⟨?_, World.frozen?_alloc_new _ _ _ _⟩
    rw [World.cell?_alloc_at _ _ _ _ rfl]
    exact Zs_at n j hj
  have h0 : InK w s w1.heap.size w.heap.size w2.heap.size w3.heap.size (w3.heap.size + 1) va n B fr c 0 w4 := by
    have B4 : Below w.heap.size w w4 := ((b1.trans (b2.mono (by omega))).trans (b3.mono (by omega))).trans (b4.mono (by omega))
    refine ⟨⟨B4, (b4.cell (p := ⟨w.heap.size, 0, .none⟩) (by simp only; omega)).trans q3, ?_, ?_, ⟨some ⟨w1.heap.size, 0, .none⟩, ?_, fun _ => rfl⟩, ?_, fun j hj => by omega, fun j hj => ?_, fun j hj => by omega⟩, ⟨Zs n, ?_, Zs_size n⟩⟩
    · rw [hw4]
      exact (fun wd : World => (by simp : ((wd.alloc (.cells #[.pointer (some ⟨s, 0, .none⟩)] 26)).alloc (.cells #[.int .i64 2] 90)).cell? ⟨wd.heap.size, 0, .none⟩ = some (.pointer (some ⟨s, 0, .none⟩)))) w3.drew
    · rw [hw4]
      exact (fun wd : World => (by simp : ((wd.alloc (.cells #[.pointer (some ⟨s, 0, .none⟩)] 26)).alloc (.cells #[.int .i64 2] 90)).cell? ⟨wd.heap.size + 1, 0, .none⟩ = some (.int .i64 2))) w3.drew
    · rw [b4.cell (p := ⟨w2.heap.size, 0, .none⟩) (by simp only; omega), hw3]; simp
    · rw [b4.frozen (p := ⟨w2.heap.size, 0, .none⟩) (by simp only; omega), hw3]; exact World.frozen?_alloc_new _ _ _ _
    · rw [b4.cell (p := ⟨w1.heap.size, j, .none⟩) (by simp only; omega), b3.cell (p := ⟨w1.heap.size, j, .none⟩) (by simp only; omega), b4.frozen (p := ⟨w1.heap.size, j, .none⟩) (by simp only; omega), b3.frozen (p := ⟨w1.heap.size, j, .none⟩) (by simp only; omega), (zA j hj).1]
      exact ⟨rfl, (zA j hj).2⟩
    · rw [b4.block w1.heap.size (by omega), b3.block w1.heap.size (by omega), hw2]
      exact heap_alloc_new w1 _
  have c52 := each_user2 h hn hf ⟨by omega, by omega, by omega, by omega, by omega, by omega, by omega⟩ ⟨by omega, by omega⟩ h0
  have c52' := c52.mono (R' := fun e w' => ∃ v : Bool, e = .returned (.bool v) ∧ ((v = true ∧ InK w s w1.heap.size w.heap.size w2.heap.size w3.heap.size (w3.heap.size + 1) va n B fr c n w') ∨ (v = false ∧ Below w.heap.size w w' ∧ ∃ j, j < n ∧ accU c 1 (va + j) = false))) (fun e w' h => by
    rcases h with ⟨h1, h2⟩ | ⟨h1, h2⟩
    · exact ⟨true, h1, .inl ⟨rfl, h2⟩⟩
    · exact ⟨false, h1, .inr ⟨rfl, h2⟩⟩)
  clear c52
  have c53 := forUser_any s 2 w3.drew
  rw [← hw4] at c53
  have hn0 : ¬ (n : Int) = 0 := by omega
  have HS : Hid (w1.heap.size = w.heap.size + 1 ∧ w2.heap.size = w.heap.size + 2 ∧ w3.heap.size = w.heap.size + 3) := ⟨s1, s2, s3⟩
  have HW : Hid (w3 = w2.alloc (.cells #[.slice (some ⟨w1.heap.size, 0, .none⟩) n n] 24)) := hw3
  have q3' : w3.drew.cell? ⟨w.heap.size, 0, .none⟩ = some (.pointer (some ⟨s, 0, .none⟩)) := q3
  have q4 : w4.cell? ⟨w.heap.size, 0, .none⟩ = some (.pointer (some ⟨s, 0, .none⟩)) := h0.1.c1
  have hg := h0.1.bel
  clear h h0 zA b1 b2 b3 b4 s1 s2 s3 s3d s4 hw2 hw3 hw4
  go_enter Tryz.func13, Tryz.ntmps13
  go_wp2_with fail
  rw [← hw1]
  clear hw1
  refine c51.mono ?_
  rintro _ x1 ⟨rfl, e1⟩
  obtain rfl : w1 = x1 := e1.symm
  clear e1 c51
  go_wp2_with fail
  refine c50.mono ?_
  rintro _ x1 ⟨rfl, e1⟩
  obtain rfl : w1 = x1 := e1.symm
  clear e1 c50
  have hb1 : ((n : Int) == 0) = false := by simpa using hn0
  go_wp2_with fail
  rw [← HW.out]
  go_region_with (first | (go_at_call 53; refine c53.mono ?_; rintro _ x4 ⟨rfl, e4⟩; obtain rfl : w4 = x4 := e4.symm; clear e4) | (go_at_call 52; refine c52'.mono ?_; rintro _ w9 ⟨v9, rfl, h9⟩; have H9 : Hid ((v9 = true ∧ InK w s w1.heap.size w.heap.size w2.heap.size w3.heap.size (w3.heap.size + 1) va n B fr c n w9) ∨ (v9 = false ∧ Below w.heap.size w w9 ∧ ∃ j, j < n ∧ accU c 1 (va + j) = false)) := h9; clear h9))
  all_goals
    rcases H9.out with ⟨rfl, hJ⟩ | ⟨rfl, hb, hx⟩
    · have HP : Hid (InO w va n B fr (.returned (.tuple #[.slice (some ⟨w1.heap.size, 0, .none⟩) n n, .bool true])) w9) := ⟨hJ.1.bel, w1.heap.size, rfl, shp_own hJ.2 hJ.1.dn (by have := HS.out.1; omega) (by omega)⟩
      clear hJ H9
      go_wp2_with fail
      refine bodyPost_ret (v := .tuple #[.slice (some ⟨w1.heap.size, 0, .none⟩) n n, .bool true]) (by simp [results, Tryz.results13, go_sem]) rfl HP.out
    · obtain ⟨j, hj, hx⟩ := hx
      rw [ha j hj] at hx
      cases hx
end
end Go.Proofs.YtblmkkhiojbcjaaGreat
