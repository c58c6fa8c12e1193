import Derived.Test.YthopgmmodldljabNm
namespace Go.Proofs.Ythopgmmodldljab
open Go Go.RowKit
set_option linter.unusedVariables false
set_option linter.unusedSimpArgs false
/-! loneFrames. -/
/-- Nothing of what was there has turned but in these blocks. -/
structure Ch (P : Nat → Prop) (w V : World) : Prop where
 os : V.os = w.os
 tape : V.tape = w.tape
 output : V.output = w.output
 size : w.heap.size ≤ V.heap.size
 blk : ∀ k, k < w.heap.size → ¬ P k → V.heap[k]? = w.heap[k]?
theorem Ch.refl (P : Nat → Prop) (w : World) : Ch P w w := ⟨rfl, rfl, rfl, Nat.le_refl _, fun _ _ _ => rfl⟩
theorem Ch.below {P : Nat → Prop} {w V V' : World} (h : Ch P w V) (hb : Below V.heap.size V V') : Ch P w V' := ⟨hb.os.trans h.os, hb.tape.trans h.tape, hb.output.trans h.output, Nat.le_trans h.size hb.size, fun k hk hp => (hb.block k (Nat.lt_of_lt_of_le hk h.size)).trans (h.blk k hk hp)⟩
theorem Ch.grown {P : Nat → Prop} {w V V' : World} {row : Option Nat} (h : Ch P w V) (hg : V.grownBy V' row) (hr : ∀ k, row = some k → k < w.heap.size → P k) : Ch P w V' := ⟨hg.os.trans h.os, hg.tape.trans h.tape, hg.output.trans h.output, Nat.le_trans h.size hg.size, fun k hk hp => (hg.block k (Nat.lt_of_lt_of_le hk h.size) (fun e => hp (hr k e.symm hk))).trans (h.blk k hk hp)⟩
theorem Ch.set {P : Nat → Prop} {w V : World} {g j : Nat} (h : Ch P w V) (u : Value) (hp : P g) : Ch P w (V.setCell ⟨g, j, .none⟩ u) := h.grown (setCell_grown V g j u) (fun k e _ => by injection e with e; rw [← e]; exact hp)
theorem Ch.own {P : Nat → Prop} {w V : World} {base : Nat} {R : List Row} (h : Ch P w V) (O : Owns w base R) (hn : ∀ g ∈ blks R, ¬ P g) : Owns V base R :=
 ⟨fun r hr => own_blk (O.own r hr) (fun g hg => by
  have hm : g ∈ blks R := List.mem_filterMap.2 ⟨r, hr, hg⟩
  exact h.blk g (O.lt g hm).2 (hn g hm)), O.nd⟩
/-- All of a row's third cells, up to a place, are that number. -/
def Mk (xs : List Value) (a n : Nat) (t : Int) : Prop := ∀ i, a ≤ i → i < n → xs[i * 3 + 2]? = some (.int .i64 t)
theorem Mk.set {xs : List Value} {n : Nat} {t : Int} (h : Mk xs 0 n t) (hl : n * 3 + 2 < xs.length) : Mk (xs.set (n * 3 + 2) (.int .i64 t)) 0 (n + 1) t := by
 intro i _ hi
 by_cases e : i = n
 ·subst e; rw [List.getElem?_set_self hl]
 ·rw [List.getElem?_set_ne (by omega)]
  exact h i (by omega) (by omega)
theorem Mk.app {xs cs : List Value} {a n m : Nat} {t : Int} (h : Mk xs a n t) (hl : xs.length = m * 3) (hn : n ≤ m) : Mk (xs ++ cs) a n t := by
 intro i ha hi
 rw [List.getElem?_append_left (by omega)]
 exact h i ha hi
theorem Mk.push {xs : List Value} {a n : Nat} {t u v : Int} (h : Mk xs a n t) (hl : xs.length = n * 3) : Mk (xs ++ [.int .i64 u, .int .i64 v, .int .i64 t]) a (n + 1) t := by
 intro i ha hi
 by_cases e : i = n
 ·subst e
  rw [List.getElem?_append_right (by omega), hl, Nat.add_sub_cancel_left]
  rfl
 ·rw [List.getElem?_append_left (by omega)]
  exact h i ha (by omega)
/-- The block of a row that grew out of another. -/
def Bk (S : Nat) (v m : Value) : Prop := m.ownBlock = v.ownBlock ∨ ∃ b, m.ownBlock = some b ∧ S ≤ b
theorem row_some {w : World} {base e sz n : Nat} {v : Value} {xs : List Value} (h : w.ownsRow base e sz v n xs) (hn : 0 < n) : ∃ g c, v = .slice (some ⟨g, 0, .none⟩) n c := by
 rcases h.2 with ⟨_, e0⟩ | ⟨g, c, cur, e, _⟩
 ·omega
 ·exact ⟨g, c, e⟩
theorem row_cell {w : World} {base e sz n g c : Nat} {xs : List Value} (h : w.ownsRow base e sz (.slice (some ⟨g, 0, .none⟩) n c) n xs) {j : Nat} {u : Value} (hj : xs[j]? = some u) : w.cell? ⟨g, j, .none⟩ = some u ∧ w.frozen? ⟨g, j, .none⟩ = false := by
 have h1 := h.cells (g := g) rfl j u hj
 rw [Addr.add_mid, Nat.zero_add] at h1
 refine ⟨h1, ?_⟩
 rcases h.2 with ⟨e, _⟩ | ⟨g', cap, cur, hv, _, hg, _⟩
 ·cases e
 ·injection hv with e1 _ _
  injection e1 with e1
  injection e1 with e1
  subst e1
  exact frozen_heap hg
/-- Two rows, and two that grew out of them. -/
structure LF (w V : World) (m1 k1 m2 k2 : Int) (u1 x : Value) (n1 t1 s1 : Nat) (u2 y : Value) (n2 t2 s2 : Nat) : Prop where
 ch : Ch (fun k => u1.ownBlock = some k ∨ u2.ownBlock = some k) w V
 ra : ∃ xs, V.ownsRow 0 85 3 u1 n1 xs ∧ Mk xs 0 t1 m1
 rb : ∃ xs, V.ownsRow 0 85 3 u2 n2 xs ∧ Mk xs 0 t2 m2
 rx : ∃ xs, V.ownsRow 0 85 3 x (n1 + s1) xs ∧ Mk xs 0 t1 m1 ∧ Mk xs n1 (n1 + s1) k1
 ry : ∃ xs, V.ownsRow 0 85 3 y (n2 + s2) xs ∧ Mk xs 0 t2 m2 ∧ Mk xs n2 (n2 + s2) k2
 kx : Bk w.heap.size u1 x
 ky : Bk w.heap.size u2 y
 ap : ∀ g, u1.ownBlock = some g → u2.ownBlock ≠ some g
 l1 : ∀ g, u1.ownBlock = some g → g < w.heap.size
 l2 : ∀ g, u2.ownBlock = some g → g < w.heap.size
 xy : ∀ g, x.ownBlock = some g → y.ownBlock ≠ some g
section
variable {w V : World} {m1 k1 m2 k2 : Int} {u1 x : Value} {n1 t1 s1 : Nat} {u2 y : Value} {n2 t2 s2 : Nat}
theorem LF.swap (h : LF w V m1 k1 m2 k2 u1 x n1 t1 s1 u2 y n2 t2 s2) : LF w V m2 k2 m1 k1 u2 y n2 t2 s2 u1 x n1 t1 s1 :=
 ⟨⟨h.ch.os, h.ch.tape, h.ch.output, h.ch.size, fun k hk hp => h.ch.blk k hk (fun e => hp e.symm)⟩, h.rb, h.ra, h.ry, h.rx, h.ky, h.kx, fun g h1 h2 => h.ap g h2 h1, h.l2, h.l1, fun g h1 h2 => h.xy g h2 h1⟩
theorem Mk.nil (xs : List Value) (a : Nat) (t : Int) : Mk xs a a t := fun i h1 h2 => by omega
theorem row_nil_len {V : World} {e sz n : Nat} {v : Value} {xs : List Value} (h : V.ownsRow 0 e sz v n xs) (hv : v.ownBlock = none) : n = 0 := by
 rcases h.2 with ⟨_, e0⟩ | ⟨g, c, cur, e, _⟩
 ·exact e0
 ·rw [e] at hv; cases hv
theorem LF.setA {g c : Nat} (h : LF w V m1 k1 m2 k2 u1 u1 n1 t1 0 u2 u2 n2 t2 0) (hu : u1 = .slice (some ⟨g, 0, .none⟩) n1 c) (ht : t1 < n1) : LF w (V.setCell ⟨g, t1 * 3 + 2, .none⟩ (.int .i64 m1)) m1 k1 m2 k2 u1 u1 n1 (t1 + 1) 0 u2 u2 n2 t2 0 := by
 obtain ⟨xs, ha, hm⟩ := h.ra
 have hub : u1.ownBlock = some g := by rw [hu]; rfl
 have hl : xs.length = n1 * 3 := ha.1
 have ha2 : (V.setCell ⟨g, t1 * 3 + 2, .none⟩ (.int .i64 m1)).ownsRow 0 85 3 u1 n1 (xs.set (t1 * 3 + 2) (.int .i64 m1)) := by
  rw [hu] at ha ⊢
  exact set_own ha _ (by omega)
 have hb2 : ∀ {k : Nat} {zs : List Value}, V.ownsRow 0 85 3 u2 k zs → (V.setCell ⟨g, t1 * 3 + 2, .none⟩ (.int .i64 m1)).ownsRow 0 85 3 u2 k zs := fun hz => own_blk hz (fun g' hg' => Below.heap_setCell _ _ _ _ (fun e => h.ap g hub (by rw [hg', e])))
 refine ⟨h.ch.set _ (.inl hub), ⟨_, ha2, hm.set (by omega)⟩, ?_, ⟨_, ha2, hm.set (by omega), Mk.nil _ _ _⟩, ?_, h.kx, h.ky, h.ap, h.l1, h.l2, h.xy⟩
 ·obtain ⟨ys, hy, my⟩ := h.rb
  exact ⟨ys, hb2 hy, my⟩
 ·obtain ⟨ys, hy, my⟩ := h.ry
  exact ⟨ys, hb2 hy, my⟩
theorem LF.pushX {V' : World} {x' : Value} {ob : Obj} (h : LF w V m1 k1 m2 k2 u1 x n1 n1 s1 u2 y n2 n2 s2) {xs : List Value} (hx0 : Mk xs 0 n1 m1 ∧ Mk xs n1 (n1 + s1) k1 ∧ xs.length = (n1 + s1) * 3) (h2 : V'.ownsRow 0 85 3 x' (n1 + s1 + 1) (xs ++ owL (0, 0, k1))) (h3 : (V.alloc ob).grownBy V' x.ownBlock) (h4 : ∀ v0 n0 xs0, (v0.ownBlock = x.ownBlock → n0 ≤ n1 + s1) → V.ownsRow 0 85 3 v0 n0 xs0 → V'.ownsRow 0 85 3 v0 n0 xs0) (h5 : ∃ b, x'.ownBlock = some b ∧ (x.ownBlock = some b ∨ V.heap.size ≤ b)) : LF w V' m1 k1 m2 k2 u1 x' n1 n1 (s1 + 1) u2 y n2 n2 s2 := by
 obtain ⟨q1, q2, q3⟩ := hx0
 have hsz := h.ch.size
 refine ⟨(h.ch.below (below1 _ _)).grown h3 (fun k e hk => ?_), ?_, ?_, ⟨_, h2, q1.app q3 (by omega), ?_⟩, ?_, ?_, h.ky, h.ap, h.l1, h.l2, ?_⟩
 ·rcases h.kx with e1 | ⟨b, e1, e2⟩
  ·exact .inl (by rw [← e1, e])
  ·rw [e1] at e; injection e with e; omega
 ·obtain ⟨zs, hz, mz⟩ := h.ra
  exact ⟨zs, h4 _ _ _ (fun _ => by omega) hz, mz⟩
 ·obtain ⟨zs, hz, mz⟩ := h.rb
  refine ⟨zs, h4 _ _ _ (fun e => ?_) hz, mz⟩
  cases hu : u2.ownBlock with
  | none => have := row_nil_len hz hu; omega
  | some g =>
   rw [hu] at e
   rcases h.kx with e1 | ⟨b, e1, e2⟩
   ·exact absurd hu (h.ap g (by rw [← e1, ← e]))
   ·rw [e1] at e; injection e with e; have := h.l2 g hu; omega
 ·have := q2.push (u := 0) (v := 0) q3
  exact this
 ·obtain ⟨zs, hz, mz⟩ := h.ry
  refine ⟨zs, h4 _ _ _ (fun e => ?_) hz, mz⟩
  cases hu : y.ownBlock with
  | none => have := row_nil_len hz hu; omega
  | some g =>
   rw [hu] at e
   exact absurd hu (h.xy g e.symm)
 ·obtain ⟨b, e1, e2⟩ := h5
  rcases e2 with e2 | e2
  ·rcases h.kx with e3 | ⟨b', e3, e4⟩
   ·exact .inl (by rw [e1, ← e2, e3])
   ·exact .inr ⟨b, e1, by rw [e3] at e2; injection e2 with e2; omega⟩
  ·exact .inr ⟨b, e1, by omega⟩
 ·intro g e hy
  obtain ⟨b, e1, e2⟩ := h5
  rw [e1] at e
  injection e with e
  subst e
  rcases e2 with e2 | e2
  ·exact h.xy b e2 hy
  ·obtain ⟨zs, hz, _⟩ := h.ry
   have := (hz.lt b hy).2
   omega
end
set_option maxRecDepth 100000 in
set_option maxHeartbeats 8000000 in
theorem loneF_any {w : World} {u1 u2 : Value} {n1 n2 : Nat} {xs1 xs2 : List Value} (h1 : w.ownsRow 0 85 3 u1 n1 xs1) (h2 : w.ownsRow 0 85 3 u2 n2 xs2) (ap : ∀ g, u1.ownBlock = some g → u2.ownBlock ≠ some g) (b1 : n1 ≤ 4096) (b2 : n2 ≤ 4096) : Calls Try.prog 12 #[u1, u2] w fun e w' => e = .returned (.bool true) ∧ Ch (fun k => u1.ownBlock = some k ∨ u2.ownBlock = some k) w w' := by
 have HE : Hid (LF w w 1099511627776 4398046511104 2199023255552 8796093022208 u1 u1 n1 0 0 u2 u2 n2 0 0) := ⟨Ch.refl _ _, ⟨_, h1, Mk.nil _ _ _⟩, ⟨_, h2, Mk.nil _ _ _⟩, ⟨_, h1, Mk.nil _ _ _, Mk.nil _ _ _⟩, ⟨_, h2, Mk.nil _ _ _, Mk.nil _ _ _⟩, .inl rfl, .inl rfl, ap, fun g hg => (h1.lt g hg).2, fun g hg => (h2.lt g hg).2, ap⟩
 obtain ⟨p1, c1, hu1⟩ := own_form h1
 obtain ⟨p2, c2, hu2⟩ := own_form h2
 obtain ⟨P, hP⟩ : ∃ P : World → Prop, P = Ch (fun k => u1.ownBlock = some k ∨ u2.ownBlock = some k) w := ⟨_, rfl⟩
 rw [← hP]
 have HP : Hid (∀ V x t1 s1 y t2 s2, LF w V 1099511627776 4398046511104 2199023255552 8796093022208 u1 x n1 t1 s1 u2 y n2 t2 s2 → P V) := fun V x t1 s1 y t2 s2 h => by rw [hP]; exact h.ch
 have HU : Hid (u1 = .slice p1 n1 c1 ∧ u2 = .slice p2 n2 c2) := ⟨hu1, hu2⟩
 rw [hu1, hu2]
 clear h1 h2 ap hP
 clear hu1 hu2
 go_enter Try.func12, Try.ntmps12
 go_wp2
 go_loopw [5] (fun v wr => ∃ i : Nat, i ≤ n1 ∧ v = .int .i64 i ∧ Hid (LF w wr 1099511627776 4398046511104 2199023255552 8796093022208 u1 u1 n1 i 0 u2 u2 n2 0 0)) (fun v _ => (n1 - intOf v).toNat)
 case atStart => exact ⟨0, by omega, rfl, HE.out⟩
 case round =>
  clear HE
  obtain ⟨i, hi, rfl, HI⟩ := hrel
  rename World => wr
  by_cases hin : i < n1
  ·as_aux_lemma =>
    have i1 : (i : Int) < n1 := by omega
    obtain ⟨xs, hx, _⟩ := HI.out.ra
    obtain ⟨g, c, hg⟩ := row_some hx (by omega)
    have HG : Hid (u1 = .slice (some ⟨g, 0, .none⟩) n1 c) := hg
    obtain ⟨rfl, rfl⟩ : p1 = some ⟨g, 0, .none⟩ ∧ c1 = c := by
     have e := HU.out.1
     rw [hg] at e
     injection e with e1 _ e3
     exact ⟨e1.symm, e3.symm⟩
    rw [hg] at hx
    have hl : xs.length = n1 * 3 := hx.1
    have hj : i * 3 + 2 < xs.length := by omega
    obtain ⟨k2, f2⟩ := row_cell hx (List.getElem?_eq_getElem hj)
    have HIN : Hid (i < n1) := hin
    generalize xs[i * 3 + 2] = old at k2
    clear hg hx hl hj
    go_wp2
    exact ⟨⟨i + 1, by omega, by go_num, HI.out.setA HG.out HIN.out⟩, by simp [intOf]; omega⟩
  have i1 : ¬ (i : Int) < n1 := by omega
  obtain rfl : n1 = i := by omega
  have HE : Hid (LF w wr 1099511627776 4398046511104 2199023255552 8796093022208 u1 u1 n1 n1 0 u2 u2 n2 0 0) := HI.out
  clear HI hin
  go_wp2
  go_loopw [6] (fun v wr => ∃ i : Nat, i ≤ n2 ∧ v = .int .i64 i ∧ Hid (LF w wr 1099511627776 4398046511104 2199023255552 8796093022208 u1 u1 n1 n1 0 u2 u2 n2 i 0)) (fun v _ => (n2 - intOf v).toNat)
  case atStart => exact ⟨0, by omega, rfl, HE.out⟩
  case round =>
   clear HE
   obtain ⟨i, hi, rfl, HI⟩ := hrel
   rename World => wr
   by_cases hin : i < n2
   ·as_aux_lemma =>
     have i1 : (i : Int) < n2 := by omega
     obtain ⟨xs, hx, _⟩ := HI.out.rb
     obtain ⟨g, c, hg⟩ := row_some hx (by omega)
     have HG : Hid (u2 = .slice (some ⟨g, 0, .none⟩) n2 c) := hg
     obtain ⟨rfl, rfl⟩ : p2 = some ⟨g, 0, .none⟩ ∧ c2 = c := by
      have e := HU.out.2
      rw [hg] at e
      injection e with e1 _ e3
      exact ⟨e1.symm, e3.symm⟩
     rw [hg] at hx
     have hl : xs.length = n2 * 3 := hx.1
     have hj : i * 3 + 2 < xs.length := by omega
     obtain ⟨k2, f2⟩ := row_cell hx (List.getElem?_eq_getElem hj)
     have HIN : Hid (i < n2) := hin
     generalize xs[i * 3 + 2] = old at k2
     clear hg hx hl hj
     go_wp2
     exact ⟨⟨i + 1, by omega, by go_num, (HI.out.swap.setA HG.out HIN.out).swap⟩, by simp [intOf]; omega⟩
   have i1 : ¬ (i : Int) < n2 := by omega
   obtain rfl : n2 = i := by omega
   have HE : Hid (LF w wr 1099511627776 4398046511104 2199023255552 8796093022208 u1 u1 n1 n1 0 u2 u2 n2 n2 0) := HI.out
   have HE : Hid (LF w wr 1099511627776 4398046511104 2199023255552 8796093022208 u1 (.slice p1 n1 c1) n1 n1 0 u2 u2 n2 n2 0) := by have h1 := HI.out; rw [show (LF w wr 1099511627776 4398046511104 2199023255552 8796093022208 u1 u1 n1 n1 0 u2 u2 n2 n2 0) = (LF w wr 1099511627776 4398046511104 2199023255552 8796093022208 u1 (.slice p1 n1 c1) n1 n1 0 u2 u2 n2 n2 0) by rw [← HU.out.1]] at h1; exact h1
   clear HI hin
   go_wp2
   go_loopw [7, 8] (fun v k wr => ∃ i : Nat, i ≤ 16 ∧ k = .int .i64 i ∧ Hid (LF w wr 1099511627776 4398046511104 2199023255552 8796093022208 u1 v n1 n1 i u2 u2 n2 n2 0)) (fun _ v _ => (16 - intOf v).toNat)
   case atStart => exact ⟨0, by omega, rfl, HE.out⟩
   case round =>
    clear HE
    obtain ⟨i, hi, rfl, HI⟩ := hrel
    rename World => wr
    by_cases hin : i < 16
    ·as_aux_lemma =>
      have i1 : (i : Int) < 16 := by omega
      obtain ⟨xs, hx, hm1, hm2⟩ := HI.out.rx
      have hl : xs.length = (n1 + i) * 3 := hx.1
      have hnb : n1 + i ≤ 10000000 := by omega
      have HX : Hid (wr.ownsRow 0 85 3 u7 (n1 + i) xs) := hx
      have HM : Hid (Mk xs 0 n1 1099511627776 ∧ Mk xs n1 (n1 + i) 4398046511104 ∧ xs.length = (n1 + i) * 3) := ⟨hm1, hm2, hl⟩
      obtain ⟨q, hq⟩ : ∃ q, q = n1 + i := ⟨_, rfl⟩
      have HQ : Hid (q = n1 + i) := hq
      rw [← hq] at HX hnb
      clear hx hm1 hm2 hl hq
      go_wp2_with (first
       | (refine wpList_is (.build 85 #[(2, .const (.int .i64 4398046511104))]) rfl ?_; refine wpList_buildTo rfl 85 _ rfl (some 39) rfl (owL (0, 0, 4398046511104)).toArray (by kernel_rfl) ?_)
       | (refine wpList_is (.buildSlice 36 1 #[(0, .tmp 39)]) rfl ?_; refine wpList_pushK (base := 0) 36 85 3 24 info59 Try.underlying36 (by decide) (by decide) (by decide) u7 q xs HX.out hnb (Nat.zero_le _) (owL (0, 0, 4398046511104)) rfl (owL_one _) 39 40 (.tmp 38) rfl rfl rfl rfl rfl (some 41) rfl rfl rfl rfl ?_; intro x5 w5 o5 g5 kp5 bk5)
       | fail)
      rw [HQ.out] at o5 kp5
      exact ⟨⟨i + 1, by omega, by go_num, HI.out.pushX HM.out o5 g5 kp5 bk5⟩, by simp [intOf]; omega⟩
    have i1 : ¬ (i : Int) < 16 := by omega
    obtain rfl : i = 16 := by omega
    have HE : Hid (LF w wr 1099511627776 4398046511104 2199023255552 8796093022208 u1 u7 n1 n1 16 u2 (.slice p2 n2 c2) n2 n2 0) := by have h1 := HI.out; rw [show (LF w wr 1099511627776 4398046511104 2199023255552 8796093022208 u1 u7 n1 n1 16 u2 u2 n2 n2 0) = (LF w wr 1099511627776 4398046511104 2199023255552 8796093022208 u1 u7 n1 n1 16 u2 (.slice p2 n2 c2) n2 n2 0) by rw [← HU.out.2]] at h1; exact h1
    clear HI hin hi
    go_wp2
    go_loopw [9, 10] (fun v k wr => ∃ i : Nat, i ≤ 16 ∧ k = .int .i64 i ∧ Hid (LF w wr 1099511627776 4398046511104 2199023255552 8796093022208 u1 u7 n1 n1 16 u2 v n2 n2 i)) (fun _ v _ => (16 - intOf v).toNat)
    case atStart => exact ⟨0, by omega, rfl, HE.out⟩
    case round =>
     clear HE
     obtain ⟨i, hi, rfl, HI⟩ := hrel
     rename World => wr
     by_cases hin : i < 16
     ·as_aux_lemma =>
       have i1 : (i : Int) < 16 := by omega
       obtain ⟨xs, hx, hm1, hm2⟩ := HI.out.ry
       have hl : xs.length = (n2 + i) * 3 := hx.1
       have hnb : n2 + i ≤ 10000000 := by omega
       have HX : Hid (wr.ownsRow 0 85 3 u9 (n2 + i) xs) := hx
       have HM : Hid (Mk xs 0 n2 2199023255552 ∧ Mk xs n2 (n2 + i) 8796093022208 ∧ xs.length = (n2 + i) * 3) := ⟨hm1, hm2, hl⟩
       obtain ⟨q, hq⟩ : ∃ q, q = n2 + i := ⟨_, rfl⟩
       have HQ : Hid (q = n2 + i) := hq
       rw [← hq] at HX hnb
       clear hx hm1 hm2 hl hq
       go_wp2_with (first
        | (refine wpList_is (.build 85 #[(2, .const (.int .i64 8796093022208))]) rfl ?_; refine wpList_buildTo rfl 85 _ rfl (some 48) rfl (owL (0, 0, 8796093022208)).toArray (by kernel_rfl) ?_)
        | (refine wpList_is (.buildSlice 36 1 #[(0, .tmp 48)]) rfl ?_; refine wpList_pushK (base := 0) 36 85 3 24 info59 Try.underlying36 (by decide) (by decide) (by decide) u9 q xs HX.out hnb (Nat.zero_le _) (owL (0, 0, 8796093022208)) rfl (owL_one _) 48 49 (.tmp 47) rfl rfl rfl rfl rfl (some 50) rfl rfl rfl rfl ?_; intro x5 w5 o5 g5 kp5 bk5)
        | fail)
       rw [HQ.out] at o5 kp5
       exact ⟨⟨i + 1, by omega, by go_num, (HI.out.swap.pushX HM.out o5 g5 kp5 bk5).swap⟩, by simp [intOf]; omega⟩
     have i1 : ¬ (i : Int) < 16 := by omega
     obtain rfl : i = 16 := by omega
     obtain ⟨xp, xc, rfl⟩ : ∃ p c, u7 = .slice p (n1 + 16) c := by obtain ⟨xs, hx, _⟩ := HI.out.rx; exact own_form hx
     obtain ⟨yp, yc, rfl⟩ : ∃ p c, u9 = .slice p (n2 + 16) c := by obtain ⟨xs, hx, _⟩ := HI.out.ry; exact own_form hx
     obtain ⟨wz, hwz⟩ : ∃ wz, wz = wr := ⟨_, rfl⟩
     subst hwz
     clear hin hi
     go_wp2
     go_loopw [11] (fun v wr => ∃ i : Nat, i ≤ n1 + 16 ∧ v = .int .i64 i ∧ wr = wz) (fun v _ => (n1 + 16 - intOf v).toNat)
     case atStart => exact ⟨0, by omega, rfl, rfl⟩
     case round =>
      obtain ⟨i, hi, rfl, rfl⟩ := hrel
      by_cases hin : i < n1 + 16
      ·as_aux_lemma =>
        have i1 : (i : Int) < (n1 + 16 : Nat) := by omega
        obtain ⟨xs, hx, hm1, hm2⟩ := HI.out.rx
        obtain ⟨gx, cx, hgx⟩ := row_some hx (by omega)
        obtain ⟨rfl, rfl⟩ : xp = some ⟨gx, 0, .none⟩ ∧ xc = cx := by
         injection hgx with e1 _ e3
         exact ⟨e1, e3⟩
        by_cases hia : i < n1
        ·have i2 : (i : Int) < n1 := by omega
         have i3 : ¬ (n1 : Int) ≤ i := by omega
         obtain ⟨ys, hy, hm3⟩ := HI.out.ra
         obtain ⟨g, c, hg⟩ := row_some hy (by omega)
         obtain ⟨rfl, rfl⟩ : p1 = some ⟨g, 0, .none⟩ ∧ c1 = c := by
          have e := HU.out.1
          rw [hg] at e
          injection e with e1 _ e3
          exact ⟨e1.symm, e3.symm⟩
         rw [hg] at hy
         have k1 := (row_cell hy (hm3 i (by omega) hia)).1
         have k2 := (row_cell hx (hm1 i (by omega) hia)).1
         clear hx hy hg hgx hm1 hm2 hm3 hia
         go_wp2
         exact ⟨⟨i + 1, by omega, by go_num, by first | rfl | trivial⟩, by simp [intOf]; omega⟩
        ·have i2 : ¬ (i : Int) < n1 := by omega
         have i3 : (n1 : Int) ≤ i := by omega
         have k2 := (row_cell hx (hm2 i (by omega) hin)).1
         clear hx hgx hm1 hm2 hia
         go_wp2
         exact ⟨⟨i + 1, by omega, by go_num, by first | rfl | trivial⟩, by simp [intOf]; omega⟩
      have i1 : ¬ (i : Int) < (n1 + 16 : Nat) := by omega
      obtain ⟨wz, hwz⟩ : ∃ wz, wz = wr := ⟨_, rfl⟩
      subst hwz
      clear hin hi
      go_wp2
      go_loopw [12] (fun v wr => ∃ i : Nat, i ≤ n2 + 16 ∧ v = .int .i64 i ∧ wr = wz) (fun v _ => (n2 + 16 - intOf v).toNat)
      case atStart => exact ⟨0, by omega, rfl, rfl⟩
      case round =>
       obtain ⟨i, hi, rfl, rfl⟩ := hrel
       by_cases hin : i < n2 + 16
       ·as_aux_lemma =>
         have i1 : (i : Int) < (n2 + 16 : Nat) := by omega
         obtain ⟨xs, hx, hm1, hm2⟩ := HI.out.ry
         obtain ⟨gx, cx, hgx⟩ := row_some hx (by omega)
         obtain ⟨rfl, rfl⟩ : yp = some ⟨gx, 0, .none⟩ ∧ yc = cx := by
          injection hgx with e1 _ e3
          exact ⟨e1, e3⟩
         by_cases hia : i < n2
         ·have i2 : (i : Int) < n2 := by omega
          have i3 : ¬ (n2 : Int) ≤ i := by omega
          obtain ⟨ys, hy, hm3⟩ := HI.out.rb
          obtain ⟨g, c, hg⟩ := row_some hy (by omega)
          obtain ⟨rfl, rfl⟩ : p2 = some ⟨g, 0, .none⟩ ∧ c2 = c := by
           have e := HU.out.2
           rw [hg] at e
           injection e with e1 _ e3
           exact ⟨e1.symm, e3.symm⟩
          rw [hg] at hy
          have k1 := (row_cell hy (hm3 i (by omega) hia)).1
          have k2 := (row_cell hx (hm1 i (by omega) hia)).1
          clear hx hy hg hgx hm1 hm2 hm3 hia
          go_wp2
          exact ⟨⟨i + 1, by omega, by go_num, by first | rfl | trivial⟩, by simp [intOf]; omega⟩
         ·have i2 : ¬ (i : Int) < n2 := by omega
          have i3 : (n2 : Int) ≤ i := by omega
          have k2 := (row_cell hx (hm2 i (by omega) hin)).1
          clear hx hgx hm1 hm2 hia
          go_wp2
          exact ⟨⟨i + 1, by omega, by go_num, by first | rfl | trivial⟩, by simp [intOf]; omega⟩
       have i1 : ¬ (i : Int) < (n2 + 16 : Nat) := by omega
       go_wp2
       go_ret
       exact ⟨rfl, HP.out _ _ _ _ _ _ _ HI.out⟩
end Go.Proofs.Ythopgmmodldljab
