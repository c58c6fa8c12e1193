import Derived.Test.YtacdgfojdkppmaaGreatDoorKEp
import Derived.Test.YtacdgfojdkppmaaGreatDoorKEj
namespace Go.Proofs.YtacdgfojdkppmaaGreatDoor.Rm
open Go Go.RowKit
set_option linter.unusedVariables false
set_option linter.unusedSimpArgs false
section
variable {w : World} {s p b m N r P K : Nat} {B : Nat → Int} {L : List Nat} {F : Nat → Option Nat} {lf : Nat → Nat → Int} {fr : Nat → Nat} {c : Nat → Int}
/-- What a page that is guarded comes to. -/
def GdP (w : World) (s p b m N r P K : Nat) (fr : Nat → Nat) (c : Nat → Int) (e : Ending) (w' : World) : Prop := e = .returned (.int .i64 0) ∧ (∃ B' L' F' lf', SpG w' s p b m N r P K B' L' F' lf' fr c) ∧ Fra p b m w w'
theorem SpG.guard (h : SpG w s p b m N r P K B L F lf fr c) (hP : P ≤ 512) (i : Nat) (hi : 1 ≤ i ∧ i < P) {d : Int} (hd : rdb (c i) d) : Calls Tryz.prog 64 #[.pointer (some ⟨s, 0, .none⟩), .int .i64 (i : Int)] w (GdP w s p b m N r P K fr (upd c i d)) := by
 have hN := h.su.ram.mem.n2
 have hq := h.su.pag i hi.2
 have h0 := h.su.pag 0 (by omega)
 have e00 : y0 (((0 : Nat) : Int) * 4096) = 513 ∧ i0 (((0 : Nat) : Int) * 4096) = 0 := ⟨low_y0 0 (by omega), low_i0 0 (by omega)⟩
 refine (guard_pt h.su.sp h.su.ram h.su.pt h.su.rt h.su.ne (i : Int) (by omega) (by omega) hd hq 0 ⟨by omega, by rw [low_i0 i (by omega)]; omega, ?_⟩).mono fun e w' h9 => ?_
 ·have hl := h0.l
  have hk := h0.k
  rw [e00.1, e00.2] at hl
  rw [low_y0 i (by omega), hl]
  exact hk
 ·obtain ⟨he, hfra, B', hram, hpt, hby⟩ := h9
  rw [low_y0 i (by omega), low_i0 i (by omega)] at hpt
  refine ⟨he, ⟨B', L, F, _, ⟨h.su.sp.fra hfra h.su.ne.1 h.su.ne.2.1 h.su.ne.2.2, h.su.sz, h.su.pm, hram, hpt, h.su.rt, h.su.ne, fun j hj => ?_⟩, fun k h1 h2 => ?_, h.nod, h.len, h.inj⟩, hfra⟩
  ·have hqj := h.su.pag j hj
   unfold upd
   by_cases hij : j = i
   ·subst hij
    rw [if_pos rfl]
    have hl := rdb_leaf hd hq.qb.1 hN
    refine ⟨hq.w1, hq.w0, ?_, hl.1, by unfold rdb at hd; omega, hq.qb, hq.nn⟩
    rw [low_y0 j (by omega), low_i0 j (by omega)]
    unfold setE
    rw [if_pos ⟨rfl, rfl⟩]
   ·rw [if_neg hij]
    refine ⟨hqj.w1, hqj.w0, ?_, hqj.k, hqj.cb, hqj.qb, hqj.nn⟩
    have := hqj.l
    rw [low_y0 j (by omega), low_i0 j (by omega)] at this ⊢
    unfold setE
    rw [if_neg (fun e => hij e.2)]
    exact this
  ·unfold setE
   rw [if_neg (fun e => by omega)]
   exact h.zr k h1 h2
end
end Go.Proofs.YtacdgfojdkppmaaGreatDoor.Rm
namespace Go.Proofs.YtacdgfojdkppmaaGreatDoor.Rm
open Go Go.RowKit
set_option linter.unusedVariables false
set_option linter.unusedSimpArgs false
/-! A space and what its memory holds, as one plain thing. -/
theorem wrU_off {P : Nat} {B : Nat → Int} {fr : Nat → Nat} (hi : ∀ i j, i < P → j < P → fr i = fr j → i = j) (va : Nat) (R : Nat → Int) (x : Nat) (hx : x < P * 4096) : ∀ n, va + n ≤ P * 4096 → (∀ j, j < n → va + j ≠ x) → btU (wrU B fr va R n) fr x = btU B fr x
 | 0, _, _ => rfl
 | n + 1, hv, hne => by
  have ih := wrU_off (B := B) hi va R x hx n (by omega) (fun j hj => hne j (by omega))
  unfold btU at ih ⊢
  unfold wrU
  rw [if_neg, ih]
  intro e
  have h1 : fr (x / 4096) = fr ((va + n) / 4096) := by omega
  have h2 := hi _ _ (by omega) (by omega) h1
  exact hne n (by omega) (by omega)
theorem wrU_at (B : Nat → Int) (fr : Nat → Nat) (va : Nat) (R : Nat → Int) (P : Nat) (hi : ∀ i j, i < P → j < P → fr i = fr j → i = j) : ∀ n, va + n ≤ P * 4096 → ∀ j, j < n → btU (wrU B fr va R n) fr (va + j) = R j
 | 0, _, j, hj => by omega
 | k + 1, hk, j, hj => by
  unfold btU wrU
  by_cases e : j = k
  ·subst e
   rw [if_pos rfl]
  ·rw [if_neg ?_]
   ·exact wrU_at B fr va R P hi k (by omega) j (by omega)
   ·intro h
    have h1 : fr ((va + j) / 4096) = fr ((va + k) / 4096) := by omega
    have h2 := hi _ _ (by omega) (by omega) h1
    omega
/-- Bytes written into a memory. -/
def wrM (M : Nat → Int) (va n : Nat) (R : Nat → Int) : Nat → Int := fun a => if va ≤ a ∧ a < va + n then R (a - va) else M a
/-- A memory that grew by zeros. -/
def grM (M : Nat → Int) (P : Nat) : Nat → Int := fun a => if a < P * 4096 then M a else 0
/-- A space with P pages, its memory M, its pages' rights c, out of K frames. -/
def SpM (w : World) (s p b m N r P K : Nat) (M : Nat → Int) (c : Nat → Int) : Prop := ∃ B L F lf fr, SpG w s p b m N r P K B L F lf fr c ∧ ∀ a, a < P * 4096 → btU B fr a = M a
section
variable {w w' : World} {s p b m N r P K : Nat} {M : Nat → Int} {c : Nat → Int}
theorem SpM.below (h : SpM w s p b m N r P K M c) (k : Below w.heap.size w w') : SpM w' s p b m N r P K M c := by
 obtain ⟨B, L, F, lf, fr, h1, h2⟩ := h
 exact ⟨B, L, F, lf, fr, h1.below k, h2⟩
theorem SpM.ext (h : SpM w s p b m N r P K M c) {M' : Nat → Int} (e : ∀ a, a < P * 4096 → M' a = M a) : SpM w s p b m N r P K M' c := by
 obtain ⟨B, L, F, lf, fr, h1, h2⟩ := h
 exact ⟨B, L, F, lf, fr, h1, fun a ha => (h2 a ha).trans (e a ha).symm⟩
theorem SpM.fracell (h : SpM w s p b m N r P K M c) : ∃ B L, Ram w p b m N B L ∧ L.length + P + (if P = 0 then 0 else 2) = K := by
 obtain ⟨B, L, F, lf, fr, h1, h2⟩ := h
 exact ⟨B, L, h1.su.ram, h1.len⟩
theorem SpG.mem {B : Nat → Int} {F : Nat → Option Nat} {lf : Nat → Nat → Int} {fr : Nat → Nat} {f : Nat} {x : Int} {L1 L' : List Nat} {B' : Nat → Int} {F' : Nat → Option Nat} {lf' : Nat → Nat → Int} (h : SpG w s p b m N r P K B (f :: L1) F lf fr c) (h' : SpG w' s p b m N r (P + 1) K B' L' F' lf' (upd fr P f) (upd c P x))
  {va leaf : Int} (R : LP N va leaf L1 (zer B f) F lf L' B' F') : ∀ a, a < (P + 1) * 4096 → btU B' (upd fr P f) a = grM (btU B fr) P a := fun a ha => by
 have hq := h'.su.pag (a / 4096) (by omega)
 have hm : a % 4096 < 4096 := by omega
 by_cases hP : a / 4096 = P
 ·have hn : ¬ a < P * 4096 := by omega
  have e1 := R.byt _ hq.nn (a % 4096) hm
  have : upd fr P f (a / 4096) = f := by unfold upd; rw [if_pos hP]
  unfold btU grM
  rw [e1, if_neg hn, this]
  exact zer_in B f _ hm
 ·have hi : a / 4096 < P := Nat.lt_of_le_of_ne (Nat.le_of_lt_succ (Nat.div_lt_of_lt_mul (by rw [Nat.mul_comm]; exact ha))) hP
  have hn : a < P * 4096 := by
   clear hP ha
   omega
  have hf : fr (a / 4096) ≠ f := fun e => (h.su.pag (a / 4096) hi).qb.2 (by rw [e]; exact List.mem_cons_self ..)
  have hx : fr (a / 4096) * 4096 + a % 4096 < f * 4096 ∨ f * 4096 + 4096 ≤ fr (a / 4096) * 4096 + a % 4096 := by rcases Nat.lt_or_gt_of_ne hf with h1 | h1 <;> omega
  have e2 : upd fr P f (a / 4096) = fr (a / 4096) := by unfold upd; rw [if_neg hP]
  have e1 := R.byt _ hq.nn (a % 4096) hm
  unfold btU grM
  rw [e1, if_pos hn, e2]
  exact zer_out B f _ hx
/-- What one more page comes to. -/
def GmP (w : World) (s p b m N r P K : Nat) (M : Nat → Int) (c : Nat → Int) (x : Int) (e : Ending) (w' : World) : Prop := e = .returned (.int .i64 0) ∧ SpM w' s p b m N r (P + 1) K (grM M P) (upd c P (x + 208)) ∧
 w.heap.size ≤ w'.heap.size ∧ w'.os = w.os ∧ w'.tape = w.tape ∧ w'.output = w.output ∧ ∀ k, k < w.heap.size → k ≠ p → k ≠ b → k ≠ m → k ≠ s → w'.heap[k]? = w.heap[k]?
theorem SpM.grow (h : SpM w s p b m N r P K M c) (hP : P < 500) (hK : P + 3 ≤ K) (x : Int) (hx : rgt x) : Calls Tryz.prog 108 #[.pointer (some ⟨s, 0, .none⟩), .int .u64 (((P : Int) + 1) * 4096), .int .u64 x] w (GmP w s p b m N r P K M c x) := by
 obtain ⟨B, L, F, lf, fr, h, hM⟩ := h
 have hlen := h.len
 have hLn : 1 ≤ L.length := by split at hlen <;> omega
 obtain ⟨f, L1, rfl⟩ : ∃ f L1, L = f :: L1 := by
  cases L with
  | nil => simp at hLn
  | cons f L1 => exact ⟨f, L1, rfl⟩
 have hn := h.need (by omega)
 have hw : wn1 P ≤ L1.length := by
  rw [List.length_cons] at hlen
  unfold wn1
  split <;> rename_i h0
  ·rw [if_pos h0] at hlen; omega
  ·omega
 refine (grow_pt h.su.sp h.su.ram h.su.pt h.su.rt h.su.ne (by omega) hx (by rw [low_y0 P (by omega), low_i0 P (by omega)]; exact h.zr P (Nat.le_refl _) (by omega)) (by rw [hn]; exact hw) ?_).mono fun e w' h9 => ?_
 ·unfold ndP
  rw [List.length_cons] at hlen ⊢
  by_cases h0 : P = 0
  ·subst h0
   simp at hlen ⊢
   omega
  ·rw [if_neg (by omega), if_neg (by omega)]
   rw [if_neg h0] at hlen
   omega
 ·obtain ⟨he, hsp, ⟨B', L', F', hR, hL, hr⟩, hrest⟩ := h9
  have hlen2 : L1.length = wn1 P + L'.length := by
   have := congrArg List.length hL
   rw [List.length_append, List.length_take, hn, Nat.min_eq_left hw] at this
   exact this
  have h' := h.step (by omega) hx hsp hR hlen2 hr
  refine ⟨he, ⟨B', L', F', _, _, h', fun a ha => ?_⟩, hrest⟩
  rw [h.mem h' hR a ha]
  unfold grM
  split
  ·exact hM a (by omega)
  ·rfl
/-- Bytes laid, whatever the user may. -/
def PmP (w : World) (s p b m N r P K : Nat) (M : Nat → Int) (c : Nat → Int) (e : Ending) (w' : World) : Prop := e = .returned (.bool true) ∧ SpM w' s p b m N r P K M c ∧ Fra p b m w w'
theorem SpM.wr_of {B B' : Nat → Int} {L : List Nat} {F : Nat → Option Nat} {lf : Nat → Nat → Int} {fr : Nat → Nat} (h : SpG w s p b m N r P K B L F lf fr c) (hM : ∀ a, a < P * 4096 → btU B fr a = M a) {va n : Nat} {R : Nat → Int} (hv : va + n ≤ P * 4096) (h' : SpU w' s p b m N r P ((P : Int) * 4096) (wrU B fr va R n) L F lf fr c) : SpM w' s p b m N r P K (wrM M va n R) c := by
 refine ⟨_, L, F, lf, fr, ⟨h', h.zr, h.nod, h.len, h.inj⟩, fun a ha => ?_⟩
 unfold wrM
 by_cases e : va ≤ a ∧ a < va + n
 ·rw [if_pos e]
  have := wrU_at B fr va R P h.inj n hv (a - va) (by omega)
  rw [show va + (a - va) = a by omega] at this
  exact this
 ·rw [if_neg e, wrU_off h.inj va R a ha n hv (fun j hj e2 => e ⟨by omega, by omega⟩)]
  exact hM a ha
theorem SpM.poke (h : SpM w s p b m N r P K M c) (va n : Nat) (hn : 1 ≤ n) (hv : va + n ≤ P * 4096) (g k0 cc : Nat) (hcc : n ≤ cc ∧ cc ≤ 9223372036854775807) (R : Nat → Int) (hR : ∀ i, 0 ≤ R i ∧ R i < 256) (hg : ∀ i, i < n → w.cell? ⟨g, k0 + i, .none⟩ = some (.int .u8 (R i))) (hgp : g ≠ p ∧ g ≠ b ∧ g ≠ m) :
  Calls Tryz.prog 63 #[.pointer (some ⟨s, 0, .none⟩), .int .u64 va, .slice (some ⟨g, k0, .none⟩) n cc] w (PmP w s p b m N r P K (wrM M va n R) c) := by
 obtain ⟨B, L, F, lf, fr, h, hM⟩ := h
 have hm := h.su.pm
 refine (poke_gen h.su va n hn (by omega) g k0 cc hcc R hR hg hgp).mono fun e w' h9 => ?_
 rcases h9 with ⟨_, h1, h2, h3⟩ | ⟨h1, _⟩
 ·exact ⟨h1, SpM.wr_of (B' := B) h hM hv h2, h3⟩
 ·exact absurd (show (va : Int) + n ≤ (P : Int) * 4096 by omega) h1
/-- A page taken from the user. -/
theorem SpM.guard (h : SpM w s p b m N r P K M c) (hP : P ≤ 512) (i : Nat) (hi : 1 ≤ i ∧ i < P) {d : Int} (hd : rdb (c i) d) : Calls Tryz.prog 64 #[.pointer (some ⟨s, 0, .none⟩), .int .i64 (i : Int)] w fun e w' => e = .returned (.int .i64 0) ∧ SpM w' s p b m N r P K M (upd c i d) ∧ Fra p b m w w' := by
 obtain ⟨B, L, F, lf, fr, h, hM⟩ := h
 have hN := h.su.ram.mem.n2
 have hq := h.su.pag i hi.2
 have h0 := h.su.pag 0 (by omega)
 have e00 : y0 (((0 : Nat) : Int) * 4096) = 513 ∧ i0 (((0 : Nat) : Int) * 4096) = 0 := ⟨low_y0 0 (by omega), low_i0 0 (by omega)⟩
 refine (guard_pt h.su.sp h.su.ram h.su.pt h.su.rt h.su.ne (i : Int) (by omega) (by omega) hd hq 0 ⟨by omega, by rw [low_i0 i (by omega)]; omega, ?_⟩).mono fun e w' h9 => ?_
 ·have hl := h0.l
  have hk := h0.k
  rw [e00.1, e00.2] at hl
  rw [low_y0 i (by omega), hl]
  exact hk
 ·obtain ⟨he, hfra, B', hram, hpt, hby⟩ := h9
  rw [low_y0 i (by omega), low_i0 i (by omega)] at hpt
  refine ⟨he, ⟨B', L, F, _, fr, ⟨⟨h.su.sp.fra hfra h.su.ne.1 h.su.ne.2.1 h.su.ne.2.2, h.su.sz, h.su.pm, hram, hpt, h.su.rt, h.su.ne, fun j hj => ?_⟩, fun k h1 h2 => ?_, h.nod, h.len, h.inj⟩, fun a ha => ?_⟩, hfra⟩
  ·have hqj := h.su.pag j hj
   unfold upd
   by_cases hij : j = i
   ·subst hij
    rw [if_pos rfl]
    have hl := rdb_leaf hd hq.qb.1 hN
    refine ⟨hq.w1, hq.w0, ?_, hl.1, by unfold rdb at hd; omega, hq.qb, hq.nn⟩
    rw [low_y0 j (by omega), low_i0 j (by omega)]
    unfold setE
    rw [if_pos ⟨rfl, rfl⟩]
   ·rw [if_neg hij]
    refine ⟨hqj.w1, hqj.w0, ?_, hqj.k, hqj.cb, hqj.qb, hqj.nn⟩
    have := hqj.l
    rw [low_y0 j (by omega), low_i0 j (by omega)] at this ⊢
    unfold setE
    rw [if_neg (fun e => hij e.2)]
    exact this
  ·unfold setE
   rw [if_neg (fun e => by omega)]
   exact h.zr k h1 h2
  ·rw [← hM a ha]
   unfold btU
   exact hby _ (h.su.pag (a / 4096) (by omega)).nn _ (by omega)
/-- What In tells. -/
def ImP (w : World) (va n : Nat) (M : Nat → Int) (c : Nat → Int) (e : Ending) (w' : World) : Prop :=
 Below w.heap.size w w' ∧ (((∀ j, j < n → accU c 1 (va + j) = true) ∧ ∃ g, w.heap.size ≤ g ∧ g < w'.heap.size ∧ e = .returned (.tuple #[.slice (some ⟨g, 0, .none⟩) n n, .bool true]) ∧ (∀ j, j < n → w'.cell? ⟨g, j, .none⟩ = some (.int .u8 (M (va + j))))) ∨
  ((∃ j, j < n ∧ accU c 1 (va + j) = false) ∧ e = .returned (.tuple #[.slice none 0 0, .bool false])))
theorem SpM.inn (h : SpM w s p b m N r P K M c) (va n : Nat) (hn : 1 ≤ n) (hf : va + n ≤ P * 4096) : Calls Tryz.prog 14 #[.pointer (some ⟨s, 0, .none⟩), .int .u64 va, .int .i64 n] w (ImP w va n M c) := by
 obtain ⟨B, L, F, lf, fr, h, hM⟩ := h
 refine (in_any h.su va n hn hf).mono fun e w' h9 => ?_
 obtain ⟨hb, ⟨h1, g, h2, h3, h4, h5⟩ | h1⟩ := h9
 ·exact ⟨hb, .inl ⟨h1, g, h2, h3, h4, fun j hj => by rw [h5 j hj, hM _ (by omega)]⟩⟩
 ·exact ⟨hb, .inr h1⟩
theorem SpM.size_any (h : SpM w s p b m N r P K M c) : Calls Tryz.prog 13 #[.pointer (some ⟨s, 0, .none⟩)] w fun e w' => e = .returned (.int .u64 ((P : Int) * 4096)) ∧ w' = w := by
 obtain ⟨B, L, F, lf, fr, h, hM⟩ := h
 exact size_sp h.su.sp
end
end Go.Proofs.YtacdgfojdkppmaaGreatDoor.Rm
