import Derived.Test.YtabnipbdbnmmpaaGreatDoorTw25
import Derived.Test.YtabnipbdbnmmpaaGreatDoorTw24
import Derived.Test.YtabnipbdbnmmpaaGreatDoorTw21
import Derived.Test.YtabnipbdbnmmpaaGreatDoorRows
import Derived.WalkKit
import Derived.WalkSpells
import Derived.RowKit3
import Derived.Deep.QuietTactic
import Derived.BigQuiet
import Derived.WalkSmall
import Derived.Below
import Derived.Deep.Heap
import Derived.Laws.AppendOwn
import Derived.Laws.OwnMore
import Derived.RegionTactic
import Derived.BigRegion
import Derived.Laws.MakeOwn
set_option linter.unusedVariables false
set_option linter.unusedSimpArgs false
namespace Go.Proofs.YtabnipbdbnmmpaaGreatDoor.Rm
open Go Go.RowKit
theorem ndP_mono {a c : Int} (h0 : 0 ≤ a) (h : a ≤ c) : ndP a ≤ ndP c := by
 unfold ndP
 split <;> split <;> omega
structure Oxt where
 ft : Nat
 T : Nat → Prop
 Z : Nat → Int
def oxt0 (ft : Nat) : Oxt := ⟨ft, fun _ => False, fun _ => 0⟩
def Ots (ox : Oxt) (L : List Nat) (F : Nat → Option Nat) (P : Nat) (fr : Nat → Nat) (B : Nat → Int) : Prop := ∀ f, ox.T f → f ∉ L ∧ (∀ x, F x ≠ some f) ∧ (∀ i, i < P → fr i ≠ f) ∧ ∀ j, j < 4096 → B (f * 4096 + j) = ox.Z (f * 4096 + j)
section
variable {N r ft P P' : Nat} {B B' : Nat → Int} {L L' : List Nat} {F F' : Nat → Option Nat} {lf lf' : Nat → Nat → Int} {fr fr' : Nat → Nat} {c : Nat → Int} {I I' : List Nat} {ox : Oxt}
theorem Ots.oth (h : Ots ox L F P fr B) (k : Oth L F fr (List.range P) B L' F' fr' (List.range P') B') : Ots ox L' F' P' fr' B' := fun f hf => by
 obtain ⟨h1, h2, h3, h4⟩ := h f hf
 obtain ⟨k1, k2, k3, k4⟩ := k f h1 h2 (fun i hi => h3 i (List.mem_range.1 hi))
 exact ⟨k1, k2, fun i hi => k3 i (List.mem_range.2 hi), fun j hj => (k4 j hj).trans (h4 j hj)⟩
theorem Ots.bytes (h : Ots ox L F P fr B) (k : ∀ f, ox.T f → ∀ j, j < 4096 → B' (f * 4096 + j) = B (f * 4096 + j)) : Ots ox L F P fr B' := fun f hf => by
 obtain ⟨h1, h2, h3, h4⟩ := h f hf
 exact ⟨h1, h2, h3, fun j hj => (k f hf j hj).trans (h4 j hj)⟩
theorem TL.turn {l l' : List Pg} {x x' : Pg} (h : TL F lf l) (hx : x ∈ l) (hk : okP x') (he : x'.1 = x.1) (hm : ∀ y, y ∈ l' ↔ y = x' ∨ (y ∈ l ∧ y.1 ≠ x.1)) : TL F (setE lf (y0 x.1) (i0 x.1) (toP x'.2.1 x'.2.2)) l' := by
 have hne := hk.ne
 have hok := h.ok x hx
 refine ⟨fun y hy => ?_, fun y hy z hz e => ?_, fun y hy => ?_, fun y k h1 h2 h3 => ?_, fun y h1 h2 => ?_, h.n1⟩
 ·rcases (hm y).1 hy with rfl | h1
  ·exact hk
  ·exact h.ok y h1.1
 ·rcases (hm y).1 hy with rfl | h1 <;> rcases (hm z).1 hz with rfl | h2
  ·rfl
  ·exact absurd (e.symm.trans he) h2.2
  ·exact absurd (e.trans he) h1.2
  ·exact h.uniq y h1.1 z h2.1 e
 ·unfold setE
  rcases (hm y).1 hy with rfl | h1
  ·rw [he, if_pos ⟨rfl, rfl⟩]
  ·rw [if_neg (fun e => h1.2 (va_inj (h.ok y h1.1).1 hok.1 e.1 e.2))]
   exact h.leaf y h1.1
 ·by_cases e : y = y0 x.1 ∧ k = i0 x.1
  ·exact ⟨x', (hm x').2 (.inl rfl), by rw [he]; exact e.1, by rw [he]; exact e.2⟩
  ·unfold setE at h3
   rw [if_neg e] at h3
   obtain ⟨z, hz, e1, e2⟩ := h.only y k h1 h2 h3
   refine ⟨z, (hm z).2 (.inr ⟨hz, fun e3 => e ⟨by rw [e1, e3], by rw [e2, e3]⟩⟩), e1, e2⟩
 ·obtain ⟨k, h3, h4⟩ := h.n0 y h1 h2
  refine ⟨k, h3, ?_⟩
  unfold setE
  split
  ·exact hne
  ·exact h4
theorem SpL.turn {i : Nat} {d : Int} (h : SpL N r ft B L F lf fr c I) (hi : i ∈ I) (hd : 0 ≤ d ∧ d < 256 ∧ d % 2 = 0) (hb : 0 ≤ ad (fr i) ∧ ad (fr i) < 72057594037927936 ∧ ad (fr i) % 4096 = 0) (hk : kd (toP (ad (fr i)) d) 0 = 2)
  (hp : PT N L B' F (setE lf (y0 ((i : Int) * 4096)) (i0 ((i : Int) * 4096)) (toP (ad (fr i)) d))) : SpL N r ft B' L F (setE lf (y0 ((i : Int) * 4096)) (i0 ((i : Int) * 4096)) (toP (ad (fr i)) d)) fr (upd c i d) I := by
 have hbi := h.bd i hi
 have hok := h.ok hi
 refine ⟨hp, h.rt, ?_, h.nd, h.bd, h.inj, h.pg, h.ftb⟩
 refine TL.turn (x := upg fr c i) (x' := ((i : Int) * 4096, ad (fr i), d)) h.tl (mem_pgL.2 (.inr (.inr ⟨i, hi, rfl⟩))) ⟨hok.1, hb, hd, hk⟩ rfl fun y => ?_
 rw [mem_pgL, mem_pgL]
 constructor
 ·rintro (rfl | rfl | ⟨j, hj, rfl⟩)
  ·exact .inr ⟨.inl rfl, by unfold upg; simp only [ne_eq]; omega⟩
  ·exact .inr ⟨.inr (.inl rfl), by unfold upg; simp only [ne_eq]; omega⟩
  ·by_cases e : j = i
   ·subst e
    left
    unfold upg upd
    rw [if_pos rfl]
   ·right
    refine ⟨.inr (.inr ⟨j, hj, ?_⟩), ?_⟩
    ·unfold upg upd
     rw [if_neg e]
    ·unfold upg
     simp only [ne_eq]
     omega
 ·rintro (rfl | ⟨rfl | rfl | ⟨j, hj, rfl⟩, hne⟩)
  ·refine .inr (.inr ⟨i, hi, ?_⟩)
   unfold upg upd
   rw [if_pos rfl]
  ·exact .inl rfl
  ·exact .inr (.inl rfl)
  ·refine .inr (.inr ⟨j, hj, ?_⟩)
   have e : j ≠ i := fun e => hne (by rw [e])
   unfold upg upd
   rw [if_neg e]
theorem SpL.extc {c' : Nat → Int} (h : SpL N r ft B L F lf fr c I) (e : ∀ i, i ∈ I → c' i = c i) : SpL N r ft B L F lf fr c' I := by
 have e1 : pgL ft fr c' I = pgL ft fr c I := by
  unfold pgL
  congr 1
  refine List.map_congr_left fun j hj => ?_
  unfold upg
  rw [e j hj]
 exact ⟨h.pt, h.rt, by rw [e1]; exact h.tl, h.nd, h.bd, h.inj, h.pg, h.ftb⟩
theorem SpL.need {j : Nat} (h : SpL N r ft B L F lf fr c (List.range j)) (hj : j < 4096) : ((need F ((j : Int) * 4096) : Nat) : Int) = ndP (j + 1) - ndP j := by
 have e1 : y1 ((j : Int) * 4096) = 1 + 0 := by rw [y1_val _ (by omega)]; omega
 have e0 : y0 ((j : Int) * 4096) = 513 + j / 512 := by rw [y0_val _ (by omega)]; omega
 have h1 := h.tl.has1 h.pt 0 (by omega)
 have h0 := h.tl.has0 h.pt (j / 512)
 unfold Go.Proofs.YtabnipbdbnmmpaaGreatDoor.Rm.need ndP
 rw [e1, e0]
 by_cases hj0 : j = 0
 ·subst hj0
  have hn : F (1 + 0) = none := by
   cases hF : F (1 + 0) with
   | none => rfl
   | some f =>
    obtain ⟨x, hx, e⟩ := h1.1 (by rw [hF]; simp)
    rcases mem_pgL.1 hx with rfl | rfl | ⟨i, hi, rfl⟩
    ·simp only at e; omega
    ·simp only at e; omega
    ·simp at hi
  rw [if_pos hn]
  decide
 ·have hs : F (1 + 0) ≠ none := h1.2 ⟨upg fr c 0, mem_pgL.2 (.inr (.inr ⟨0, List.mem_range.2 (by omega), rfl⟩)), by unfold upg; simp only; omega⟩
  rw [if_neg hs, if_neg (show ¬ (j : Int) + 1 = 0 by omega), if_neg (show ¬ (j : Int) = 0 by omega)]
  by_cases hm : j % 512 = 0
  ·have hn : F (513 + j / 512) = none := by
    cases hF : F (513 + j / 512) with
    | none => rfl
    | some f =>
     obtain ⟨x, hx, e⟩ := h0.1 (by rw [hF]; simp)
     rcases mem_pgL.1 hx with rfl | rfl | ⟨i, hi, rfl⟩
     ·simp only at e; omega
     ·simp only at e; omega
     ·have := List.mem_range.1 hi
      unfold upg at e
      simp only at e
      omega
   rw [if_pos hn]
   omega
  ·have hn : F (513 + j / 512) ≠ none := h0.2 ⟨upg fr c (j - 1), mem_pgL.2 (.inr (.inr ⟨j - 1, List.mem_range.2 (by omega), rfl⟩)), by unfold upg; simp only; omega⟩
   rw [if_neg hn]
   omega
theorem low_iq (i : Nat) : i0 ((i : Int) * 4096) = i % 512 := by
 unfold i0 ix spn
 simp
 omega
theorem low_yq (i : Nat) (h : i < 4096) : y0 ((i : Int) * 4096) = 513 + i / 512 := by rw [y0_val _ (by omega)]; omega
end
end Go.Proofs.YtabnipbdbnmmpaaGreatDoor.Rm
namespace Go.Proofs.YtabnipbdbnmmpaaGreatDoor.Rm
open Go Go.RowKit
theorem wrU_off {P : Nat} {B : Nat → Int} {fr : Nat → Nat} (hi : ∀ i j, i < P → j < P → fr i = fr j → i = j) (va : Nat) (R : Nat → Int) (x : Nat) (hx : x < P * 4096) : ∀ n, va + n ≤ P * 4096 → (∀ j, j < n → va + j ≠ x) → btU (wrU B fr va R n) fr x = btU B fr x
 | 0, _, _ => rfl
 | n + 1, hv, hne => by
  have ih := wrU_off (B := B) hi va R x hx n (by omega) (fun j hj => hne j (by omega))
  unfold btU at ih ⊢
  unfold wrU
  rw [if_neg, ih]
  intro e
  have h1 : fr (x / 4096) = fr ((va + n) / 4096) := by omega
  have h2 := hi _ _ (by omega) (by omega) h1
  exact hne n (by omega) (by omega)
theorem wrU_at (B : Nat → Int) (fr : Nat → Nat) (va : Nat) (R : Nat → Int) (P : Nat) (hi : ∀ i j, i < P → j < P → fr i = fr j → i = j) : ∀ n, va + n ≤ P * 4096 → ∀ j, j < n → btU (wrU B fr va R n) fr (va + j) = R j
 | 0, _, j, hj => by omega
 | k + 1, hk, j, hj => by
  unfold btU wrU
  by_cases e : j = k
  ·subst e
   rw [if_pos rfl]
  ·rw [if_neg ?_]
   ·exact wrU_at B fr va R P hi k (by omega) j (by omega)
   ·intro h
    have h1 : fr ((va + j) / 4096) = fr ((va + k) / 4096) := by omega
    have h2 := hi _ _ (by omega) (by omega) h1
    omega
def wrM (M : Nat → Int) (va n : Nat) (R : Nat → Int) : Nat → Int := fun a => if va ≤ a ∧ a < va + n then R (a - va) else M a
def grM (M : Nat → Int) (P : Nat) : Nat → Int := fun a => if a < P * 4096 then M a else 0
def SpM (ox : Oxt) (w : World) (s p b m N r P K : Nat) (M : Nat → Int) (c : Nat → Int) : Prop := ∃ B L F lf fr, SpT w s p b m N r P ox.ft ((P : Int) * 4096) B L F lf fr c ∧ (∀ a, a < P * 4096 → btU B fr a = M a) ∧ Ots ox L F P fr B ∧ L.length + nodesF F + P + 1 = K
section
variable {ox : Oxt} {w w' : World} {s p b m N r P K : Nat} {M : Nat → Int} {c : Nat → Int}
theorem SpM.below (h : SpM ox w s p b m N r P K M c) (k : Below w.heap.size w w') : SpM ox w' s p b m N r P K M c := by
 obtain ⟨B, L, F, lf, fr, h1, h2, h4, h5⟩ := h
 exact ⟨B, L, F, lf, fr, h1.below k, h2, h4, h5⟩
theorem SpM.ext (h : SpM ox w s p b m N r P K M c) {M' : Nat → Int} (e : ∀ a, a < P * 4096 → M' a = M a) : SpM ox w s p b m N r P K M' c := by
 obtain ⟨B, L, F, lf, fr, h1, h2, h4, h5⟩ := h
 exact ⟨B, L, F, lf, fr, h1, fun a ha => (h2 a ha).trans (e a ha).symm, h4, h5⟩
theorem SpT.inj {B : Nat → Int} {L : List Nat} {F : Nat → Option Nat} {lf : Nat → Nat → Int} {fr : Nat → Nat} {ft : Nat} {size : Int} (h : SpT w s p b m N r P ft size B L F lf fr c) : ∀ i j, i < P → j < P → fr i = fr j → i = j := fun i j hi hj => h.tab.inj i (List.mem_range.2 hi) j (List.mem_range.2 hj)
def GmP (ox : Oxt) (w : World) (s p b m N r P K : Nat) (M : Nat → Int) (c : Nat → Int) (x : Int) (e : Ending) (w' : World) : Prop := e = .returned (.int .i64 0) ∧ SpM ox w' s p b m N r (P + 1) K (grM M P) (upd c P (x + 208)) ∧
 w.heap.size ≤ w'.heap.size ∧ w'.os = w.os ∧ w'.tape = w.tape ∧ w'.output = w.output ∧ ∀ k, k < w.heap.size → k ≠ p → k ≠ b → k ≠ m → k ≠ s → w'.heap[k]? = w.heap[k]?
theorem SpM.grow (h : SpM ox w s p b m N r P K M c) (hP : P < 4096) (hK : (P : Int) + 1 + ndP (P + 1) ≤ K) (x : Int) (hx : rgt x) : Calls Tryz.prog 146 #[.pointer (some ⟨s, 0, .none⟩), .int .u64 (((P : Int) + 1) * 4096), .int .u64 x] w (GmP ox w s p b m N r P K M c x) := by
 obtain ⟨B, L, F, lf, fr, h, hM, hO, hlen⟩ := h
 have hnd := h.tab.nodes h.pm
 have hneed := h.tab.need hP
 have hmono := ndP_mono (a := (P : Int)) (c := (P : Int) + 1) (by omega) (by omega)
 obtain ⟨f, L1, rfl⟩ : ∃ f L1, L = f :: L1 := by
  cases L with
  | nil => rw [List.length_nil] at hlen; omega
  | cons f L1 => exact ⟨f, L1, rfl⟩
 rw [List.length_cons] at hlen
 have hN := h.ram.mem.n2
 have hf := h.ram.lt f (List.mem_cons_self ..)
 have hz : lf (y0 ((P : Int) * 4096)) (i0 ((P : Int) * 4096)) = 0 := h.tab.zero (fun e => Nat.lt_irrefl _ (List.mem_range.1 e)) hP
 have hw : needY F ((P : Int) * 4096) ≤ L1.length := by rw [need_eq]; omega
 refine (grow_pt h.sp h.ram h.tab.pt h.tab.rt h.ne (by omega) hx hz hw ?_).mono fun e w' h9 => ?_
 ·rw [List.length_cons]
  omega
 ·obtain ⟨he, hsp, ⟨B', L', F', hR, hL, hr⟩, hrest⟩ := h9
  have hlen2 : L1.length = need F ((P : Int) * 4096) + L'.length := by
   have := congrArg List.length hL
   rw [List.length_append, List.length_take, Nat.min_eq_left hw, need_eq] at this
   exact this
  obtain ⟨t1, t2, t3⟩ := h.tab.add (i := P) h.ram.nd ⟨hf.1, hf.2⟩ hN (fun e => Nat.lt_irrefl _ (List.mem_range.1 e)) hP (rgt_b hx) (rgt_leaf hx hf.2 hN).1 hR hlen2
  rw [← List.range_succ] at t1 t3
  have hT : SpT w' s p b m N r (P + 1) ox.ft (((P + 1 : Nat) : Int) * 4096) B' L' F' (setE lf (y0 ((P : Int) * 4096)) (i0 ((P : Int) * 4096)) (toP (ad f) (x + 208))) (upd fr P f) (upd c P (x + 208)) := ⟨by rw [show ((P + 1 : Nat) : Int) = (P : Int) + 1 by omega]; exact hsp, by omega, by omega, hr, h.ne, t1⟩
  refine ⟨he, ⟨B', L', F', _, _, hT, fun a ha => ?_, hO.oth t3, by rw [List.length_cons] at t2; omega⟩, hrest⟩
  have hq := hT.su.pag (a / 4096) (by omega)
  have hm : a % 4096 < 4096 := by omega
  by_cases hPa : a / 4096 = P
  ·have hn : ¬ a < P * 4096 := by omega
   have e1 := hR.byt _ hq.nn (a % 4096) hm
   have : upd fr P f (a / 4096) = f := by unfold upd; rw [if_pos hPa]
   unfold btU grM
   rw [e1, if_neg hn, this]
   exact zer_in B f _ hm
  ·have hi : a / 4096 < P := Nat.lt_of_le_of_ne (Nat.le_of_lt_succ (Nat.div_lt_of_lt_mul (by rw [Nat.mul_comm]; exact ha))) hPa
   have hn : a < P * 4096 := by
    clear hPa ha
    omega
   have hff : fr (a / 4096) ≠ f := fun e => (h.tab.pg (a / 4096) (List.mem_range.2 hi)).2.2.1 (by rw [e]; exact List.mem_cons_self ..)
   have hx2 : fr (a / 4096) * 4096 + a % 4096 < f * 4096 ∨ f * 4096 + 4096 ≤ fr (a / 4096) * 4096 + a % 4096 := by rcases Nat.lt_or_gt_of_ne hff with h1 | h1 <;> omega
   have e2 : upd fr P f (a / 4096) = fr (a / 4096) := by unfold upd; rw [if_neg hPa]
   have e1 := hR.byt _ hq.nn (a % 4096) hm
   have e3 := hM a hn
   unfold btU at e1 e3 ⊢
   unfold grM
   rw [e1, if_pos hn, e2, ← e3]
   exact zer_out B f _ hx2
def PmP (ox : Oxt) (w : World) (s p b m N r P K : Nat) (M : Nat → Int) (c : Nat → Int) (e : Ending) (w' : World) : Prop := e = .returned (.bool true) ∧ SpM ox w' s p b m N r P K M c ∧ Fra p b m w w'
theorem SpM.wr_of {B : Nat → Int} {L : List Nat} {F : Nat → Option Nat} {lf : Nat → Nat → Int} {fr : Nat → Nat} (h : SpT w s p b m N r P ox.ft ((P : Int) * 4096) B L F lf fr c) (hM : ∀ a, a < P * 4096 → btU B fr a = M a) (hO : Ots ox L F P fr B) (hK : L.length + nodesF F + P + 1 = K) {va n : Nat} {R : Nat → Int} (hv : va + n ≤ P * 4096) (h' : SpU w' s p b m N r P ((P : Int) * 4096) (wrU B fr va R n) L F lf fr c) : SpM ox w' s p b m N r P K (wrM M va n R) c := by
 refine ⟨_, L, F, lf, fr, ⟨h'.sp, h'.sz, h'.pm, h'.ram, h'.ne, ⟨h'.pt, h.tab.rt, h.tab.tl, h.tab.nd, h.tab.bd, h.tab.inj, h.tab.pg, h.tab.ftb⟩⟩, fun a ha => ?_, hO.bytes fun f hf j hj => wrU_else B fr va R f j hj n fun k hk e => (hO f hf).2.2.1 _ (by omega) e, hK⟩
 unfold wrM
 by_cases e : va ≤ a ∧ a < va + n
 ·rw [if_pos e]
  have := wrU_at B fr va R P h.inj n hv (a - va) (by omega)
  rw [show va + (a - va) = a by omega] at this
  exact this
 ·rw [if_neg e, wrU_off h.inj va R a ha n hv (fun j hj e2 => e ⟨by omega, by omega⟩)]
  exact hM a ha
theorem SpM.poke (h : SpM ox w s p b m N r P K M c) (va n : Nat) (hn : 1 ≤ n) (hv : va + n ≤ P * 4096) (g k0 cc : Nat) (hcc : n ≤ cc ∧ cc ≤ 9223372036854775807) (R : Nat → Int) (hR : ∀ i, 0 ≤ R i ∧ R i < 256) (hg : ∀ i, i < n → w.cell? ⟨g, k0 + i, .none⟩ = some (.int .u8 (R i))) (hgp : g ≠ p ∧ g ≠ b ∧ g ≠ m) :
  Calls Tryz.prog 95 #[.pointer (some ⟨s, 0, .none⟩), .int .u64 va, .slice (some ⟨g, k0, .none⟩) n cc] w (PmP ox w s p b m N r P K (wrM M va n R) c) := by
 obtain ⟨B, L, F, lf, fr, h, hM, hO, hK⟩ := h
 have hm := h.pm
 refine (poke_gen h.su va n hn (by omega) g k0 cc hcc R hR hg hgp).mono fun e w' h9 => ?_
 rcases h9 with ⟨_, h1, h2, h3⟩ | ⟨h1, _⟩
 ·exact ⟨h1, SpM.wr_of h hM hO hK hv h2, h3⟩
 ·exact absurd (show (va : Int) + n ≤ (P : Int) * 4096 by omega) h1
theorem SpM.guard (h : SpM ox w s p b m N r P K M c) (i : Nat) (hi : 1 ≤ i ∧ i + 1 < P) {d : Int} (hd : rdb (c i) d) : Calls Tryz.prog 96 #[.pointer (some ⟨s, 0, .none⟩), .int .i64 (i : Int)] w fun e w' => e = .returned (.int .i64 0) ∧ SpM ox w' s p b m N r P K M (upd c i d) ∧ Fra p b m w w' := by
 obtain ⟨B, L, F, lf, fr, h, hM, hO, hK⟩ := h
 have hN := h.ram.mem.n2
 have hpm := h.pm
 have hq := h.su.pag i (by omega)
 obtain ⟨j, hj1, hj2, hj3⟩ : ∃ j, j < P ∧ j / 512 = i / 512 ∧ j % 512 ≠ i % 512 := by
  by_cases e : i % 512 = 511
  ·exact ⟨i - 1, by omega, by omega, by omega⟩
  ·exact ⟨i + 1, by omega, by omega, by omega⟩
 have hqj := h.su.pag j hj1
 refine (guard_pt h.sp h.ram h.tab.pt h.tab.rt h.ne (i : Int) (by omega) (by omega) hd hq (j % 512) ⟨by omega, by rw [low_iq]; exact hj3, ?_⟩).mono fun e w' h9 => ?_
 ·have hl := hqj.l
  have hk := hqj.k
  rw [low_yq j (by omega), low_iq, hj2] at hl
  rw [low_yq i (by omega), hl]
  exact hk
 ·obtain ⟨he, hfra, B', hram, hpt, hby⟩ := h9
  have hlf := rdb_leaf hd hq.qb.1 hN
  have hfb := ad_b (fr i) N hq.qb.1 hN
  have hT2 := h.tab.turn (i := i) (List.mem_range.2 (by omega)) (d := d) (B' := B') ⟨by unfold rdb at hd; omega, by unfold rdb at hd; omega, by unfold rdb at hd; omega⟩ ⟨hfb.1, hfb.2.1, hfb.2.2⟩ hlf.1 hpt
  refine ⟨he, ⟨B', L, F, _, fr, ⟨h.sp.fra hfra h.ne.1 h.ne.2.1 h.ne.2.2, h.sz, h.pm, hram, h.ne, hT2⟩, fun a ha => ?_, hO.bytes fun f hf j hj => hby f (hO f hf).2.1 j hj, hK⟩, hfra⟩
  rw [← hM a ha]
  unfold btU
  exact hby _ (h.su.pag (a / 4096) (by omega)).nn _ (by omega)
def ImP (w : World) (va n : Nat) (M : Nat → Int) (c : Nat → Int) (e : Ending) (w' : World) : Prop :=
 Below w.heap.size w w' ∧ (((∀ j, j < n → accU c 1 (va + j) = true) ∧ ∃ g, w.heap.size ≤ g ∧ g < w'.heap.size ∧ e = .returned (.tuple #[.slice (some ⟨g, 0, .none⟩) n n, .bool true]) ∧ (∀ j, j < n → w'.cell? ⟨g, j, .none⟩ = some (.int .u8 (M (va + j))))) ∨
  ((∃ j, j < n ∧ accU c 1 (va + j) = false) ∧ e = .returned (.tuple #[.slice none 0 0, .bool false])))
theorem SpM.inn (h : SpM ox w s p b m N r P K M c) (va n : Nat) (hn : 1 ≤ n) (hf : va + n ≤ P * 4096) : Calls Tryz.prog 12 #[.pointer (some ⟨s, 0, .none⟩), .int .u64 va, .int .i64 n] w (ImP w va n M c) := by
 obtain ⟨B, L, F, lf, fr, h, hM, hO, hK⟩ := h
 refine (in_any h.su va n hn hf).mono fun e w' h9 => ?_
 obtain ⟨hb, ⟨h1, g, h2, h3, h4, h5⟩ | h1⟩ := h9
 ·exact ⟨hb, .inl ⟨h1, g, h2, h3, h4, fun j hj => by rw [h5 j hj, hM _ (by omega)]⟩⟩
 ·exact ⟨hb, .inr h1⟩
theorem SpM.size_any (h : SpM ox w s p b m N r P K M c) : Calls Tryz.prog 22 #[.pointer (some ⟨s, 0, .none⟩)] w fun e w' => e = .returned (.int .u64 ((P : Int) * 4096)) ∧ w' = w := by
 obtain ⟨B, L, F, lf, fr, h, hM, hO, hK⟩ := h
 exact size_sp h.sp
end
end Go.Proofs.YtabnipbdbnmmpaaGreatDoor.Rm
namespace Go.Proofs.YtabnipbdbnmmpaaGreatDoor
open Go.RowKit
theorem info_of (t : TypeId) (k b : Nat) (h1 : (Tryz.prog.info? t).map (fun i => (i.size, i.bytes)) = some (k, b)) (h2 : ((Tryz.prog.info? t).bind (·.zero)).map (·.cells.size) = some k) :
  ∃ i z, Tryz.prog.info? t = some i ∧ i.zero = some z ∧ i.size = k ∧ i.bytes = b ∧ z.cells.size = k := by
 cases hi : Tryz.prog.info? t with
 | none => rw [hi] at h1; cases h1
 | some i =>
  rw [hi] at h1 h2
  simp only [Option.map_some, Option.some.injEq, Prod.mk.injEq, Option.bind_some] at h1 h2
  cases hz : i.zero with
  | none => rw [hz] at h2; cases h2
  | some z =>
   rw [hz] at h2
   exact ⟨i, z, rfl, hz, h1.1, h1.2, by simpa using h2⟩
theorem byte_info : ∃ i z, Tryz.prog.info? 5 = some i ∧ i.zero = some z ∧ i.size = 1 ∧ i.bytes = 1 ∧ z.cells.size = 1 := info_of 5 1 1 (by kernel_rfl) (by kernel_rfl)
theorem le_addr_add (b o j : Nat) : (⟨b, o, .none⟩ : Addr).add j = ⟨b, o + j, .none⟩ := by unfold Addr.add; split <;> simp_all
theorem heap_new (w : World) (o : Obj) : (w.alloc o).heap[w.heap.size]? = some o := by
 rw [World.alloc]
 simp
theorem below_append {B : Nat} {a w w' : World} {row : Option Nat} (h : Below B a w) (o : Obj) (hg : (w.alloc o).grownBy w' row) (hB : B ≤ w.heap.size) (hr : ∀ k, row = some k → B ≤ k) : Below B a w' :=
 (h.alloc hB o).grown hg (by simp only [World.size_alloc]; omega) hr
theorem own_block {w : World} {base e n sz : Nat} {v : Value} {xs : List Value} (h : w.ownsRow base e sz v n xs) : ∀ k, v.ownBlock = some k → base ≤ k := by
 intro k hk
 rcases h.2 with ⟨rfl, rfl⟩ | ⟨g, cap, cur, rfl, hb, _⟩
 ·cases hk
 ·simp only [Value.ownBlock, Option.some.injEq] at hk; omega
theorem one_slice {w : World} {base e n sz : Nat} {m : Value} {zs : List Value} (h : w.ownsRow base e sz m n zs) : ∃ p c, m = .slice p n c := by
 rcases h.2 with ⟨rfl, rfl⟩ | ⟨g, cap, cur, rfl, _⟩
 ·exact ⟨_, _, rfl⟩
 ·exact ⟨_, _, rfl⟩
theorem own_mono {w : World} {b b' e k n : Nat} {v : Value} {xs : List Value} (h : w.ownsRow b e k v n xs) (hb : b' ≤ b) : w.ownsRow b' e k v n xs := by
 refine ⟨h.1, ?_⟩
 rcases h.2 with h | ⟨g, cap, cur, h1, h2, h3⟩
 ·exact .inl h
 ·exact .inr ⟨g, cap, cur, h1, by omega, h3⟩
def by8 (xs : List Int) : List Value := xs.map (.int .u8)
theorem by8_len (xs : List Int) : (by8 xs).length = xs.length := by simp [by8]
theorem by8_app (xs ys : List Int) : by8 (xs ++ ys) = by8 xs ++ by8 ys := by simp [by8]
theorem by8_get {xs : List Int} {i : Nat} {x : Int} (h : xs[i]? = some x) : (by8 xs)[i]? = some (.int .u8 x) := by simp [by8, h]
theorem by8_one (xs : List Int) : ∀ u ∈ by8 xs, u.oneCell' = true := by
 intro u hu
 simp only [by8, List.mem_map] at hu
 obtain ⟨x, _, rfl⟩ := hu
 rfl
def Byt (w : World) (p : Option Addr) (n c : Nat) (xs : List Int) : Prop :=
 xs.length = n ∧ n ≤ c ∧ c ≤ maxLen ∧ (n = 0 ∨ ∃ b o, p = some ⟨b, o, .none⟩ ∧ b < w.heap.size ∧ ∀ i x, xs[i]? = some x → w.cell? ⟨b, o + i, .none⟩ = some (.int .u8 x))
theorem byt_own {w : World} {base : Nat} {p : Option Addr} {n c : Nat} {xs : List Int} (h : w.ownsRow base 5 1 (.slice p n c) n (by8 xs)) : Byt w p n c xs := by
 have hl : xs.length = n := by have := h.1; rw [by8_len] at this; omega
 rcases h.2 with ⟨hv, h0⟩ | ⟨g, cap, cur, hv, hb, hg, hn, hm, _⟩
 ·simp only [Value.slice.injEq] at hv
  obtain ⟨rfl, _, rfl⟩ := hv
  exact ⟨hl, by omega, by decide, .inl h0⟩
 ·simp only [Value.slice.injEq, true_and] at hv
  obtain ⟨rfl, rfl⟩ := hv
  refine ⟨hl, hn, hm, .inr ⟨g, 0, rfl, (Array.getElem?_eq_some_iff.1 hg).1, fun i x hx => ?_⟩⟩
  have := h.cells (g := g) rfl i _ (by8_get hx)
  rwa [le_addr_add] at this
def Gb (xs : List Int) (w : World) (e : Ending) (w' : World) : Prop :=
 ∃ p c, e = .returned (.slice p xs.length c) ∧ w'.ownsRow w.heap.size 5 1 (.slice p xs.length c) xs.length (by8 xs) ∧ Below w.heap.size w w'
end Go.Proofs.YtabnipbdbnmmpaaGreatDoor
namespace Go.Proofs.YtabnipbdbnmmpaaGreatDoor
open Go.RowKit
theorem le_cell1_new (w : World) (x : Int) (t : TypeId) : ∀ j u, (by8 [x])[j]? = some u → (w.alloc (.cells #[.int .u8 x] t)).cell? ((⟨w.heap.size, 0, .none⟩ : Addr).add j) = some u := by
 intro j u hj
 rw [le_addr_add, World.cell?_alloc_at _ _ _ _ rfl, Nat.zero_add]
 simpa [by8] using hj
theorem take_next {xs : List Int} {i : Nat} {x : Int} (h : xs[i]? = some x) : xs.take i ++ [x] = xs.take (i + 1) := by
 rw [List.take_add_one, h]
 rfl
theorem own_cap {w : World} {base e sz n c g : Nat} {xs : List Value} (h : w.ownsRow base e sz (.slice (some ⟨g, 0, .none⟩) n c) n xs) : n ≤ c ∧ c ≤ maxLen := by
 rcases h.2 with ⟨hv, _⟩ | ⟨g', cap, cur, hv, hb, hg, hn, hm, _⟩
 ·cases hv
 ·simp only [Value.slice.injEq, true_and] at hv
  obtain ⟨_, rfl⟩ := hv
  exact ⟨hn, hm⟩
theorem own_lt {w : World} {base e sz n c g : Nat} {xs : List Value} (h : w.ownsRow base e sz (.slice (some ⟨g, 0, .none⟩) n c) n xs) : g < w.heap.size := by
 rcases h.2 with ⟨hv, _⟩ | ⟨g', cap, cur, hv, hb, hg, _⟩
 ·cases hv
 ·simp only [Value.slice.injEq, Option.some.injEq, Addr.mk.injEq, and_true, true_and] at hv
  obtain ⟨rfl, rfl⟩ := hv
  exact (Array.getElem?_eq_some_iff.1 hg).1
theorem own_some {w : World} {base e sz n c : Nat} {p : Option Addr} {xs : List Value} (h : w.ownsRow base e sz (.slice p (n + 1) c) (n + 1) xs) : ∃ g, p = some ⟨g, 0, .none⟩ := by
 rcases h.2 with ⟨_, h0⟩ | ⟨g, cap, cur, hv, _⟩
 ·omega
 ·simp only [Value.slice.injEq] at hv
  exact ⟨g, hv.1⟩
end Go.Proofs.YtabnipbdbnmmpaaGreatDoor
