import Derived.Test.YtabnipbdbnmmpaaGreatDoorTw07
set_option linter.unusedVariables false
set_option linter.unusedSimpArgs false
namespace Go.Proofs.YtabnipbdbnmmpaaGreatDoor.Rm
open Go.RowKit
theorem kd_zero (l : Int) : kd 0 l = 0 := by
 have h : hs 0 1 = false := by decide
 unfold kd
 rw [if_pos h]
theorem fi_adr (i : Nat) : fi (2147483648 + (i : Int) * 4096) = i := by unfold fi; omega
theorem ent_zero (B : Nat → Int) (nd va l : Int) (h : ∀ k, k < 4096 → B (fi nd * 4096 + k) = 0) : ent B nd va l = 0 := by
 have hi := ix_b va l
 have key : ∀ j, j ≤ 8 → num B (fi nd * 4096 + (ix va l).toNat * 8) j = 0 := by
  intro j
  induction j with
  | zero => intro _; rfl
  | succ j ih =>
   intro hj
   have e := h ((ix va l).toNat * 8 + j) (by omega)
   simp only [num, ih (by omega)]
   rw [show fi nd * 4096 + (ix va l).toNat * 8 + j = fi nd * 4096 + ((ix va l).toNat * 8 + j) by omega, e]
   simp
 exact key 8 (by omega)
theorem ndB_mk {N : Nat} {L : List Nat} {i : Nat} (h1 : 1 ≤ i) (h2 : i < N) (h3 : i ∉ L) : ndB N L (2147483648 + (i : Int) * 4096) = true := by
 unfold ndB
 rw [fi_adr]
 simp only [decide_eq_true_eq]
 exact ⟨trivial, h1, h2, h3⟩
theorem ndB_cons {N : Nat} {L : List Nat} {i : Nat} {nd : Int} (h : ndB N (i :: L) nd = true) : ndB N L nd = true ∧ fi nd ≠ i := by
 obtain ⟨h1, h2, h3, h4⟩ := ndB_spec h
 rw [List.mem_cons, not_or] at h4
 refine ⟨?_, h4.1⟩
 unfold ndB
 simp only [decide_eq_true_eq]
 exact ⟨h1, h2, h3, h4.2⟩
theorem new_zero (B : Nat → Int) (i f o : Nat) (vs : List Int) (hv : vs.length = 8) (ho : o + 8 ≤ 4096) (hf : f ≠ i) : ∀ k, k < 4096 → over (zer B i) (f * 4096 + o) vs (fi (2147483648 + (i : Int) * 4096) * 4096 + k) = 0 := fun k hk => by
 rw [fi_adr]
 unfold over
 rw [if_neg (by rw [hv]; omega)]
 exact zer_in B i k hk
theorem lays_zero (N : Nat) (va leaf : Int) : ∀ (l : Nat) (B : Nat → Int) (L : List Nat) (nd : Int), (∀ k, k < 4096 → B (fi nd * 4096 + k) = 0) → ndB N L nd = true → L.Nodup → (∀ i ∈ L, 1 ≤ i ∧ i < N) → l ≤ L.length → ∃ B' L', Lays N va leaf l B L nd B' L' ∧ L = L.take l ++ L'
 | 0, B, L, nd, hz, hn, hd, hl, hle => ⟨_, L, ⟨hn, by rw [ent_zero B nd va 0 hz]; exact kd_zero 0, rfl, rfl⟩, by simp⟩
 | l + 1, B, [], nd, hz, hn, hd, hl, hle => by simp at hle
 | l + 1, B, i :: L1, nd, hz, hn, hd, hl, hle => by
  obtain ⟨hn2, hne⟩ := ndB_cons hn
  obtain ⟨hi, hd2⟩ := List.nodup_cons.1 hd
  have hb := ix_b va (l + 1 : Nat)
  have hil := hl i (by simp)
  obtain ⟨B', L', h1, h2⟩ := lays_zero N va leaf l (over (zer B i) (fi nd * 4096 + (ix va (l + 1 : Nat)).toNat * 8) (le (toP (2147483648 + i * 4096) 0) 8)) L1 (2147483648 + (i : Int) * 4096)
   (new_zero B i (fi nd) ((ix va (l + 1 : Nat)).toNat * 8) _ (le_len _ _) (by omega) hne) (ndB_mk hil.1 hil.2 hi) hd2 (fun j hj => hl j (List.mem_cons_of_mem _ hj)) (by simpa using hle)
  refine ⟨B', L', ⟨hn, .inr ⟨by rw [ent_zero B nd va _ hz]; exact kd_zero _, i, L1, rfl, hn2, h1⟩⟩, ?_⟩
  rw [List.take_succ_cons, List.cons_append, ← h2]
theorem lays_look (N : Nat) (va leaf : Int) (B : Nat → Int) (L : List Nat) (hd : L.Nodup) (hl : ∀ i ∈ L, 1 ≤ i ∧ i < N) : ∀ (l : Nat) (nd a0 a1 a2 e : Int), (wk N L B va l nd a0 a1 a2 e).k = 0 → (wk N L B va l nd a0 a1 a2 e).l ≤ L.length → ∃ B' L', Lays N va leaf l B L nd B' L' ∧ L = L.take (wk N L B va l nd a0 a1 a2 e).l.toNat ++ L'
 | 0, nd, a0, a1, a2, e => fun hk hle => by
  by_cases hn : ndB N L nd = true
  ·have ew := wk_stop0 (B := B) (va := va) (a0 := a0) (a1 := a1) (a2 := a2) (e := e) hn
   rw [ew] at hk ⊢
   exact ⟨_, L, ⟨hn, hk, rfl, rfl⟩, by simp⟩
  ·have ew : wk N L B va 0 nd a0 a1 a2 e = ⟨a0, a1, a2, 0, e, 4⟩ := if_neg hn
   rw [ew] at hk
   simp at hk
 | l + 1, nd, a0, a1, a2, e => fun hk hle => by
  by_cases hn : ndB N L nd = true
  ·by_cases h3 : kd (ent B nd va (l + 1 : Nat)) (l + 1 : Nat) = 3
   ·have ew : wk N L B va (l + 1) nd a0 a1 a2 e = wk N L B va l (adE (ent B nd va (l + 1 : Nat))) a0 (if l = 0 then st nd va 1 else a1) (if l = 1 then st nd va 2 else a2) (ent B nd va (l + 1 : Nat)) := (if_pos hn).trans (if_pos h3)
    rw [ew] at hk hle ⊢
    obtain ⟨B', L', h1, h2⟩ := lays_look N va leaf B L hd hl l _ _ _ _ _ hk hle
    exact ⟨B', L', ⟨hn, .inl ⟨h3, h1⟩⟩, h2⟩
   ·have ew : wk N L B va (l + 1) nd a0 a1 a2 e = ⟨a0, if l = 0 then st nd va 1 else a1, if l = 1 then st nd va 2 else a2, (l + 1 : Nat), ent B nd va (l + 1 : Nat), kd (ent B nd va (l + 1 : Nat)) (l + 1 : Nat)⟩ := (if_pos hn).trans (if_neg h3)
    rw [ew] at hk hle ⊢
    simp only at hk hle ⊢
    rw [Int.toNat_natCast]
    match L, hd, hl, hn, hle with
    | [], hd, hl, hn, hle => simp at hle; omega
    | i :: L1, hd, hl, hn, hle =>
     obtain ⟨hn2, hne⟩ := ndB_cons hn
     obtain ⟨hi, hd2⟩ := List.nodup_cons.1 hd
     have hb := ix_b va (l + 1 : Nat)
     have hil := hl i (by simp)
     obtain ⟨B', L', h1, h2⟩ := lays_zero N va leaf l (over (zer B i) (fi nd * 4096 + (ix va (l + 1 : Nat)).toNat * 8) (le (toP (2147483648 + i * 4096) 0) 8)) L1 (2147483648 + (i : Int) * 4096)
      (new_zero B i (fi nd) ((ix va (l + 1 : Nat)).toNat * 8) _ (le_len _ _) (by omega) hne) (ndB_mk hil.1 hil.2 hi) hd2 (fun j hj => hl j (List.mem_cons_of_mem _ hj)) (by simp at hle; omega)
     refine ⟨B', L', ⟨hn, .inr ⟨hk, i, L1, rfl, hn2, h1⟩⟩, ?_⟩
     rw [List.take_succ_cons, List.cons_append, ← h2]
  ·have ew : wk N L B va (l + 1) nd a0 a1 a2 e = ⟨a0, a1, a2, (l + 1 : Nat), e, 4⟩ := if_neg hn
   rw [ew] at hk
   simp at hk
end Go.Proofs.YtabnipbdbnmmpaaGreatDoor.Rm
namespace Go.Proofs.YtabnipbdbnmmpaaGreatDoor.Rm
open Go.RowKit
def ad (f : Nat) : Int := 2147483648 + (f : Int) * 4096
def evn (B : Nat → Int) (f i : Nat) : Int := num B (f * 4096 + i * 8) 8
theorem ent_evn (B : Nat → Int) (f : Nat) (va l : Int) : ent B (ad f) va l = evn B f (ix va l).toNat := by unfold ent evn ad; rw [fi_adr]
theorem num_ext (B B' : Nat → Int) (o : Nat) : ∀ n, (∀ k, k < n → B' (o + k) = B (o + k)) → num B' o n = num B o n
 | 0, _ => rfl
 | n + 1, h => by
  simp only [num]
  rw [num_ext B B' o n (fun k hk => h k (by omega)), h n (by omega)]
theorem leG (v : Int) (n k : Nat) (hk : k < n) : (le v n).getD k 0 = v / 256 ^ k % 256 := by
 rw [List.getD_eq_getElem?_getD]
 simp [le, hk]
theorem evn_over_same (B : Nat → Int) (f i : Nat) (v : Int) (hv : 0 ≤ v ∧ v < 18446744073709551616) : evn (over B (f * 4096 + i * 8) (le v 8)) f i = v := by
 refine num_jb _ _ _ hv fun k hk => ?_
 unfold over
 rw [if_pos ⟨by omega, by rw [le_len]; omega⟩, show f * 4096 + i * 8 + k - (f * 4096 + i * 8) = k by omega]
 exact leG v 8 k hk
theorem over_out (B : Nat → Int) (f i : Nat) (v : Int) (j : Nat) (h : j < f * 4096 + i * 8 ∨ f * 4096 + i * 8 + 8 ≤ j) : over B (f * 4096 + i * 8) (le v 8) j = B j := by
 unfold over
 rw [if_neg (by rw [le_len]; omega)]
theorem evn_over_other (B : Nat → Int) (f i g j : Nat) (v : Int) (hi : i < 512) (hj : j < 512) (h : g ≠ f ∨ j ≠ i) : evn (over B (f * 4096 + i * 8) (le v 8)) g j = evn B g j := by
 refine num_ext _ _ _ _ fun k hk => over_out _ _ _ _ _ ?_
 rcases h with h | h
 ·rcases Nat.lt_or_gt_of_ne h with h | h <;> omega
 ·by_cases e : g = f
  ·subst e
   omega
  ·rcases Nat.lt_or_gt_of_ne e with h | h <;> omega
theorem evn_zer_same (B : Nat → Int) (f i : Nat) (hi : i < 512) : evn (zer B f) f i = 0 := by
 refine num_jb _ _ _ (by omega) fun k hk => ?_
 rw [Nat.add_assoc, zer_in B f _ (by omega)]
 simp
theorem evn_zer_other (B : Nat → Int) (f g i : Nat) (hi : i < 512) (h : g ≠ f) : evn (zer B f) g i = evn B g i := by
 refine num_ext _ _ _ _ fun k hk => zer_out _ _ _ ?_
 rcases Nat.lt_or_gt_of_ne h with h | h <;> omega
def ptr : Option Nat → Int
 | none => 0
 | some f => toP (ad f) 0
def ch (x e : Nat) : Nat := if x = 0 then 1 + e else 513 + 512 * (x - 1) + e
theorem ch_inj {x y e d : Nat} (hx : x ≤ 512) (hy : y ≤ 512) (he : e < 512) (hd : d < 512) (h : ch x e = ch y d) : x = y ∧ e = d := by
 unfold ch at h
 split at h <;> split at h <;> omega
theorem ch_pos (x e : Nat) : 0 < ch x e := by unfold ch; split <;> omega
def setO (F : Nat → Option Nat) (x f : Nat) : Nat → Option Nat := fun y => if y = x then some f else F y
def setE (lf : Nat → Nat → Int) (y k : Nat) (v : Int) : Nat → Nat → Int := fun a b => if a = y ∧ b = k then v else lf a b
structure PT (N : Nat) (L : List Nat) (B : Nat → Int) (F : Nat → Option Nat) (lf : Nat → Nat → Int) : Prop where
 root : ∃ r, F 0 = some r
 held : ∀ x f, F x = some f → 1 ≤ f ∧ f < N ∧ f ∉ L
 inj : ∀ x y f, F x = some f → F y = some f → x = y
 up : ∀ x e, x ≤ 512 → e < 512 → F (ch x e) ≠ none → F x ≠ none
 dom : ∀ x, F x ≠ none → x < 262657
 ep : ∀ x g, x ≤ 512 → F x = some g → ∀ e, e < 512 → evn B g e = ptr (F (ch x e))
 el : ∀ y g, 513 ≤ y → F y = some g → ∀ k, k < 512 → evn B g k = lf y k
 lv : ∀ y k, lf y k = 0 ∨ (kd (lf y k) 0 = 2 ∧ 0 ≤ lf y k ∧ lf y k < 18446744073709551616)
 ln : ∀ y, F y = none → ∀ k, lf y k = 0
section
variable {N : Nat} {L : List Nat} {B : Nat → Int} {F : Nat → Option Nat} {lf : Nat → Nat → Int}
theorem toPb (f N : Nat) (hf : f < N) (hN : N ≤ 4096) : 0 ≤ toP (ad f) 0 ∧ toP (ad f) 0 < 18446744073709551616 := by
 rw [toP_val (ad f) 0 (by unfold ad; omega) (by omega) (by omega)]
 unfold ad
 omega
theorem PT.keep {B' : Nat → Int} {L' : List Nat} (h : PT N L B F lf) (hB : ∀ x f, F x = some f → ∀ k, k < 4096 → B' (f * 4096 + k) = B (f * 4096 + k)) (hL : ∀ x f, F x = some f → f ∉ L') : PT N L' B' F lf := by
 have he : ∀ x f, F x = some f → ∀ e, e < 512 → evn B' f e = evn B f e := fun x f hf e he => num_ext _ _ _ _ fun k hk => by rw [Nat.add_assoc]; exact hB x f hf _ (by omega)
 exact ⟨h.root, fun x f hf => ⟨(h.held x f hf).1, (h.held x f hf).2.1, hL x f hf⟩, h.inj, h.up, h.dom, fun x g hx hg e h1 => (he x g hg e h1).trans (h.ep x g hx hg e h1), fun y g hy hg k hk => (he y g hg k hk).trans (h.el y g hy hg k hk), h.lv, h.ln⟩
theorem PT.leaf {y q k : Nat} {v : Int} (h : PT N L B F lf) (hy : 513 ≤ y) (hq : F y = some q) (hk : k < 512) (hv : v = 0 ∨ (kd v 0 = 2 ∧ 0 ≤ v ∧ v < 18446744073709551616)) : PT N L (over B (q * 4096 + k * 8) (le v 8)) F (setE lf y k v) := by
 have hvb : 0 ≤ v ∧ v < 18446744073709551616 := by rcases hv with e | e <;> omega
 refine ⟨h.root, h.held, h.inj, h.up, h.dom, fun x g hx hg e he => ?_, fun z g hz hg d hd => ?_, fun z d => ?_, fun z hz d => ?_⟩
 ·rw [evn_over_other _ _ _ _ _ _ hk he (.inl (fun e2 => by subst e2; have := h.inj x y g hg hq; omega))]
  exact h.ep x g hx hg e he
 ·unfold setE
  by_cases e : z = y ∧ d = k
  ·obtain ⟨rfl, rfl⟩ := e
   rw [hq] at hg
   injection hg with hg
   subst hg
   rw [if_pos ⟨rfl, rfl⟩]
   exact evn_over_same _ _ _ _ hvb
  ·rw [if_neg e, evn_over_other _ _ _ _ _ _ hk hd (by
    by_cases e2 : g = q
    ·subst e2
     have := h.inj z y g hg hq
     exact .inr (fun e3 => e ⟨this, e3⟩)
    ·exact .inl e2)]
   exact h.el z g hz hg d hd
 ·unfold setE
  split
  ·exact hv
  ·exact h.lv z d
 ·unfold setE
  rw [if_neg (by rintro ⟨rfl, _⟩; rw [hq] at hz; cases hz)]
  exact h.ln z hz d
theorem PT.node {f x g e : Nat} {L1 : List Nat} (h : PT N (f :: L1) B F lf) (hN : N ≤ 4096) (hd : (f :: L1).Nodup) (hf : 1 ≤ f ∧ f < N) (hx : x ≤ 512) (hg : F x = some g) (he : e < 512) (hn : F (ch x e) = none) :
  PT N L1 (over (zer B f) (g * 4096 + e * 8) (le (toP (ad f) 0) 8)) (setO F (ch x e) f) lf := by
 have hfn : ∀ z q, F z = some q → q ≠ f := fun z q hz e => (h.held z q hz).2.2 (by rw [e]; exact List.mem_cons_self ..)
 have hgf : g ≠ f := hfn x g hg
 have hb := toPb f N hf.2 hN
 have hxc : x ≠ ch x e := fun e2 => by rw [← e2, hg] at hn; cases hn
 have hfL : f ∉ L1 := (List.nodup_cons.1 hd).1
 have evo : ∀ q d, d < 512 → q ≠ f → (q ≠ g ∨ d ≠ e) → evn (over (zer B f) (g * 4096 + e * 8) (le (toP (ad f) 0) 8)) q d = evn B q d := fun q d h1 h2 h3 => by rw [evn_over_other _ _ _ _ _ _ he h1 h3, evn_zer_other _ _ _ _ h1 h2]
 have evf : ∀ d, d < 512 → evn (over (zer B f) (g * 4096 + e * 8) (le (toP (ad f) 0) 8)) f d = 0 := fun d h1 => by rw [evn_over_other _ _ _ _ _ _ he h1 (.inl (Ne.symm hgf)), evn_zer_same _ _ _ h1]
 have sF : ∀ z, z ≠ ch x e → setO F (ch x e) f z = F z := fun z hz => by unfold setO; rw [if_neg hz]
 have sT : setO F (ch x e) f (ch x e) = some f := by unfold setO; rw [if_pos rfl]
 refine ⟨?_, fun z q hz => ?_, fun z y q hz hy => ?_, fun z d hz hd2 hne => ?_, fun z hz => ?_, fun z q hz hq d hd2 => ?_, fun z q hz hq d hd2 => ?_, h.lv, fun z hz d => ?_⟩
 ·obtain ⟨r, hr⟩ := h.root
  exact ⟨r, by rw [sF 0 (by have := ch_pos x e; omega)]; exact hr⟩
 ·by_cases e2 : z = ch x e
  ·subst e2
   rw [sT] at hz
   injection hz with hz
   subst hz
   exact ⟨hf.1, hf.2, hfL⟩
  ·rw [sF z e2] at hz
   have := h.held z q hz
   exact ⟨this.1, this.2.1, fun hm => this.2.2 (List.mem_cons_of_mem _ hm)⟩
 ·by_cases e2 : z = ch x e <;> by_cases e3 : y = ch x e
  ·rw [e2, e3]
  ·rw [e2, sT] at hz
   injection hz with hz
   rw [sF y e3] at hy
   exact absurd hz.symm (hfn y q hy)
  ·rw [e3, sT] at hy
   injection hy with hy
   rw [sF z e2] at hz
   exact absurd hy.symm (hfn z q hz)
  ·rw [sF z e2] at hz
   rw [sF y e3] at hy
   exact h.inj z y q hz hy
 ·by_cases e2 : z = ch x e
  ·rw [e2, sT]; simp
  ·rw [sF z e2]
   by_cases e3 : ch z d = ch x e
   ·obtain ⟨rfl, _⟩ := ch_inj hz hx hd2 he e3
    rw [hg]; simp
   ·rw [sF _ e3] at hne
    exact h.up z d hz hd2 hne
 ·by_cases e2 : z = ch x e
  ·subst e2
   unfold ch
   split <;> omega
  ·rw [sF z e2] at hz
   exact h.dom z hz
 ·by_cases e2 : z = ch x e
  ·subst e2
   rw [sT] at hq
   injection hq with hq
   subst hq
   rw [evf d hd2]
   have : setO F (ch x e) f (ch (ch x e) d) = none := by
    have e3 : ch (ch x e) d ≠ ch x e := fun e3 => by
     unfold ch at e3 hz
     split at e3 <;> split at e3 <;> omega
    rw [sF _ e3]
    cases hc : F (ch (ch x e) d) with
    | none => rfl
    | some q => exact absurd hn (h.up (ch x e) d hz hd2 (by rw [hc]; simp))
   rw [this]
   rfl
  ·rw [sF z e2] at hq
   by_cases e3 : q = g ∧ d = e
   ·obtain ⟨rfl, rfl⟩ := e3
    obtain rfl : z = x := h.inj z x q hq hg
    rw [sT, evn_over_same _ _ _ _ hb]
    rfl
   ·rw [evo q d hd2 (hfn z q hq) (by
     by_cases e4 : q = g
     ·exact .inr (fun e5 => e3 ⟨e4, e5⟩)
     ·exact .inl e4)]
    rw [h.ep z q hz hq d hd2]
    rw [sF]
    intro e4
    obtain ⟨rfl, rfl⟩ := ch_inj hz hx hd2 he e4
    rw [hg] at hq
    injection hq with hq
    exact e3 ⟨hq.symm, rfl⟩
 ·by_cases e2 : z = ch x e
  ·subst e2
   rw [sT] at hq
   injection hq with hq
   subst hq
   rw [evf d hd2, h.ln _ hn]
  ·rw [sF z e2] at hq
   rw [evo q d hd2 (hfn z q hq) (.inl (fun e3 => by subst e3; have := h.inj z x q hq hg; omega))]
   exact h.el z q hz hq d hd2
 ·by_cases e2 : z = ch x e
  ·subst e2
   rw [sT] at hz
   cases hz
  ·rw [sF z e2] at hz
   exact h.ln z hz d
end
end Go.Proofs.YtabnipbdbnmmpaaGreatDoor.Rm
