import Derived.Test.YtabnipbdbnmmpaaGreatDoorTw08
import Derived.Test.YtabnipbdbnmmpaaGreatDoorTw07
set_option linter.unusedVariables false
set_option linter.unusedSimpArgs false
namespace Go.Proofs.YtabnipbdbnmmpaaGreatDoor.Rm
open Go.RowKit
def i2 (va : Int) : Nat := (ix va 2).toNat
def i1 (va : Int) : Nat := (ix va 1).toNat
def i0 (va : Int) : Nat := (ix va 0).toNat
def y1 (va : Int) : Nat := ch 0 (i2 va)
def y0 (va : Int) : Nat := ch (y1 va) (i1 va)
theorem i2_lt (va : Int) : i2 va < 512 := by unfold i2; have := ix_b va 2; omega
theorem i1_lt (va : Int) : i1 va < 512 := by unfold i1; have := ix_b va 1; omega
theorem i0_lt (va : Int) : i0 va < 512 := by unfold i0; have := ix_b va 0; omega
theorem y1_le (va : Int) : y1 va ≤ 512 ∧ 1 ≤ y1 va := by unfold y1 ch; have := i2_lt va; simp; omega
theorem y0_ge (va : Int) : 513 ≤ y0 va := by unfold y0 ch; have := y1_le va; rw [if_neg (by omega)]; omega
section
variable {N : Nat} {L : List Nat} {B : Nat → Int} {F : Nat → Option Nat} {lf : Nat → Nat → Int}
theorem PT.ndB (h : PT N L B F lf) {x f : Nat} (hf : F x = some f) : ndB N L (ad f) = true := by
 have := h.held x f hf
 exact ndB_mk this.1 this.2.1 this.2.2
theorem ptr_kd {f : Nat} (hf : f < N) (hN : N ≤ 4096) (l : Int) (hl : l = 1 ∨ l = 2) : kd (ptr (some f)) l = 3 := kd_node _ _ (by unfold ad; omega) hl
theorem ptr_ad {f : Nat} (hf : f < N) (hN : N ≤ 4096) : adE (ptr (some f)) = ad f := adE_toP _ _ (by unfold ad; omega) (by unfold ad; omega) (by omega) (by omega)
theorem c2 : ((1 + 1 : Nat) : Int) = 2 := rfl
theorem c1 : ((0 + 1 : Nat) : Int) = 1 := rfl
theorem look_2 (h : PT N L B F lf) {r : Nat} (hr : F 0 = some r) (va : Int) (hn : F (y1 va) = none) : look N L B (ad r) va = ⟨0, 0, st (ad r) va 2, 2, 0, 0⟩ := by
 unfold look
 rw [show (2 : Nat) = 1 + 1 from rfl, wk, if_pos (h.ndB hr), c2, ent_evn]
 have e : evn B r (ix va 2).toNat = 0 := by
  have := h.ep 0 r (by omega) hr (i2 va) (i2_lt va)
  rw [show ch 0 (i2 va) = y1 va from rfl, hn] at this
  exact this
 rw [e, kd_zero, if_neg (by decide)]
 rfl
theorem look_1 (h : PT N L B F lf) (hN : N ≤ 4096) {r g : Nat} (hr : F 0 = some r) (va : Int) (hg : F (y1 va) = some g) (hn : F (y0 va) = none) : look N L B (ad r) va = ⟨0, st (ad g) va 1, st (ad r) va 2, 1, 0, 0⟩ := by
 unfold look
 have hgN := (h.held _ _ hg).2.1
 rw [show (2 : Nat) = 1 + 1 from rfl, wk, if_pos (h.ndB hr), c2, ent_evn]
 have e : evn B r (ix va 2).toNat = ptr (some g) := by
  have := h.ep 0 r (by omega) hr (i2 va) (i2_lt va)
  rw [show ch 0 (i2 va) = y1 va from rfl, hg] at this
  exact this
 have e1 : evn B g (ix va 1).toNat = 0 := by
  have := h.ep (y1 va) g (y1_le va).1 hg (i1 va) (i1_lt va)
  rw [show ch (y1 va) (i1 va) = y0 va from rfl, hn] at this
  exact this
 rw [e, ptr_kd hgN hN 2 (.inr rfl), if_pos rfl, ptr_ad hgN hN, show (1 : Nat) = 0 + 1 from rfl, wk, if_pos (h.ndB hg), c1, ent_evn, e1, kd_zero, if_neg (by decide)]
 rfl
theorem look_0 (h : PT N L B F lf) (hN : N ≤ 4096) {r g q : Nat} (hr : F 0 = some r) (va : Int) (hg : F (y1 va) = some g) (hq : F (y0 va) = some q) :
  look N L B (ad r) va = ⟨st (ad q) va 0, st (ad g) va 1, st (ad r) va 2, 0, lf (y0 va) (i0 va), kd (lf (y0 va) (i0 va)) 0⟩ := by
 unfold look
 have hgN := (h.held _ _ hg).2.1
 have hqN := (h.held _ _ hq).2.1
 rw [show (2 : Nat) = 1 + 1 from rfl, wk, if_pos (h.ndB hr), c2, ent_evn]
 have e : evn B r (ix va 2).toNat = ptr (some g) := by
  have := h.ep 0 r (by omega) hr (i2 va) (i2_lt va)
  rw [show ch 0 (i2 va) = y1 va from rfl, hg] at this
  exact this
 have e1 : evn B g (ix va 1).toNat = ptr (some q) := by
  have := h.ep (y1 va) g (y1_le va).1 hg (i1 va) (i1_lt va)
  rw [show ch (y1 va) (i1 va) = y0 va from rfl, hq] at this
  exact this
 have e0 : evn B q (ix va 0).toNat = lf (y0 va) (i0 va) := h.el (y0 va) q (y0_ge va) hq (i0 va) (i0_lt va)
 rw [e, ptr_kd hgN hN 2 (.inr rfl), if_pos rfl, ptr_ad hgN hN, show (1 : Nat) = 0 + 1 from rfl, wk, if_pos (h.ndB hg), c1, ent_evn, e1, ptr_kd hqN hN 1 (.inl rfl), if_pos rfl, ptr_ad hqN hN, wk, if_pos (h.ndB hq), ent_evn, e0]
 rfl
structure LP (N : Nat) (va leaf : Int) (L : List Nat) (B : Nat → Int) (F : Nat → Option Nat) (lf : Nat → Nat → Int) (L' : List Nat) (B' : Nat → Int) (F' : Nat → Option Nat) : Prop where
 pt : PT N L' B' F' (setE lf (y0 va) (i0 va) leaf)
 ext : ∀ x f, F x = some f → F' x = some f
 new : ∀ x f, F' x = some f → F x = some f ∨ (f ∈ L ∧ f ∉ L' ∧ (x = y1 va ∨ x = y0 va))
 has : ∃ g q, F' (y1 va) = some g ∧ F' (y0 va) = some q
 byt : ∀ f, (∀ x, F' x ≠ some f) → ∀ k, k < 4096 → B' (f * 4096 + k) = B (f * 4096 + k)
 sub : ∀ f, f ∈ L' → f ∈ L
 zero : lf (y0 va) (i0 va) = 0
theorem lays_0 {va : Int} (h : PT N L B F lf) {q g : Nat} (hg : F (y1 va) = some g) (hq : F (y0 va) = some q) {leaf : Int} (hv : kd leaf 0 = 2 ∧ 0 ≤ leaf ∧ leaf < 18446744073709551616) {B' : Nat → Int} {L' : List Nat} (hl : Lays N va leaf 0 B L (ad q) B' L') :
  LP N va leaf L B F lf L' B' F := by
 obtain ⟨_, h1, rfl, rfl⟩ := hl
 have e0 : evn B q (ix va 0).toNat = lf (y0 va) (i0 va) := h.el (y0 va) q (y0_ge va) hq (i0 va) (i0_lt va)
 rw [ent_evn, e0] at h1
 have hz : lf (y0 va) (i0 va) = 0 := by
  rcases h.lv (y0 va) (i0 va) with e | e
  ·exact e
  ·rw [e.1] at h1
   cases h1
 have hfi : fi (ad q) = q := fi_adr q
 rw [hfi]
 exact ⟨h.leaf (y0_ge va) hq (i0_lt va) (.inr hv), fun _ _ h => h, fun _ _ h => .inl h, ⟨g, q, hg, hq⟩, fun f hf k hk => over_out _ _ _ _ _ (by
  have : f ≠ q := fun e => hf _ (by rw [e]; exact hq)
  have hi := i0_lt va
  unfold i0 at hi
  rcases Nat.lt_or_gt_of_ne this with h | h <;> omega), fun _ h => h, hz⟩
theorem lays_1 {va : Int} (h : PT N L B F lf) (hN : N ≤ 4096) (hd : L.Nodup) (hlt : ∀ i ∈ L, 1 ≤ i ∧ i < N) {g : Nat} (hg : F (y1 va) = some g) {leaf : Int} (hv : kd leaf 0 = 2 ∧ 0 ≤ leaf ∧ leaf < 18446744073709551616) {B' : Nat → Int} {L' : List Nat} (hl : Lays N va leaf 1 B L (ad g) B' L') :
  ∃ F', LP N va leaf L B F lf L' B' F' := by
 rw [show (1 : Nat) = 0 + 1 from rfl] at hl
 unfold Lays at hl
 rw [c1, ent_evn] at hl
 have e1 : evn B g (ix va 1).toNat = ptr (F (y0 va)) := h.ep (y1 va) g (y1_le va).1 hg (i1 va) (i1_lt va)
 rw [e1] at hl
 have hfi : fi (ad g) = g := fi_adr g
 obtain ⟨_, hl | hl⟩ := hl
 ·cases hq : F (y0 va) with
  | none =>
   rw [hq] at hl
   have := hl.1
   rw [show ptr none = 0 from rfl, kd_zero] at this
   cases this
  | some q =>
   rw [hq, ptr_ad (h.held _ _ hq).2.1 hN] at hl
   exact ⟨F, lays_0 h hg hq hv hl.2⟩
 ·obtain ⟨hk, f, L1, rfl, _, hl⟩ := hl
  have hn : F (y0 va) = none := by
   cases hq : F (y0 va) with
   | none => rfl
   | some q =>
    rw [hq, ptr_kd (h.held _ _ hq).2.1 hN 1 (.inl rfl)] at hk
    cases hk
  have hf := hlt f (List.mem_cons_self ..)
  have hP := h.node hN hd hf (y1_le va).1 hg (i1_lt va) hn
  rw [hfi] at hl
  have hy : ch (y1 va) (i1 va) = y0 va := rfl
  rw [hy] at hP
  have n10 : y1 va ≠ y0 va := by have := y1_le va; have := y0_ge va; omega
  have g1 : setO F (y0 va) f (y1 va) = some g := by unfold setO; rw [if_neg n10]; exact hg
  have q1 : setO F (y0 va) f (y0 va) = some f := by unfold setO; rw [if_pos rfl]
  have R := lays_0 hP g1 q1 hv hl
  have hfL : f ∉ L1 := (List.nodup_cons.1 hd).1
  refine ⟨setO F (y0 va) f, R.pt, fun x q hx => ?_, fun x q hx => ?_, R.has, fun q hq k hk => ?_, fun q hq => List.mem_cons_of_mem _ (R.sub q hq), R.zero⟩
  ·unfold setO
   rw [if_neg (fun e => by rw [e, hn] at hx; cases hx)]
   exact hx
  ·unfold setO at hx
   split at hx
   ·injection hx with hx
    subst hx
    rename_i e
    exact .inr ⟨List.mem_cons_self .., fun hm => hfL (R.sub _ hm), .inr e⟩
   ·exact .inl hx
  ·rw [R.byt q hq k hk]
   have hqf : q ≠ f := fun e => hq (y0 va) (by rw [e]; exact q1)
   have hqg : q ≠ g := fun e => hq (y1 va) (by rw [e]; exact g1)
   have hi := i1_lt va
   have ho : over (zer B f) (g * 4096 + i1 va * 8) (le (toP (ad f) 0) 8) (q * 4096 + k) = zer B f (q * 4096 + k) := over_out _ _ _ _ _ (by
    rcases Nat.lt_or_gt_of_ne hqg with h | h <;> omega)
   rw [ho]
   exact zer_out _ _ _ (by rcases Nat.lt_or_gt_of_ne hqf with h | h <;> omega)
theorem lays_pt {va : Int} (h : PT N L B F lf) (hN : N ≤ 4096) (hd : L.Nodup) (hlt : ∀ i ∈ L, 1 ≤ i ∧ i < N) {r : Nat} (hr : F 0 = some r) {leaf : Int} (hv : kd leaf 0 = 2 ∧ 0 ≤ leaf ∧ leaf < 18446744073709551616) {B' : Nat → Int} {L' : List Nat} (hl : Lays N va leaf 2 B L (ad r) B' L') :
  ∃ F', LP N va leaf L B F lf L' B' F' := by
 rw [show (2 : Nat) = 1 + 1 from rfl] at hl
 unfold Lays at hl
 rw [c2, ent_evn] at hl
 have e2 : evn B r (ix va 2).toNat = ptr (F (y1 va)) := h.ep 0 r (by omega) hr (i2 va) (i2_lt va)
 rw [e2] at hl
 have hfi : fi (ad r) = r := fi_adr r
 obtain ⟨_, hl | hl⟩ := hl
 ·cases hq : F (y1 va) with
  | none =>
   rw [hq] at hl
   have := hl.1
   rw [show ptr none = 0 from rfl, kd_zero] at this
   cases this
  | some g =>
   rw [hq, ptr_ad (h.held _ _ hq).2.1 hN] at hl
   exact lays_1 h hN hd hlt hq hv hl.2
 ·obtain ⟨hk, f, L1, rfl, _, hl⟩ := hl
  have hn : F (y1 va) = none := by
   cases hq : F (y1 va) with
   | none => rfl
   | some q =>
    rw [hq, ptr_kd (h.held _ _ hq).2.1 hN 2 (.inr rfl)] at hk
    cases hk
  have hf := hlt f (List.mem_cons_self ..)
  have hP := h.node hN hd hf (by omega) hr (i2_lt va) hn
  rw [hfi] at hl
  have hy : ch 0 (i2 va) = y1 va := rfl
  rw [hy] at hP
  have n0 : (0 : Nat) ≠ y1 va := by have := y1_le va; omega
  have r1 : setO F (y1 va) f 0 = some r := by unfold setO; rw [if_neg n0]; exact hr
  have g1 : setO F (y1 va) f (y1 va) = some f := by unfold setO; rw [if_pos rfl]
  have hfL : f ∉ L1 := (List.nodup_cons.1 hd).1
  obtain ⟨F', R⟩ := lays_1 (va := va) hP hN (List.nodup_cons.1 hd).2 (fun i hi => hlt i (List.mem_cons_of_mem _ hi)) g1 hv hl
  refine ⟨F', R.pt, fun x q hx => R.ext x q ?_, fun x q hx => ?_, R.has, fun q hq k hk => ?_, fun q hq => List.mem_cons_of_mem _ (R.sub q hq), R.zero⟩
  ·unfold setO
   rw [if_neg (fun e => by rw [e, hn] at hx; cases hx)]
   exact hx
  ·rcases R.new x q hx with h1 | ⟨h1, h2, h3⟩
   ·unfold setO at h1
    split at h1
    ·injection h1 with h1
     subst h1
     rename_i e
     exact .inr ⟨List.mem_cons_self .., fun hm => hfL (R.sub _ hm), .inl e⟩
    ·exact .inl h1
   ·exact .inr ⟨List.mem_cons_of_mem _ h1, h2, h3⟩
  ·rw [R.byt q hq k hk]
   have hqf : q ≠ f := fun e => hq (y1 va) (by rw [e]; exact R.ext _ _ g1)
   have hqr : q ≠ r := fun e => hq 0 (by rw [e]; exact R.ext _ _ r1)
   have hi := i2_lt va
   have ho : over (zer B f) (r * 4096 + i2 va * 8) (le (toP (ad f) 0) 8) (q * 4096 + k) = zer B f (q * 4096 + k) := over_out _ _ _ _ _ (by
    rcases Nat.lt_or_gt_of_ne hqr with h | h <;> omega)
   rw [ho]
   exact zer_out _ _ _ (by rcases Nat.lt_or_gt_of_ne hqf with h | h <;> omega)
end
end Go.Proofs.YtabnipbdbnmmpaaGreatDoor.Rm
namespace Go.Proofs.YtabnipbdbnmmpaaGreatDoor.Rm
open Go.RowKit
theorem letsF_any (e : Int) (w : World) : Calls Tryz.prog 106 #[.int .u64 e] w fun r w' => r = .returned (.bool (hs e 8)) ∧ w' = w := by
 go_enter Tryz.func106, Tryz.ntmps106
 go_wp2_with (go_at_call 109; refine (has_any _ _ _).mono ?_; rintro r w0 ⟨rfl, rfl⟩)
 go_ret
 exact ⟨rfl, rfl⟩
theorem letsL_any (e : Int) (w : World) : Calls Tryz.prog 107 #[.int .u64 e] w fun r w' => r = .returned (.bool (hs e 2)) ∧ w' = w := by
 go_enter Tryz.func107, Tryz.ntmps107
 go_wp2_with (go_at_call 109; refine (has_any _ _ _).mono ?_; rintro r w0 ⟨rfl, rfl⟩)
 go_ret
 exact ⟨rfl, rfl⟩
theorem letsS_any (e : Int) (w : World) : Calls Tryz.prog 108 #[.int .u64 e] w fun r w' => r = .returned (.bool (hs e 132)) ∧ w' = w := by
 go_enter Tryz.func108, Tryz.ntmps108
 go_wp2_with (go_at_call 109; refine (has_any _ _ _).mono ?_; rintro r w0 ⟨rfl, rfl⟩)
 go_ret
 exact ⟨rfl, rfl⟩
def lts (e a : Int) : Bool := if a = 1 then hs e 80 && hs e 8 else if a = 2 then hs e 80 && hs e 2 else if a = 3 then hs e 80 && hs e 132 else false
theorem idx129 (i : Nat) (x : Int) (f : Nat) (h : (i = 0 ∧ x = 1 ∧ f = 106) ∨ (i = 1 ∧ x = 2 ∧ f = 107) ∨ (i = 2 ∧ x = 3 ∧ f = 108)) (w : World) : (Instr.index 176 (.agg #[.int .i64 1, .func (.func 106) #[] #[], .int .i64 2, .func (.func 107) #[] #[], .int .i64 3, .func (.func 108) #[] #[]]) (.int .i64 i)).run Tryz.prog w = .ok (.agg #[.int .i64 x, .func (.func f) #[] #[]]) w := by
 rcases h with ⟨rfl, rfl, rfl⟩ | ⟨rfl, rfl, rfl⟩ | ⟨rfl, rfl, rfl⟩ <;> kernel_rfl
theorem run_store_func (P : Program) (w : World) (a : Addr) (f : Fn) (c d : Array Value) (m : Mode) (hc : (w.cell? a).isSome = true) (hf : w.frozen? a = false) :
  (store a (.func f c d) m).run P w = .ok () (w.setCell a (.func f c d)) := by
 obtain ⟨u, hu⟩ := Option.isSome_iff_exists.1 hc
 rw [run_store P w a (.func f c d) m rfl, hu]
 simp [hf]
attribute [local go_sem] run_store_func
set_option maxHeartbeats 1000000 in
set_option maxRecDepth 10000 in
theorem lets_any (e a : Int) (w : World) : Calls Tryz.prog 55 #[.int .u64 e, .int .i64 a] w fun r w' => r = .returned (.bool (lts e a)) ∧ Below w.heap.size w w' := by
 have i0 : ∀ w : World, (Instr.index 176 (Value.agg #[.int .i64 1, .func (.func 106) #[] #[], .int .i64 2, .func (.func 107) #[] #[], .int .i64 3, .func (.func 108) #[] #[]]) (.int .i64 0)).run Tryz.prog w = .ok (.agg #[.int .i64 1, .func (.func 106) #[] #[]]) w := idx129 0 1 106 (by omega)
 have i1 : ∀ w : World, (Instr.index 176 (Value.agg #[.int .i64 1, .func (.func 106) #[] #[], .int .i64 2, .func (.func 107) #[] #[], .int .i64 3, .func (.func 108) #[] #[]]) (.int .i64 1)).run Tryz.prog w = .ok (.agg #[.int .i64 2, .func (.func 107) #[] #[]]) w := idx129 1 2 107 (by omega)
 have i2 : ∀ w : World, (Instr.index 176 (Value.agg #[.int .i64 1, .func (.func 106) #[] #[], .int .i64 2, .func (.func 107) #[] #[], .int .i64 3, .func (.func 108) #[] #[]]) (.int .i64 2)).run Tryz.prog w = .ok (.agg #[.int .i64 3, .func (.func 108) #[] #[]]) w := idx129 2 3 108 (by omega)
 by_cases h1 : a = 1
 ·subst h1
  have hfin : lts e 1 = (hs e 80 && hs e 8) := by simp [lts]
  rw [hfin]
  clear hfin
  cases h80 : hs e 80 <;> cases hbt : hs e 8
  all_goals
   go_enter Tryz.func55, Tryz.ntmps55
   go_upto_region 2 with fail
   generalize hT : (Value.agg #[.int .i64 1, .func (.func 106) #[] #[], .int .i64 2, .func (.func 107) #[] #[], .int .i64 3, .func (.func 108) #[] #[]]) = T at *
   clear hT
   refine wp_loop_rounds 1 ?_
   rw [rounds_succ]
   go_wp2_with (first | (go_at_call 109; refine (has_any _ _ _).mono ?_; rintro r w0 ⟨rfl, rfl⟩) | (go_at_call 106; refine (letsF_any _ _).mono ?_; rintro r w0 ⟨rfl, rfl⟩))
   go_ret
   exact ⟨rfl, by first | exact below1 _ _ | exact below2 _ _ _ | exact below3 _ _ _ _⟩
 by_cases h2 : a = 2
 ·subst h2
  have hfin : lts e 2 = (hs e 80 && hs e 2) := by simp [lts]
  rw [hfin]
  clear hfin
  cases h80 : hs e 80 <;> cases hbt : hs e 2
  all_goals
   go_enter Tryz.func55, Tryz.ntmps55
   go_upto_region 2 with fail
   generalize hT : (Value.agg #[.int .i64 1, .func (.func 106) #[] #[], .int .i64 2, .func (.func 107) #[] #[], .int .i64 3, .func (.func 108) #[] #[]]) = T at *
   clear hT
   refine wp_loop_rounds 2 ?_
   rw [rounds_succ]
   go_wp2_with (first | (go_at_call 109; refine (has_any _ _ _).mono ?_; rintro r w0 ⟨rfl, rfl⟩) | (go_at_call 107; refine (letsL_any _ _).mono ?_; rintro r w0 ⟨rfl, rfl⟩))
   rw [rounds_succ]
   go_wp2_with (first | (go_at_call 109; refine (has_any _ _ _).mono ?_; rintro r w0 ⟨rfl, rfl⟩) | (go_at_call 107; refine (letsL_any _ _).mono ?_; rintro r w0 ⟨rfl, rfl⟩))
   go_ret
   exact ⟨rfl, by first | exact below1 _ _ | exact below2 _ _ _ | exact below3 _ _ _ _⟩
 by_cases h3 : a = 3
 ·subst h3
  have hfin : lts e 3 = (hs e 80 && hs e 132) := by simp [lts]
  rw [hfin]
  clear hfin
  cases h80 : hs e 80 <;> cases hbt : hs e 132
  all_goals
   go_enter Tryz.func55, Tryz.ntmps55
   go_upto_region 2 with fail
   generalize hT : (Value.agg #[.int .i64 1, .func (.func 106) #[] #[], .int .i64 2, .func (.func 107) #[] #[], .int .i64 3, .func (.func 108) #[] #[]]) = T at *
   clear hT
   refine wp_loop_rounds 3 ?_
   rw [rounds_succ]
   go_wp2_with (first | (go_at_call 109; refine (has_any _ _ _).mono ?_; rintro r w0 ⟨rfl, rfl⟩) | (go_at_call 108; refine (letsS_any _ _).mono ?_; rintro r w0 ⟨rfl, rfl⟩))
   rw [rounds_succ]
   go_wp2_with (first | (go_at_call 109; refine (has_any _ _ _).mono ?_; rintro r w0 ⟨rfl, rfl⟩) | (go_at_call 108; refine (letsS_any _ _).mono ?_; rintro r w0 ⟨rfl, rfl⟩))
   rw [rounds_succ]
   go_wp2_with (first | (go_at_call 109; refine (has_any _ _ _).mono ?_; rintro r w0 ⟨rfl, rfl⟩) | (go_at_call 108; refine (letsS_any _ _).mono ?_; rintro r w0 ⟨rfl, rfl⟩))
   go_ret
   exact ⟨rfl, by first | exact below1 _ _ | exact below2 _ _ _ | exact below3 _ _ _ _⟩
 have hfin : lts e a = false := by simp [lts, h1, h2, h3]
 rw [hfin]
 clear hfin
 have e1 : ¬ (1 : Int) = a := fun e => h1 e.symm
 have e2 : ¬ (2 : Int) = a := fun e => h2 e.symm
 have e3 : ¬ (3 : Int) = a := fun e => h3 e.symm
 go_enter Tryz.func55, Tryz.ntmps55
 go_upto_region 2 with fail
 generalize hT : (Value.agg #[.int .i64 1, .func (.func 106) #[] #[], .int .i64 2, .func (.func 107) #[] #[], .int .i64 3, .func (.func 108) #[] #[]]) = T at *
 clear hT
 refine wp_loop_rounds 4 ?_
 rw [rounds_succ]
 go_wp2
 rw [rounds_succ]
 go_wp2
 rw [rounds_succ]
 go_wp2
 rw [rounds_succ]
 go_wp2
 go_ret
 exact ⟨rfl, below3 _ _ _ _⟩
def trA (x : Pt) (va a : Int) : Bool := finds x va && lts x.e a
end Go.Proofs.YtabnipbdbnmmpaaGreatDoor.Rm
namespace Go.Proofs.YtabnipbdbnmmpaaGreatDoor.Rm
open Go.RowKit
def trP (x : Pt) (va : Int) : Int := (adE x.e + va % spn x.l) % 18446744073709551616
section
variable {w : World} {p b m N : Nat} {B : Nat → Int} {L : List Nat}
theorem translate_any (h : Ram w p b m N B L) (root va a : Int) (hr : 0 ≤ root ∧ root < 18446744073709551616) (hv : 0 ≤ va ∧ va < 18446744073709551616) : Calls Tryz.prog 18 #[.pointer (some ⟨p, 0, .none⟩), .int .u64 root, .int .u64 va, .int .i64 a] w fun r w' => r = .returned (.tuple #[.int .u64 (if trA (look N L B root va) va a then trP (look N L B root va) va else 0), .bool (trA (look N L B root va) va a)]) ∧ Below w.heap.size w w' := by
 have c := entry_any h root va hr hv
 have lb := look_b (N := N) (L := L) h.mem.bb root va
 clear h
 generalize look N L B root va = x at *
 obtain ⟨a0, a1, a2, l, e, k⟩ := x
 simp only at lb c ⊢
 have hf : finds ⟨a0, a1, a2, l, e, k⟩ va = false ∨ finds ⟨a0, a1, a2, l, e, k⟩ va = true := by cases finds ⟨a0, a1, a2, l, e, k⟩ va <;> simp
 rcases hf with hf | hf
 ·simp only [trA, hf, Bool.false_and, Bool.false_eq_true, if_false] at c ⊢
  clear hf
  go_enter Tryz.func18, Tryz.ntmps18
  go_wp2_with (first | (go_at_call 54; refine c.mono ?_; rintro r w0 ⟨rfl, hb⟩))
  go_ret2
  exact ⟨rfl, hb⟩
 ·have c50 := fun W => lets_any e a W
  have hl : lts e a = false ∨ lts e a = true := by cases lts e a <;> simp
  rcases hl with hl | hl
  ·simp only [hl] at c50
   simp only [trA, hf, hl, Bool.true_and, Bool.false_eq_true, if_false, if_true] at c ⊢
   clear hf hl
   go_enter Tryz.func18, Tryz.ntmps18
   go_wp2_with (first | (go_at_call 54; refine c.mono ?_; rintro r w0 ⟨rfl, hb⟩) | (go_at_call 55; refine (c50 _).mono ?_; rintro r w1 ⟨rfl, hb1⟩))
   go_ret2
   exact ⟨rfl, hb.trans (hb1.mono hb.size)⟩
  ·simp only [hl] at c50
   have c46 := fun W => address_any e W ⟨lb.1, lb.2.1⟩
   have c51 := fun W => inSpan_any va l hv (by omega) W
   have hw : trP ⟨a0, a1, a2, l, e, k⟩ va = IntKind.u64.wrap (adE e + va % spn l) := (IntKind.wrap_u64 _).symm
   simp only [trA, hf, hl, hw, Bool.true_and, if_true] at c ⊢
   clear hf hl hw lb
   generalize adE e = ax at *
   generalize va % spn l = vx at *
   go_enter Tryz.func18, Tryz.ntmps18
   go_wp2_with (first | (go_at_call 54; refine c.mono ?_; rintro r w0 ⟨rfl, hb⟩) | (go_at_call 55; refine (c50 _).mono ?_; rintro r w1 ⟨rfl, hb1⟩) | (go_at_call 56; refine (c46 _).mono ?_; rintro r w1 ⟨rfl, rfl⟩) | (go_at_call 57; refine (c51 _).mono ?_; rintro r w1 ⟨rfl, rfl⟩))
   go_ret2
   exact ⟨rfl, hb.trans (hb1.mono hb.size)⟩
end
end Go.Proofs.YtabnipbdbnmmpaaGreatDoor.Rm
