import Derived.Test.YtacdgfojdkppmaaGreatDoorKM
import Derived.Test.YtacdgfojdkppmaaGreatDoorZb
import Derived.Test.YtacdgfojdkppmaaGreatDoorMem
import Derived.OrdersHeld
import Derived.Deep.MidRow
namespace Go.Proofs.YtacdgfojdkppmaaGreatDoor
open Go.RowKit Go.Shelf
set_option linter.unusedVariables false
set_option linter.unusedSimpArgs false
/-! exec.grow: a space's pages, zero, each with its rights. -/
theorem SpM_extc {w : World} {s p b m N r P K : Nat} {M c c' : Nat → Int} (h : Rm.SpM w s p b m N r P K M c) (e : ∀ i, i < P → c' i = c i) : Rm.SpM w s p b m N r P K M c' := by
 obtain ⟨B, L, F, lf, fr, h1, h2⟩ := h
 exact ⟨B, L, F, lf, fr, ⟨⟨h1.su.sp, h1.su.sz, h1.su.pm, h1.su.ram, h1.su.pt, h1.su.rt, h1.su.ne, fun i hi => by rw [e i hi]; exact h1.su.pag i hi⟩, h1.zr, h1.nod, h1.len, h1.inj⟩, h2⟩
theorem own_fraM {w w' : World} {p b m X e k n : Nat} {v : Value} {xs : List Value} (h : w.ownsRow X e k v n xs) (f : Rm.Fra p b m w w') (hx : p < X ∧ b < X ∧ m < X) : w'.ownsRow X e k v n xs := by
 refine ⟨h.1, ?_⟩
 rcases h.2 with h0 | ⟨g, cap, cur, hv, h1, h2, h3⟩
 ·exact .inl h0
 ·exact .inr ⟨g, cap, cur, hv, h1, (f.block g (Array.getElem?_eq_some_iff.1 h2).1 (by omega) (by omega) (by omega)).trans h2, h3⟩
theorem Segs.fraM {w w' : World} {p b m X : Nat} {sv : Value} {E : List (Sg × Value)} {B : Nat → Int} (h : Segs w X sv E B) (f : Rm.Fra p b m w w') (hx : p < X ∧ b < X ∧ m < X) : Segs w' X sv E B :=
 ⟨own_fraM h.own f hx, fun x hm => own_fraM (h.dat x hm) f hx, h.gd⟩
theorem Laid3.fraM {w w' : World} {p b m : Nat} (h : Laid3 w) (f : Rm.Fra p b m w w') (h1 : 3 < p ∧ 3 < b ∧ 3 < m) : Laid3 w' :=
 have hl : 3 < w.heap.size := lt_of_cell h.c0
 have k : ∀ i, w'.cell? ⟨3, i, .none⟩ = w.cell? ⟨3, i, .none⟩ := fun i => f.cell (x := ⟨3, i, .none⟩) hl (by show 3 ≠ p; omega) (by show 3 ≠ b; omega) (by show 3 ≠ m; omega)
 ⟨(k 0).trans h.c0, (k 1).trans h.c1, (k 2).trans h.c2, (k 3).trans h.c3, (k 4).trans h.c4, (k 5).trans h.c5⟩
theorem rgP_bM (S : List Sg) (h : ∀ y ∈ S, y.fl = 1 ∨ y.fl = 4 ∨ y.fl = 5 ∨ y.fl = 6 ∨ y.fl = 7) (pg : Int) : Rm.rgt (rgP S pg) := by
 unfold rgP
 cases hf : S.find? (fun s => decide (pg < pgs s)) with
 | none => simp [Rm.rgt]
 | some s => exact rga_rgt (h s (List.mem_of_find?_eq_some hf))
/-- Pages' rights as leaves have them. -/
def cS (S : List Sg) : Nat → Int := fun i => rgP S (i : Int) + 208
def GsW (w0 wi : World) (s p b m N r : Nat) (S : List Sg) (j K : Nat) (w : World) : Prop := Rm.Fra p b m w0 w ∧ Rm.Tch p b m s wi w ∧ Rm.SpM w s p b m N r j K (fun _ => 0) (cS S)
set_option maxRecDepth 4000 in
set_option maxHeartbeats 2000000 in
theorem exGrowM {w0 wi w : World} {s p b m N r : Nat} {X c : Nat} {q : Option Addr} {E : List (Sg × Value)} {Bq : Nat → Int} (hE : Segs w0 X (.slice q E.length c) E Bq) (hL : Laid3 w0) (hl : E.length ≤ 8) (en sp : Int) (dp : Option Addr) (dn dc : Nat)
  (hX : p < X ∧ b < X ∧ m < X) (h3 : 3 < p ∧ 3 < b ∧ 3 < m) (hs : w0.heap.size ≤ s) (K P : Nat) (hP : 1 ≤ P ∧ P ≤ 500) (hn : P + 2 ≤ K) (h0 : GsW w0 wi s p b m N r (E.map (·.1)) 0 K w) :
  Calls Tryz.prog 61 #[.pointer (some ⟨s, 0, .none⟩), .int .i64 P, .func (.func 62) #[.agg #[.int .u64 en, .slice q E.length c, .slice dp dn dc, .int .u64 sp]] #[]] w fun e w' => e = .returned (.tuple #[]) ∧ GsW w0 wi s p b m N r (E.map (·.1)) P K w' := by
 have HE : Hid (Segs w0 X (.slice q E.length c) E Bq ∧ Laid3 w0) := ⟨hE, hL⟩
 have H0 : Hid (GsW w0 wi s p b m N r (E.map (·.1)) 0 K w) := h0
 have HF : Hid (∀ y ∈ E.map (·.1), y.fl = 1 ∨ y.fl = 4 ∨ y.fl = 5 ∨ y.fl = 6 ∨ y.fl = 7) := fun y hy => by
  obtain ⟨x, hx, rfl⟩ := List.mem_map.1 hy
  exact (hE.gd x hx).f
 obtain ⟨hP1, hP2⟩ := hP
 clear hE hL h0
 go_enter Tryz.func61, Tryz.ntmps61
 go_wp2_with fail
 go_loopw [8] (fun k wr => ∃ j : Nat, j ≤ P ∧ k = .int .i64 j ∧ Hid (GsW w0 wi s p b m N r (E.map (·.1)) j K wr)) (fun k _ => (P - intOf k).toNat)
 case atStart => exact ⟨0, by omega, rfl, H0⟩
 case round =>
  obtain ⟨j, hj, rfl, HG⟩ := hrel
  by_cases hlt : j < P
  ·have g0 : (j : Int) < P := by omega
   obtain ⟨hfr, htc, hN⟩ := HG.out
   have c62 := rights_any (HE.out.1.fraM hfr hX) (HE.out.2.fraM hfr h3) hl en sp dp dn dc (j : Int)
   have c104 := fun W => addr_any ((j : Int) + 1) W (by omega)
   have hjj : j < 500 := by omega
   have hjK : j + 3 ≤ K := by omega
   have HC : Hid (∀ W, Below wr.heap.size wr W → Calls Tryz.prog 108 #[.pointer (some ⟨s, 0, .none⟩), .int .u64 (((j : Int) + 1) * 4096), .int .u64 (rgP (E.map (·.1)) j)] W fun e w' => Rm.GmP W s p b m N r j K (fun _ => 0) (cS (E.map (·.1))) (rgP (E.map (·.1)) j) e w') := fun W bW => (hN.below bW).grow hjj hjK _ (rgP_bM _ HF.out _)
   have HN : Hid (Rm.Fra p b m w0 wr ∧ Rm.Tch p b m s wi wr) := ⟨hfr, htc⟩
   generalize hrg : rgP (E.map (·.1)) j = rg at c62 HC
   have HR : Hid (rgP (E.map (·.1)) j = rg) := hrg
   clear hrg hN hfr htc
   go_wp2_with first | (go_at_call 104; refine (c104 _).mono ?_; rintro _ w1 ⟨rfl, e1⟩; obtain rfl : wr = w1 := e1.symm) | (go_at_call 62; refine c62.mono ?_; rintro _ w2 ⟨rfl, b2⟩; have H2 : Hid (Below wr.heap.size wr w2) := b2; clear b2) | (go_at_call 108; refine (HC.out _ H2.out).mono ?_; rintro _ w3 ⟨rfl, hg1, hg2⟩; have H3 : Hid (Rm.SpM w3 s p b m N r (j + 1) K (Rm.grM (fun _ => 0) j) (Rm.upd (cS (E.map (·.1))) j (rg + 208)) ∧ w2.heap.size ≤ w3.heap.size ∧ w3.os = w2.os ∧ w3.tape = w2.tape ∧ w3.output = w2.output ∧ ∀ k, k < w2.heap.size → k ≠ p → k ≠ b → k ≠ m → k ≠ s → w3.heap[k]? = w2.heap[k]?) := ⟨hg1, hg2⟩; clear hg1 hg2)
   refine ⟨⟨j + 1, by omega, rfl, ?_⟩, by simp only [intOf]; omega⟩
   obtain ⟨g1, gs, go1, go2, go3, gb⟩ := H3.out
   refine ⟨⟨go1.trans (H2.out.os.trans HN.out.1.os), go2.trans (H2.out.tape.trans HN.out.1.tape), go3.trans (H2.out.output.trans HN.out.1.output), Nat.le_trans HN.out.1.size (Nat.le_trans H2.out.size gs), fun k hk h1 h2 h3 => ?_⟩, (HN.out.2.trans (Rm.Tch.of (Rm.Fra.below H2.out))).trans ⟨go1, go2, go3, gs, gb⟩, ?_⟩
   ·have hkw : k < wr.heap.size := Nat.lt_of_lt_of_le hk HN.out.1.size
    rw [gb k (Nat.lt_of_lt_of_le hkw H2.out.size) h1 h2 h3 (by omega), H2.out.block k hkw]
    exact HN.out.1.block k hk h1 h2 h3
   ·refine SpM_extc (g1.ext (fun a _ => ?_)) (fun i hi => ?_)
    ·unfold Rm.grM
     split <;> rfl
    ·unfold Rm.upd cS
     by_cases e : i = j
     ·rw [if_pos e, e, HR.out]
     ·rw [if_neg e]
  ·obtain rfl : j = P := by omega
   go_wp2_with fail
   exact bodyPost_end (v := .tuple #[]) (by simp [results, Tryz.results61, go_sem]) rfl ⟨rfl, HG.out⟩
end Go.Proofs.YtacdgfojdkppmaaGreatDoor
namespace Go.Proofs.YtacdgfojdkppmaaGreatDoor.Rg
open Go
theorem x0 {a : Act} {d : Nat} {v : Value} : a.put (some d) v = { a with tmps := a.tmps.setIfInBounds d v } := rfl
theorem x1 {α : Type} {l : List α} {i : Nat} {a : α} : l.toArray.setIfInBounds i a = (l.set i a).toArray := List.setIfInBounds_toArray ..
theorem x2 {α : Type} {l : List α} {a b : α} : (a :: l).set 0 b = b :: l := List.set_cons_zero ..
theorem x3 {α : Type} {l : List α} {a b : α} {n : Nat} : (a :: l).set (n + 1) b = a :: l.set n b := List.set_cons_succ ..
theorem x4 {α : Type} {l : List α} {i : Nat} (h : i < l.toArray.size) : l.toArray[i] = l[i]'(by simpa using h) := List.getElem_toArray ..
theorem x5 {α : Type} {a : α} {l : List α} {i : Nat} (h : i + 1 < (a :: l).length) : (a :: l)[i + 1] = l[i]'(Nat.lt_of_succ_lt_succ h) := List.getElem_cons_succ ..
theorem x6 {α : Type} {a : α} {l : List α} (h : 0 < (a :: l).length) : (a :: l)[0] = a := List.getElem_cons_zero ..
section
variable {P : Program} {ops : Array Oper} {Q : Exit → Act → World → Prop} {S : World → Prop} {md : Region.Mode}
/-- The first takes, with fewer words. -/
theorem nV {fuel : Nat} {listed : Array Bool} {a : Act} {w : World} {oi : Oper} (i : Nat) (v : Value) (hi : ops[i]? = some oi) (h : wpAnyH P md ops Q S fuel (listed.setIfInBounds i true) (a.put oi.dst v) w) (hy : YieldsIf P ops S oi v a) (hs : Region.noSelect ops = true := by kernel_rfl) (hf : Region.free md ops listed i = true := by kernel_rfl) (hr : (Region.ready md ops listed).contains i = true := by kernel_rfl) (hS : S w := by assumption) (hQ : ∀ c a w, Q (.panic c) (a.put oi.dst v) w → Q (.panic c) a w := by exact fun _ _ _ h => h) : wpAnyH P md ops Q S (fuel + 1) listed a w :=
 wpAnyH_take hi hs hf hr hQ hy hS h
theorem nT {fuel : Nat} {listed : Array Bool} {a : Act} {w : World} {oi : Oper} (i : Nat) (v : Value) (hi : ops[i]? = some oi) (h : wpAnyH P md ops Q S fuel (listed.setIfInBounds i true) (a.put oi.dst v) w) (hy : ∀ ww, S ww → (execOp a.eval oi).run P ww = .ok (.value v) ww := by exact fun ww hSw => by (try dsimp only at hSw); go_simp) (hw : Region.wanted oi (yielded ops a.tmps) = true := by rfl) (hs : Region.noSelect ops = true := by kernel_rfl) (hf : Region.free md ops listed i = true := by kernel_rfl) (hr : (Region.ready md ops listed).contains i = true := by kernel_rfl) (hS : S w := by assumption) (hQ : ∀ c a w, Q (.panic c) (a.put oi.dst v) w → Q (.panic c) a w := by exact fun _ _ _ h => h) : wpAnyH P md ops Q S (fuel + 1) listed a w :=
 wpAnyH_take hi hs hf hr hQ (.inl ⟨hw, hy⟩) hS h
theorem nU {fuel : Nat} {listed : Array Bool} {a : Act} {w : World} {oi : Oper} (i : Nat) (hi : ops[i]? = some oi) (h : wpAnyH P md ops Q S fuel (listed.setIfInBounds i true) (a.put oi.dst undef) w) (hw : Region.wanted oi (yielded ops a.tmps) = false := by rfl) (hs : Region.noSelect ops = true := by kernel_rfl) (hf : Region.free md ops listed i = true := by kernel_rfl) (hr : (Region.ready md ops listed).contains i = true := by kernel_rfl) (hS : S w := by assumption) (hQ : ∀ c a w, Q (.panic c) (a.put oi.dst undef) w → Q (.panic c) a w := by exact fun _ _ _ h => h) : wpAnyH P md ops Q S (fuel + 1) listed a w :=
 wpAnyH_take hi hs hf hr hQ (.inr ⟨hw, rfl⟩) hS h
end
end Go.Proofs.YtacdgfojdkppmaaGreatDoor.Rg
namespace Go.Proofs.YtacdgfojdkppmaaGreatDoor
open Go.RowKit Go.Shelf Rg
set_option linter.unusedVariables false
set_option linter.unusedSimpArgs false
/-! plan.layInto: what a space holds behind it. -/
/-- A plan's four cells. -/
def Z4M (w : World) (Z : Nat) (en : Int) (q : Option Addr) (n c gp : Nat) (sp : Int) : Prop := w.cell? ⟨Z, 0, .none⟩ = some (.int .u64 en) ∧ w.cell? ⟨Z, 1, .none⟩ = some (.slice q n c) ∧ w.cell? ⟨Z, 2, .none⟩ = some (.slice (some ⟨gp, 0, .none⟩) 4096 4096) ∧ w.cell? ⟨Z, 3, .none⟩ = some (.int .u64 sp)
theorem Z4M.of {w w' : World} {Z : Nat} {en : Int} {q : Option Addr} {n c gp : Nat} {sp : Int} (h : Z4M w Z en q n c gp sp) (k : w'.heap[Z]? = w.heap[Z]?) : Z4M w' Z en q n c gp sp :=
 ⟨(cell_heap k _ _).trans h.1, (cell_heap k _ _).trans h.2.1, (cell_heap k _ _).trans h.2.2.1, (cell_heap k _ _).trans h.2.2.2⟩
/-- What a program's segments lay down. -/
def sgM (Bq : Nat → Int) (S : List Sg) : Nat → Int := S.foldl (fun M x => Rm.wrM M x.va.toNat x.sz (fun j => Bq (x.wh + j))) (fun _ => 0)
theorem sgM_next (Bq : Nat → Int) {S : List Sg} {i : Nat} {x : Sg} (h : S[i]? = some x) : sgM Bq (S.take (i + 1)) = Rm.wrM (sgM Bq (S.take i)) x.va.toNat x.sz (fun j => Bq (x.wh + j)) := by
 unfold sgM
 rw [List.take_add_one, h]
 simp [List.foldl_append]
/-- What a program's memory holds: its segments, and the stack's page. -/
def pgM (Bq : Nat → Int) (S : List Sg) (e : Nat) (Rp : Nat → Int) : Nat → Int := Rm.wrM (sgM Bq S) ((e + 1) * 4096) 4096 Rp
def LiM (w0 : World) (s p b m N r e K : Nat) (Bq : Nat → Int) (S : List Sg) (Rp : Nat → Int) (en : Ending) (w' : World) : Prop := en = .returned (.tuple #[]) ∧ Rm.Fra p b m w0 w' ∧ Rm.SpM w' s p b m N r (e + 2) K (pgM Bq S e Rp) (Rm.upd (cS S) e 198)
set_option maxRecDepth 4000 in
set_option maxHeartbeats 4000000 in
theorem layIntoM {w0 w : World} {s p b m N r : Nat} {X c gp : Nat} {q : Option Addr} {E : List (Sg × Value)} {Bq Rp : Nat → Int} (hE : Segs w0 X (.slice q E.length c) E Bq) (hE0 : E ≠ []) (hl : E.length ≤ 8) (hL : Laid3 w0) (en sp : Int)
  (hX : p < X ∧ b < X ∧ m < X) (hgp : p < gp ∧ b < gp ∧ m < gp ∧ gp < w0.heap.size) (hRp : ∀ i, 0 ≤ Rp i ∧ Rp i < 256) (hpg : ∀ i, i < 4096 → w0.cell? ⟨gp, i, .none⟩ = some (.int .u8 (Rp i))) (h3 : 3 < p ∧ 3 < b ∧ 3 < m) (hpw : p < w0.heap.size ∧ b < w0.heap.size ∧ m < w0.heap.size) (hs : w0.heap.size ≤ s)
  (hB : ∀ i, 0 ≤ Bq i ∧ Bq i < 256) (e : Nat) (he : ePg (E.map (·.1)) = (e : Int)) (hr6 : rgP (E.map (·.1)) (e : Int) = 6) (hin : ∀ x ∈ E, 0 ≤ x.1.va ∧ x.1.va + x.1.sz ≤ (e : Int) * 4096 ∧ 1 ≤ x.1.sz) (he2 : 1 ≤ e ∧ e + 2 ≤ 500) (K : Nat) (hn : e + 4 ≤ K) (h0 : Rm.Fra p b m w0 w ∧ Rm.SpM w s p b m N r 0 K (fun _ => 0) (cS (E.map (·.1)))) (hsw : s < w.heap.size) :
  Calls Tryz.prog 28 #[(.agg #[.int .u64 en, .slice q E.length c, .slice (some ⟨gp, 0, .none⟩) 4096 4096, .int .u64 sp]), .pointer (some ⟨s, 0, .none⟩)] w (LiM w0 s p b m N r e K Bq (E.map (·.1)) Rp) := by
 obtain ⟨Z, hZ⟩ : ∃ Z, Z = w.heap.size := ⟨_, rfl⟩
 obtain ⟨w1, hw1⟩ : ∃ w1, w1 = w.alloc (.cells #[.int .u64 en, .slice q E.length c, .slice (some ⟨gp, 0, .none⟩) 4096 4096, .int .u64 sp] 75) := ⟨_, rfl⟩
 have b1 : Below w.heap.size w w1 := by rw [hw1]; exact (Below.refl _ _).alloc (Nat.le_refl _) _
 have z1 : w1.heap.size = Z + 1 := by rw [hw1, hZ]; simp
 have kS : Z4M w1.drew Z en q E.length c gp sp := by
  have : Z4M w1 Z en q E.length c gp sp := by rw [hw1, hZ]; exact ⟨by simp, by simp, by simp, by simp⟩
  exact this
 obtain ⟨hf0, hN0⟩ := h0
 have hw0 : w0.heap.size ≤ w.heap.size := hf0.size
 have f1 : Rm.Fra p b m w0 w1.drew := hf0.trans ((Rm.Fra.below b1).trans (Rm.Fra.below (Below.refl _ _).drew))
 have hE1 := hE.fraM f1 hX
 have c58 := pages_any (w := w1.drew) hE1 hE0 hl en sp (some ⟨gp, 0, .none⟩) 4096 4096
 rw [he] at c58
 obtain ⟨_, _, ef, hcE1, hcE2, _⟩ := own_form hE.own
 cases ef
 have HN0 : Hid (Rm.SpM w1.drew s p b m N r 0 K (fun _ => 0) (cS (E.map (·.1)))) := (hN0.below b1).below (Below.refl _ _).drew
 have HE : Hid (Segs w0 X (.slice q E.length c) E Bq ∧ Laid3 w0 ∧ Rm.Fra p b m w0 w1.drew) := ⟨hE, hL, f1⟩
 have HR : Hid ((∀ i, 0 ≤ Rp i ∧ Rp i < 256) ∧ (∀ i, i < 4096 → w0.cell? ⟨gp, i, .none⟩ = some (.int .u8 (Rp i))) ∧ (∀ i, 0 ≤ Bq i ∧ Bq i < 256)) := ⟨hRp, hpg, hB⟩
 have HI : Hid (ePg (E.map (·.1)) = (e : Int) ∧ rgP (E.map (·.1)) (e : Int) = 6 ∧ ∀ x ∈ E, 0 ≤ x.1.va ∧ x.1.va + x.1.sz ≤ (e : Int) * 4096 ∧ 1 ≤ x.1.sz) := ⟨he, hr6, hin⟩
 clear hE hL hRp hpg hB hN0 hf0 f1 hE1 he hr6 hin
 go_enter Tryz.func28, Tryz.ntmps28
 go_upto_region 1 with fail
 rw [← hw1, ← hZ]
 have HZ : Hid (Z = w.heap.size ∧ Below w.heap.size w w1) := ⟨hZ, b1⟩
 have hZge : w.heap.size ≤ Z := by omega
 clear hw1 hZ b1
 refine wp_region_held_drew (S := (fun U => Z4M U Z en q E.length c gp sp)) (by kernel_rfl) kS (fun hHeld => ?_)
 refine nT 0 (.pointer (some ⟨s, 0, .none⟩)) rfl ?_ (fun ww hSw => by obtain ⟨q0, q1, q2, q3⟩ := hSw; go_simp)
 simp only [x0,x1,x2,x3,x4,x5,x6]
 refine nT 1 (.agg #[.int .u64 en, .slice q E.length c, .slice (some ⟨gp, 0, .none⟩) 4096 4096, .int .u64 sp]) rfl ?_ (fun ww hSw => by obtain ⟨q0, q1, q2, q3⟩ := hSw; go_simp)
 simp only [x0,x1,x2,x3,x4,x5,x6]
 refine nT 3 (.agg #[.int .u64 en, .slice q E.length c, .slice (some ⟨gp, 0, .none⟩) 4096 4096, .int .u64 sp]) rfl ?_ (fun ww hSw => by obtain ⟨q0, q1, q2, q3⟩ := hSw; go_simp)
 simp only [x0,x1,x2,x3,x4,x5,x6]
 refine nT 4 (.func (.func 62) #[(.agg #[.int .u64 en, .slice q E.length c, .slice (some ⟨gp, 0, .none⟩) 4096 4096, .int .u64 sp])] #[]) rfl ?_ (fun ww hSw => by obtain ⟨q0, q1, q2, q3⟩ := hSw; go_simp)
 simp only [x0,x1,x2,x3,x4,x5,x6]
 refine wpAnyH_ready (rs := [2]) (by kernel_rfl) (by simp) ?_
 refine AllReadyH.cons rfl (fun K9 hK => ?_) AllReadyH.nil
 go_simp
 go_at_call 58
 refine c58.mono ?_
 rintro _ w2 ⟨rfl, b2⟩
 have kS2 : Z4M w2 Z en q E.length c gp sp := kS.of (b2.block Z (by show Z < w1.heap.size; omega))
 have HB2 : Hid (Below w1.drew.heap.size w1.drew w2 ∧ Rm.Fra p b m w0 w2) := ⟨b2, HE.out.2.2.trans (Rm.Fra.below b2)⟩
 have hz2 : Z + 1 ≤ w2.heap.size := by have := b2.size; show Z + 1 ≤ _; have hh : w1.drew.heap.size = w1.heap.size := rfl; omega
 clear b2 c58
 refine hK.out _ _ kS2 (fun hHeld => ?_)
 clear hK K9
 try simp only [x0,x1,x2,x3,x4,x5,x6]
 have c61 := exGrowM (w0 := w0) (wi := w2) (w := w2) HE.out.1 HE.out.2.1 hl en sp (some ⟨gp, 0, .none⟩) 4096 4096 hX h3 hs K (e + 2) (by omega) (by omega) ⟨HB2.out.2, Rm.Tch.of (Rm.Fra.refl _ _ _ _), HN0.out.below HB2.out.1⟩
 rw [show (((e + 2 : Nat) : Int)) = (e : Int) + 2 by omega] at c61
 refine wpAnyH_ready (rs := [5]) (by kernel_rfl) (by simp) ?_
 refine AllReadyH.cons rfl (fun K9 hK => ?_) AllReadyH.nil
 go_simp
 go_at_call 61
 refine c61.mono ?_
 rintro _ w3 ⟨rfl, hf3, ht3, hN3⟩
 have kS3 : Z4M w3 Z en q E.length c gp sp := kS2.of (ht3.block Z (by omega) (by omega) (by omega) (by omega) (by have := HZ.out.1; omega))
 have H3 : Hid (Rm.Fra p b m w0 w3 ∧ Rm.SpM w3 s p b m N r (e + 2) K (fun _ => 0) (cS (E.map (·.1)))) := ⟨hf3, hN3⟩
 have hz3 := ht3.size
 clear hf3 ht3 hN3 c61
 refine hK.out _ _ kS3 (fun hHeld => ?_)
 clear hK K9
 try simp only [x0,x1,x2,x3,x4,x5,x6]
 refine wpAnyH_done (by kernel_rfl) ?_ _
 obtain ⟨k0, k1, k2, k3⟩ := kS3
 have HK : Hid (Z4M w3 Z en q E.length c gp sp) := ⟨k0, k1, k2, k3⟩
 clear kS kS2 hHeld
 have hlE : (0 : Int) ≤ E.length := by omega
 go_wp2_with fail
 go_loopw [16] (fun k wr => ∃ i : Nat, i ≤ E.length ∧ k = .int .i64 i ∧ Hid (Rm.Fra p b m w3 wr ∧ Rm.SpM wr s p b m N r (e + 2) K (sgM Bq ((E.map (·.1)).take i)) (cS (E.map (·.1))))) (fun k _ => (E.length - intOf k).toNat)
 case atStart => exact ⟨0, by omega, rfl, Rm.Fra.refl _ _ _ _, H3.out.2⟩
 case round =>
  obtain ⟨i, hi, rfl, HG⟩ := hrel
  by_cases hlt : i < E.length
  ·have g0 : (i : Int) < E.length := by omega
   obtain ⟨x, hx⟩ : ∃ x, E[i]? = some x := ⟨E[i], List.getElem?_eq_getElem hlt⟩
   have hS1 := HE.out.1.fraM (H3.out.1.trans HG.out.1) hX
   have hxm := List.mem_of_getElem? hx
   obtain ⟨f0, f1, f2, f3⟩ := flatE_get E _ x hx
   obtain ⟨g, rfl, a0⟩ := own_cell hS1.own f0 (by omega) (by omega)
   obtain ⟨g1, e1, a1⟩ := own_cell hS1.own f1 (by omega) (by omega)
   obtain ⟨g2, e2, a2⟩ := own_cell hS1.own f2 (by omega) (by omega)
   obtain ⟨g3, e3, a3⟩ := own_cell hS1.own f3 (by omega) (by omega)
   simp only [Option.some.injEq, Addr.mk.injEq, and_true] at e1 e2 e3
   subst e1 e2 e3
   have hii := HI.out.2.2 x hxm
   have hdat := hS1.dat x hxm
   obtain ⟨dq, dc, hld, hdc1, hdc2, hdn⟩ := own_form hdat
   obtain ⟨gd, rfl⟩ : ∃ gd, dq = some ⟨gd, 0, .none⟩ := by
    rw [hld] at hdat
    obtain ⟨k, hk⟩ : ∃ k, x.1.sz = k + 1 := ⟨x.1.sz - 1, by omega⟩
    rw [hk] at hdat
    exact own_some hdat
   rw [hld] at a2 hdat
   have hxg : X ≤ gd := by
    have := own_block hdat gd rfl
    exact this
   have hdcell : ∀ i, i < x.1.sz → wr.cell? ⟨gd, 0 + i, .none⟩ = some (.int .u8 (Bq (x.1.wh + i))) := fun i hi => by
    have h1 : (by8 (byt Bq x.1))[i]? = some (.int .u8 (Bq (x.1.wh + i))) := by8_get (byt_get Bq x.1 i hi)
    obtain ⟨g', eg, hc⟩ := own_cell hdat h1 (by omega) (by omega)
    cases eg
    rw [Nat.zero_add]
    exact hc
   have gdl : gd < wr.heap.size := lt_of_cell (hdcell 0 (by omega))
   obtain ⟨va, hva⟩ : ∃ va : Nat, x.1.va = va := ⟨x.1.va.toNat, by omega⟩
   rw [hva] at a0 hii
   have hA : Below wr.heap.size wr (wr.alloc (.cells #[.int .u64 (va : Int), .int .u32 x.1.fl, .slice (some ⟨gd, 0, .none⟩) x.1.sz dc, .int .u64 x.1.mem] 61)) := (Below.refl _ _).alloc (Nat.le_refl _) _
   have c63 := (HG.out.2.below hA).poke va x.1.sz hii.2.2 (by omega) gd 0 dc ⟨hdc1, hdc2⟩ (fun i => Bq (x.1.wh + i)) (fun i => HR.out.2.2 _) (fun i hi => (hA.cell (p := ⟨gd, 0 + i, .none⟩) gdl).trans (hdcell i hi)) ⟨by omega, by omega, by omega⟩
   have HXN : Hid (sgM Bq ((E.map (·.1)).take (i + 1)) = Rm.wrM (sgM Bq ((E.map (·.1)).take i)) va x.1.sz (fun j => Bq (x.1.wh + j))) := by
    have h9 := sgM_next Bq (S := E.map (·.1)) (i := i) (x := x.1) (by rw [List.getElem?_map, hx]; rfl)
    rw [hva] at h9
    exact h9
   have HA : Hid (Below wr.heap.size wr (wr.alloc (.cells #[.int .u64 (va : Int), .int .u32 x.1.fl, .slice (some ⟨gd, 0, .none⟩) x.1.sz dc, .int .u64 x.1.mem] 61))) := hA
   have hva0 : (0 : Int) ≤ va := by omega
   clear hS1 hxm f0 f1 f2 f3 hdat hld hdn hdcell hx hva hA hii
   go_wp2_with (go_at_call 63; refine c63.mono ?_; rintro _ w4 ⟨rfl, m4, f4⟩; have H4 : Hid (Rm.SpM w4 s p b m N r (e + 2) K (Rm.wrM (sgM Bq ((E.map (·.1)).take i)) va x.1.sz (fun j => Bq (x.1.wh + j))) (cS (E.map (·.1))) ∧ Rm.Fra p b m w3 w4) := ⟨m4, HG.out.1.trans ((Rm.Fra.below HA.out).trans f4)⟩; clear m4 f4 c63)
   exact ⟨⟨i + 1, by omega, rfl, H4.out.2, by rw [HXN.out]; exact H4.out.1⟩, by simp only [intOf]; omega⟩
  ·obtain rfl : i = E.length := by omega
   have hlm : (E.map (·.1)).take E.length = E.map (·.1) := List.take_of_length_le (by rw [List.length_map]; exact Nat.le_refl _)
   obtain ⟨hf4, hN4⟩ := HG.out
   rw [hlm] at hN4
   have hz4 := hf4.size
   have f04 : Rm.Fra p b m w0 wr := H3.out.1.trans hf4
   have kS4 : Z4M wr.drew Z en q E.length c gp sp := HK.out.of (hf4.block Z (by omega) (by omega) (by omega) (by omega))
   have c57 := stackAt_any (w := wr.drew) (HE.out.1.fraM (f04.trans (Rm.Fra.below (Below.refl _ _).drew)) hX) hE0 hl en sp (some ⟨gp, 0, .none⟩) 4096 4096
   rw [HI.out.1] at c57
   have H4 : Hid (Rm.Fra p b m w0 wr.drew ∧ Rm.SpM wr.drew s p b m N r (e + 2) K (sgM Bq (E.map (·.1))) (cS (E.map (·.1)))) := ⟨f04.trans (Rm.Fra.below (Below.refl _ _).drew), hN4.below (Below.refl _ _).drew⟩
   clear hf4 hN4 f04 HG hlm hlt
   go_upto_region 7 with fail
   refine wp_region_held_drew (S := (fun U => Z4M U Z en q E.length c gp sp)) (by kernel_rfl) kS4 (fun hHeld => ?_)
   refine nT 0 (.pointer (some ⟨s, 0, .none⟩)) rfl ?_ (fun ww hSw => by obtain ⟨q0, q1, q2, q3⟩ := hSw; go_simp)
   simp only [x0,x1,x2,x3,x4,x5,x6]
   refine nT 1 (.agg #[.int .u64 en, .slice q E.length c, .slice (some ⟨gp, 0, .none⟩) 4096 4096, .int .u64 sp]) rfl ?_ (fun ww hSw => by obtain ⟨q0, q1, q2, q3⟩ := hSw; go_simp)
   simp only [x0,x1,x2,x3,x4,x5,x6]
   refine nT 3 (.pointer (some ⟨Z, 2, .none⟩)) rfl ?_ (fun ww hSw => by obtain ⟨q0, q1, q2, q3⟩ := hSw; go_simp)
   simp only [x0,x1,x2,x3,x4,x5,x6]
   refine nT 4 (.pointer (some ⟨Z, 2, .none⟩)) rfl ?_ (fun ww hSw => by obtain ⟨q0, q1, q2, q3⟩ := hSw; go_simp)
   simp only [x0,x1,x2,x3,x4,x5,x6]
   refine nT 5 (.slice (some ⟨gp, 0, .none⟩) 4096 4096) rfl ?_ (fun ww hSw => by obtain ⟨q0, q1, q2, q3⟩ := hSw; go_simp)
   simp only [x0,x1,x2,x3,x4,x5,x6]
   refine wpAnyH_ready (rs := [2]) (by kernel_rfl) (by simp) ?_
   refine AllReadyH.cons rfl (fun K9 hK => ?_) AllReadyH.nil
   go_simp
   go_at_call 57
   refine c57.mono ?_
   rintro _ w5 ⟨rfl, b5⟩
   have kS5 : Z4M w5 Z en q E.length c gp sp := kS4.of (b5.block Z (by show Z < wr.heap.size; omega))
   have H5 : Hid (Rm.Fra p b m w0 w5 ∧ Rm.SpM w5 s p b m N r (e + 2) K (sgM Bq (E.map (·.1))) (cS (E.map (·.1)))) := ⟨H4.out.1.trans (Rm.Fra.below b5), H4.out.2.below b5⟩
   have hz5 : wr.heap.size ≤ w5.heap.size := b5.size
   clear b5 c57
   refine hK.out _ _ kS5 (fun hHeld => ?_)
   clear hK K9
   try simp only [x0,x1,x2,x3,x4,x5,x6]
   have c63 := H5.out.2.poke ((e + 1) * 4096) 4096 (by omega) (by omega) gp 0 4096 (by omega) Rp HR.out.1 (fun i hi => by
    rw [Nat.zero_add]
    exact (H5.out.1.cell (x := ⟨gp, i, .none⟩) hgp.2.2.2 (by show gp ≠ p; omega) (by show gp ≠ b; omega) (by show gp ≠ m; omega)).trans (HR.out.2.1 i hi)) (by omega)
   rw [show (((e + 1) * 4096 : Nat) : Int) = ((e : Int) + 1) * 4096 by omega] at c63
   refine wpAnyH_ready (rs := [6]) (by kernel_rfl) (by simp) ?_
   refine AllReadyH.cons rfl (fun K9 hK => ?_) AllReadyH.nil
   go_simp
   go_at_call 63
   refine c63.mono ?_
   rintro _ w6 ⟨rfl, r6, f6⟩
   have kS6 : Z4M w6 Z en q E.length c gp sp := kS5.of (f6.block Z (by omega) (by omega) (by omega) (by omega))
   have H6 : Hid (Rm.Fra p b m w0 w6 ∧ Rm.SpM w6 s p b m N r (e + 2) K (pgM Bq (E.map (·.1)) e Rp) (cS (E.map (·.1)))) := ⟨H5.out.1.trans f6, r6⟩
   have hz6 := f6.size
   clear r6 f6 c63
   refine hK.out _ _ kS6 (fun hHeld => ?_)
   clear hK K9
   try simp only [x0,x1,x2,x3,x4,x5,x6]
   refine wpAnyH_done (by kernel_rfl) ?_ _
   have c65 := guard_any (w := w6) (HE.out.1.fraM H6.out.1 hX) hE0 hl en sp (some ⟨gp, 0, .none⟩) 4096 4096
   rw [HI.out.1] at c65
   obtain ⟨k0, k1, k2, k3⟩ := kS6
   have HC : Hid (∀ W, Below w6.heap.size w6 W → Calls Tryz.prog 64 #[.pointer (some ⟨s, 0, .none⟩), .int .i64 e] W fun e9 w' => e9 = .returned (.int .i64 0) ∧ Rm.SpM w' s p b m N r (e + 2) K (pgM Bq (E.map (·.1)) e Rp) (Rm.upd (cS (E.map (·.1))) e 198) ∧ Rm.Fra p b m W w') := fun W bW =>
    (H6.out.2.below bW).guard (by omega) e ⟨by omega, by omega⟩ (d := 198) (by
     unfold cS
     rw [HI.out.2.1]
     exact .inr (.inl ⟨rfl, rfl⟩))
   go_wp2_with first | (go_at_call 65; refine c65.mono ?_; rintro _ w7 ⟨rfl, b7⟩; have H7 : Hid (Below w6.heap.size w6 w7) := b7; clear b7) | (go_at_call 64; refine (HC.out _ H7.out).mono ?_; rintro _ w8 ⟨rfl, m8, f8⟩)
   refine bodyPost_end (v := .tuple #[]) (by simp [results, Tryz.results28, go_sem]) rfl ⟨rfl, H6.out.1.trans ((Rm.Fra.below H7.out).trans f8), m8⟩
end Go.Proofs.YtacdgfojdkppmaaGreatDoor
