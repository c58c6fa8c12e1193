import Derived.Test.YtblmkkhiojbcjaaGreatGr
namespace Go.Proofs.YtblmkkhiojbcjaaGreat
open Go Go.RowKit
set_option linter.unusedVariables false
set_option linter.unusedSimpArgs false
section
variable {w W : World} {s p b m N r P ft cb rc fc k f : Nat} {size : Int} {B : Nat → Int} {L : List Nat} {F Fc : Nat → Option Nat} {lf lfc : Nat → Nat → Int} {fr frc : Nat → Nat} {c cc : Nat → Int}
/-- A page more was laid down for the copy. -/
def CpL (w : World) (s p b m N r P ft : Nat) (B : Nat → Int) (L : List Nat) (F : Nat → Option Nat) (lf : Nat → Nat → Int) (fr : Nat → Nat) (c : Nat → Int) (rc fc k f : Nat) (Fc : Nat → Option Nat) (frc : Nat → Nat) (W : World) : Prop := Fra p b m w W ∧ ∃ B' L' F' lf' fr' c', Ram W p b m N B' L' ∧ SpL N r ft B' L' F lf fr c (List.range P) ∧ SpL N rc fc B' L' F' lf' fr' c' (List.range (k + 1)) ∧ Dis F fr (List.range P) ft F' fr' (List.range (k + 1)) ∧ L'.length + nodesF F' + 1 = L.length + nodesF Fc ∧ Oth L Fc frc (List.range k) B L' F' fr' (List.range (k + 1)) B' ∧ (∀ i, i < k → fr' i = frc i) ∧ fr' k = f ∧ (∀ i, i < k + 1 → c' i = 214) ∧ ∀ i, i < k → ∀ j, j < 4096 → B' (frc i * 4096 + j) = B (frc i * 4096 + j)
/-- And written. -/
def CpW (w : World) (s p b m N r P ft : Nat) (B : Nat → Int) (L : List Nat) (F : Nat → Option Nat) (lf : Nat → Nat → Int) (fr : Nat → Nat) (c : Nat → Int) (rc fc k : Nat) (Fc : Nat → Option Nat) (frc : Nat → Nat) (W : World) : Prop := Fra p b m w W ∧ ∃ B' L' F' lf' fr' c', Ram W p b m N B' L' ∧ SpL N r ft B' L' F lf fr c (List.range P) ∧ SpL N rc fc B' L' F' lf' fr' c' (List.range (k + 1)) ∧ Dis F fr (List.range P) ft F' fr' (List.range (k + 1)) ∧ L'.length + nodesF F' + 1 = L.length + nodesF Fc ∧ Oth L Fc frc (List.range k) B L' F' fr' (List.range (k + 1)) B' ∧ (∀ i, i < k → fr' i = frc i) ∧ (∀ i, i < k + 1 → c' i = 214) ∧ (∀ i, i < P → ∀ j, j < 4096 → B' (fr i * 4096 + j) = B (fr i * 4096 + j)) ∧ (∀ i, i < k → ∀ j, j < 4096 → B' (frc i * 4096 + j) = B (frc i * 4096 + j)) ∧ ∀ j, j < 4096 → B' (fr' k * 4096 + j) = B (fr k * 4096 + j)
theorem cp_lay (hR : Ram w p b m N B L) (hS : SpL N r ft B L F lf fr c (List.range P)) (hC : SpL N rc fc B L Fc lfc frc cc (List.range k)) (hd : Dis F fr (List.range P) ft Fc frc (List.range k)) (hk : k < P ∧ P ≤ 4096) (hc : ∀ i, i < k → cc i = 214) (hlen : ((need Fc ((k : Int) * 4096) : Nat) : Int) + 1 ≤ L.length) :
    Calls Tryz.prog 48 #[.agg #[.pointer (some ⟨p, 0, .none⟩), .int .u64 (ad rc)], .int .i64 k, .int .u64 214] w fun e w' => ∃ f, e = .returned (.int .u64 (ad f)) ∧ CpL w s p b m N r P ft B L F lf fr c rc fc k f Fc frc w' := by
  have hN := hR.mem.n2
  obtain ⟨f, L2, rfl⟩ : ∃ f L2, L = f :: L2 := by
    cases L with
    | nil => simp at hlen; omega
    | cons f L2 => exact ⟨f, L2, rfl⟩
  rw [List.length_cons] at hlen
  have hf := hR.lt f (List.mem_cons_self ..)
  have hkr : k ∉ List.range k := fun h => by have := List.mem_range.1 h; omega
  have h6 : rgt 6 := .inr (.inr (.inr (.inl rfl)))
  have hlf := rgt_leaf h6 hf.2 hN
  have hok := rgt_ok h6
  rw [show (6 : Int) + 208 = 214 from rfl] at hlf hok
  have hnd : needY Fc ((k : Int) * 4096) ≤ L2.length := by rw [need_eq]; omega
  refine (lay_pt hR hC.pt hC.rt k 214 (by omega) hok hlf (hC.zero hkr (by omega)) hnd).mono fun e w' hh => ?_
  obtain ⟨rfl, B3, L3, F3, R3, q3, r3, f3⟩ := hh
  have q4 : L2.length = need Fc ((k : Int) * 4096) + L3.length := by
    have := congrArg List.length q3
    rw [List.length_append, List.length_take, Nat.min_eq_left hnd] at this
    exact this
  obtain ⟨t3, n3, o3⟩ := hC.add hR.nd hf hN hkr (by omega) ⟨by omega, by omega, by omega⟩ hlf.1 R3 q4
  rw [← List.range_succ] at t3 o3
  obtain ⟨s3, d3, y3⟩ := hS.beside hd o3
  refine ⟨f, rfl, f3, B3, L3, F3, _, upd frc k f, upd cc k 214, r3, s3, t3, d3, n3, o3, fun i hi => ?_, ?_, fun i hi => ?_, fun i hi j hj => ?_⟩
  · unfold upd; rw [if_neg (by omega)]
  · unfold upd; rw [if_pos rfl]
  · unfold upd
    by_cases e : i = k
    · rw [if_pos e]
    · rw [if_neg e]; exact hc i (by omega)
  · have hpi := hC.pg i (List.mem_range.2 hi)
    have hfi : frc i ≠ f := fun e => hpi.2.2.1 (by rw [e]; exact List.mem_cons_self ..)
    have hti := t3.pg i (List.mem_range.2 (by omega))
    have e9 : upd frc k f i = frc i := by unfold upd; rw [if_neg (by omega)]
    rw [e9] at hti
    rw [R3.byt (frc i) hti.2.2.2.1 j hj, zer_out]
    rcases Nat.lt_or_gt_of_ne hfi with e | e <;> omega
theorem CpL.write (h : CpL w s p b m N r P ft B L F lf fr c rc fc k f Fc frc W) (hCk : SpL N rc fc B L Fc lfc frc cc (List.range k)) (hS : SpL N r ft B L F lf fr c (List.range P)) (hd : Dis F fr (List.range P) ft Fc frc (List.range k)) (g : Nat) (hg : ∀ i, i < 4096 → w.cell? ⟨g, i, .none⟩ = some (.int .u8 (B (fr k * 4096 + i)))) (hgl : g < w.heap.size) (hgp : g ≠ p ∧ g ≠ b ∧ g ≠ m) (hB : ∀ i, 0 ≤ B i ∧ B i < 256) :
    Calls Tryz.prog 85 #[.pointer (some ⟨p, 0, .none⟩), .int .u64 (ad f), .slice (some ⟨g, 0, .none⟩) 4096 4096] W fun e w' => e = .returned (.bool true) ∧ CpW w s p b m N r P ft B L F lf fr c rc fc k Fc frc w' := by
  obtain ⟨fw, B1, L1, F1, lf1, fr1, c1, r1, s1, t1, d1, n1, o1, a1, ak, p1, x1⟩ := h
  have hk1 : k ∈ List.range (k + 1) := List.mem_range.2 (by omega)
  have hpg := t1.pg k hk1
  rw [ak] at hpg
  have c85 := write_pg r1 f 0 4096 ⟨hpg.2.1, hpg.2.2.1⟩ (by omega) (by omega) g 0 4096 (fun i => B (fr k * 4096 + i)) (fun i => hB _) (fun i hi => by
    rw [Nat.zero_add]
    exact (fw.cell (x := ⟨g, i, .none⟩) hgl hgp.1 hgp.2.1 hgp.2.2).trans (hg i hi))
  rw [show ad f + ((0 : Nat) : Int) = ad f by omega] at c85
  refine c85.mono fun e w' ⟨h1, h2, h3⟩ => ⟨h1, ?_⟩
  have hov := t1.over hk1 0 ((List.range 4096).map fun i => B (fr k * 4096 + i)) (by simp)
  rw [ak] at hov
  obtain ⟨s2, d2, y2⟩ := s1.beside d1 hov.2
  obtain ⟨s0, d0, y0⟩ := hS.beside hd o1
  refine ⟨fw.trans h3, _, L1, F1, lf1, fr1, c1, h2, s2, hov.1, d2, n1, o1.trans hov.2, a1, p1, fun i hi j hj => ?_, fun i hi j hj => ?_, fun j hj => ?_⟩
  · rw [y2 i (List.mem_range.2 hi) j hj]
    exact y0 i (List.mem_range.2 hi) j hj
  · have hne : fr1 i ≠ fr1 k := fun e => by have := t1.inj i (List.mem_range.2 (by omega)) k hk1 e; omega
    rw [a1 i hi, ak] at hne
    have e1 : over B1 (f * 4096 + 0) ((List.range 4096).map fun i => B (fr k * 4096 + i)) (frc i * 4096 + j) = B1 (frc i * 4096 + j) := by
      unfold over
      rw [if_neg]
      simp only [List.length_map, List.length_range]
      rcases Nat.lt_or_gt_of_ne hne with e | e <;> omega
    rw [e1]
    exact x1 i hi j hj
  · rw [ak]
    unfold over
    rw [if_pos (by simp; omega)]
    simp [List.getD_eq_getElem?_getD, hj]
/-- In the midst of copyInto. -/
def CpI (w : World) (s p b m N r P ft : Nat) (size : Int) (B : Nat → Int) (L : List Nat) (F : Nat → Option Nat) (lf : Nat → Nat → Int) (fr : Nat → Nat) (c : Nat → Int) (cb rc fc : Nat) (Fc : Nat → Option Nat) (frc : Nat → Nat) (k : Nat) (W : World) : Prop := Tch p b m cb w W ∧ Sp W cb p (ad rc) ((k : Int) * 4096) ∧ ∃ B' L' F' lf' fr' c', Ram W p b m N B' L' ∧ SpL N r ft B' L' F lf fr c (List.range P) ∧ SpL N rc fc B' L' F' lf' fr' c' (List.range k) ∧ Dis F fr (List.range P) ft F' fr' (List.range k) ∧ L'.length + nodesF F' + k = L.length + nodesF Fc ∧ Oth L Fc frc [] B L' F' fr' (List.range k) B' ∧ (∀ i, i < k → c' i = 214) ∧ (∀ i, i < P → ∀ j, j < 4096 → B' (fr i * 4096 + j) = B (fr i * 4096 + j)) ∧ ∀ i, i < k → ∀ j, j < 4096 → B' (fr' i * 4096 + j) = B (fr i * 4096 + j)
/-- What copyInto comes to. -/
def CiP (w : World) (s p b m N r P ft : Nat) (size : Int) (B : Nat → Int) (L : List Nat) (F : Nat → Option Nat) (lf : Nat → Nat → Int) (fr : Nat → Nat) (c : Nat → Int) (cb rc fc : Nat) (Fc : Nat → Option Nat) (frc : Nat → Nat) (e : Ending) (W : World) : Prop := e = .returned (.tuple #[.pointer (some ⟨cb, 0, .none⟩), .int .i64 0]) ∧ Tch p b m cb w W ∧ ∃ B' L' F' lf' fr' c', Two W s p b m N r P ft size cb rc P fc size B' L' F lf fr c F' lf' fr' c' ∧ L'.length + nodesF F' + P = L.length + nodesF Fc ∧ Oth L Fc frc [] B L' F' fr' (List.range P) B' ∧ (∀ i, i < P → c' i = 214) ∧ (∀ i, i < P → ∀ j, j < 4096 → B' (fr i * 4096 + j) = B (fr i * 4096 + j)) ∧ ∀ i, i < P → ∀ j, j < 4096 → B' (fr' i * 4096 + j) = B (fr i * 4096 + j)
theorem clo_done {x y : Nat} (hx : w.cell? ⟨x, 0, .none⟩ = some (.bool true)) : CallsD Tryz.prog 108 #[.pointer (some ⟨x, 0, .none⟩), .pointer (some ⟨y, 0, .none⟩)] .returning w fun e u' w' => u' = .returning ∧ e = .returned (.tuple #[]) ∧ w' = w := by
  refine callsD_of_wp (R := fun e w' => e = .returned (.tuple #[]) ∧ w' = w) Tryz.func108 rfl ?_
  simp only [Tryz.ntmps108, List.size_toArray, List.length_cons, List.length_nil, Nat.reduceAdd, Nat.reduceSub, Array.replicate_succ, Array.replicate_zero, List.push_toArray, List.append_toArray, List.nil_append, List.cons_append]
  go_wp2_with fail
  exact bodyPost_end (v := .tuple #[]) (by simp [results, Tryz.results108, go_sem]) rfl ⟨rfl, rfl⟩
set_option maxRecDepth 10000 in
set_option maxHeartbeats 2000000 in
theorem copyInto_any (hS : SpT w s p b m N r P ft size B L F lf fr c) (hc : ∀ i, i < P → c i = 214) (hCs : Sp w cb p (ad rc) 0) (hC : SpL N rc fc B L Fc lfc frc cc []) (hd : Dis F fr (List.range P) ft Fc frc []) (hcb : cb ≠ p ∧ cb ≠ b ∧ cb ≠ m) (hsc : s ≠ cb) (hK : (P : Int) + ndP P - 3 ≤ L.length) :
    Calls Tryz.prog 77 #[.pointer (some ⟨s, 0, .none⟩), .pointer (some ⟨cb, 0, .none⟩)] w (CiP w s p b m N r P ft size B L F lf fr c cb rc fc Fc frc) := by
  have hpm := hS.pm
  have hsz := hS.sz
  have hsn := hS.ne
  have hN := hS.ram.mem.n2
  obtain ⟨X0, hX0⟩ : ∃ X0, X0 = w.heap.size := ⟨_, rfl⟩
  obtain ⟨w1, hw1⟩ : ∃ w1, w1 = (w.alloc (.cells #[.pointer (some ⟨cb, 0, .none⟩)] 26)).alloc (.cells #[.bool false] 4) := ⟨_, rfl⟩
  have b1 : Below w.heap.size w w1 := by rw [hw1]; exact ((Below.refl _ _).alloc (Nat.le_refl _) _).alloc (by simp) _
  have x0 : w1.cell? ⟨X0, 0, .none⟩ = some (.pointer (some ⟨cb, 0, .none⟩)) := by rw [hw1, hX0]; simp
  have x1 : (w1.cell? ⟨X0 + 1, 0, .none⟩).isSome = true ∧ w1.frozen? ⟨X0 + 1, 0, .none⟩ = false := by
    rw [hw1, hX0]
    exact ⟨by simp, by have := World.frozen?_alloc_new (w.alloc (.cells #[.pointer (some ⟨cb, 0, .none⟩)] 26)) #[.bool false] 4 0; rw [World.size_alloc] at this; exact this⟩
  have hcl := hCs.lt
  have hsl := hS.sp.lt
  have hpl := hS.ram.mem.plt
  have hbl := hS.ram.mem.blt
  have hml := hS.ram.mem.mlt
  have hX : X0 ≠ p ∧ X0 ≠ b ∧ X0 ≠ m ∧ X0 ≠ cb ∧ X0 + 1 ≠ p ∧ X0 + 1 ≠ b ∧ X0 + 1 ≠ m ∧ X0 + 1 ≠ cb := by omega
  have S1 := hS.below b1
  have c19 := pages_sp S1.sp (by omega)
  rw [hsz.2] at c19
  have hnC := SpL.nodes (P := 0) hC (by omega)
  have HW : Hid (SpT w s p b m N r P ft size B L F lf fr c ∧ (∀ i, i < P → c i = 214) ∧ Below w.heap.size w w1 ∧ SpT w1 s p b m N r P ft size B L F lf fr c ∧ ((nodesF Fc : Nat) : Int) + 1 = 3 ∧ (w1.cell? ⟨X0, 0, .none⟩ = some (.pointer (some ⟨cb, 0, .none⟩))) ∧ (w1.cell? ⟨X0 + 1, 0, .none⟩).isSome = true ∧ w1.frozen? ⟨X0 + 1, 0, .none⟩ = false ∧ X0 = w.heap.size) := ⟨hS, hc, b1, S1, hnC, x0, x1.1, x1.2, hX0⟩
  have HI0 : Hid (CpI w1 s p b m N r P ft size B L F lf fr c cb rc fc Fc frc 0 w1) := ⟨⟨rfl, rfl, rfl, Nat.le_refl _, fun _ _ _ _ _ _ => rfl⟩, (by rw [show ((0 : Nat) : Int) * 4096 = 0 from rfl]; exact hCs.below b1), B, L, Fc, lfc, frc, cc, S1.ram, S1.tab, hC, hd, Nat.add_zero _, Oth.refl _ _ _ _ _, fun i hi => by omega, fun _ _ _ _ => rfl, fun i hi => by omega⟩
  have hlow : w.heap.size ≤ w1.heap.size := b1.size
  clear hS hCs hC hd hc S1 b1 x0 x1 hnC
  have hmf : ∀ (fn : Fn) (first cap : Array Value) (w : World), (Instr.makeFunc fn first cap).run Tryz.prog w = .ok (.func fn first cap) w := fun _ _ _ _ => rfl
  go_enter_defers Tryz.func77, Tryz.ntmps77
  go_upto_region 2 with fail
  rw [← hw1, ← hX0]
  clear hw1 hX0
  go_upto_region 3 with fail
  go_wp2_with (go_at_call 19; refine c19.mono ?_; rintro _ w2 ⟨rfl, e2⟩; obtain rfl : w1 = w2 := e2.symm)
  go_loopw [14] (fun v wr => ∃ k : Nat, k ≤ P ∧ v = .int .i64 k ∧ Hid (CpI w1 s p b m N r P ft size B L F lf fr c cb rc fc Fc frc k wr)) (fun v _ => (P - intOf v).toNat)
  case atStart => exact ⟨0, by omega, rfl, HI0⟩
  case round =>
    clear HI0
    obtain ⟨k, hk, rfl, HI⟩ := hrel
    obtain ⟨tw, spc, B1, L1, F1, lf1, frc1, c1, r1, s1, t1, d1, n1, o1, p1, y1, x1⟩ := HI.out
    have spS := HW.out.2.2.2.1.sp.tch tw hsn hsc
    have hXl : X0 + 1 < w1.heap.size := by
      have h9 := HW.out.2.2.2.2.2.2.1
      cases hz : w1.cell? ⟨X0 + 1, 0, .none⟩ with
      | none => rw [hz] at h9; cases h9
      | some v => exact lt_of_cell hz
    have kX : wr.cell? ⟨X0, 0, .none⟩ = some (.pointer (some ⟨cb, 0, .none⟩)) := (World.cell?_of_block (a := ⟨X0, 0, .none⟩) (tw.block X0 (by omega) hX.1 hX.2.1 hX.2.2.1 hX.2.2.2.1)).trans HW.out.2.2.2.2.2.1
    by_cases hkP : k < P
    · have hlt : (k : Int) < P := by omega
      have hkr : k ∈ List.range P := List.mem_range.2 hkP
      have hpag := s1.pag hkr
      have hck := HW.out.2.1 k hkP
      have hval := hpag.val hN
      rw [hck] at hval
      have hfk := s1.pg k hkr
      have k0 := spS.c0
      have k1 := spS.c1
      have hv2 : 0 ≤ (k : Int) * 4096 ∧ (k : Int) * 4096 < 274877906944 := by omega
      have hroot := s1.pt.held 0 r s1.rt
      have c75 := leaf_any (w := wr.drew) r1.drew (ad r) ((k : Int) * 4096) (by unfold ad; omega) (by omega)
      obtain ⟨g1, hg1⟩ := hpag.w1
      obtain ⟨q1, hq1⟩ := hpag.w0
      rw [leaf_pt s1.pt hN s1.rt ((k : Int) * 4096) hv2 hg1 hq1 (by rw [hpag.l]; exact hpag.k), hpag.l, hck] at c75
      have hbd : 0 ≤ toP (ad (fr k)) 214 ∧ toP (ad (fr k)) 214 < 18014398509481984 := by rw [hval]; unfold ad; omega
      have hfr : toP (ad (fr k)) 214 / 1024 * 4096 = ad (fr k) := by rw [hval]; unfold ad; omega
      have c62 := fun W => frameOf_any (toP (ad (fr k)) 214) hbd W
      rw [hfr] at c62
      have h254 : bits .and .u64 (toP (ad (fr k)) 214) 254 = 214 := and254 (fr k) (by omega) (d := 198) (.inr (.inl ⟨rfl, rfl⟩))
      have HC1 : Hid (toP (ad (fr k)) 214 = toP (ad (fr k)) 214) := rfl
      clear hval hbd hfr hg1 hq1 hpag
      generalize toP (ad (fr k)) 214 = tp at *
      have HR1 : Hid (Ram wr p b m N B1 L1 ∧ SpL N r ft B1 L1 F lf fr c (List.range P) ∧ SpL N rc fc B1 L1 F1 lf1 frc1 c1 (List.range k) ∧ Dis F fr (List.range P) ft F1 frc1 (List.range k) ∧ Tch p b m cb w1 wr ∧ Sp wr cb p (ad rc) ((k : Int) * 4096) ∧ Sp wr s p (ad r) size ∧ (fr k < N ∧ fr k ∉ L1)) := ⟨r1, s1, t1, d1, tw, spc, spS, hfk.2.1, hfk.2.2.1⟩
      have HP1 : Hid (L1.length + nodesF F1 + k = L.length + nodesF Fc ∧ Oth L Fc frc [] B L1 F1 frc1 (List.range k) B1 ∧ (∀ i, i < k → c1 i = 214) ∧ (∀ i, i < P → ∀ j, j < 4096 → B1 (fr i * 4096 + j) = B (fr i * 4096 + j)) ∧ ∀ i, i < k → ∀ j, j < 4096 → B1 (frc1 i * 4096 + j) = B (fr i * 4096 + j)) := ⟨n1, o1, p1, y1, x1⟩
      have hneed : ((need F1 ((k : Int) * 4096) : Nat) : Int) + 1 ≤ L1.length := by
        have e2 := t1.nodes (by omega)
        have e3 := t1.need (by omega)
        have e4 : ndP ((k : Int) + 1) ≤ ndP P := ndP_mono (by omega) (by omega)
        have e5 := HW.out.2.2.2.2.1
        omega
      clear r1 s1 t1 d1 tw spc spS n1 o1 p1 y1 x1 HI hck hfk hroot
      go_upto_region 6 with fail
      refine region_only ?_
      refine wp_region_held_drew (S := (fun U => U.cell? ⟨s, 0, .none⟩ = some (.pointer (some ⟨p, 0, .none⟩)) ∧ U.cell? ⟨s, 1, .none⟩ = some (.int .u64 (ad r)))) (by kernel_rfl) ⟨k0, k1⟩ (fun hHeld => ?_)
      refine wpAnyH_take (i := 0) (v := (.pointer (some ⟨s, 0, .none⟩))) rfl (by kernel_rfl) (by kernel_rfl) (by kernel_rfl) (fun _ _ _ h => by cases h.1) (Or.inl ⟨by rfl, fun ww hSw => by (try dsimp only at hSw); go_simp⟩) (by assumption) ?_
      simp only [Act.put, List.setIfInBounds_toArray, List.set_cons_zero, List.set_cons_succ, List.getElem_toArray, List.getElem_cons_succ, List.getElem_cons_zero]
      refine wpAnyH_take (i := 1) (v := (.pointer (some ⟨s, 0, .none⟩))) rfl (by kernel_rfl) (by kernel_rfl) (by kernel_rfl) (fun _ _ _ h => by cases h.1) (Or.inl ⟨by rfl, fun ww hSw => by (try dsimp only at hSw); go_simp⟩) (by assumption) ?_
      simp only [Act.put, List.setIfInBounds_toArray, List.set_cons_zero, List.set_cons_succ, List.getElem_toArray, List.getElem_cons_succ, List.getElem_cons_zero]
      refine wpAnyH_take (i := 2) (v := (.pointer (some ⟨s, 0, .none⟩))) rfl (by kernel_rfl) (by kernel_rfl) (by kernel_rfl) (fun _ _ _ h => by cases h.1) (Or.inl ⟨by rfl, fun ww hSw => by (try dsimp only at hSw); go_simp⟩) (by assumption) ?_
      simp only [Act.put, List.setIfInBounds_toArray, List.set_cons_zero, List.set_cons_succ, List.getElem_toArray, List.getElem_cons_succ, List.getElem_cons_zero]
      refine wpAnyH_take (i := 3) (v := (.agg #[.pointer (some ⟨p, 0, .none⟩), .int .u64 (ad r)])) rfl (by kernel_rfl) (by kernel_rfl) (by kernel_rfl) (fun _ _ _ h => by cases h.1) (Or.inl ⟨by rfl, fun ww hSw => by (try dsimp only at hSw); go_simp⟩) (by assumption) ?_
      simp only [Act.put, List.setIfInBounds_toArray, List.set_cons_zero, List.set_cons_succ, List.getElem_toArray, List.getElem_cons_succ, List.getElem_cons_zero]
      refine wpAnyH_take (i := 4) (v := (.int .i64 k)) rfl (by kernel_rfl) (by kernel_rfl) (by kernel_rfl) (fun _ _ _ h => by cases h.1) (Or.inl ⟨by rfl, fun ww hSw => by (try dsimp only at hSw); go_simp⟩) (by assumption) ?_
      simp only [Act.put, List.setIfInBounds_toArray, List.set_cons_zero, List.set_cons_succ, List.getElem_toArray, List.getElem_cons_succ, List.getElem_cons_zero]
      refine wpAnyH_ready (rs := [5]) (by kernel_rfl) (by simp) ?_
      refine AllReadyH.cons rfl (fun K hK => ?_) AllReadyH.nil
      go_simp
      go_at_call 87
      refine (addrOf_any k (by omega) _).mono ?_
      rintro _ w3 ⟨rfl, e3⟩
      obtain rfl : wr.drew = w3 := e3.symm
      refine hK.out _ _ ⟨k0, k1⟩ (fun hHeld => ?_)
      clear hK K
      try simp only [Act.put, List.setIfInBounds_toArray, List.set_cons_zero, List.set_cons_succ, List.getElem_toArray, List.getElem_cons_succ, List.getElem_cons_zero]
      refine wpAnyH_ready (rs := [6]) (by kernel_rfl) (by simp) ?_
      refine AllReadyH.cons rfl (fun K hK => ?_) AllReadyH.nil
      go_simp
      go_at_call 75
      refine (c75).mono ?_
      rintro _ w3 ⟨rfl, b3⟩
      have H3 : Hid (Below wr.heap.size wr w3) := (Below.refl _ _).drew.trans b3
      have k03 := (H3.out.cell (p := ⟨s, 0, .none⟩) (lt_of_cell k0)).trans k0
      have k13 := (H3.out.cell (p := ⟨s, 1, .none⟩) (lt_of_cell k1)).trans k1
      clear b3 c75
      refine hK.out _ _ ⟨k03, k13⟩ (fun hHeld => ?_)
      clear hK K
      try simp only [Act.put, List.setIfInBounds_toArray, List.set_cons_zero, List.set_cons_succ, List.getElem_toArray, List.getElem_cons_succ, List.getElem_cons_zero]
      refine wpAnyH_take (i := 7) (v := (.int .u64 tp)) rfl (by kernel_rfl) (by kernel_rfl) (by kernel_rfl) (fun _ _ _ h => by cases h.1) (Or.inl ⟨by rfl, fun ww hSw => by (try dsimp only at hSw); go_simp⟩) (by assumption) ?_
      simp only [Act.put, List.setIfInBounds_toArray, List.set_cons_zero, List.set_cons_succ, List.getElem_toArray, List.getElem_cons_succ, List.getElem_cons_zero]
      refine wpAnyH_done (by kernel_rfl) ?_ _
      refine ⟨rfl, ?_⟩
      have c55 := read_ok (w := w3.drew) ((HR1.out.1.below H3.out).drew).mem (fr k * 4096 + 0) 4096 (by omega) (by have := HR1.out.2.2.2.2.2.2.2.1; omega) (fun f h1 h2 => by
        have : f = fr k := by omega
        rw [this, hdL_in HR1.out.2.2.2.2.2.2.2.1]
        simp [HR1.out.2.2.2.2.2.2.2.2])
      rw [show (2147483648 + ((fr k * 4096 + 0 : Nat) : Int)) = ad (fr k) by unfold ad; omega] at c55
      unfold ReadP at c55
      go_upto_region 7 with fail
      refine region_only ?_
      refine wp_region_held_drew (S := (fun U => U.cell? ⟨s, 0, .none⟩ = some (.pointer (some ⟨p, 0, .none⟩)) ∧ U.cell? ⟨s, 1, .none⟩ = some (.int .u64 (ad r)))) (by kernel_rfl) ⟨k03, k13⟩ (fun hHeld => ?_)
      refine wpAnyH_take (i := 0) (v := (.pointer (some ⟨s, 0, .none⟩))) rfl (by kernel_rfl) (by kernel_rfl) (by kernel_rfl) (fun _ _ _ h => by cases h.1) (Or.inl ⟨by rfl, fun ww hSw => by (try dsimp only at hSw); go_simp⟩) (by assumption) ?_
      simp only [Act.put, List.setIfInBounds_toArray, List.set_cons_zero, List.set_cons_succ, List.getElem_toArray, List.getElem_cons_succ, List.getElem_cons_zero]
      refine wpAnyH_take (i := 1) (v := (.pointer (some ⟨s, 0, .none⟩))) rfl (by kernel_rfl) (by kernel_rfl) (by kernel_rfl) (fun _ _ _ h => by cases h.1) (Or.inl ⟨by rfl, fun ww hSw => by (try dsimp only at hSw); go_simp⟩) (by assumption) ?_
      simp only [Act.put, List.setIfInBounds_toArray, List.set_cons_zero, List.set_cons_succ, List.getElem_toArray, List.getElem_cons_succ, List.getElem_cons_zero]
      refine wpAnyH_take (i := 2) (v := (.pointer (some ⟨s, 0, .none⟩))) rfl (by kernel_rfl) (by kernel_rfl) (by kernel_rfl) (fun _ _ _ h => by cases h.1) (Or.inl ⟨by rfl, fun ww hSw => by (try dsimp only at hSw); go_simp⟩) (by assumption) ?_
      simp only [Act.put, List.setIfInBounds_toArray, List.set_cons_zero, List.set_cons_succ, List.getElem_toArray, List.getElem_cons_succ, List.getElem_cons_zero]
      refine wpAnyH_take (i := 3) (v := (.pointer (some ⟨s, 0, .none⟩))) rfl (by kernel_rfl) (by kernel_rfl) (by kernel_rfl) (fun _ _ _ h => by cases h.1) (Or.inl ⟨by rfl, fun ww hSw => by (try dsimp only at hSw); go_simp⟩) (by assumption) ?_
      simp only [Act.put, List.setIfInBounds_toArray, List.set_cons_zero, List.set_cons_succ, List.getElem_toArray, List.getElem_cons_succ, List.getElem_cons_zero]
      refine wpAnyH_take (i := 4) (v := (.pointer (some ⟨p, 0, .none⟩))) rfl (by kernel_rfl) (by kernel_rfl) (by kernel_rfl) (fun _ _ _ h => by cases h.1) (Or.inl ⟨by rfl, fun ww hSw => by (try dsimp only at hSw); go_simp⟩) (by assumption) ?_
      simp only [Act.put, List.setIfInBounds_toArray, List.set_cons_zero, List.set_cons_succ, List.getElem_toArray, List.getElem_cons_succ, List.getElem_cons_zero]
      refine wpAnyH_take (i := 5) (v := (.int .u64 tp)) rfl (by kernel_rfl) (by kernel_rfl) (by kernel_rfl) (fun _ _ _ h => by cases h.1) (Or.inl ⟨by rfl, fun ww hSw => by (try dsimp only at hSw); go_simp⟩) (by assumption) ?_
      simp only [Act.put, List.setIfInBounds_toArray, List.set_cons_zero, List.set_cons_succ, List.getElem_toArray, List.getElem_cons_succ, List.getElem_cons_zero]
      refine wpAnyH_ready (rs := [6]) (by kernel_rfl) (by simp) ?_
      refine AllReadyH.cons rfl (fun K hK => ?_) AllReadyH.nil
      go_simp
      go_at_call 62
      refine (c62 _).mono ?_
      rintro _ w4 ⟨rfl, e4⟩
      obtain rfl : w3.drew = w4 := e4.symm
      refine hK.out _ _ ⟨k03, k13⟩ (fun hHeld => ?_)
      clear hK K
      try simp only [Act.put, List.setIfInBounds_toArray, List.set_cons_zero, List.set_cons_succ, List.getElem_toArray, List.getElem_cons_succ, List.getElem_cons_zero]
      refine wpAnyH_ready (rs := [7]) (by kernel_rfl) (by simp) ?_
      refine AllReadyH.cons rfl (fun K hK => ?_) AllReadyH.nil
      go_simp
      go_at_call 55
      refine (c55).mono ?_
      rintro _ w4 ⟨g4, hg1, hg2, rfl, row4, fz4, b4⟩
      have H4 : Hid (Below wr.heap.size wr w4 ∧ wr.heap.size ≤ g4 ∧ g4 < w4.heap.size ∧ RowB w4 g4 4096 (fun i => B1 (fr k * 4096 + i))) := ⟨H3.out.trans (((Below.refl _ _).drew.trans b4).mono H3.out.size), Nat.le_trans H3.out.size hg1, hg2, row4⟩
      have k04 := (H4.out.1.cell (p := ⟨s, 0, .none⟩) (lt_of_cell k0)).trans k0
      have k14 := (H4.out.1.cell (p := ⟨s, 1, .none⟩) (lt_of_cell k1)).trans k1
      clear hg1 hg2 row4 fz4 b4 c55
      refine hK.out _ _ ⟨k04, k14⟩ (fun hHeld => ?_)
      clear hK K
      try simp only [Act.put, List.setIfInBounds_toArray, List.set_cons_zero, List.set_cons_succ, List.getElem_toArray, List.getElem_cons_succ, List.getElem_cons_zero]
      refine wpAnyH_take (i := 8) (v := (.tuple #[.slice (some ⟨g4, 0, .none⟩) 4096 4096, .bool true])) rfl (by kernel_rfl) (by kernel_rfl) (by kernel_rfl) (fun _ _ _ h => by cases h.1) (Or.inl ⟨by rfl, fun ww hSw => by (try dsimp only at hSw); go_simp⟩) (by assumption) ?_
      simp only [Act.put, List.setIfInBounds_toArray, List.set_cons_zero, List.set_cons_succ, List.getElem_toArray, List.getElem_cons_succ, List.getElem_cons_zero]
      refine wpAnyH_take (i := 9) (v := (.slice (some ⟨g4, 0, .none⟩) 4096 4096)) rfl (by kernel_rfl) (by kernel_rfl) (by kernel_rfl) (fun _ _ _ h => by cases h.1) (Or.inl ⟨by rfl, fun ww hSw => by (try dsimp only at hSw); go_simp⟩) (by assumption) ?_
      simp only [Act.put, List.setIfInBounds_toArray, List.set_cons_zero, List.set_cons_succ, List.getElem_toArray, List.getElem_cons_succ, List.getElem_cons_zero]
      refine wpAnyH_take (i := 10) (v := (.bool true)) rfl (by kernel_rfl) (by kernel_rfl) (by kernel_rfl) (fun _ _ _ h => by cases h.1) (Or.inl ⟨by rfl, fun ww hSw => by (try dsimp only at hSw); go_simp⟩) (by assumption) ?_
      simp only [Act.put, List.setIfInBounds_toArray, List.set_cons_zero, List.set_cons_succ, List.getElem_toArray, List.getElem_cons_succ, List.getElem_cons_zero]
      refine wpAnyH_take (i := 11) (v := (.slice (some ⟨g4, 0, .none⟩) 4096 4096)) rfl (by kernel_rfl) (by kernel_rfl) (by kernel_rfl) (fun _ _ _ h => by cases h.1) (Or.inl ⟨by rfl, fun ww hSw => by (try dsimp only at hSw); go_simp⟩) (by assumption) ?_
      simp only [Act.put, List.setIfInBounds_toArray, List.set_cons_zero, List.set_cons_succ, List.getElem_toArray, List.getElem_cons_succ, List.getElem_cons_zero]
      refine wpAnyH_take (i := 12) (v := (.bool true)) rfl (by kernel_rfl) (by kernel_rfl) (by kernel_rfl) (fun _ _ _ h => by cases h.1) (Or.inl ⟨by rfl, fun ww hSw => by (try dsimp only at hSw); go_simp⟩) (by assumption) ?_
      simp only [Act.put, List.setIfInBounds_toArray, List.set_cons_zero, List.set_cons_succ, List.getElem_toArray, List.getElem_cons_succ, List.getElem_cons_zero]
      refine wpAnyH_done (by kernel_rfl) ?_ _
      refine ⟨rfl, ?_⟩
      have hg4 : g4 ≠ p ∧ g4 ≠ b ∧ g4 ≠ m := by
        have h9 := H4.out.2.1
        have e1 := HR1.out.1.mem.plt
        have e2 := HR1.out.1.mem.blt
        have e3 := HR1.out.1.mem.mlt
        omega
      have kS : w4.drew.cell? ⟨X0, 0, .none⟩ = some (.pointer (some ⟨cb, 0, .none⟩)) ∧ w4.drew.cell? ⟨cb, 0, .none⟩ = some (.pointer (some ⟨p, 0, .none⟩)) ∧ w4.drew.cell? ⟨cb, 1, .none⟩ = some (.int .u64 (ad rc)) := by
        have z := HR1.out.2.2.2.2.2.1
        exact ⟨(H4.out.1.cell (p := ⟨X0, 0, .none⟩) (lt_of_cell kX)).trans kX, (H4.out.1.cell (p := ⟨cb, 0, .none⟩) z.lt).trans z.c0, (H4.out.1.cell (p := ⟨cb, 1, .none⟩) z.lt).trans z.c1⟩
      have c48 := cp_lay (w := w4.drew) (s := s) ((HR1.out.1.below H4.out.1).drew) HR1.out.2.1 HR1.out.2.2.1 HR1.out.2.2.2.1 ⟨hkP, hpm⟩ HP1.out.2.2.1 hneed
      go_upto_region 10 with fail
      refine region_only ?_
      refine wp_region_held_drew (S := (fun U => U.cell? ⟨X0, 0, .none⟩ = some (.pointer (some ⟨cb, 0, .none⟩)) ∧ U.cell? ⟨cb, 0, .none⟩ = some (.pointer (some ⟨p, 0, .none⟩)) ∧ U.cell? ⟨cb, 1, .none⟩ = some (.int .u64 (ad rc)))) (by kernel_rfl) kS (fun hHeld => ?_)
      refine wpAnyH_take (i := 0) (v := (.pointer (some ⟨cb, 0, .none⟩))) rfl (by kernel_rfl) (by kernel_rfl) (by kernel_rfl) (fun _ _ _ h => by cases h.1) (Or.inl ⟨by rfl, fun ww hSw => by (try dsimp only at hSw); go_simp⟩) (by assumption) ?_
      simp only [Act.put, List.setIfInBounds_toArray, List.set_cons_zero, List.set_cons_succ, List.getElem_toArray, List.getElem_cons_succ, List.getElem_cons_zero]
      refine wpAnyH_take (i := 1) (v := (.pointer (some ⟨cb, 0, .none⟩))) rfl (by kernel_rfl) (by kernel_rfl) (by kernel_rfl) (fun _ _ _ h => by cases h.1) (Or.inl ⟨by rfl, fun ww hSw => by (try dsimp only at hSw); go_simp⟩) (by assumption) ?_
      simp only [Act.put, List.setIfInBounds_toArray, List.set_cons_zero, List.set_cons_succ, List.getElem_toArray, List.getElem_cons_succ, List.getElem_cons_zero]
      refine wpAnyH_take (i := 2) (v := (.pointer (some ⟨cb, 0, .none⟩))) rfl (by kernel_rfl) (by kernel_rfl) (by kernel_rfl) (fun _ _ _ h => by cases h.1) (Or.inl ⟨by rfl, fun ww hSw => by (try dsimp only at hSw); go_simp⟩) (by assumption) ?_
      simp only [Act.put, List.setIfInBounds_toArray, List.set_cons_zero, List.set_cons_succ, List.getElem_toArray, List.getElem_cons_succ, List.getElem_cons_zero]
      refine wpAnyH_take (i := 3) (v := (.pointer (some ⟨cb, 0, .none⟩))) rfl (by kernel_rfl) (by kernel_rfl) (by kernel_rfl) (fun _ _ _ h => by cases h.1) (Or.inl ⟨by rfl, fun ww hSw => by (try dsimp only at hSw); go_simp⟩) (by assumption) ?_
      simp only [Act.put, List.setIfInBounds_toArray, List.set_cons_zero, List.set_cons_succ, List.getElem_toArray, List.getElem_cons_succ, List.getElem_cons_zero]
      refine wpAnyH_take (i := 4) (v := (.pointer (some ⟨p, 0, .none⟩))) rfl (by kernel_rfl) (by kernel_rfl) (by kernel_rfl) (fun _ _ _ h => by cases h.1) (Or.inl ⟨by rfl, fun ww hSw => by (try dsimp only at hSw); go_simp⟩) (by assumption) ?_
      simp only [Act.put, List.setIfInBounds_toArray, List.set_cons_zero, List.set_cons_succ, List.getElem_toArray, List.getElem_cons_succ, List.getElem_cons_zero]
      refine wpAnyH_take (i := 5) (v := (.pointer (some ⟨cb, 0, .none⟩))) rfl (by kernel_rfl) (by kernel_rfl) (by kernel_rfl) (fun _ _ _ h => by cases h.1) (Or.inl ⟨by rfl, fun ww hSw => by (try dsimp only at hSw); go_simp⟩) (by assumption) ?_
      simp only [Act.put, List.setIfInBounds_toArray, List.set_cons_zero, List.set_cons_succ, List.getElem_toArray, List.getElem_cons_succ, List.getElem_cons_zero]
      refine wpAnyH_take (i := 6) (v := (.pointer (some ⟨cb, 0, .none⟩))) rfl (by kernel_rfl) (by kernel_rfl) (by kernel_rfl) (fun _ _ _ h => by cases h.1) (Or.inl ⟨by rfl, fun ww hSw => by (try dsimp only at hSw); go_simp⟩) (by assumption) ?_
      simp only [Act.put, List.setIfInBounds_toArray, List.set_cons_zero, List.set_cons_succ, List.getElem_toArray, List.getElem_cons_succ, List.getElem_cons_zero]
      refine wpAnyH_take (i := 7) (v := (.pointer (some ⟨cb, 0, .none⟩))) rfl (by kernel_rfl) (by kernel_rfl) (by kernel_rfl) (fun _ _ _ h => by cases h.1) (Or.inl ⟨by rfl, fun ww hSw => by (try dsimp only at hSw); go_simp⟩) (by assumption) ?_
      simp only [Act.put, List.setIfInBounds_toArray, List.set_cons_zero, List.set_cons_succ, List.getElem_toArray, List.getElem_cons_succ, List.getElem_cons_zero]
      refine wpAnyH_take (i := 8) (v := (.agg #[.pointer (some ⟨p, 0, .none⟩), .int .u64 (ad rc)])) rfl (by kernel_rfl) (by kernel_rfl) (by kernel_rfl) (fun _ _ _ h => by cases h.1) (Or.inl ⟨by rfl, fun ww hSw => by (try dsimp only at hSw); go_simp⟩) (by assumption) ?_
      simp only [Act.put, List.setIfInBounds_toArray, List.set_cons_zero, List.set_cons_succ, List.getElem_toArray, List.getElem_cons_succ, List.getElem_cons_zero]
      refine wpAnyH_take (i := 9) (v := (.int .i64 k)) rfl (by kernel_rfl) (by kernel_rfl) (by kernel_rfl) (fun _ _ _ h => by cases h.1) (Or.inl ⟨by rfl, fun ww hSw => by (try dsimp only at hSw); go_simp⟩) (by assumption) ?_
      simp only [Act.put, List.setIfInBounds_toArray, List.set_cons_zero, List.set_cons_succ, List.getElem_toArray, List.getElem_cons_succ, List.getElem_cons_zero]
      refine wpAnyH_take (i := 10) (v := (.int .u64 tp)) rfl (by kernel_rfl) (by kernel_rfl) (by kernel_rfl) (fun _ _ _ h => by cases h.1) (Or.inl ⟨by rfl, fun ww hSw => by (try dsimp only at hSw); go_simp⟩) (by assumption) ?_
      simp only [Act.put, List.setIfInBounds_toArray, List.set_cons_zero, List.set_cons_succ, List.getElem_toArray, List.getElem_cons_succ, List.getElem_cons_zero]
      refine wpAnyH_take (i := 11) (v := (.int .u64 214)) rfl (by kernel_rfl) (by kernel_rfl) (by kernel_rfl) (fun _ _ _ h => by cases h.1) (Or.inl ⟨by rfl, fun ww hSw => by (try dsimp only at hSw); go_simp⟩) (by assumption) ?_
      simp only [Act.put, List.setIfInBounds_toArray, List.set_cons_zero, List.set_cons_succ, List.getElem_toArray, List.getElem_cons_succ, List.getElem_cons_zero]
      refine wpAnyH_take (i := 13) (v := (.slice (some ⟨g4, 0, .none⟩) 4096 4096)) rfl (by kernel_rfl) (by kernel_rfl) (by kernel_rfl) (fun _ _ _ h => by cases h.1) (Or.inl ⟨by rfl, fun ww hSw => by (try dsimp only at hSw); go_simp⟩) (by assumption) ?_
      simp only [Act.put, List.setIfInBounds_toArray, List.set_cons_zero, List.set_cons_succ, List.getElem_toArray, List.getElem_cons_succ, List.getElem_cons_zero]
      refine wpAnyH_ready (rs := [12]) (by kernel_rfl) (by simp) ?_
      refine AllReadyH.cons rfl (fun K hK => ?_) AllReadyH.nil
      go_simp
      go_at_call 48
      refine (c48).mono ?_
      rintro _ w5 Z5
      obtain ⟨f5, rfl, z5⟩ := Z5
      have H5 : Hid (CpL w4.drew s p b m N r P ft B1 L1 F lf fr c rc fc k f5 F1 frc1 w5) := z5
      have q5 := z5.1
      have kS5 : w5.cell? ⟨X0, 0, .none⟩ = some (.pointer (some ⟨cb, 0, .none⟩)) ∧ w5.cell? ⟨cb, 0, .none⟩ = some (.pointer (some ⟨p, 0, .none⟩)) ∧ w5.cell? ⟨cb, 1, .none⟩ = some (.int .u64 (ad rc)) := ⟨(q5.cell (x := ⟨X0, 0, .none⟩) (lt_of_cell kS.1) hX.1 hX.2.1 hX.2.2.1).trans kS.1, (q5.cell (x := ⟨cb, 0, .none⟩) (lt_of_cell kS.2.1) hcb.1 hcb.2.1 hcb.2.2).trans kS.2.1, (q5.cell (x := ⟨cb, 1, .none⟩) (lt_of_cell kS.2.2) hcb.1 hcb.2.1 hcb.2.2).trans kS.2.2⟩
      have c85 := CpL.write H5.out HR1.out.2.2.1 HR1.out.2.1 HR1.out.2.2.2.1 g4 (fun i hi => H4.out.2.2.2 i hi) H4.out.2.2.1 hg4 HR1.out.1.mem.bb
      clear z5 q5 c48
      refine hK.out _ _ kS5 (fun hHeld => ?_)
      clear hK K
      try simp only [Act.put, List.setIfInBounds_toArray, List.set_cons_zero, List.set_cons_succ, List.getElem_toArray, List.getElem_cons_succ, List.getElem_cons_zero]
      refine wpAnyH_ready (rs := [14]) (by kernel_rfl) (by simp) ?_
      refine AllReadyH.cons rfl (fun K hK => ?_) AllReadyH.nil
      go_simp
      go_at_call 85
      refine (c85).mono ?_
      rintro _ w6 ⟨rfl, z6⟩
      have H6 : Hid (CpW w4.drew s p b m N r P ft B1 L1 F lf fr c rc fc k F1 frc1 w6) := z6
      have q6 := z6.1
      have kS6 : w6.cell? ⟨X0, 0, .none⟩ = some (.pointer (some ⟨cb, 0, .none⟩)) ∧ w6.cell? ⟨cb, 0, .none⟩ = some (.pointer (some ⟨p, 0, .none⟩)) ∧ w6.cell? ⟨cb, 1, .none⟩ = some (.int .u64 (ad rc)) := ⟨(q6.cell (x := ⟨X0, 0, .none⟩) (lt_of_cell kS.1) hX.1 hX.2.1 hX.2.2.1).trans kS.1, (q6.cell (x := ⟨cb, 0, .none⟩) (lt_of_cell kS.2.1) hcb.1 hcb.2.1 hcb.2.2).trans kS.2.1, (q6.cell (x := ⟨cb, 1, .none⟩) (lt_of_cell kS.2.2) hcb.1 hcb.2.1 hcb.2.2).trans kS.2.2⟩
      clear z6 q6 c85
      refine hK.out _ _ kS6 (fun hHeld => ?_)
      clear hK K
      try simp only [Act.put, List.setIfInBounds_toArray, List.set_cons_zero, List.set_cons_succ, List.getElem_toArray, List.getElem_cons_succ, List.getElem_cons_zero]
      refine wpAnyH_done (by kernel_rfl) ?_ _
      refine ⟨rfl, ?_⟩
      have spc6 : Sp w6 cb p (ad rc) ((k : Int) * 4096) := ((HR1.out.2.2.2.2.2.1.below H4.out.1).below (Below.refl _ _).drew).fra H6.out.1 hcb.1 hcb.2.1 hcb.2.2
      have z2 := spc6.c2
      have zf := spc6.fr 2
      have zX := kS6.1
      have hws : IntKind.u64.wrap ((k : Int) * 4096 + 4096) = (k : Int) * 4096 + 4096 := by rw [IntKind.wrap_u64]; omega
      have HS6 : Hid (Sp w6 cb p (ad rc) ((k : Int) * 4096)) := spc6
      clear spc6 kS kS6 kS5 k0 k1 k03 k13 k04 k14 kX
      go_wp2_with fail
      refine ⟨⟨k + 1, by omega, by simp, ?_⟩, by simp only [intOf]; omega⟩
      obtain ⟨f6, B6, L6, F6, lf6, fr6, c6, r6, s6, t6, d6, n6, o6, a6, p6, y6, x6, u6⟩ := H6.out
      obtain ⟨m1, m2, m3, m4, m5⟩ := HP1.out
      refine ⟨(HR1.out.2.2.2.2.1.trans (Tch.of (((Fra.below H4.out.1).trans (Fra.below (Below.refl _ _).drew)).trans f6))).trans (Tch.set 2 _), ?_, B6, L6, F6, lf6, fr6, c6, ?_, s6, t6, d6, by omega, m2.trans o6, p6, fun i hi j hj => (y6 i hi j hj).trans (m4 i hi j hj), fun i hi j hj => ?_⟩
      · rw [show ((k + 1 : Nat) : Int) * 4096 = (k : Int) * 4096 + 4096 by omega]
        exact HS6.out.resize
      · exact r6.beside ⟨cb, 2, .none⟩ _ (fun e => hcb.1 e.symm) (fun e => hcb.2.1 e.symm) (fun e => hcb.2.2 e.symm)
      · by_cases e : i = k
        · subst e
          rw [u6 j hj]
          exact m4 i hkP j hj
        · rw [a6 i (by omega), x6 i (by omega) j hj]
          exact m5 i (by omega) j hj
    · have hlt : ¬ (k : Int) < P := by omega
      have k2 := spS.c2
      have z2 := spc.c2
      have zf := spc.fr 2
      have eP : k = P := by omega
      have HE : Hid (Tch p b m cb w1 wr ∧ Sp wr cb p (ad rc) ((k : Int) * 4096) ∧ Sp wr s p (ad r) size ∧ k = P) := ⟨tw, spc, spS, eP⟩
      clear eP r1 s1 t1 d1 n1 o1 p1 y1 x1 tw spc spS
      go_upto_region 13 with fail
      refine region_only ?_
      go_region
      refine ⟨rfl, ?_⟩
      have ob := HE.out.1.block (X0 + 1) hXl hX.2.2.2.2.1 hX.2.2.2.2.2.1 hX.2.2.2.2.2.2.1 hX.2.2.2.2.2.2.2
      have v0 : ((wr.setCell ⟨cb, 2, .none⟩ (.int .u64 size)).drew).cell? ⟨X0, 0, .none⟩ = some (.pointer (some ⟨cb, 0, .none⟩)) := (World.cell?_setCell_other _ _ _ _ (by simp)).trans kX
      have v1 : (((wr.setCell ⟨cb, 2, .none⟩ (.int .u64 size)).drew).cell? ⟨X0 + 1, 0, .none⟩).isSome = true := by
        have e9 : ((wr.setCell ⟨cb, 2, .none⟩ (.int .u64 size)).drew).cell? ⟨X0 + 1, 0, .none⟩ = w1.cell? ⟨X0 + 1, 0, .none⟩ := (World.cell?_setCell_other _ _ _ _ (by simp)).trans (World.cell?_of_block (a := ⟨X0 + 1, 0, .none⟩) ob)
        rw [e9]
        exact HW.out.2.2.2.2.2.2.1
      have v2 : ((wr.setCell ⟨cb, 2, .none⟩ (.int .u64 size)).drew).frozen? ⟨X0 + 1, 0, .none⟩ = false := by
        have e9 : ((wr.setCell ⟨cb, 2, .none⟩ (.int .u64 size)).drew).frozen? ⟨X0 + 1, 0, .none⟩ = w1.frozen? ⟨X0 + 1, 0, .none⟩ := (World.frozen?_setCell _ _ _ _).trans (World.frozen?_of_block (a := ⟨X0 + 1, 0, .none⟩) ob)
        rw [e9]
        exact HW.out.2.2.2.2.2.2.2.1
      obtain ⟨V, hV⟩ : ∃ V, V = (wr.setCell ⟨cb, 2, .none⟩ (.int .u64 size)).drew := ⟨_, rfl⟩
      rw [← hV] at v0 v1 v2 ⊢
      have HV : Hid (V = (wr.setCell ⟨cb, 2, .none⟩ (.int .u64 size)).drew) := hV
      have v3 : (V.setCell ⟨X0 + 1, 0, .none⟩ (.bool true)).cell? ⟨X0, 0, .none⟩ = some (.pointer (some ⟨cb, 0, .none⟩)) := (World.cell?_setCell_other _ _ _ _ (by simp)).trans v0
      have v5 : (V.setCell ⟨X0 + 1, 0, .none⟩ (.bool true)).cell? ⟨X0 + 1, 0, .none⟩ = some (.bool true) := World.cell?_setCell_same' _ _ _ v1
      obtain ⟨o9, v1⟩ := Option.isSome_iff_exists.1 v1
      clear hV ob k2 z2 zf
      go_upto_region 15 with fail
      obtain ⟨V5, hV5⟩ : ∃ V5, V5 = V.setCell ⟨X0 + 1, 0, .none⟩ (.bool true) := ⟨_, rfl⟩
      rw [← hV5] at v3 v5 ⊢
      have HV5 : Hid (V5 = V.setCell ⟨X0 + 1, 0, .none⟩ (.bool true)) := hV5
      clear hV5 v0 v1 v2 kX
      go_wp2_with fail
      refine leaves_cons (f := 108) (args := #[.pointer (some ⟨X0 + 1, 0, .none⟩), .pointer (some ⟨X0, 0, .none⟩)]) (by simp) (by simp [go_sem]) ?_
      refine (clo_done v5).mono ?_
      rintro e u' w9 ⟨rfl, rfl, e9⟩
      obtain rfl : V5 = w9 := e9.symm
      refine ⟨.tuple #[.pointer (some ⟨cb, 0, .none⟩), .int .i64 0], by simp [results, Tryz.results77, go_sem], rfl, ?_⟩
      have eP := HE.out.2.2.2
      have hX0 := HW.out.2.2.2.2.2.2.2.2
      rw [eP] at HI
      obtain ⟨tw, spc, B1, L1, F1, lf1, frc1, c1, r1, s1, t1, d1, n1, o1, p1, y1, x1⟩ := HI.out
      have T2 : Tch p b m cb wr V := by
        rw [HV.out]
        exact (Tch.set 2 _).trans (Tch.of (Fra.below (Below.refl _ _).drew))
      have T3 : Tch p b m cb w V := ((Tch.of (Fra.below HW.out.2.2.1)).trans tw).trans T2
      have T4 : Tch p b m (X0 + 1) V V5 := by rw [HV5.out]; exact Tch.set 0 _
      have sc : Sp V cb p (ad rc) size := by
        rw [HV.out]
        exact spc.resize.below (Below.refl _ _).drew
      have ss : Sp V s p (ad r) size := HE.out.2.2.1.tch T2 hsn hsc
      have rv : Ram V5 p b m N B1 L1 := by
        rw [HV5.out]
        refine Ram.beside ?_ ⟨X0 + 1, 0, .none⟩ _ (fun e => hX.2.2.2.2.1 e.symm) (fun e => hX.2.2.2.2.2.1 e.symm) (fun e => hX.2.2.2.2.2.2.1 e.symm)
        rw [HV.out]
        exact (r1.beside ⟨cb, 2, .none⟩ _ (fun e => hcb.1 e.symm) (fun e => hcb.2.1 e.symm) (fun e => hcb.2.2 e.symm)).drew
      refine ⟨⟨T4.os.trans T3.os, T4.tape.trans T3.tape, T4.output.trans T3.output, Nat.le_trans T3.size T4.size, fun i hi a1 a2 a3 a4 => (T4.block i (Nat.lt_of_lt_of_le hi T3.size) a1 a2 a3 (by omega)).trans (T3.block i hi a1 a2 a3 a4)⟩, B1, L1, F1, lf1, frc1, c1, ⟨⟨ss.tch T4 hsn (by omega), hsz, hpm, rv, hsn, s1⟩, ⟨sc.tch T4 hcb (by omega), hsz, hpm, rv, hcb, t1⟩, d1, hsc⟩, n1, o1, p1, y1, x1⟩
end
end Go.Proofs.YtblmkkhiojbcjaaGreat
