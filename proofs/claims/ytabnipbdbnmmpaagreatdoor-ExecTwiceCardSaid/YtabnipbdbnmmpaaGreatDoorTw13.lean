import Derived.Test.YtabnipbdbnmmpaaGreatDoorTw12
import Derived.Test.YtabnipbdbnmmpaaGreatDoorTw06
import Derived.Test.YtabnipbdbnmmpaaGreatDoorTw09
import Derived.Laws.StructEq
import Derived.Test.YtabnipbdbnmmpaaGreatDoorTw10
set_option linter.unusedVariables false
set_option linter.unusedSimpArgs false
namespace Go.Proofs.YtabnipbdbnmmpaaGreatDoor.Rm
open Go.RowKit
def GrP (w : World) (s p b m N : Nat) (B : Nat → Int) (f : Nat) (L1 : List Nat) (F : Nat → Option Nat) (lf : Nat → Nat → Int) (r : Nat) (P c : Int) (w' : World) : Prop :=
 Sp w' s p (ad r) ((P + 1) * 4096) ∧ (∃ B' L' F', LP N (P * 4096) (toP (ad f) (c + 208)) L1 (zer B f) F lf L' B' F' ∧ L1 = L1.take (needY F (P * 4096)) ++ L' ∧ Ram w' p b m N B' L') ∧
 w.heap.size ≤ w'.heap.size ∧ w'.os = w.os ∧ w'.tape = w.tape ∧ w'.output = w.output ∧ ∀ k, k < w.heap.size → k ≠ p → k ≠ b → k ≠ m → k ≠ s → w'.heap[k]? = w.heap[k]?
def G1 (w : World) (s p b m N : Nat) (B : Nat → Int) (f : Nat) (L1 : List Nat) (F : Nat → Option Nat) (lf : Nat → Nat → Int) (r : Nat) (P c : Int) (w' : World) : Prop :=
 Sp w' s p (ad r) (P * 4096) ∧ Fra p b m w w' ∧ ∃ B' L' F', LP N (P * 4096) (toP (ad f) (c + 208)) L1 (zer B f) F lf L' B' F' ∧ L1 = L1.take (needY F (P * 4096)) ++ L' ∧ Ram w' p b m N B' L'
section
variable {w : World} {s p b m N : Nat} {B : Nat → Int} {F : Nat → Option Nat} {lf : Nat → Nat → Int}
set_option maxRecDepth 4000 in
set_option maxHeartbeats 2000000 in
theorem grow_pt {f r : Nat} {L1 : List Nat} {P c : Int} (hS : Sp w s p (ad r) (P * 4096)) (h : Ram w p b m N B (f :: L1)) (hP : PT N (f :: L1) B F lf) (hr : F 0 = some r) (hne : s ≠ p ∧ s ≠ b ∧ s ≠ m) (hPb : 0 ≤ P ∧ P < 4096) (hc : rgt c)
  (hz : lf (y0 (P * 4096)) (i0 (P * 4096)) = 0) (hn : needY F (P * 4096) ≤ L1.length) (hd : 1 + ndP (P + 1) - ndP P ≤ (f :: L1).length) :
  Calls Tryz.prog 146 #[.pointer (some ⟨s, 0, .none⟩), .int .u64 ((P + 1) * 4096), .int .u64 c] w fun e w' => e = .returned (.int .i64 0) ∧ GrP w s p b m N B f L1 F lf r P c w' := by
 have hN := h.mem.n2
 have hf := h.lt f (List.mem_cons_self ..)
 have hcb : 0 ≤ c ∧ c < 16 := by rcases hc with rfl | rfl | rfl | rfl | rfl <;> omega
 obtain ⟨o1, o2, o3⟩ := rgt_or hc
 have c33 := fun W (hW : Sp W s p (ad r) (P * 4096)) => made_sp hW
 have c147 := fun W => mayS_any c hc W
 have c119 := fun W => pagesOf_any ((P + 1) * 4096) (by omega) W
 rw [show ((P + 1) * 4096 + 4095) / 4096 = P + 1 by omega] at c119
 have c77 := fun W (hW : Sp W s p (ad r) (P * 4096)) => pages_sp hW (by omega)
 rw [show (P * 4096 + 4095) / 4096 = P by omega] at c77
 have c148 := room_any hS h P hPb rfl hd
 have H0 : Hid (Sp w s p (ad r) (P * 4096) ∧ Ram w p b m N B (f :: L1) ∧ PT N (f :: L1) B F lf ∧ F 0 = some r) := ⟨hS, h, hP, hr⟩
 have HC : Hid (rgt c ∧ f < N ∧ N ≤ 4096) := ⟨hc, hf.2, hN⟩
 have k2 := hS.c2
 have k0 := hS.c0
 have k1 := hS.c1
 have hlt := hS.lt
 clear hS h hP hr hd hc hf
 go_enter Tryz.func146, Tryz.ntmps146
 go_upto_region 7 with first | (go_at_call 46; refine (c33 _ H0.out.1).mono ?_; rintro _ w1 ⟨rfl, e1⟩; obtain rfl : w = w1 := e1.symm) | (go_at_call 181; refine (c147 _).mono ?_; rintro _ w1 ⟨rfl, e1⟩; obtain rfl : w = w1 := e1.symm)
 go_upto_region 9 with first | (go_at_call 112; refine (c119 _).mono ?_; rintro _ w1 ⟨rfl, e1⟩; obtain rfl : w = w1 := e1.symm) | (go_at_call 182; refine c148.mono ?_; rintro _ w1 ⟨rfl, k3, rfl⟩)
 obtain ⟨wa, hwa⟩ : ∃ wa, wa = w.drewN k3 := ⟨_, rfl⟩
 have ba : Below w.heap.size w wa := by rw [hwa]; exact below_dr w k3
 rw [← hwa]
 clear hwa k2 k0 k1
 have Sa := H0.out.1.below ba
 have HA : Hid (Below w.heap.size w wa) := ba
 have k2 := Sa.c2
 have c149 := tail_zero Sa (by omega) (by omega)
 have hgt : P < P + 1 := by omega
 clear ba
 go_upto_region 11 with (go_at_call 183; refine c149.mono ?_; rintro _ wb ⟨rfl, b2⟩; have HBb : Hid (Below w.heap.size w wb) := HA.out.trans (b2.mono HA.out.size); clear b2 c149)
 have Sb := H0.out.1.below HBb.out
 have d77 := c77 wb Sb
 clear Sb Sa k2 HA
 go_wp2_with (go_at_call 99; refine d77.mono ?_; rintro _ w1 ⟨rfl, e1⟩; obtain rfl : wb = w1 := e1.symm)
 go_loopw [7] (fun k wr => (k = .int .i64 P ∧ Hid (Below w.heap.size w wr)) ∨ (k = .int .i64 (P + 1) ∧ Hid (G1 w s p b m N B f L1 F lf r P c wr))) (fun k _ => (P + 1 - intOf k).toNat)
 case atStart => exact .inl ⟨rfl, HBb.out⟩
 case round =>
  rcases hrel with ⟨rfl, HB⟩ | ⟨rfl, HG⟩
  ·have Sr := H0.out.1.below HB.out
   have k0 := Sr.c0
   have k1 := Sr.c1
   have k2 := Sr.c2
   have c150 := lay_pt (H0.out.2.1.below HB.out) H0.out.2.2.1 H0.out.2.2.2 P (c + 208) (by omega) (rgt_ok HC.out.1) (rgt_leaf HC.out.1 HC.out.2.1 HC.out.2.2) hz hn
   unfold LayP at c150
   have HSr : Hid (Sp wr s p (ad r) (P * 4096)) := Sr
   clear Sr
   go_wp2_with first | (go_at_call 112; refine (c119 _).mono ?_; rintro _ w1 ⟨rfl, e1⟩; obtain rfl : wr = w1 := e1.symm) | (go_at_call 184; refine c150.mono ?_; rintro _ w2 ⟨rfl, B', L', F', R, e1, r2, f2⟩; have HG : Hid (G1 w s p b m N B f L1 F lf r P c w2) := ⟨HSr.out.fra f2 hne.1 hne.2.1 hne.2.2, (Fra.below HB.out).trans f2, B', L', F', R, e1, r2⟩; clear R e1 r2 f2 c150)
   exact ⟨.inr ⟨rfl, HG⟩, by simp only [intOf]; omega⟩
  ·have k2 := HG.out.1.c2
   have kf := HG.out.1.fr 2
   go_wp2_with (go_at_call 112; refine (c119 _).mono ?_; rintro _ w1 ⟨rfl, e1⟩; obtain rfl : wr = w1 := e1.symm)
   go_ret
   refine ⟨rfl, ?_⟩
   obtain ⟨g1, g2, B', L', F', g3, g4, g5⟩ := HG.out
   refine ⟨⟨(World.cell?_setCell_other _ _ _ _ (by simp)).trans g1.c0, (World.cell?_setCell_other _ _ _ _ (by simp)).trans g1.c1, World.cell?_setCell_same' _ _ _ (by rw [g1.c2]; rfl), fun k => by rw [World.frozen?_setCell]; exact g1.fr k⟩, ⟨B', L', F', g3, g4, ?_⟩, ?_, g2.os, g2.tape, g2.output, fun k hk h1 h2 h3 h4 => ?_⟩
   ·exact g5.beside ⟨s, 2, .none⟩ _ (fun e => hne.1 e.symm) (fun e => hne.2.1 e.symm) (fun e => hne.2.2 e.symm)
   ·simpa [World.setCell] using g2.size
   ·exact (Below.heap_setCell _ _ _ _ (fun e => h4 e)).trans (g2.block k hk h1 h2 h3)
end
end Go.Proofs.YtabnipbdbnmmpaaGreatDoor.Rm
namespace Go.Proofs.YtabnipbdbnmmpaaGreatDoor.Rm
open Go.RowKit
section
variable {w : World} {s p b m N : Nat} {B : Nat → Int} {L : List Nat} {F : Nat → Option Nat} {lf : Nat → Nat → Int}
theorem write_pg (h : Ram w p b m N B L) (q o n : Nat) (hq : q < N ∧ q ∉ L) (hn : 1 ≤ n) (ho : o + n ≤ 4096) (g k c : Nat) (R : Nat → Int) (hR : ∀ i, 0 ≤ R i ∧ R i < 256) (hg : ∀ i, i < n → w.cell? ⟨g, k + i, .none⟩ = some (.int .u8 (R i))) :
  Calls Tryz.prog 103 #[.pointer (some ⟨p, 0, .none⟩), .int .u64 (ad q + o), .slice (some ⟨g, k, .none⟩) n c] w fun e w' => e = .returned (.bool true) ∧ Ram w' p b m N (over B (q * 4096 + o) ((List.range n).map R)) L ∧ Fra p b m w w' := by
 have hc := write_ok h.mem (q * 4096 + o) n hn (by omega) (fun f h1 h2 => by
  have : f = q := by omega
  rw [this, hdL_in hq.1]
  simp [hq.2]) g k c R hR hg
 rw [show (2147483648 + ((q * 4096 + o : Nat) : Int)) = ad q + o by unfold ad; omega] at hc
 refine hc.mono fun e w' ⟨h1, h2, h3⟩ => ⟨h1, h.laid h2 (fun j hj => ?_), h3⟩
 have hjq : j ≠ q := fun e => hq.2 (e ▸ hj)
 simp only [List.length_map, List.length_range]
 rcases Nat.lt_or_gt_of_ne hjq with h | h <;> omega
theorem ext_lowY (va : Int) (h : 0 ≤ va ∧ va < 274877906944) : ext va = va := by unfold ext; rw [if_pos (by omega)]; omega
theorem leaf_pt (hP : PT N L B F lf) (hN : N ≤ 4096) {r g1 q1 : Nat} (hr : F 0 = some r) (va : Int) (hv : 0 ≤ va ∧ va < 274877906944) (h1 : F (y1 va) = some g1) (h0 : F (y0 va) = some q1) (hk : kd (lf (y0 va) (i0 va)) 0 = 2) :
  (if finds (look N L B (ad r) va) va = true then (look N L B (ad r) va).e else 0) = lf (y0 va) (i0 va) := by
 rw [look_0 hP hN hr va h1 h0]
 have : finds ⟨st (ad q1) va 0, st (ad g1) va 1, st (ad r) va 2, 0, lf (y0 va) (i0 va), kd (lf (y0 va) (i0 va)) 0⟩ va = true := by
  unfold finds
  rw [ext_lowY va hv]
  simp [hk]
 rw [if_pos this]
structure Pag (N : Nat) (L : List Nat) (F : Nat → Option Nat) (lf : Nat → Nat → Int) (va : Int) (q : Nat) (c : Int) : Prop where
 w1 : ∃ g, F (y1 va) = some g
 w0 : ∃ g, F (y0 va) = some g
 l : lf (y0 va) (i0 va) = toP (ad q) c
 k : kd (toP (ad q) c) 0 = 2
 cb : 0 ≤ c ∧ c < 256 ∧ c % 2 = 0
 qb : q < N ∧ q ∉ L
 nn : ∀ x, F x ≠ some q
theorem Pag.val {va : Int} {q : Nat} {c : Int} (h : Pag N L F lf va q c) (hN : N ≤ 4096) : toP (ad q) c = ad q / 4096 * 1024 + c + 1 := by
 have hb := ad_b q N h.qb.1 hN
 exact toP_val _ _ ⟨hb.1, hb.2.1⟩ (by have := h.cb; omega) h.cb.2.2
theorem kern_pt {r q : Nat} {size c : Int} (hS : Sp w s p (ad r) size) (h : Ram w p b m N B L) (hP : PT N L B F lf) (hr : F 0 = some r) (va : Int) (hv : 0 ≤ va ∧ va < 274877906944) (hq : Pag N L F lf va q c) :
  Calls Tryz.prog 149 #[.pointer (some ⟨s, 0, .none⟩), .int .u64 va] w fun e w' => e = .returned (.tuple #[.int .u64 (ad q + va % 4096), .bool true]) ∧ Below w.heap.size w w' := by
 have hN := h.mem.n2
 have hb := ad_b q N hq.qb.1 hN
 have hrb := ad_b r N (hP.held 0 r hr).2.1 hN
 obtain ⟨g1, e1⟩ := hq.w1
 obtain ⟨g0, e0⟩ := hq.w0
 have c151 := leaf_any h (ad r) va ⟨hrb.1, by omega⟩ (by omega)
 rw [leaf_pt hP hN hr va hv e1 e0 (by rw [hq.l]; exact hq.k), hq.l] at c151
 have hval := hq.val hN
 have hcc := hq.cb
 have hbd : 0 ≤ toP (ad q) c ∧ toP (ad q) c < 18014398509481984 := by rw [hval]; omega
 have hfr : toP (ad q) c / 1024 * 4096 = ad q := by rw [hval]; omega
 have hnz : (toP (ad q) c != 0) = true := by
  have : toP (ad q) c ≠ 0 := by rw [hval]; omega
  simpa using this
 have c152 := fun W => frameOf_any (toP (ad q) c) hbd W
 rw [hfr] at c152
 have hwr : IntKind.u64.wrap (ad q + va % 4096) = ad q + va % 4096 := by rw [IntKind.wrap_u64]; omega
 have k0 := hS.c0
 have k1 := hS.c1
 generalize toP (ad q) c = tp at *
 clear h hP hq hval hfr hS e1 e0
 go_enter Tryz.func149, Tryz.ntmps149
 go_wp2_with first | (go_at_call 185; refine c151.mono ?_; rintro _ w1 ⟨rfl, b1⟩) | (go_at_call 128; refine (c152 _).mono ?_; rintro _ w2 ⟨rfl, e2⟩; obtain rfl : w1 = w2 := e2.symm)
 refine bodyPost_ret (v := .tuple #[.int .u64 (ad q + va % 4096), .bool true]) (by simp [results, Tryz.results149, go_sem]) rfl ⟨rfl, b1⟩
end
end Go.Proofs.YtabnipbdbnmmpaaGreatDoor.Rm
namespace Go.Proofs.YtabnipbdbnmmpaaGreatDoor.Rm
open Go.RowKit
def eM : Nat := 402653184
theorem eM_val : eM = 402653184 := rfl
attribute [local irreducible] eM
def x1 (P : Nat) : Nat := 1 + P / 262144
def x0 (P : Nat) : Nat := 513 + 512 * (P / 262144) + P / 512 % 512
def vaP (P : Nat) : Int := (P : Int) * 4096
theorem vaP_i2 (P : Nat) (h : P < 134217728) : i2 (vaP P) = P / 262144 := by
 unfold i2 vaP ix spn
 simp
 omega
theorem vaP_i1 (P : Nat) (h : P < 134217728) : i1 (vaP P) = P / 512 % 512 := by
 unfold i1 vaP ix spn
 simp
 omega
theorem vaP_i0 (P : Nat) (h : P < 134217728) : i0 (vaP P) = P % 512 := by
 unfold i0 vaP ix spn
 simp
 omega
theorem vaP_y1 (P : Nat) (h : P < 134217728) : y1 (vaP P) = x1 P := by
 unfold y1 ch x1
 rw [vaP_i2 P h]
 simp
theorem vaP_y0 (P : Nat) (h : P < 134217728) : y0 (vaP P) = x0 P := by
 unfold y0
 rw [vaP_y1 P h, vaP_i1 P h]
 unfold ch x1 x0
 rw [if_neg (by omega)]
 omega
structure Ev where
 va : Int
 l : Int
 p : Pt
def rtF (F : Nat → Option Nat) : Nat := (F 0).getD 0
def ev (F : Nat → Option Nat) (lf : Nat → Nat → Int) (c : Nat) : Option Ev :=
 if c % 3 = 0 then (if c / 3 % 262144 = 0 then (F (x1 (c / 3))).map fun g => ⟨vaP (c / 3), 2, ⟨0, 0, st (ad (rtF F)) (vaP (c / 3)) 2, 2, ptr (some g), 3⟩⟩ else none)
 else if c % 3 = 1 then (if c / 3 % 512 = 0 then (F (x1 (c / 3))).bind fun g => (F (x0 (c / 3))).map fun q => ⟨vaP (c / 3), 1, ⟨0, st (ad g) (vaP (c / 3)) 1, st (ad (rtF F)) (vaP (c / 3)) 2, 1, ptr (some q), 3⟩⟩ else none)
 else (F (x1 (c / 3))).bind fun g => (F (x0 (c / 3))).bind fun q => if lf (x0 (c / 3)) (c / 3 % 512) = 0 then none else some ⟨vaP (c / 3), 0, ⟨st (ad q) (vaP (c / 3)) 0, st (ad g) (vaP (c / 3)) 1, st (ad (rtF F)) (vaP (c / 3)) 2, 0, lf (x0 (c / 3)) (c / 3 % 512), 2⟩⟩
def evs (F : Nat → Option Nat) (lf : Nat → Nat → Int) (c : Nat) : List Ev := (List.range' c (eM - c)).filterMap (ev F lf)
end Go.Proofs.YtabnipbdbnmmpaaGreatDoor.Rm
namespace Go.Proofs.YtabnipbdbnmmpaaGreatDoor.Rm
open Go.RowKit
def brElem : Value → Option (DataW Unit × List MemPlace)
 | .agg cs => match cs.toList with
  | [.int .u64 a, .int .i64 b] => some (.agg [.lit (.int .u64 a), .lit (.int .i64 b)], [])
  | _ => none
 | _ => none
def brD (x : Int × Int) : DataW Unit := .agg [.lit (.int .u64 x.1), .lit (.int .i64 x.2)]
def brV (x : Int × Int) : Value := .agg #[.int .u64 x.1, .int .i64 x.2]
theorem brElem_mk (x : Int × Int) : brElem (brV x) = some (brD x, []) := rfl
theorem brElem_inv {v : Value} {x : Int × Int} {ps : List MemPlace} (h : brElem v = some (brD x, ps)) : v = brV x := by
 unfold brElem at h
 split at h
 ·rename_i cs
  split at h
  ·rename_i a b hl
   simp only [Option.some.injEq, Prod.mk.injEq, brD, DataW.agg.injEq, List.cons.injEq, DataW.lit.injEq, Lit.int.injEq, true_and, and_true] at h
   obtain ⟨⟨h1, h2⟩, _⟩ := h
   unfold brV
   rw [← h1, ← h2]
   congr 1
   cases cs
   simp only at hl
   rw [hl]
  ·cases h
 ·cases h
structure Tm (w : World) (m : Nat) (tm : Int → Option (Int × Int)) (n : Nat) : Prop where
 own : ∃ D : DataW Unit, w.ownsMap Tryz.prog 23 brElem m n D ∧ ∀ a : Int, 0 ≤ a → a < 18446744073709551616 → Maps.has D (.int .u64 a) = (tm a).isSome ∧ D.atKey (.int .u64 a) (brD (0, 0)) = brD ((tm a).getD (0, 0))
theorem zero100 (w : World) : (zeroValue 236).run Tryz.prog w = .ok (brV (0, 0)) w := by kernel_rfl
theorem key28 (a : Int) (h : 0 ≤ a ∧ a < 18446744073709551616) : keyOf Tryz.prog 23 (.int .u64 a) = some (.int .u64 a) := Maps.keyOf_int_mk Tryz.underlying23 (by simp [Lit.wf, IntKind.min, IntKind.max, IntKind.signed, IntKind.bits]; omega)
theorem Tm.below {w w' : World} {m n : Nat} {tm : Int → Option (Int × Int)} (h : Tm w m tm n) (b : Below w.heap.size w w') : Tm w' m tm n := by
 obtain ⟨D, h1, h2⟩ := h.own
 have hl := h1.lt
 obtain ⟨es, cl, hb, r⟩ := h1
 exact ⟨D, ⟨es, cl, (b.block m hl).trans hb, r⟩, h2⟩
theorem Tm.other {w : World} {m n : Nat} {tm : Int → Option (Int × Int)} (h : Tm w m tm n) {a : Addr} (ha : m ≠ a.block) (v : Value) : Tm (w.setCell a v) m tm n := by
 obtain ⟨D, h1, h2⟩ := h.own
 exact ⟨D, h1.setCell ha v, h2⟩
theorem Tm.new (w : World) : Tm (w.alloc (.map #[] 0)) w.heap.size (fun _ => none) 0 :=
 ⟨.map [], World.ownsMap_made w Tryz.prog 23 brElem, fun a _ _ => ⟨rfl, rfl⟩⟩
theorem Tm.look {w : World} {m n : Nat} {tm : Int → Option (Int × Int)} (h : Tm w m tm n) (a : Int) (ha : 0 ≤ a ∧ a < 18446744073709551616) : (Instr.lookup 259 (.map (some m)) (.int .u64 a) false).run Tryz.prog w = .ok (brV ((tm a).getD (0, 0))) w := by
 obtain ⟨D, h1, h2⟩ := h.own
 obtain ⟨v, ps, hr, hv⟩ := h1.lookup law22 Tryz.underlying259 (zero100 w) (brElem_mk (0, 0)) (key28 a ha)
 rw [(h2 a ha.1 ha.2).2] at hv
 rw [hr, brElem_inv hv]
def setM (tm : Int → Option (Int × Int)) (a : Int) (x : Int × Int) : Int → Option (Int × Int) := fun b => if b = a then some x else tm b
theorem Tm.put {w : World} {m n : Nat} {tm : Int → Option (Int × Int)} (h : Tm w m tm n) (hn : n < 1000000000) (a : Int) (ha : 0 ≤ a ∧ a < 18446744073709551616) (x : Int × Int) : ∃ w', (Instr.mapUpdate 259 (.map (some m)) (.int .u64 a) (brV x)).run Tryz.prog w = .ok () w' ∧ Tm w' m (setM tm a x) (n + 1) ∧ w.mapTurned w' m := by
 obtain ⟨D, h1, h2⟩ := h.own
 obtain ⟨w', hr, ho, ht⟩ := h1.store law22 Tryz.underlying259 (by simp only [maxLen]; omega) (key28 a ha) (brElem_mk x)
 refine ⟨w', hr, ⟨_, ho, fun b h3 h4 => ?_⟩, ht⟩
 unfold setM
 by_cases e : b = a
 ·subst e
  rw [if_pos rfl]
  exact ⟨Maps.has_put_same h1.isMap (isKey _) _, Maps.atKey_put_same h1.isMap (isKey _) _ _⟩
 ·rw [if_neg e]
  refine ⟨?_, ?_⟩
  ·rw [Maps.has_put_other (ne_lit e)]
   exact (h2 b h3 h4).1
  ·rw [Maps.atKey_put_other (ne_lit e)]
   exact (h2 b h3 h4).2
section
variable {w : World} {v : Value}
end
end Go.Proofs.YtabnipbdbnmmpaaGreatDoor.Rm
namespace Go.Proofs.YtabnipbdbnmmpaaGreatDoor.Rm
open Go.RowKit
def nP (x : Nat) : Nat := if x ≤ 512 then (x - 1) * 262144 else (x - 513) / 512 * 262144 + (x - 513) % 512 * 512
def nK (x : Nat) : Nat := if x ≤ 512 then 3 * nP x else 3 * nP x + 1
def nB (x : Nat) : Int × Int := (vaP (nP x), if x ≤ 512 then 2 else 1)
theorem nP_1 (P : Nat) (h : P < 134217728) : nP (x1 P) = P / 262144 * 262144 := by
 unfold nP x1
 rw [if_pos (by omega), Nat.add_sub_cancel_left]
theorem nP_0 (P : Nat) (h : P < 134217728) : nP (x0 P) = P / 512 * 512 := by
 unfold nP x0
 rw [if_neg (by omega)]
 omega
theorem nK_1 (P : Nat) (h : P < 134217728) : nK (x1 P) = 3 * (P / 262144 * 262144) := by
 have := nP_1 P h
 unfold nK
 rw [if_pos (by unfold x1; omega), this]
theorem nK_0 (P : Nat) (h : P < 134217728) : nK (x0 P) = 3 * (P / 512 * 512) + 1 := by
 have := nP_0 P h
 unfold nK
 rw [if_neg (by unfold x0; omega), this]
theorem node_form (x : Nat) (h0 : x ≠ 0) (hx : x < 262657) : ∃ P, P < 134217728 ∧ nP x = P ∧ ((x = x1 P ∧ P % 262144 = 0 ∧ nK x = 3 * P) ∨ (x = x0 P ∧ P % 512 = 0 ∧ nK x = 3 * P + 1)) := by
 by_cases h : x ≤ 512
 ·refine ⟨(x - 1) * 262144, by omega, by unfold nP; rw [if_pos h], .inl ⟨by unfold x1; omega, by omega, by unfold nK nP; rw [if_pos h, if_pos h]⟩⟩
 ·refine ⟨(x - 513) / 512 * 262144 + (x - 513) % 512 * 512, by omega, by unfold nP; rw [if_neg h], .inr ⟨by unfold x0; omega, by omega, by unfold nK nP; rw [if_neg h, if_neg h]⟩⟩
theorem nK_inj {x y : Nat} (hx : x ≠ 0) (hy : y ≠ 0) (h : nK x = nK y) : x = y := by
 unfold nK nP at h
 split at h <;> split at h <;> omega
section
variable {N : Nat} {L : List Nat} {B : Nat → Int} {F : Nat → Option Nat} {lf : Nat → Nat → Int}
def TI (F : Nat → Option Nat) (c : Nat) (tm : Int → Option (Int × Int)) : Prop := ∀ x f, x ≠ 0 → F x = some f → tm (ad f) = if nK x < c then some (nB x) else none
theorem ev_node (h : PT N L B F lf) {x f : Nat} (h0 : x ≠ 0) (hf : F x = some f) : ev F lf (nK x) ≠ none := by
 obtain ⟨P, hP, _, ⟨h1, h2, h3⟩ | ⟨h1, h2, h3⟩⟩ := node_form x h0 (h.dom x (by rw [hf]; simp))
 ·unfold ev
  rw [h3, if_pos (by omega), show 3 * P / 3 = P by omega, if_pos h2, ← h1, hf]
  simp
 ·unfold ev
  have hu : F (x1 P) ≠ none := by
   have := h.up (x1 P) (P / 512 % 512) (by unfold x1; omega) (by omega)
   have e : ch (x1 P) (P / 512 % 512) = x0 P := by unfold ch x1 x0; rw [if_neg (by omega)]; omega
   rw [e, ← h1, hf] at this
   exact this (by simp)
  cases hg : F (x1 P) with
  | none => exact absurd hg hu
  | some g =>
   rw [h3, if_neg (by omega), if_pos (by omega), show (3 * P + 1) / 3 = P by omega, if_pos h2, hg, ← h1, hf]
   simp
theorem TI.skip (h : PT N L B F lf) {c d : Nat} {tm : Int → Option (Int × Int)} (t : TI F c tm) (hcd : c ≤ d) (hn : ∀ j, c ≤ j → j < d → ev F lf j = none) : TI F d tm := by
 intro x f h0 hf
 rw [t x f h0 hf]
 by_cases h1 : nK x < c
 ·rw [if_pos h1, if_pos (by omega)]
 ·rw [if_neg h1]
  by_cases h2 : nK x < d
  ·exact absurd (hn _ (by omega) h2) (ev_node h h0 hf)
  ·rw [if_neg h2]
theorem ad_inj {f g : Nat} (h : ad f = ad g) : f = g := by unfold ad at h; omega
theorem TI.put (h : PT N L B F lf) {c d x f : Nat} {tm : Int → Option (Int × Int)} (t : TI F c tm) (hcd : c ≤ d) (hn : ∀ j, c ≤ j → j < d → ev F lf j = none) (h0 : x ≠ 0) (hf : F x = some f) (hd : nK x = d) : TI F (d + 1) (setM tm (ad f) (nB x)) := by
 intro y g h1 hg
 unfold setM
 by_cases e : ad g = ad f
 ·rw [if_pos e]
  obtain rfl : g = f := ad_inj e
  obtain rfl : y = x := h.inj y x g hg hf
  rw [if_pos (by omega)]
 ·rw [if_neg e, (t.skip h hcd hn) y g h1 hg]
  have hne : nK y ≠ d := fun e2 => by
   obtain rfl : y = x := nK_inj h1 h0 (by omega)
   rw [hf] at hg
   injection hg with hg
   exact e (by rw [hg])
  by_cases h2 : nK y < d
  ·rw [if_pos h2, if_pos (by omega)]
  ·rw [if_neg h2, if_neg (by omega)]
end
end Go.Proofs.YtabnipbdbnmmpaaGreatDoor.Rm
namespace Go.Proofs.YtabnipbdbnmmpaaGreatDoor.Rm
open Go.RowKit
theorem hs_odd (e : Int) (he : 0 ≤ e ∧ e < 18446744073709551616) : hs e 1 = decide (e % 2 = 1) := by
 unfold hs
 have h1 : bits .and .u64 e ((1 : Nat) : Int) = (((e % 1024).toNat &&& 1 : Nat) : Int) := and_low e he 1 (by omega)
 rw [show ((1 : Nat) : Int) = 1 from rfl] at h1
 rw [h1, Nat.and_one_is_mod]
 by_cases h : e % 2 = 1
 ·have : (e % 1024).toNat % 2 = 1 := by omega
  rw [this]
  simp [h]
 ·have : (e % 1024).toNat % 2 = 0 := by omega
  rw [this]
  simp [h]
theorem num_odd (B : Nat → Int) (o : Nat) : num B o 8 % 2 = B o % 2 := by
 simp only [num, Nat.add_zero]
 omega
theorem kd_odd {e : Int} (h : kd e 0 = 2) : hs e 1 = true := by
 unfold kd at h
 split at h
 ·cases h
 ·rename_i hn
  cases hh : hs e 1
  ·exact absurd hh hn
  ·rfl
theorem ft_none (B : Nat → Int) (g : Nat) (k : Nat) : ∀ (j i : Nat), j ≤ i → i < j + k → (i : Int) < ft B g k j → hs (B (g * 4096 + i * 8)) 1 = false := by
 induction k with
 | zero =>
  intro j i h1 h2 h3
  clear h3
  omega
 | succ k ih =>
  intro j i h1 h2 h3
  have e : ft B g (k + 1) j = if hs (B (g * 4096 + j * 8)) 1 = true then (j : Int) else ft B g k (j + 1) := rfl
  rw [e] at h3
  clear e
  split at h3
  ·omega
  ·rename_i hh
   by_cases e : i = j
   ·subst e
    simpa using hh
   ·exact ih (j + 1) i (by clear h3; omega) (by clear h3; omega) h3
theorem evn_odd {B : Nat → Int} (hB : ∀ i, 0 ≤ B i ∧ B i < 256) (g i : Nat) (h : hs (B (g * 4096 + i * 8)) 1 = false) : evn B g i % 2 = 0 := by
 have hb := hB (g * 4096 + i * 8)
 rw [hs_odd _ (by omega)] at h
 unfold evn
 rw [num_odd]
 simp at h
 omega
section
variable {N : Nat} {L : List Nat} {B : Nat → Int} {F : Nat → Option Nat} {lf : Nat → Nat → Int}
theorem ptr_odd {f : Nat} (hf : f < N) (hN : N ≤ 4096) : ptr (some f) % 2 = 1 := by
 show toP (ad f) 0 % 2 = 1
 rw [toP_val _ _ (by unfold ad; omega) (by omega) (by omega)]
 unfold ad
 omega
theorem PT.noP (h : PT N L B F lf) (hN : N ≤ 4096) (hB : ∀ i, 0 ≤ B i ∧ B i < 256) {x g i : Nat} (hx : x ≤ 512) (hg : F x = some g) (hi : i < 512) (hz : hs (B (g * 4096 + i * 8)) 1 = false) : F (ch x i) = none := by
 have e := h.ep x g hx hg i hi
 have o := evn_odd hB g i hz
 cases hc : F (ch x i) with
 | none => rfl
 | some f =>
  rw [hc] at e
  have := ptr_odd (h.held _ _ hc).2.1 hN
  omega
theorem PT.noL (h : PT N L B F lf) (hB : ∀ i, 0 ≤ B i ∧ B i < 256) {y g i : Nat} (hy : 513 ≤ y) (hg : F y = some g) (hi : i < 512) (hz : hs (B (g * 4096 + i * 8)) 1 = false) : lf y i = 0 := by
 have e := h.el y g hy hg i hi
 have o := evn_odd hB g i hz
 rcases h.lv y i with h1 | ⟨h1, h2, h3⟩
 ·exact h1
 ·have := kd_odd h1
  rw [hs_odd _ ⟨h2, h3⟩] at this
  simp at this
  omega
end
end Go.Proofs.YtabnipbdbnmmpaaGreatDoor.Rm
