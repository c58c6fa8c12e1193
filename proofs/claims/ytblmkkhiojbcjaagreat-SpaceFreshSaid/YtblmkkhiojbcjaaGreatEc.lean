import Derived.Test.YtblmkkhiojbcjaaGreatYh
import Derived.Test.YtblmkkhiojbcjaaGreatUk
import Derived.Test.YtblmkkhiojbcjaaGreatMem
import Derived.Test.YtblmkkhiojbcjaaGreatYc
import Derived.Deep.RegionHeld3
namespace Go.Proofs.YtblmkkhiojbcjaaGreat
open Go.RowKit
set_option linter.unusedVariables false
set_option linter.unusedSimpArgs false
/-- What Grow by a page comes to. -/
def GrP (w : World) (s p b m N : Nat) (B : Nat → Int) (f : Nat) (L1 : List Nat) (F : Nat → Option Nat) (lf : Nat → Nat → Int) (r : Nat) (P c : Int) (w' : World) : Prop :=
  Sp w' s p (ad r) ((P + 1) * 4096) ∧ (∃ B' L' F', LP N (P * 4096) (toP (ad f) (c + 208)) L1 (zer B f) F lf L' B' F' ∧ L1 = L1.take (needY F (P * 4096)) ++ L' ∧ Ram w' p b m N B' L') ∧
  w.heap.size ≤ w'.heap.size ∧ w'.os = w.os ∧ w'.tape = w.tape ∧ w'.output = w.output ∧ ∀ k, k < w.heap.size → k ≠ p → k ≠ b → k ≠ m → k ≠ s → w'.heap[k]? = w.heap[k]?
def G1 (w : World) (s p b m N : Nat) (B : Nat → Int) (f : Nat) (L1 : List Nat) (F : Nat → Option Nat) (lf : Nat → Nat → Int) (r : Nat) (P c : Int) (w' : World) : Prop :=
  Sp w' s p (ad r) (P * 4096) ∧ Fra p b m w w' ∧ ∃ B' L' F', LP N (P * 4096) (toP (ad f) (c + 208)) L1 (zer B f) F lf L' B' F' ∧ L1 = L1.take (needY F (P * 4096)) ++ L' ∧ Ram w' p b m N B' L'
section
variable {w : World} {s p b m N : Nat} {B : Nat → Int} {F : Nat → Option Nat} {lf : Nat → Nat → Int}
set_option maxRecDepth 4000 in
set_option maxHeartbeats 2000000 in
theorem grow_pt {f r : Nat} {L1 : List Nat} {P c : Int} (hS : Sp w s p (ad r) (P * 4096)) (h : Ram w p b m N B (f :: L1)) (hP : PT N (f :: L1) B F lf) (hr : F 0 = some r) (hne : s ≠ p ∧ s ≠ b ∧ s ≠ m) (hPb : 0 ≤ P ∧ P < 4096) (hc : rgt c)
    (hz : lf (y0 (P * 4096)) (i0 (P * 4096)) = 0) (hn : needY F (P * 4096) ≤ L1.length) (hd : 1 + ndP (P + 1) - ndP P ≤ (f :: L1).length) :
    Calls Tryz.prog 9 #[.pointer (some ⟨s, 0, .none⟩), .int .u64 ((P + 1) * 4096), .int .u64 c] w fun e w' => e = .returned (.int .i64 0) ∧ GrP w s p b m N B f L1 F lf r P c w' := by
  have hN := h.mem.n2
  have hf := h.lt f (List.mem_cons_self ..)
  have hcb : 0 ≤ c ∧ c < 16 := by rcases hc with rfl | rfl | rfl | rfl | rfl <;> omega
  obtain ⟨o1, o2, o3⟩ := rgt_or hc
  have c33 := fun W (hW : Sp W s p (ad r) (P * 4096)) => made_sp hW
  have c147 := fun W => mayS_any c hc W
  have c119 := fun W => pagesOf_any ((P + 1) * 4096) (by omega) W
  rw [show ((P + 1) * 4096 + 4095) / 4096 = P + 1 by omega] at c119
  have c77 := fun W (hW : Sp W s p (ad r) (P * 4096)) => pages_sp hW (by omega)
  rw [show (P * 4096 + 4095) / 4096 = P by omega] at c77
  have c148 := room_any hS h P hPb rfl hd
  have H0 : Hid (Sp w s p (ad r) (P * 4096) ∧ Ram w p b m N B (f :: L1) ∧ PT N (f :: L1) B F lf ∧ F 0 = some r) := ⟨hS, h, hP, hr⟩
  have HC : Hid (rgt c ∧ f < N ∧ N ≤ 4096) := ⟨hc, hf.2, hN⟩
  have k2 := hS.c2
  have k0 := hS.c0
  have k1 := hS.c1
  have hlt := hS.lt
  clear hS h hP hr hd hc hf
  go_enter Tryz.func9, Tryz.ntmps9
  go_upto_region 7 with first | (go_at_call 43; refine (c33 _ H0.out.1).mono ?_; rintro _ w1 ⟨rfl, e1⟩; obtain rfl : w = w1 := e1.symm) | (go_at_call 44; refine (c147 _).mono ?_; rintro _ w1 ⟨rfl, e1⟩; obtain rfl : w = w1 := e1.symm)
  go_upto_region 9 with first | (go_at_call 46; refine (c119 _).mono ?_; rintro _ w1 ⟨rfl, e1⟩; obtain rfl : w = w1 := e1.symm) | (go_at_call 45; refine c148.mono ?_; rintro _ w1 ⟨rfl, k3, rfl⟩)
  obtain ⟨wa, hwa⟩ : ∃ wa, wa = w.drewN k3 := ⟨_, rfl⟩
  have ba : Below w.heap.size w wa := by rw [hwa]; exact below_dr w k3
  rw [← hwa]
  clear hwa k2 k0 k1
  have Sa := H0.out.1.below ba
  have HA : Hid (Below w.heap.size w wa) := ba
  have k2 := Sa.c2
  have c149 := tail_zero Sa (by omega) (by omega)
  have hgt : P < P + 1 := by omega
  clear ba
  go_upto_region 11 with (go_at_call 47; refine c149.mono ?_; rintro _ wb ⟨rfl, b2⟩; have HBb : Hid (Below w.heap.size w wb) := HA.out.trans (b2.mono HA.out.size); clear b2 c149)
  have Sb := H0.out.1.below HBb.out
  have d77 := c77 wb Sb
  clear Sb Sa k2 HA
  go_wp2_with (go_at_call 19; refine d77.mono ?_; rintro _ w1 ⟨rfl, e1⟩; obtain rfl : wb = w1 := e1.symm)
  go_loopw [7] (fun k wr => (k = .int .i64 P ∧ Hid (Below w.heap.size w wr)) ∨ (k = .int .i64 (P + 1) ∧ Hid (G1 w s p b m N B f L1 F lf r P c wr))) (fun k _ => (P + 1 - intOf k).toNat)
  case atStart => exact .inl ⟨rfl, HBb.out⟩
  case round =>
    rcases hrel with ⟨rfl, HB⟩ | ⟨rfl, HG⟩
    · have Sr := H0.out.1.below HB.out
      have k0 := Sr.c0
      have k1 := Sr.c1
      have k2 := Sr.c2
      have c150 := lay_pt (H0.out.2.1.below HB.out) H0.out.2.2.1 H0.out.2.2.2 P (c + 208) (by omega) (rgt_ok HC.out.1) (rgt_leaf HC.out.1 HC.out.2.1 HC.out.2.2) hz hn
      unfold LayP at c150
      have HSr : Hid (Sp wr s p (ad r) (P * 4096)) := Sr
      clear Sr
      go_wp2_with first | (go_at_call 46; refine (c119 _).mono ?_; rintro _ w1 ⟨rfl, e1⟩; obtain rfl : wr = w1 := e1.symm) | (go_at_call 48; refine c150.mono ?_; rintro _ w2 ⟨rfl, B', L', F', R, e1, r2, f2⟩; have HG : Hid (G1 w s p b m N B f L1 F lf r P c w2) := ⟨HSr.out.fra f2 hne.1 hne.2.1 hne.2.2, (Fra.below HB.out).trans f2, B', L', F', R, e1, r2⟩; clear R e1 r2 f2 c150)
      exact ⟨.inr ⟨rfl, HG⟩, by simp only [intOf]; omega⟩
    · have k2 := HG.out.1.c2
      have kf := HG.out.1.fr 2
      go_wp2_with (go_at_call 46; refine (c119 _).mono ?_; rintro _ w1 ⟨rfl, e1⟩; obtain rfl : wr = w1 := e1.symm)
      go_ret
      refine ⟨rfl, ?_⟩
      obtain ⟨g1, g2, B', L', F', g3, g4, g5⟩ := HG.out
      refine ⟨⟨(World.cell?_setCell_other _ _ _ _ (by simp)).trans g1.c0, (World.cell?_setCell_other _ _ _ _ (by simp)).trans g1.c1, World.cell?_setCell_same' _ _ _ (by rw [g1.c2]; rfl), fun k => by rw [World.frozen?_setCell]; exact g1.fr k⟩, ⟨B', L', F', g3, g4, ?_⟩, ?_, g2.os, g2.tape, g2.output, fun k hk h1 h2 h3 h4 => ?_⟩
      · exact g5.beside ⟨s, 2, .none⟩ _ (fun e => hne.1 e.symm) (fun e => hne.2.1 e.symm) (fun e => hne.2.2 e.symm)
      · simpa [World.setCell] using g2.size
      · exact (Below.heap_setCell _ _ _ _ (fun e => h4 e)).trans (g2.block k hk h1 h2 h3)
end
end Go.Proofs.YtblmkkhiojbcjaaGreat
namespace Go.Proofs.YtblmkkhiojbcjaaGreat
open Go.RowKit
set_option linter.unusedVariables false
set_option linter.unusedSimpArgs false
section
variable {w : World} {s p b m N : Nat} {B : Nat → Int} {L : List Nat} {F : Nat → Option Nat} {lf : Nat → Nat → Int}
theorem write_pg (h : Ram w p b m N B L) (q o n : Nat) (hq : q < N ∧ q ∉ L) (hn : 1 ≤ n) (ho : o + n ≤ 4096) (g k c : Nat) (R : Nat → Int) (hR : ∀ i, 0 ≤ R i ∧ R i < 256) (hg : ∀ i, i < n → w.cell? ⟨g, k + i, .none⟩ = some (.int .u8 (R i))) :
    Calls Tryz.prog 85 #[.pointer (some ⟨p, 0, .none⟩), .int .u64 (ad q + o), .slice (some ⟨g, k, .none⟩) n c] w fun e w' => e = .returned (.bool true) ∧ Ram w' p b m N (over B (q * 4096 + o) ((List.range n).map R)) L ∧ Fra p b m w w' := by
  have hc := write_ok h.mem (q * 4096 + o) n hn (by omega) (fun f h1 h2 => by
    have : f = q := by omega
    rw [this, hdL_in hq.1]
    simp [hq.2]) g k c R hR hg
  rw [show (2147483648 + ((q * 4096 + o : Nat) : Int)) = ad q + o by unfold ad; omega] at hc
  refine hc.mono fun e w' ⟨h1, h2, h3⟩ => ⟨h1, h.laid h2 (fun j hj => ?_), h3⟩
  have hjq : j ≠ q := fun e => hq.2 (e ▸ hj)
  simp only [List.length_map, List.length_range]
  rcases Nat.lt_or_gt_of_ne hjq with h | h <;> omega
theorem ext_lowY (va : Int) (h : 0 ≤ va ∧ va < 274877906944) : ext va = va := by unfold ext; rw [if_pos (by omega)]; omega
/-- The leaf of a page that a table has. -/
theorem leaf_pt (hP : PT N L B F lf) (hN : N ≤ 4096) {r g1 q1 : Nat} (hr : F 0 = some r) (va : Int) (hv : 0 ≤ va ∧ va < 274877906944) (h1 : F (y1 va) = some g1) (h0 : F (y0 va) = some q1) (hk : kd (lf (y0 va) (i0 va)) 0 = 2) :
    (if finds (look N L B (ad r) va) va = true then (look N L B (ad r) va).e else 0) = lf (y0 va) (i0 va) := by
  rw [look_0 hP hN hr va h1 h0]
  have : finds ⟨st (ad q1) va 0, st (ad g1) va 1, st (ad r) va 2, 0, lf (y0 va) (i0 va), kd (lf (y0 va) (i0 va)) 0⟩ va = true := by
    unfold finds
    rw [ext_lowY va hv]
    simp [hk]
  rw [if_pos this]
/-- A page is there: its way, its leaf, its frame. -/
structure Pag (N : Nat) (L : List Nat) (F : Nat → Option Nat) (lf : Nat → Nat → Int) (va : Int) (q : Nat) (c : Int) : Prop where
  w1 : ∃ g, F (y1 va) = some g
  w0 : ∃ g, F (y0 va) = some g
  l : lf (y0 va) (i0 va) = toP (ad q) c
  k : kd (toP (ad q) c) 0 = 2
  cb : 0 ≤ c ∧ c < 256 ∧ c % 2 = 0
  qb : q < N ∧ q ∉ L
  nn : ∀ x, F x ≠ some q
theorem Pag.val {va : Int} {q : Nat} {c : Int} (h : Pag N L F lf va q c) (hN : N ≤ 4096) : toP (ad q) c = ad q / 4096 * 1024 + c + 1 := by
  have hb := ad_b q N h.qb.1 hN
  exact toP_val _ _ ⟨hb.1, hb.2.1⟩ (by have := h.cb; omega) h.cb.2.2
theorem kern_pt {r q : Nat} {size c : Int} (hS : Sp w s p (ad r) size) (h : Ram w p b m N B L) (hP : PT N L B F lf) (hr : F 0 = some r) (va : Int) (hv : 0 ≤ va ∧ va < 274877906944) (hq : Pag N L F lf va q c) :
    Calls Tryz.prog 58 #[.pointer (some ⟨s, 0, .none⟩), .int .u64 va] w fun e w' => e = .returned (.tuple #[.int .u64 (ad q + va % 4096), .bool true]) ∧ Below w.heap.size w w' := by
  have hN := h.mem.n2
  have hb := ad_b q N hq.qb.1 hN
  have hrb := ad_b r N (hP.held 0 r hr).2.1 hN
  obtain ⟨g1, e1⟩ := hq.w1
  obtain ⟨g0, e0⟩ := hq.w0
  have c151 := leaf_any h (ad r) va ⟨hrb.1, by omega⟩ (by omega)
  rw [leaf_pt hP hN hr va hv e1 e0 (by rw [hq.l]; exact hq.k), hq.l] at c151
  have hval := hq.val hN
  have hcc := hq.cb
  have hbd : 0 ≤ toP (ad q) c ∧ toP (ad q) c < 18014398509481984 := by rw [hval]; omega
  have hfr : toP (ad q) c / 1024 * 4096 = ad q := by rw [hval]; omega
  have hnz : (toP (ad q) c != 0) = true := by
    have : toP (ad q) c ≠ 0 := by rw [hval]; omega
    simpa using this
  have c152 := fun W => frameOf_any (toP (ad q) c) hbd W
  rw [hfr] at c152
  have hwr : IntKind.u64.wrap (ad q + va % 4096) = ad q + va % 4096 := by rw [IntKind.wrap_u64]; omega
  have k0 := hS.c0
  have k1 := hS.c1
  generalize toP (ad q) c = tp at *
  clear h hP hq hval hfr hS e1 e0
  go_enter Tryz.func58, Tryz.ntmps58
  go_wp2_with first | (go_at_call 75; refine c151.mono ?_; rintro _ w1 ⟨rfl, b1⟩) | (go_at_call 62; refine (c152 _).mono ?_; rintro _ w2 ⟨rfl, e2⟩; obtain rfl : w1 = w2 := e2.symm)
  refine bodyPost_ret (v := .tuple #[.int .u64 (ad q + va % 4096), .bool true]) (by simp [results, Tryz.results58, go_sem]) rfl ⟨rfl, b1⟩
end
end Go.Proofs.YtblmkkhiojbcjaaGreat
namespace Go.Proofs.YtblmkkhiojbcjaaGreat
open Go.RowKit
set_option linter.unusedVariables false
set_option linter.unusedSimpArgs false
/-- Four blocks may have turned. -/
structure Tch (p b m x : Nat) (w w' : World) : Prop where
  os : w'.os = w.os
  tape : w'.tape = w.tape
  output : w'.output = w.output
  size : w.heap.size ≤ w'.heap.size
  block : ∀ k, k < w.heap.size → k ≠ p → k ≠ b → k ≠ m → k ≠ x → w'.heap[k]? = w.heap[k]?
theorem Tch.trans {p b m x : Nat} {u v w : World} (h : Tch p b m x u v) (k : Tch p b m x v w) : Tch p b m x u w :=
  ⟨k.os.trans h.os, k.tape.trans h.tape, k.output.trans h.output, Nat.le_trans h.size k.size, fun i hi a c d e => (k.block i (Nat.lt_of_lt_of_le hi h.size) a c d e).trans (h.block i hi a c d e)⟩
theorem Tch.of {p b m x : Nat} {w w' : World} (h : Fra p b m w w') : Tch p b m x w w' := ⟨h.os, h.tape, h.output, h.size, fun k hk a c d _ => h.block k hk a c d⟩
theorem Tch.fra {p b m x : Nat} {w v w' : World} (hv : Fra p b m w v) (h : Tch p b m x v w') (hx : w.heap.size ≤ x) : Fra p b m w w' :=
  ⟨h.os.trans hv.os, h.tape.trans hv.tape, h.output.trans hv.output, Nat.le_trans hv.size h.size, fun k hk a c d => (h.block k (Nat.lt_of_lt_of_le hk hv.size) a c d (by omega)).trans (hv.block k hk a c d)⟩
theorem Tch.set {p b m x : Nat} {w : World} (k : Nat) (v : Value) : Tch p b m x w (w.setCell ⟨x, k, .none⟩ v) := ⟨rfl, rfl, rfl, by simp [World.setCell], fun i hi _ _ _ e => Below.heap_setCell _ _ _ _ (fun h => e h)⟩
theorem elemU8 (W : World) : (sizeOf (Tryz.prog.elem 24)).run Tryz.prog W = .ok 1 W := by
  have e : Tryz.prog.elem 24 = 5 := by kernel_rfl
  obtain ⟨i, z, hi, _, hs, _⟩ := info_of 5 1 1 (by kernel_rfl) (by kernel_rfl)
  rw [e]
  simp [sizeOf, typeInfo, hi, hs]
theorem cutTo (g k n c : Nat) (h : n ≤ c) (W : World) : (Instr.slice 24 (.slice (some ⟨g, k, .none⟩) n c) none (some (.int .i64 n)) none).run Tryz.prog W = .ok (.slice (some ⟨g, k, .none⟩) n c) W := by
  rw [run_slice_h W 24 (some ⟨g, k, .none⟩) n c (by kernel_rfl) .i64 n (by omega) (by omega), elemU8]
  simp [Result.andThen, sliced, Addr.add]
theorem cutFrom (g k n c : Nat) (h : n ≤ c) (W : World) : ∃ q, (Instr.slice 24 (.slice (some ⟨g, k, .none⟩) n c) (some (.int .i64 n)) none none).run Tryz.prog W = .ok (.slice q 0 (c - n)) W := by
  rw [run_slice_l W 24 (some ⟨g, k, .none⟩) n c (by kernel_rfl) .i64 n (by omega) (by omega), elemU8]
  refine ⟨if c = n then some ⟨g, k, .none⟩ else some ((⟨g, k, .none⟩ : Addr).add n), ?_⟩
  simp [Result.andThen, sliced]
  try (split <;> rfl)
section
variable {w : World} {s p b m N : Nat} {B : Nat → Int} {L : List Nat} {F : Nat → Option Nat} {lf : Nat → Nat → Int}
def PuP (w : World) (p b m x N : Nat) (B : Nat → Int) (L : List Nat) (q o n : Nat) (R : Nat → Int) (e : Ending) (w' : World) : Prop := e = .returned (.bool true) ∧ Ram w' p b m N (over B (q * 4096 + o) ((List.range n).map R)) L ∧ Tch p b m x w w'
set_option maxHeartbeats 1000000 in
theorem put1_any {root size : Int} (hS : Sp w s p root size) (h : Ram w p b m N B L) (q o n : Nat) (hq : q < N ∧ q ∉ L) (hn : 1 ≤ n) (ho : o + n ≤ 4096) (g k c : Nat) (hc : n ≤ c ∧ c ≤ 9223372036854775807) (R : Nat → Int) (hR : ∀ i, 0 ≤ R i ∧ R i < 256) (hg : ∀ i, i < n → w.cell? ⟨g, k + i, .none⟩ = some (.int .u8 (R i)))
    (bv sv : Nat) (hb : w.cell? ⟨bv, 0, .none⟩ = some (.slice (some ⟨g, k, .none⟩) n c)) (hbf : w.frozen? ⟨bv, 0, .none⟩ = false) (hs : w.cell? ⟨sv, 0, .none⟩ = some (.pointer (some ⟨s, 0, .none⟩))) (hne : bv ≠ p ∧ bv ≠ b ∧ bv ≠ m ∧ bv ≠ g ∧ bv ≠ s ∧ bv ≠ sv) :
    Calls Tryz.prog 92 #[.int .u64 (ad q + o), .int .i64 n, .pointer (some ⟨bv, 0, .none⟩), .pointer (some ⟨sv, 0, .none⟩)] w (PuP w p b m bv N B L q o n R) := by
  have ct := cutTo g k n c hc.1 w
  obtain ⟨q2, cf⟩ := cutFrom g k n c hc.1 w
  obtain ⟨w1, hw1⟩ : ∃ w1, w1 = w.setCell ⟨bv, 0, .none⟩ (.slice q2 0 (c - n)) := ⟨_, rfl⟩
  have R1 : Ram w1 p b m N B L := by rw [hw1]; exact h.beside ⟨bv, 0, .none⟩ _ (fun e => hne.1 e.symm) (fun e => hne.2.1 e.symm) (fun e => hne.2.2.1 e.symm)
  have g1 : ∀ i, i < n → w1.cell? ⟨g, k + i, .none⟩ = some (.int .u8 (R i)) := fun i hi => by rw [hw1]; exact (World.cell?_setCell_other _ _ _ _ (by simp only [ne_eq, Addr.mk.injEq, not_and]; intro e; exact absurd e hne.2.2.2.1)).trans (hg i hi)
  have c92 := write_pg R1 q o n hq hn ho g k c R hR g1
  have s1 : w1.cell? ⟨sv, 0, .none⟩ = some (.pointer (some ⟨s, 0, .none⟩)) := by rw [hw1]; exact (World.cell?_setCell_other _ _ _ _ (by simp only [ne_eq, Addr.mk.injEq, not_and]; intro e; exact absurd e hne.2.2.2.2.2)).trans hs
  have k0 : w1.cell? ⟨s, 0, .none⟩ = some (.pointer (some ⟨p, 0, .none⟩)) := by rw [hw1]; exact (World.cell?_setCell_other _ _ _ _ (by simp only [ne_eq, Addr.mk.injEq, not_and]; intro e; exact absurd e hne.2.2.2.2.1)).trans hS.c0
  have HT : Hid (Tch p b m bv w w1) := by rw [hw1]; exact Tch.set _ _
  clear h hg g1 R1 hS hR
  go_enter Tryz.func92, Tryz.ntmps92
  go_upto_region 3 with fail
  rw [← hw1]
  clear hw1
  go_wp2_with (go_at_call 85; refine c92.mono ?_; rintro _ w2 ⟨rfl, r2, f2⟩)
  go_ret
  exact ⟨rfl, r2, HT.out.trans (Tch.of f2)⟩
end
end Go.Proofs.YtblmkkhiojbcjaaGreat
namespace Go.Proofs.YtblmkkhiojbcjaaGreat
open Go Go.RowKit
set_option linter.unusedVariables false
set_option linter.unusedSimpArgs false
/-- How long a piece is that begins behind k bytes. -/
def pce (va : Int) (n k : Nat) : Nat := min (n - k) (4096 - ((va + k) % 4096).toNat)
theorem pce_b (va : Int) (n k : Nat) (h : k < n) : 1 ≤ pce va n k ∧ k + pce va n k ≤ n ∧ ((va + k) % 4096).toNat + pce va n k ≤ 4096 := by
  unfold pce
  omega
/-- What each comes to: all pieces, or none behind the first that was refused. -/
def EaP (n : Nat) (J : Nat → World → Prop) (Jf : World → Prop) (e : Ending) (w' : World) : Prop := (e = .returned (.bool true) ∧ J n w') ∨ (e = .returned (.bool false) ∧ Jf w')
set_option maxHeartbeats 2000000 in
theorem each_rd {w : World} {s : Nat} {u1 u2 d1 d2 : Nat} (va : Int) (n : Nat) (hv : 0 ≤ va ∧ va + n ≤ 274877906944) (J : Nat → World → Prop) (Jf : World → Prop) (pa : Nat → Int) (ok dok : Nat → Bool)
    (hat : ∀ k W, k < n → J k W → Calls Tryz.prog 89 #[.int .u64 (va + k), .pointer (some ⟨u1, 0, .none⟩), .pointer (some ⟨u2, 0, .none⟩)] W fun e W' => e = .returned (.tuple #[.int .u64 (pa k), .bool (ok k)]) ∧ J k W')
    (hno : ∀ k W, k < n → ok k = false → J k W → Jf W)
    (hdo : ∀ k W, k < n → ok k = true → J k W → Calls Tryz.prog 54 #[.int .u64 (pa k), .int .i64 (pce va n k), .pointer (some ⟨d1, 0, .none⟩), .pointer (some ⟨d2, 0, .none⟩)] W fun e W' => e = .returned (.bool (dok k)) ∧ (dok k = true → J (k + pce va n k) W') ∧ (dok k = false → Jf W')) (h0 : J 0 w) :
    Calls Tryz.prog 52 #[.pointer (some ⟨s, 0, .none⟩), .int .u64 va, .int .i64 n, .func (.func 89) #[] #[.pointer (some ⟨u1, 0, .none⟩), .pointer (some ⟨u2, 0, .none⟩)], .func (.func 54) #[] #[.pointer (some ⟨d1, 0, .none⟩), .pointer (some ⟨d2, 0, .none⟩)]] w (EaP n J Jf) := by
  have HA : Hid (∀ k W, k < n → J k W → Calls Tryz.prog 89 #[.int .u64 (va + k), .pointer (some ⟨u1, 0, .none⟩), .pointer (some ⟨u2, 0, .none⟩)] W fun e W' => e = .returned (.tuple #[.int .u64 (pa k), .bool (ok k)]) ∧ J k W') := hat
  have HN : Hid (∀ k W, k < n → ok k = false → J k W → Jf W) := hno
  have HD : Hid (∀ k W, k < n → ok k = true → J k W → Calls Tryz.prog 54 #[.int .u64 (pa k), .int .i64 (pce va n k), .pointer (some ⟨d1, 0, .none⟩), .pointer (some ⟨d2, 0, .none⟩)] W fun e W' => e = .returned (.bool (dok k)) ∧ (dok k = true → J (k + pce va n k) W') ∧ (dok k = false → Jf W')) := hdo
  have H0 : Hid (J 0 w) := h0
  clear hat hno hdo h0
  go_enter Tryz.func52, Tryz.ntmps52
  go_wp2_with fail
  go_loopw [1, 2] (fun v j wr => ∃ k : Nat, k ≤ n ∧ v = .int .u64 (va + k) ∧ j = .int .i64 (n - k) ∧ Hid (J k wr)) (fun _ j _ => (intOf j).toNat)
  case atStart => exact ⟨0, by omega, by simp, by simp, H0⟩
  case round =>
    clear H0
    obtain ⟨k, hk, rfl, rfl, HJ⟩ := hrel
    by_cases hkn : k < n
    · have hpos : (0 : Int) < n - k := by omega
      have ca := HA.out k wr hkn HJ.out
      have hb := pce_b va n k hkn
      have hrem : IntKind.u64.wrap ((va + k).tmod 4096) = (va + k) % 4096 := by rw [Int.tmod_eq_emod_of_nonneg (by omega), IntKind.wrap_u64]; omega
      have hsub : IntKind.u64.wrap (4096 - (va + k) % 4096) = 4096 - (va + k) % 4096 := by rw [IntKind.wrap_u64]; omega
      have hcv : IntKind.i64.wrap (4096 - (va + k) % 4096) = 4096 - (va + k) % 4096 := by rw [IntKind.wrap_i64]; omega
      have hpu : IntKind.u64.wrap (pce va n k : Int) = pce va n k := by rw [IntKind.wrap_u64]; omega
      have hva2 : IntKind.u64.wrap (va + k + pce va n k) = va + k + pce va n k := by rw [IntKind.wrap_u64]; omega
      by_cases hm : (n : Int) - k ≤ 4096 - (va + k) % 4096
      · have hm2 : ¬ 4096 - (va + k) % 4096 < (n : Int) - k := by omega
        obtain ⟨pc, hpc⟩ : ∃ pc, pc = pce va n k := ⟨_, rfl⟩
        have e9 : (n : Int) - k = (pc : Int) := by rw [hpc]; unfold pce; omega
        rw [← hpc] at hb hpu hva2
        have HPC : Hid (pc = pce va n k) := hpc
        clear hpc
        have hnx : IntKind.i64.wrap ((n : Int) - k - pc) = n - k - pc := by rw [IntKind.wrap_i64]; omega
        go_wp2_with fail
        refine ca.mono ?_
        rintro _ w1 ⟨rfl, j1⟩
        have HJ1 : Hid (J k w1) := j1
        clear j1 ca HJ
        cases hok : ok k
        · have HF : Hid (Jf w1) := HN.out k w1 hkn hok HJ1.out
          go_wp2_with fail
          go_ret
          exact .inr ⟨rfl, HF.out⟩
        · have cd := HD.out k w1 hkn hok HJ1.out
          rw [← HPC.out] at cd
          cases hdk : dok k
          · rw [hdk] at cd
            go_wp2_with fail
            refine cd.mono ?_
            rintro _ w2 ⟨rfl, _, hf⟩
            have HF : Hid (Jf w2) := hf (by first | rfl | trivial)
            clear hf cd
            go_wp2_with fail
            go_ret
            exact .inr ⟨rfl, HF.out⟩
          · rw [hdk] at cd
            go_wp2_with fail
            refine cd.mono ?_
            rintro _ w2 ⟨rfl, ht, _⟩
            have HT : Hid (J (k + pc) w2) := ht (by first | rfl | trivial)
            clear ht cd
            go_wp2_with fail
            exact ⟨⟨k + pc, by omega, by congr 1; omega, by congr 1; omega, HT⟩, by simp only [intOf]; omega⟩
      · have hm2 : 4096 - (va + k) % 4096 < (n : Int) - k := by omega
        obtain ⟨pc, hpc⟩ : ∃ pc, pc = pce va n k := ⟨_, rfl⟩
        have e9 : 4096 - (va + k) % 4096 = (pc : Int) := by rw [hpc]; unfold pce; omega
        rw [← hpc] at hb hpu hva2
        have HPC : Hid (pc = pce va n k) := hpc
        clear hpc
        have hnx : IntKind.i64.wrap ((n : Int) - k - pc) = n - k - pc := by rw [IntKind.wrap_i64]; omega
        go_wp2_with fail
        refine ca.mono ?_
        rintro _ w1 ⟨rfl, j1⟩
        have HJ1 : Hid (J k w1) := j1
        clear j1 ca HJ
        cases hok : ok k
        · have HF : Hid (Jf w1) := HN.out k w1 hkn hok HJ1.out
          go_wp2_with fail
          go_ret
          exact .inr ⟨rfl, HF.out⟩
        · have cd := HD.out k w1 hkn hok HJ1.out
          rw [← HPC.out] at cd
          cases hdk : dok k
          · rw [hdk] at cd
            go_wp2_with fail
            refine cd.mono ?_
            rintro _ w2 ⟨rfl, _, hf⟩
            have HF : Hid (Jf w2) := hf (by first | rfl | trivial)
            clear hf cd
            go_wp2_with fail
            go_ret
            exact .inr ⟨rfl, HF.out⟩
          · rw [hdk] at cd
            go_wp2_with fail
            refine cd.mono ?_
            rintro _ w2 ⟨rfl, ht, _⟩
            have HT : Hid (J (k + pc) w2) := ht (by first | rfl | trivial)
            clear ht cd
            go_wp2_with fail
            exact ⟨⟨k + pc, by omega, by congr 1; omega, by congr 1; omega, HT⟩, by simp only [intOf]; omega⟩
    · obtain rfl : k = n := by omega
      go_wp2_with fail
      go_ret
      exact .inl ⟨rfl, HJ.out⟩
end Go.Proofs.YtblmkkhiojbcjaaGreat
namespace Go.Proofs.YtblmkkhiojbcjaaGreat
open Go Go.RowKit
set_option linter.unusedVariables false
set_option linter.unusedSimpArgs false
theorem forUser_any (s : Nat) (a : Int) (w : World) : Calls Tryz.prog 53 #[.pointer (some ⟨s, 0, .none⟩), .int .i64 a] w fun e w' => e = .returned (.func (.func 89) #[] #[.pointer (some ⟨w.heap.size, 0, .none⟩), .pointer (some ⟨w.heap.size + 1, 0, .none⟩)]) ∧ w' = (w.alloc (.cells #[.pointer (some ⟨s, 0, .none⟩)] 26)).alloc (.cells #[.int .i64 a] 90) := by
  go_enter Tryz.func53, Tryz.ntmps53
  go_wp2
  go_ret
  exact ⟨rfl, rfl⟩
set_option maxHeartbeats 1000000 in
/-- forUser's own function: what Translate tells. -/
theorem user_any {w : World} {s p u1 u2 : Nat} {root size : Int} (hS : Sp w s p root size) (va a x : Int) (y : Bool) (h1 : w.cell? ⟨u1, 0, .none⟩ = some (.pointer (some ⟨s, 0, .none⟩))) (h2 : w.cell? ⟨u2, 0, .none⟩ = some (.int .i64 a))
    (c66 : ∀ W, Below w.heap.size w W → Calls Tryz.prog 66 #[.pointer (some ⟨p, 0, .none⟩), .int .u64 root, .int .u64 va, .int .i64 a] W fun e w' => e = .returned (.tuple #[.int .u64 x, .bool y]) ∧ Below W.heap.size W w') :
    Calls Tryz.prog 89 #[.int .u64 va, .pointer (some ⟨u1, 0, .none⟩), .pointer (some ⟨u2, 0, .none⟩)] w fun e w' => e = .returned (.tuple #[.int .u64 x, .bool y]) ∧ Below w.heap.size w w' := by
  have k0 := hS.c0
  have k1 := hS.c1
  have HC : Hid (∀ W, Below w.heap.size w W → Calls Tryz.prog 66 #[.pointer (some ⟨p, 0, .none⟩), .int .u64 root, .int .u64 va, .int .i64 a] W fun e w' => e = .returned (.tuple #[.int .u64 x, .bool y]) ∧ Below W.heap.size W w') := c66
  clear hS c66
  have kS : Below w.heap.size w w.drew := (Below.refl _ _).drew
  have b0 := lt_of_cell k0
  have b1 := lt_of_cell h1
  have b2 := lt_of_cell h2
  simp only at b0 b1 b2
  go_enter Tryz.func89, Tryz.ntmps89
  go_upto_region 1 with fail
  refine wp_region_held_drew (S := fun U => Below w.heap.size w U) (by kernel_rfl) kS (fun hHeld => ?_)
  refine wpAnyH_take (i := 0) (v := (.pointer (some ⟨s, 0, .none⟩))) rfl (by kernel_rfl) (by kernel_rfl) (by kernel_rfl) (fun _ _ _ h => h) (Or.inl ⟨by rfl, fun ww hSw => by (try dsimp only at hSw); have q0 := (Below.cell hSw (p := ⟨u1, 0, .none⟩) (by simp only; omega)).trans h1; go_simp⟩) (by assumption) ?_
  simp only [Act.put, List.setIfInBounds_toArray, List.set_cons_zero, List.set_cons_succ, List.getElem_toArray, List.getElem_cons_succ, List.getElem_cons_zero]
  refine wpAnyH_take (i := 1) (v := (.pointer (some ⟨s, 0, .none⟩))) rfl (by kernel_rfl) (by kernel_rfl) (by kernel_rfl) (fun _ _ _ h => h) (Or.inl ⟨by rfl, fun ww hSw => by (try dsimp only at hSw); go_simp⟩) (by assumption) ?_
  simp only [Act.put, List.setIfInBounds_toArray, List.set_cons_zero, List.set_cons_succ, List.getElem_toArray, List.getElem_cons_succ, List.getElem_cons_zero]
  refine wpAnyH_take (i := 2) (v := (.pointer (some ⟨s, 0, .none⟩))) rfl (by kernel_rfl) (by kernel_rfl) (by kernel_rfl) (fun _ _ _ h => h) (Or.inl ⟨by rfl, fun ww hSw => by (try dsimp only at hSw); go_simp⟩) (by assumption) ?_
  simp only [Act.put, List.setIfInBounds_toArray, List.set_cons_zero, List.set_cons_succ, List.getElem_toArray, List.getElem_cons_succ, List.getElem_cons_zero]
  refine wpAnyH_take (i := 3) (v := (.pointer (some ⟨s, 0, .none⟩))) rfl (by kernel_rfl) (by kernel_rfl) (by kernel_rfl) (fun _ _ _ h => h) (Or.inl ⟨by rfl, fun ww hSw => by (try dsimp only at hSw); go_simp⟩) (by assumption) ?_
  simp only [Act.put, List.setIfInBounds_toArray, List.set_cons_zero, List.set_cons_succ, List.getElem_toArray, List.getElem_cons_succ, List.getElem_cons_zero]
  refine wpAnyH_take (i := 4) (v := (.pointer (some ⟨p, 0, .none⟩))) rfl (by kernel_rfl) (by kernel_rfl) (by kernel_rfl) (fun _ _ _ h => h) (Or.inl ⟨by rfl, fun ww hSw => by (try dsimp only at hSw); have q0 := (Below.cell hSw (p := ⟨s, 0, .none⟩) (by simp only; omega)).trans k0; go_simp⟩) (by assumption) ?_
  simp only [Act.put, List.setIfInBounds_toArray, List.set_cons_zero, List.set_cons_succ, List.getElem_toArray, List.getElem_cons_succ, List.getElem_cons_zero]
  refine wpAnyH_take (i := 5) (v := (.pointer (some ⟨s, 0, .none⟩))) rfl (by kernel_rfl) (by kernel_rfl) (by kernel_rfl) (fun _ _ _ h => h) (Or.inl ⟨by rfl, fun ww hSw => by (try dsimp only at hSw); have q0 := (Below.cell hSw (p := ⟨u1, 0, .none⟩) (by simp only; omega)).trans h1; go_simp⟩) (by assumption) ?_
  simp only [Act.put, List.setIfInBounds_toArray, List.set_cons_zero, List.set_cons_succ, List.getElem_toArray, List.getElem_cons_succ, List.getElem_cons_zero]
  refine wpAnyH_take (i := 6) (v := (.pointer (some ⟨s, 0, .none⟩))) rfl (by kernel_rfl) (by kernel_rfl) (by kernel_rfl) (fun _ _ _ h => h) (Or.inl ⟨by rfl, fun ww hSw => by (try dsimp only at hSw); go_simp⟩) (by assumption) ?_
  simp only [Act.put, List.setIfInBounds_toArray, List.set_cons_zero, List.set_cons_succ, List.getElem_toArray, List.getElem_cons_succ, List.getElem_cons_zero]
  refine wpAnyH_take (i := 7) (v := (.pointer (some ⟨s, 0, .none⟩))) rfl (by kernel_rfl) (by kernel_rfl) (by kernel_rfl) (fun _ _ _ h => h) (Or.inl ⟨by rfl, fun ww hSw => by (try dsimp only at hSw); go_simp⟩) (by assumption) ?_
  simp only [Act.put, List.setIfInBounds_toArray, List.set_cons_zero, List.set_cons_succ, List.getElem_toArray, List.getElem_cons_succ, List.getElem_cons_zero]
  refine wpAnyH_take (i := 8) (v := (.pointer (some ⟨s, 1, .none⟩))) rfl (by kernel_rfl) (by kernel_rfl) (by kernel_rfl) (fun _ _ _ h => h) (Or.inl ⟨by rfl, fun ww hSw => by (try dsimp only at hSw); go_simp⟩) (by assumption) ?_
  simp only [Act.put, List.setIfInBounds_toArray, List.set_cons_zero, List.set_cons_succ, List.getElem_toArray, List.getElem_cons_succ, List.getElem_cons_zero]
  refine wpAnyH_take (i := 9) (v := (.int .u64 root)) rfl (by kernel_rfl) (by kernel_rfl) (by kernel_rfl) (fun _ _ _ h => h) (Or.inl ⟨by rfl, fun ww hSw => by (try dsimp only at hSw); have q0 := (Below.cell hSw (p := ⟨s, 1, .none⟩) (by simp only; omega)).trans k1; go_simp⟩) (by assumption) ?_
  simp only [Act.put, List.setIfInBounds_toArray, List.set_cons_zero, List.set_cons_succ, List.getElem_toArray, List.getElem_cons_succ, List.getElem_cons_zero]
  refine wpAnyH_take (i := 10) (v := (.int .u64 va)) rfl (by kernel_rfl) (by kernel_rfl) (by kernel_rfl) (fun _ _ _ h => h) (Or.inl ⟨by rfl, fun ww hSw => by (try dsimp only at hSw); go_simp⟩) (by assumption) ?_
  simp only [Act.put, List.setIfInBounds_toArray, List.set_cons_zero, List.set_cons_succ, List.getElem_toArray, List.getElem_cons_succ, List.getElem_cons_zero]
  refine wpAnyH_take (i := 11) (v := (.int .i64 a)) rfl (by kernel_rfl) (by kernel_rfl) (by kernel_rfl) (fun _ _ _ h => h) (Or.inl ⟨by rfl, fun ww hSw => by (try dsimp only at hSw); have q0 := (Below.cell hSw (p := ⟨u2, 0, .none⟩) (by simp only; omega)).trans h2; go_simp⟩) (by assumption) ?_
  simp only [Act.put, List.setIfInBounds_toArray, List.set_cons_zero, List.set_cons_succ, List.getElem_toArray, List.getElem_cons_succ, List.getElem_cons_zero]
  refine wpAnyH_ready (rs := [12]) (by kernel_rfl) (by simp) ?_
  refine AllReadyH.cons rfl (fun K hK => ?_) AllReadyH.nil
  go_simp
  go_at_call 66
  refine (HC.out _ hHeld).mono ?_
  rintro _ w2 ⟨rfl, b9⟩
  have k9 : Below w.heap.size w w2 := hHeld.trans (b9.mono hHeld.size)
  clear hHeld b9
  refine hK.out _ _ k9 (fun hHeld => ?_)
  clear hK K
  try simp only [Act.put, List.setIfInBounds_toArray, List.set_cons_zero, List.set_cons_succ, List.getElem_toArray, List.getElem_cons_succ, List.getElem_cons_zero]
  refine wpAnyH_take (i := 13) (v := (.int .u64 x)) rfl (by kernel_rfl) (by kernel_rfl) (by kernel_rfl) (fun _ _ _ h => h) (Or.inl ⟨by rfl, fun ww hSw => by (try dsimp only at hSw); go_simp⟩) (by assumption) ?_
  simp only [Act.put, List.setIfInBounds_toArray, List.set_cons_zero, List.set_cons_succ, List.getElem_toArray, List.getElem_cons_succ, List.getElem_cons_zero]
  refine wpAnyH_take (i := 14) (v := (.bool y)) rfl (by kernel_rfl) (by kernel_rfl) (by kernel_rfl) (fun _ _ _ h => h) (Or.inl ⟨by rfl, fun ww hSw => by (try dsimp only at hSw); go_simp⟩) (by assumption) ?_
  simp only [Act.put, List.setIfInBounds_toArray, List.set_cons_zero, List.set_cons_succ, List.getElem_toArray, List.getElem_cons_succ, List.getElem_cons_zero]
  refine wpAnyH_take (i := 15) (v := (.int .u64 x)) rfl (by kernel_rfl) (by kernel_rfl) (by kernel_rfl) (fun _ _ _ h => h) (Or.inl ⟨by rfl, fun ww hSw => by (try dsimp only at hSw); go_simp⟩) (by assumption) ?_
  simp only [Act.put, List.setIfInBounds_toArray, List.set_cons_zero, List.set_cons_succ, List.getElem_toArray, List.getElem_cons_succ, List.getElem_cons_zero]
  refine wpAnyH_take (i := 16) (v := (.bool y)) rfl (by kernel_rfl) (by kernel_rfl) (by kernel_rfl) (fun _ _ _ h => h) (Or.inl ⟨by rfl, fun ww hSw => by (try dsimp only at hSw); go_simp⟩) (by assumption) ?_
  simp only [Act.put, List.setIfInBounds_toArray, List.set_cons_zero, List.set_cons_succ, List.getElem_toArray, List.getElem_cons_succ, List.getElem_cons_zero]
  refine wpAnyH_done (by kernel_rfl) ?_ _
  go_wp2_with fail
  refine bodyPost_ret (v := .tuple #[.int .u64 x, .bool y]) (by simp [results, Tryz.results89, go_sem]) rfl ⟨rfl, hHeld⟩
end Go.Proofs.YtblmkkhiojbcjaaGreat
namespace Go.Proofs.YtblmkkhiojbcjaaGreat
open Go Go.RowKit
set_option linter.unusedVariables false
set_option linter.unusedSimpArgs false
/-- The bytes of a piece. -/
def pcB (B : Nat → Int) (o n : Nat) : List Value := (List.range n).map fun i => .int .u8 (B (o + i))
theorem pcB_len (B : Nat → Int) (o n : Nat) : (pcB B o n).length = n := by simp [pcB]
def I1P (W : World) (A d2 k n T : Nat) (bs : List Value) (e : Ending) (w' : World) : Prop := e = .returned (.bool true) ∧ ∃ W2 q', Below W.heap.size W W2 ∧ w' = (W2.setCells A k bs).setCell ⟨d2, 0, .none⟩ (.slice q' (T - n : Nat) (T - n : Nat)) ∧ (n < T → q' = some ⟨A, k + n, .none⟩)
set_option maxRecDepth 100000 in
set_option maxHeartbeats 2000000 in
theorem in1_any {W : World} {s p b m N : Nat} {B : Nat → Int} {L : List Nat} {root size : Int} (hS : Sp W s p root size) (hR : Ram W p b m N B L) (q o n : Nat) (hq : q < N ∧ q ∉ L) (hn : 1 ≤ n) (ho : o + n ≤ 4096) (d1 d2 A k T : Nat)
    (h1 : W.cell? ⟨d1, 0, .none⟩ = some (.pointer (some ⟨s, 0, .none⟩))) (h2 : W.cell? ⟨d2, 0, .none⟩ = some (.slice (some ⟨A, k, .none⟩) T T)) (f2 : W.frozen? ⟨d2, 0, .none⟩ = false) (hnT : n ≤ T ∧ T ≤ 9223372036854775807) (hA : ∀ j, j < T → (W.cell? ⟨A, k + j, .none⟩).isSome = true) (fA : ∀ j, j < T → W.frozen? ⟨A, k + j, .none⟩ = false) (hne : d2 ≠ A) :
    Calls Tryz.prog 54 #[.int .u64 (ad q + o), .int .i64 n, .pointer (some ⟨d1, 0, .none⟩), .pointer (some ⟨d2, 0, .none⟩)] W (I1P W A d2 k n T (pcB B (q * 4096 + o) n)) := by
  have k0 := hS.c0
  have hN := hR.mem.n2
  have c55 : Calls Tryz.prog 55 #[.pointer (some ⟨p, 0, .none⟩), .int .u64 (ad q + o), .int .i64 n] W fun e w' => ReadP W n (fun i => B (q * 4096 + o + i)) e w' := by
    have := read_ok hR.mem (q * 4096 + o) n hn (by omega) (fun f e1 e2 => by
      obtain rfl : f = q := by omega
      rw [hdL_in hq.1]
      simpa using hq.2)
    have e : ad q + o = 2147483648 + ((q * 4096 + o : Nat) : Int) := by unfold ad; omega
    rw [e]
    exact this
  clear hS hR
  have hAl : A < W.heap.size := by
    have := hA 0 (by omega)
    obtain ⟨v, hv⟩ := Option.isSome_iff_exists.1 this
    exact lt_of_cell hv
  have hdl := lt_of_cell h2
  simp only at hdl
  go_enter Tryz.func54, Tryz.ntmps54
  go_wp2_with fail
  refine c55.mono ?_
  rintro _ W2 ⟨g, g1, g2, rfl, g3, g4, b2⟩
  clear c55
  have z2 := (b2.cell (p := ⟨d2, 0, .none⟩) hdl).trans h2
  have zf := (b2.frozen (p := ⟨d2, 0, .none⟩) hdl).trans f2
  have hcp : ∀ (X : World) ty, Below W2.heap.size W2 X → (Builtin.copy_ #[24, 24] ty #[.slice (some ⟨A, k, .none⟩) T T, .slice (some ⟨g, 0, .none⟩) n n]).run Tryz.prog X = .ok (.int .i64 n) (X.setCells A k (pcB B (q * 4096 + o) n)) := fun X ty bX => by
    have := run_copy_cells (P := Tryz.prog) X 24 24 ty 5 A k T T ⟨g, 0, .none⟩ n n (pcB B (q * 4096 + o) n) (by kernel_rfl) (by kernel_rfl) (by rw [pcB_len]; exact (Nat.min_eq_left hnT.1).symm) (fun j v hj => ?_) (fun j hj => ?_) (fun j hj => ?_) (fun v hv => ?_)
    · rw [pcB_len] at this
      exact this
    · have hjn : j < n := by
        rcases Nat.lt_or_ge j n with h | h
        · exact h
        · rw [List.getElem?_eq_none (by rw [pcB_len]; exact h)] at hj
          cases hj
      have e : v = .int .u8 (B (q * 4096 + o + j)) := by
        unfold pcB at hj
        rw [List.getElem?_map, List.getElem?_range hjn] at hj
        simpa using hj.symm
      rw [e]
      have hadd : (⟨g, 0, .none⟩ : Addr).add j = ⟨g, j, .none⟩ := by unfold Addr.add; split <;> simp_all
      rw [hadd]
      exact (bX.cell (p := ⟨g, j, .none⟩) g2).trans (g3 j hjn)
    · rw [pcB_len] at hj
      rw [bX.cell (p := ⟨A, k + j, .none⟩) (by simp only; have := b2.size; omega), b2.cell (p := ⟨A, k + j, .none⟩) hAl]
      exact hA j (by omega)
    · rw [pcB_len] at hj
      rw [bX.frozen (p := ⟨A, k + j, .none⟩) (by simp only; have := b2.size; omega), b2.frozen (p := ⟨A, k + j, .none⟩) hAl]
      exact fA j (by omega)
    · unfold pcB at hv
      obtain ⟨_, _, rfl⟩ := List.mem_map.1 hv
      rfl
  have HCP : Hid (∀ (X : World) ty, Below W2.heap.size W2 X → (Builtin.copy_ #[24, 24] ty #[.slice (some ⟨A, k, .none⟩) T T, .slice (some ⟨g, 0, .none⟩) n n]).run Tryz.prog X = .ok (.int .i64 n) (X.setCells A k (pcB B (q * 4096 + o) n))) := hcp
  have HB2 : Hid (Below W.heap.size W W2) := b2
  clear hcp g1 g2 g3 g4 b2 hA fA h2 f2 h1 k0
  obtain ⟨q', hq'⟩ : ∃ q', q' = if T = n then some (⟨A, k, .none⟩ : Addr) else some ⟨A, k + n, .none⟩ := ⟨_, rfl⟩
  have hsl : ∀ X : World, (Instr.slice 24 (.slice (some ⟨A, k, .none⟩) T T) (some (.int .i64 n)) none none).run Tryz.prog X = .ok (.slice q' (T - n : Nat) (T - n : Nat)) X := fun X => by
    rw [run_slice_l X 24 (some ⟨A, k, .none⟩) T T (by kernel_rfl) .i64 n (by omega) (by omega), elemU8, hq']
    have hadd : (⟨A, k, .none⟩ : Addr).add n = ⟨A, k + n, .none⟩ := by unfold Addr.add; split <;> simp_all
    by_cases e : T = n
    · simp [Result.andThen, sliced, e]
    · simp [Result.andThen, sliced, e, hadd]
  have HQ : Hid (n < T → q' = some ⟨A, k + n, .none⟩) := fun h => by rw [hq', if_neg (by omega)]
  clear hq'
  go_upto_region 2 with fail
  have y2 : W2.drew.cell? ⟨d2, 0, .none⟩ = some (.slice (some ⟨A, k, .none⟩) T T) := z2
  have yf : W2.drew.frozen? ⟨d2, 0, .none⟩ = false := zf
  have hc8 := fun ty => HCP.out W2.drew ty (Below.refl _ _).drew
  obtain ⟨X, hX⟩ : ∃ X, X = W2.drew.setCells A k (pcB B (q * 4096 + o) n) := ⟨_, rfl⟩
  rw [← hX] at hc8
  have k8 : X.cell? ⟨d2, 0, .none⟩ = some (.slice (some ⟨A, k, .none⟩) T T) := by rw [hX]; exact (World.cell?_setCells_out A _ k W2.drew ⟨d2, 0, .none⟩ (fun e => absurd e hne)).trans z2
  have k7 : X.frozen? ⟨d2, 0, .none⟩ = false := by rw [hX]; exact (World.frozen?_setCells A _ k W2.drew ⟨d2, 0, .none⟩).trans zf
  have HX : Hid (X = W2.drew.setCells A k (pcB B (q * 4096 + o) n)) := hX
  clear hX z2 zf
  go_region
  all_goals
    go_wp2_with fail
    go_ret
    refine ⟨rfl, W2.drew, q', HB2.out.drew, ?_, HQ.out⟩
    rw [HX.out]
end Go.Proofs.YtblmkkhiojbcjaaGreat
