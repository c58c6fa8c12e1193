import Derived.Test.YtabnipbdbnmmpaaGreatDoorTw25
import Derived.Test.YtabnipbdbnmmpaaGreatDoorTw11
import Derived.Test.YtabnipbdbnmmpaaGreatDoorTw03
import Derived.Test.YtabnipbdbnmmpaaGreatDoorTw36
set_option linter.unusedVariables false
set_option linter.unusedSimpArgs false
namespace Go.Proofs.YtabnipbdbnmmpaaGreatDoor.Rm
open Go Go.RowKit
structure NS (w w' : World) (p b m N : Nat) (B : Nat → Int) (i : Nat) (L1 : List Nat) (ft : Nat) (fr : Nat → Nat) (c : Nat → Int) (B' : Nat → Int) (L' : List Nat) (F' : Nat → Option Nat) (lf' : Nat → Nat → Int) : Prop where
 ram : Ram w' p b m N B' L'
 sl : SpL N i ft B' L' F' lf' fr c []
 len : L'.length + 2 = L1.length
 oth : Oth (i :: L1) (fun _ => none) fr [] B L' F' fr [] B'
 fra : Fra p b m w w'
section
variable {w : World} {p b m N : Nat} {B : Nat → Int}
set_option maxHeartbeats 2000000 in
theorem newTable_sl {i : Nat} {L1 : List Nat} (h : Ram w p b m N B (i :: L1)) (hl : 2 ≤ L1.length) (ft : Nat) (hft : 1 ≤ ft ∧ ft < N ∧ ft ∉ i :: L1) (fr : Nat → Nat) (c : Nat → Int) :
  Calls Tryz.prog 92 #[.pointer (some ⟨p, 0, .none⟩), .int .u64 (ad ft), .int .u64 2147483648] w fun e w' => e = .returned (.agg #[.pointer (some ⟨p, 0, .none⟩), .int .u64 (ad i)]) ∧ ∃ B' L' F' lf', NS w w' p b m N B i L1 ft fr c B' L' F' lf' := by
 have hN := h.mem.n2
 have hi := h.lt i (List.mem_cons_self ..)
 have hnd := List.nodup_cons.1 h.nd
 have hil : i ∉ L1 := hnd.1
 have hfb := ad_b ft N hft.2.1 hN
 obtain ⟨w1, hw1⟩ : ∃ w1, w1 = w.alloc (.cells #[.pointer .none, .int .u64 0] 105) := ⟨_, rfl⟩
 have b1 : Below w.heap.size w w1 := by rw [hw1]; exact (Below.refl _ _).alloc (Nat.le_refl _) _
 have k0 : w1.cell? ⟨w.heap.size, 0, .none⟩ = some (.pointer .none) := by rw [hw1]; simp
 have k1 : w1.cell? ⟨w.heap.size, 1, .none⟩ = some (.int .u64 0) := by rw [hw1]; simp
 have kf : ∀ k, w1.frozen? ⟨w.heap.size, k, .none⟩ = false := fun k => by rw [hw1]; exact World.frozen?_alloc_new _ _ _ _
 have hp : p < w.heap.size := lt_of_cell h.mem.c0
 have hb : b < w.heap.size := lt_of_cell (h.mem.cb 0 (by have := h.mem.n1; omega))
 have hm : m < w.heap.size := h.mem.mlt
 have c106 := new_some i (h.below b1)
 have P0 : PT N L1 (zer B i) (fun x => if x = 0 then some i else none) (fun _ _ => 0) := PT.initY hi hil
 have HW : Hid (Below w.heap.size w w1 ∧ C2w w1 w.heap.size (.pointer .none) (.int .u64 0)) := ⟨b1, k0, k1, kf⟩
 have HP0 : Hid (PT N L1 (zer B i) (fun x => if x = 0 then some i else none) (fun _ _ => 0)) := P0
 have z1 : w1.heap.size = w.heap.size + 1 := by rw [hw1]; simp
 have HL : Hid (i ∉ L1) := hil
 clear h P0 b1 k0 k1 kf hnd hil
 go_enter Tryz.func92, Tryz.ntmps92
 go_upto_region 1 with fail
 rw [← hw1]
 clear hw1
 go_upto_region 2 with (go_at_call 144; refine c106.mono ?_; rintro _ w2 ⟨rfl, r2, f2⟩; have H2 : Hid (Ram w2 p b m N (zer B i) L1 ∧ Fra p b m w1 w2) := ⟨r2, f2⟩; clear r2 f2 c106)
 have c1 := map_pt H2.out.1 HP0.out (r := i) rfl 274877898752 (ad ft) 198 (by omega) (by omega) ⟨hfb.1, hfb.2.2, hfb.2.1⟩ perm198 (leaf_b _ _ ⟨hfb.1, hfb.2.2, hfb.2.1⟩ (by omega) (by omega) (by decide) (by decide)) rfl (by
  have : needY (fun x => if x = 0 then some i else none) 274877898752 = 2 := by
   unfold needY
   have : y1 274877898752 ≠ 0 := by have := y1_le 274877898752; omega
   simp [this]
  omega)
 go_wp2_with fail
 refine c1.mono ?_
 rintro _ w3 ⟨rfl, B1, L2, F1, R1, e1, r3, f3⟩
 have hn2 : needY (fun x => if x = 0 then some i else none) 274877898752 = 2 := by
  unfold needY
  have : y1 274877898752 ≠ 0 := by have := y1_le 274877898752; omega
  simp [this]
 rw [hn2] at e1
 have H3 : Hid (LP N 274877898752 (toP (ad ft) 198) L1 (zer B i) (fun x => if x = 0 then some i else none) (fun _ _ => 0) L2 B1 F1 ∧ L1 = L1.take 2 ++ L2 ∧ Ram w3 p b m N B1 L2 ∧ Fra p b m w1 w3) := ⟨R1, e1, r3, H2.out.2.trans f3⟩
 clear R1 e1 r3 f3 c1 H2 hn2
 have hF1 : F1 0 = some i := H3.out.1.ext 0 i rfl
 have hz0 : ad 0 = 2147483648 := rfl
 have c2 := map_pt H3.out.2.2.1 H3.out.1.pt (r := i) hF1 274877902848 (ad 0) 74 (by omega) (by omega) ⟨by decide, by decide, by decide⟩ perm74 (leaf_b _ _ ⟨by decide, by decide, by decide⟩ (by omega) (by omega) (by decide) (by decide)) (by
  unfold setE
  rw [if_neg (fun e => tt_i0 e.2)]) (by
  obtain ⟨g, q, h1, h2⟩ := H3.out.1.has
  unfold needY
  rw [tt_y1, tt_y0, h1, h2]
  simp)
 have HF1 : Hid (F1 0 = some i) := hF1
 rw [hz0] at c2
 clear hz0 hF1
 go_wp2_with fail
 refine c2.mono ?_
 rintro _ w4 ⟨rfl, B2, L3, F2, R2, e2, r4, f4⟩
 have hn2 : needY F1 274877902848 = 0 := by
  obtain ⟨g, q, h1, h2⟩ := H3.out.1.has
  unfold needY
  rw [tt_y1, tt_y0, h1, h2]
  simp
 rw [hn2, List.take_zero, List.nil_append] at e2
 have HR2 : Hid (LP N 274877902848 (toP 2147483648 74) L2 B1 F1 (setE (fun _ _ => 0) (y0 274877898752) (i0 274877898752) (toP (ad ft) 198)) L3 B2 F2) := R2
 have H4 : Hid (L2 = L3 ∧ Ram w4 p b m N B2 L3 ∧ Fra p b m w1 w4) := ⟨e2, r4, H3.out.2.2.2.trans f4⟩
 have k4 := HW.out.2.fra H4.out.2.2 (by omega) (by omega) (by omega)
 have k0 := k4.a
 have k1 := k4.b
 have kf0 := k4.f 0
 have kf1 := k4.f 1
 clear R2 e2 r4 f4 c2 hn2
 go_wp2_with fail
 have s0 : ((w4.setCell ⟨w.heap.size, 0, .none⟩ (.pointer (some ⟨p, 0, .none⟩))).setCell ⟨w.heap.size, 1, .none⟩ (.int .u64 (2147483648 + (i : Int) * 4096))).cell? ⟨w.heap.size, 0, .none⟩ = some (.pointer (some ⟨p, 0, .none⟩)) := by
  rw [World.cell?_setCell_other _ _ _ _ (by simp)]
  exact World.cell?_setCell_same' _ _ _ (by rw [k0]; rfl)
 have s1 : ((w4.setCell ⟨w.heap.size, 0, .none⟩ (.pointer (some ⟨p, 0, .none⟩))).setCell ⟨w.heap.size, 1, .none⟩ (.int .u64 (2147483648 + (i : Int) * 4096))).cell? ⟨w.heap.size, 1, .none⟩ = some (.int .u64 (2147483648 + (i : Int) * 4096)) := World.cell?_setCell_same' _ _ _ (by rw [World.cell?_setCell_other _ _ _ _ (by simp), k1]; rfl)
 have own1 : ∀ x f, F1 x = some f → f ∈ i :: L1 ∧ (x = 0 ∨ x = y1 274877898752 ∨ x = y0 274877898752) := fun x f hf => by
  rcases H3.out.1.new x f hf with e | ⟨e1, _, e2⟩
  ·by_cases hx : x = 0
   ·simp only [hx, if_true, Option.some.injEq] at e
    exact ⟨by rw [← e]; exact List.mem_cons_self .., .inl hx⟩
   ·simp [hx] at e
  ·exact ⟨List.mem_cons_of_mem _ e1, .inr e2⟩
 have own2 : ∀ x f, F2 x = some f → f ∈ i :: L1 ∧ (x = 0 ∨ x = y1 274877898752 ∨ x = y0 274877898752) := fun x f hf => by
  rcases HR2.out.new x f hf with e | ⟨e1, _, e2⟩
  ·exact own1 x f e
  ·rw [tt_y1, tt_y0] at e2
   exact ⟨List.mem_cons_of_mem _ (H3.out.1.sub f e1), .inr e2⟩
 have o1 : okP (274877898752, ad ft, 198) := ⟨⟨by simp only; omega, by simp only; omega, by simp only; omega⟩, hfb, ⟨by simp only; omega, by simp only; omega, by simp only; omega⟩, (leaf_b (ad ft) 198 ⟨hfb.1, hfb.2.2, hfb.2.1⟩ (by omega) (by omega) (by decide) (by decide)).1⟩
 have o2 : okP (274877902848, ad 0, 74) := ⟨⟨by simp only; omega, by simp only; omega, by simp only; omega⟩, ⟨by decide, by decide, by decide⟩, ⟨by simp only; omega, by simp only; omega, by simp only; omega⟩, (leaf_b (ad 0) 74 ⟨by decide, by decide, by decide⟩ (by omega) (by omega) (by decide) (by decide)).1⟩
 have t1 := TL.map (x := (274877898752, ad ft, 198)) (TL.init i) o1 (fun y hy => by cases hy) H3.out.1
 have t2 := TL.map (x := (274877902848, ad 0, 74)) t1 o2 (fun y hy => by rw [List.nil_append, List.mem_singleton] at hy; rw [hy]; simp) HR2.out
 have hS : SpL N i ft B2 L3 F2 _ fr c [] := ⟨HR2.out.pt, HR2.out.ext 0 i HF1.out, t2, List.nodup_nil, fun _ h => (by cases h), fun _ h => (by cases h), fun _ h => (by cases h), hft.1, hft.2.1, fun hm => hft.2.2 (List.mem_cons_of_mem _ (H3.out.1.sub _ (H4.out.1 ▸ hm))), fun x hx => hft.2.2 (own2 x _ hx).1⟩
 refine bodyPost_ret (v := .agg #[.pointer (some ⟨p, 0, .none⟩), .int .u64 (2147483648 + (i : Int) * 4096)]) (by simp [results, Tryz.results92, go_sem, s0, s1]) rfl ⟨rfl, B2, L3, F2, _, ?_, hS, ?_, fun f hf h2 h3 => ⟨fun hm => hf (List.mem_cons_of_mem _ (H3.out.1.sub _ (H4.out.1 ▸ hm))), fun x hx => hf (own2 x f hx).1, fun _ h => by (cases h), fun k hk => ?_⟩, ?_⟩
 ·exact (H4.out.2.1.beside ⟨w.heap.size, 0, .none⟩ _ (by show p ≠ w.heap.size; omega) (by show b ≠ w.heap.size; omega) (by show m ≠ w.heap.size; omega)).beside ⟨w.heap.size, 1, .none⟩ _ (by show p ≠ w.heap.size; omega) (by show b ≠ w.heap.size; omega) (by show m ≠ w.heap.size; omega)
 ·have e := congrArg List.length H3.out.2.1
  rw [List.length_append, List.length_take, H4.out.1] at e
  omega
 ·rw [HR2.out.byt f (fun x hx => hf (own2 x f hx).1) k hk, H3.out.1.byt f (fun x hx => hf (own1 x f hx).1) k hk]
  have hfi : f ≠ i := fun e => hf (by rw [e]; exact List.mem_cons_self ..)
  exact zer_out _ _ _ (by rcases Nat.lt_or_gt_of_ne hfi with h | h <;> omega)
 ·exact (((Fra.below HW.out.1).trans H4.out.2.2).beside ⟨w.heap.size, 0, .none⟩ _ (Nat.le_refl _)).beside ⟨w.heap.size, 1, .none⟩ _ (Nat.le_refl _)
set_option maxHeartbeats 2000000 in
theorem spNew_sl {i : Nat} {L1 : List Nat} (h : Ram w p b m N B (i :: L1)) (hl : 2 ≤ L1.length) (ft : Nat) (hft : 1 ≤ ft ∧ ft < N ∧ ft ∉ i :: L1) (fr : Nat → Nat) (c : Nat → Int) :
  Calls Tryz.prog 43 #[.pointer (some ⟨p, 0, .none⟩), .int .u64 (ad ft), .int .u64 2147483648] w fun e w' => ∃ s, e = .returned (.tuple #[.pointer (some ⟨s, 0, .none⟩), .int .i64 0]) ∧ w.heap.size ≤ s ∧ Sp w' s p (ad i) 0 ∧ ∃ B' L' F' lf', NS w w' p b m N B i L1 ft fr c B' L' F' lf' := by
 have hN := h.mem.n2
 have hfb := ad_b ft N hft.2.1 hN
 obtain ⟨ok, h1, c59⟩ := two_any h (ad ft) 2147483648 (by omega) (by omega)
 obtain rfl : ok = true := h1.2 ⟨⟨ft, hft.2.1, hft.2.2, rfl⟩, ⟨0, by have := h.mem.n1; omega, fun e => by have := (h.lt 0 e).1; omega, rfl⟩, by unfold ad; omega⟩
 have c25 := frames_any h.mem
 have n1 := h.mem.n1
 have hN0 : ((N : Int) == 0) = false := by simp; omega
 have HR : Hid (Ram w p b m N B (i :: L1)) := h
 have hp : p < w.heap.size := lt_of_cell h.mem.c0
 have hb : b < w.heap.size := lt_of_cell (h.mem.cb 0 (by omega))
 have hm : m < w.heap.size := h.mem.mlt
 have hlen : ¬ (((i :: L1).length : Int) < 3) := by simp only [List.length_cons]; omega
 clear h h1
 go_enter Tryz.func43, Tryz.ntmps43
 go_upto_region 5 with first | (go_at_call 41; refine c25.mono ?_; rintro _ w1 ⟨rfl, e1⟩; obtain rfl : w = w1 := e1.symm) | (go_at_call 91; refine c59.mono ?_; rintro _ w1 ⟨rfl, b1⟩; have H1 : Hid (Below w.heap.size w w1) := b1; clear b1)
 have c10 := count_ram (HR.out.below H1.out)
 generalize hg : (i :: L1).length = g at c10 hlen
 clear hg
 go_upto_region 7 with (go_at_call 15; refine c10.mono ?_; rintro _ w2 ⟨rfl, k2, rfl⟩)
 have H2 : Hid (Below w.heap.size w (w1.drewN k2)) := H1.out.trans ((below_dr w1 k2).mono H1.out.size)
 have c60 := newTable_sl (HR.out.below H2.out) hl ft hft fr c
 go_wp2_with (go_at_call 92; refine c60.mono ?_; rintro _ w3 ⟨rfl, B', L', F', lf', T⟩)
 refine bodyPost_ret (v := .tuple #[.pointer (some ⟨w3.heap.size, 0, .none⟩), .int .i64 0]) (by simp [results, Tryz.results43, go_sem]) rfl ⟨w3.heap.size, rfl, ?_, ?_, B', L', F', lf', ?_⟩
 ·exact Nat.le_trans H2.out.size T.fra.size
 ·exact ⟨by simp, by simp, by simp, fun k => World.frozen?_alloc_new _ _ _ _⟩
 ·exact ⟨T.ram.below ((Below.refl _ _).alloc (Nat.le_refl _) _), T.sl, T.len, T.oth, (((Fra.below H2.out).trans T.fra)).alloc _⟩
end
end Go.Proofs.YtabnipbdbnmmpaaGreatDoor.Rm
namespace Go.Proofs.YtabnipbdbnmmpaaGreatDoor
open Go.RowKit
set_option maxHeartbeats 1000000 in
theorem prog_nil {w : World} {rb c : Nat} {fp : Option Addr} (h : w.cell? ⟨rb, 0, .none⟩ = some (.slice fp 0 c)) : Calls Tryz.prog 137 #[.pointer (some ⟨rb, 0, .none⟩)] w fun e w' => Up w 0 140 e w' := by
 have b1 : Below w.heap.size w (w.alloc (.cells #[.int .u64 0, .slice .none 0 0] 41)) := (Below.refl _ _).alloc (Nat.le_refl _) _
 have h1 : (w.alloc (.cells #[.int .u64 0, .slice .none 0 0] 41)).cell? ⟨rb, 0, .none⟩ = some (.slice fp 0 c) := (b1.cell (lt_of_cell h)).trans h
 have HB : Hid (Below w.heap.size w (w.alloc (.cells #[.int .u64 0, .slice .none 0 0] 41)) ∧ (w.alloc (.cells #[.int .u64 0, .slice .none 0 0] 41)).cell? ⟨rb, 0, .none⟩ = some (.slice fp 0 c)) := ⟨b1, h1⟩
 clear b1 h1
 go_enter Tryz.func137, Tryz.ntmps137
 go_wp2_with fail
 generalize hRB : w.heap.size = rs at *
 generalize w.alloc (.cells #[.int .u64 0, .slice .none 0 0] 41) = W1 at *
 refine (length_lo rb 0 c _ W1 HB.out.2 (by omega)).mono ?_
 intro e w0 hu
 obtain ⟨v, rfl, hu2⟩ := id hu
 refine ⟨rfl, ?_⟩
 exact hu.back (by rw [hRB]; exact HB.out.1)
set_option maxHeartbeats 1000000 in
theorem read_nil {W : World} {c : Nat} {fp : Option Addr} :
  Calls Tryz.prog 85 #[.slice fp 0 c] W fun e w' => ∃ v, e = .returned (.tuple #[.agg #[.int .u64 0, .slice .none 0 0], v]) ∧ FaultIn w' 0 v 0 140 ∧ Below W.heap.size W w' := by
 have hz0 : ((W.alloc (.cells #[.int .u64 0, .slice .none 0 0] 41)).alloc (.cells #[.nilIface] 33)).heap.size = W.heap.size + 1 + 1 := by simp only [World.size_alloc]
 have HB0 : Hid (Below W.heap.size W ((W.alloc (.cells #[.int .u64 0, .slice .none 0 0] 41)).alloc (.cells #[.nilIface] 33))) := ((Below.refl _ _).alloc (Nat.le_refl _) _).alloc (by simp only [World.size_alloc]; omega) _
 have HE : Hid (((W.alloc (.cells #[.int .u64 0, .slice .none 0 0] 41)).alloc (.cells #[.nilIface] 33)).heap[W.heap.size]? = some (.cells #[.int .u64 0, .slice .none 0 0] 41 (0, 0)) ∧ ((W.alloc (.cells #[.int .u64 0, .slice .none 0 0] 41)).alloc (.cells #[.nilIface] 33)).heap[W.heap.size + 1]? = some (.cells #[.nilIface] 33 (0, 0))) := by
  constructor
  ·rw [Below.heap_alloc _ _ _ (by simp only [World.size_alloc]; omega)]
   exact heap_new _ _
  ·have := heap_new (W.alloc (.cells #[.int .u64 0, .slice .none 0 0] 41)) (.cells #[.nilIface] 33)
   rwa [World.size_alloc] at this
 go_enter_defers Tryz.func85, Tryz.ntmps85
 go_wp2_with fail
 generalize hW0 : ((W.alloc (.cells #[.int .u64 0, .slice .none 0 0] 41)).alloc (.cells #[.nilIface] 33)) = W0 at *
 clear hW0
 have hk : Below W0.heap.size W0 (W0.alloc (.cells #[.slice fp 0 c, .slice .none 0 0] 210)) := (Below.refl _ _).alloc (Nat.le_refl _) _
 have hp := (prog_nil (w := W0.alloc (.cells #[.slice fp 0 c, .slice .none 0 0] 210)) (rb := W0.heap.size) (c := c) (fp := fp) (World.cell?_alloc_at _ _ _ _ rfl)).mono fun e w' h => h.back hk
 rw [hz0] at hp
 refine hp.mono ?_
 clear hk hp
 intro e V hP
 obtain ⟨v, rfl, hf, hbV⟩ := hP
 ·obtain ⟨fb, _, hfl, rfl, f0, f1, f2⟩ := hf
  have q0 := (hbV.block W.heap.size (by omega)).trans HE.out.1
  have q1 := (hbV.block (W.heap.size + 1) (by omega)).trans HE.out.2
  have r0 : V.cell? ⟨W.heap.size, 0, .none⟩ = some (.int .u64 0) := by simp [World.cell?, q0]
  have r1 : V.cell? ⟨W.heap.size, 1, .none⟩ = some (.slice .none 0 0) := by simp [World.cell?, q0]
  have r2 : V.cell? ⟨W.heap.size + 1, 0, .none⟩ = some .nilIface := by simp [World.cell?, q1]
  have z0 : V.frozen? ⟨W.heap.size, 0, .none⟩ = false := by simp [World.frozen?, q0]
  have z1 : V.frozen? ⟨W.heap.size, 1, .none⟩ = false := by simp [World.frozen?, q0]
  have z2 : V.frozen? ⟨W.heap.size + 1, 0, .none⟩ = false := by simp [World.frozen?, q1]
  refine leaves_cons (f := 136) (args := #[.pointer (some ⟨W.heap.size, 0, .none⟩), .pointer (some ⟨W.heap.size + 1, 0, .none⟩)]) (by simp) (by simp [go_sem]) ?_
  refine (catch_up W.heap.size (W.heap.size + 1) (some ⟨fb, 0, .none⟩) [] V _ _ _ r0 r1 r2 z0 z1 z2 (by omega)).mono ?_
  rintro e u' w'' ⟨rfl, rfl, rfl⟩
  have s0 : (((V.setCell ⟨W.heap.size, 0, .none⟩ (.int .u64 0)).setCell ⟨W.heap.size, 1, .none⟩ (.slice .none 0 0)).setCell ⟨W.heap.size + 1, 0, .none⟩ (.iface 86 (.pointer (some ⟨fb, 0, .none⟩)))).cell? ⟨W.heap.size, 0, .none⟩ = some (.int .u64 0) := by
   rw [World.cell?_setCell_other _ _ _ _ (by simp), World.cell?_setCell_other _ _ _ _ (by simp)]
   exact World.cell?_setCell_same' _ _ _ (by rw [r0]; rfl)
  have s1 : (((V.setCell ⟨W.heap.size, 0, .none⟩ (.int .u64 0)).setCell ⟨W.heap.size, 1, .none⟩ (.slice .none 0 0)).setCell ⟨W.heap.size + 1, 0, .none⟩ (.iface 86 (.pointer (some ⟨fb, 0, .none⟩)))).cell? ⟨W.heap.size, 1, .none⟩ = some (.slice .none 0 0) := by
   rw [World.cell?_setCell_other _ _ _ _ (by simp)]
   exact World.cell?_setCell_same' _ _ _ (by rw [World.cell?_setCell_other _ _ _ _ (by simp), r1]; rfl)
  have s2 : (((V.setCell ⟨W.heap.size, 0, .none⟩ (.int .u64 0)).setCell ⟨W.heap.size, 1, .none⟩ (.slice .none 0 0)).setCell ⟨W.heap.size + 1, 0, .none⟩ (.iface 86 (.pointer (some ⟨fb, 0, .none⟩)))).cell? ⟨W.heap.size + 1, 0, .none⟩ = some (.iface 86 (.pointer (some ⟨fb, 0, .none⟩))) := World.cell?_setCell_same' _ _ _ (by rw [World.cell?_setCell_other _ _ _ _ (by simp), World.cell?_setCell_other _ _ _ _ (by simp), r2]; rfl)
  have bq : Below W.heap.size W (((V.setCell ⟨W.heap.size, 0, .none⟩ (.int .u64 0)).setCell ⟨W.heap.size, 1, .none⟩ (.slice .none 0 0)).setCell ⟨W.heap.size + 1, 0, .none⟩ (.iface 86 (.pointer (some ⟨fb, 0, .none⟩)))) := (((HB0.out.trans (hbV.mono HB0.out.size)).setCell (p := ⟨W.heap.size, 0, .none⟩) (Nat.le_refl _) _).setCell (p := ⟨W.heap.size, 1, .none⟩) (Nat.le_refl _) _).setCell (p := ⟨W.heap.size + 1, 0, .none⟩) (Nat.le_succ _) _
  have hne : ∀ k : Nat, fb ≠ W.heap.size ∧ fb ≠ W.heap.size + 1 := fun _ => by
   constructor
   ·intro e
    rw [e] at f0
    rw [r0] at f0
    cases f0
   ·intro e
    rw [e] at f0
    rw [r2] at f0
    cases f0
  have so : ∀ k : Nat, (((V.setCell ⟨W.heap.size, 0, .none⟩ (.int .u64 0)).setCell ⟨W.heap.size, 1, .none⟩ (.slice .none 0 0)).setCell ⟨W.heap.size + 1, 0, .none⟩ (.iface 86 (.pointer (some ⟨fb, 0, .none⟩)))).cell? ⟨fb, k, .none⟩ = V.cell? ⟨fb, k, .none⟩ := fun k => by
   have h9 := hne 0
   rw [World.cell?_setCell_other _ _ _ _ (by simp only [ne_eq, Addr.mk.injEq, not_and]; intro e; omega), World.cell?_setCell_other _ _ _ _ (by simp only [ne_eq, Addr.mk.injEq, not_and]; intro e; omega), World.cell?_setCell_other _ _ _ _ (by simp only [ne_eq, Addr.mk.injEq, not_and]; intro e; omega)]
  have hfl' : fb < (((V.setCell ⟨W.heap.size, 0, .none⟩ (.int .u64 0)).setCell ⟨W.heap.size, 1, .none⟩ (.slice .none 0 0)).setCell ⟨W.heap.size + 1, 0, .none⟩ (.iface 86 (.pointer (some ⟨fb, 0, .none⟩)))).heap.size := lt_of_cell (x := ⟨fb, 0, .none⟩) ((so 0).trans f0)
  have g0 := (so 0).trans f0
  have g1 := (so 1).trans f1
  have g2 := (so 2).trans f2
  generalize (((V.setCell ⟨W.heap.size, 0, .none⟩ (.int .u64 0)).setCell ⟨W.heap.size, 1, .none⟩ (.slice .none 0 0)).setCell ⟨W.heap.size + 1, 0, .none⟩ (.iface 86 (.pointer (some ⟨fb, 0, .none⟩)))) = W9 at *
  have l0 : W.heap.size < W9.heap.size := lt_of_cell (x := ⟨W.heap.size, 0, .none⟩) s0
  have l1 : W.heap.size + 1 < W9.heap.size := lt_of_cell (x := ⟨W.heap.size + 1, 0, .none⟩) s2
  exact ⟨.tuple #[.agg #[.int .u64 0, .slice .none 0 0], .iface 86 (.pointer (some ⟨fb, 0, .none⟩))], by simp [results, Tryz.results85, go_sem, s0, s1, s2, l0, l1], ⟨_, rfl, ⟨fb, Nat.zero_le _, hfl', rfl, g0, g1, g2⟩, bq⟩⟩
set_option maxRecDepth 10000 in
set_option maxHeartbeats 4000000 in
theorem planOf_nil {W : World} {fc : Nat} {fp : Option Addr} {p : Option Addr} {n c : Nat} {xs : List Bs} (hA : Arg W p n c xs) (S : List Sg) (en0 : Int) (B0 : Nat → Int) :
  Calls Tryz.prog 40 #[.slice fp 0 fc, .slice p n c] W (PlP W 140 S xs en0 B0) := by
 obtain ⟨W1, hW1⟩ : ∃ W1, W1 = W.alloc (.cells #[.int .u64 0, .slice .none 0 0, .slice .none 0 0, .int .u64 0] 92) := ⟨_, rfl⟩
 have b1 : Below W.heap.size W W1 := by rw [hW1]; exact (Below.refl _ _).alloc (Nat.le_refl _) _
 have z1 : W1.heap.size = W.heap.size + 1 := by rw [hW1]; simp
 have k1 : C4 W1 W.heap.size (.int .u64 0) (.slice .none 0 0) (.slice .none 0 0) (.int .u64 0) := by
  rw [hW1]
  exact C4.new _ _ _ _ _ _
 have cR := read_nil (W := W1) (c := fc) (fp := fp)
 have HW : Hid (Below W.heap.size W W1 ∧ C4 W1 W.heap.size (.int .u64 0) (.slice .none 0 0) (.slice .none 0 0) (.int .u64 0) ∧ Arg W p n c xs) := ⟨b1, k1, hA⟩
 have hlen : xs.length = n := hA.tex.1
 have hn1 : n ≤ c ∧ c ≤ 9223372036854775807 := ⟨hA.tex.2.1, hA.tex.2.2.1⟩
 have hfew := hA.few
 have HLn : Hid (xs.length = n) := hlen
 clear hA b1 k1 hlen
 have h0 : (140 : Int) ≠ 0 := by decide
 go_enter Tryz.func40, Tryz.ntmps40
 go_upto_region 1 with fail
 rw [← hW1]
 clear hW1
 go_upto_region 2 with (go_at_call 85; refine cR.mono ?_; rintro _ w2 ⟨v, rfl, hv, b2⟩; obtain ⟨fb, rfl⟩ : ∃ fb, v = .iface 86 (.pointer (some ⟨fb, 0, .none⟩)) := (by obtain ⟨fb, _, _, e, _⟩ := hv; exact ⟨fb, e⟩); have H2 : Hid (Below W.heap.size W w2 ∧ C4 w2 W.heap.size (.int .u64 0) (.slice .none 0 0) (.slice .none 0 0) (.int .u64 0)) := ⟨HW.out.1.trans (b2.mono (by omega)), HW.out.2.1.below b2⟩; clear hv b2 cR)
 obtain ⟨w3, hw3⟩ : ∃ w3, w3 = w2.alloc (.cells #[.int .u64 0, .slice .none 0 0] 41) := ⟨_, rfl⟩
 have b3 : Below w2.heap.size w2 w3 := by rw [hw3]; exact (Below.refl _ _).alloc (Nat.le_refl _) _
 have H3 : Hid (Below W.heap.size W w3 ∧ C4 w3 W.heap.size (.int .u64 0) (.slice .none 0 0) (.slice .none 0 0) (.int .u64 0)) := ⟨H2.out.1.trans (b3.mono H2.out.1.size), H2.out.2.below b3⟩
 rw [← hw3]
 clear hw3 b3 H2
 have k0 := H3.out.2.a
 have k1 := H3.out.2.b
 have k2 := H3.out.2.c
 have k3 := H3.out.2.d
 have kf0 := H3.out.2.f 0
 have kf1 := H3.out.2.f 1
 have kf2 := H3.out.2.f 2
 have kf3 := H3.out.2.f 3
 go_wp2_with fail
 obtain ⟨s0, s1, s2, s3, _⟩ := H3.out.2.set (.int .u64 0) (.slice .none 0 0) (.slice .none 0 0) (.int .u64 0)
 refine bodyPost_ret (v := .tuple #[.agg #[.int .u64 0, .slice .none 0 0, .slice .none 0 0, .int .u64 0], .int .i64 280]) (by simp [results, Tryz.results40, go_sem, s0, s1, s2, s3]) rfl ⟨?_, .inl ⟨?_, ?_⟩⟩
 ·exact (((H3.out.1.setCell (Nat.le_refl _) _).setCell (Nat.le_refl _) _).setCell (Nat.le_refl _) _).setCell (Nat.le_refl _) _
 ·rw [dm_file h0]; decide
 ·rw [dm_file h0]
def Fp (W : World) (fp : Option Addr) (fn : Nat) (B : Nat → Int) : Prop := (∃ b o, fp = some ⟨b, o, .none⟩ ∧ Row W b o fn B ∧ b < W.heap.size) ∨ fn = 0
theorem planF_any {W : World} {fp : Option Addr} {fn fc : Nat} {B : Nat → Int} (hL : Laid W) (hF : Fp W fp fn B) (hB : ∀ i, 0 ≤ B i ∧ B i < 256) (hc : fn ≤ fc ∧ fc ≤ 9223372036854775807) (ha hr : Int) (hH : Hd B ha hr)
  {p : Option Addr} {n c : Nat} {xs : List Bs} (hA : Arg W p n c xs) :
  Calls Tryz.prog 40 #[.slice fp fn fc, .slice p n c] W (PlP W (rdF fn B ha hr).1.2 (sgO fn B ha hr) xs (enO fn B ha hr) B) := by
 rcases hF with ⟨b, o, rfl, h1, h2⟩ | rfl
 ·exact planOf_any hL h1 h2 hB hc ha hr hH hA
 ·have : (rdF 0 B ha hr).1.2 = 140 := rfl
  rw [this]
  exact planOf_nil hA _ _ _
end Go.Proofs.YtabnipbdbnmmpaaGreatDoor
