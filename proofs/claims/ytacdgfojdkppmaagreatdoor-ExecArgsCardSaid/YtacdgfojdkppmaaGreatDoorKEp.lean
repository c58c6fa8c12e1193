import Derived.Test.YtacdgfojdkppmaaGreatDoorKEa
import Derived.Test.YtacdgfojdkppmaaGreatDoorKEm
namespace Go.Proofs.YtacdgfojdkppmaaGreatDoor.Rm
open Go Go.RowKit
set_option linter.unusedVariables false
set_option linter.unusedSimpArgs false
section
variable {w : World} {s p b m N : Nat} {B : Nat → Int} {L : List Nat} {F : Nat → Option Nat} {lf : Nat → Nat → Int}
/-- The leaf's bits of a page that may be read. -/
def rdb (c d : Int) : Prop := c = 210 ∧ d = 194 ∨ c = 214 ∧ d = 198 ∨ c = 218 ∧ d = 202 ∨ c = 222 ∧ d = 206
theorem and254 (q : Nat) (hq : q < 4096) {c d : Int} (hc : rdb c d) : bits .and .u64 (toP (ad q) c) 254 = c := by
 have hb := ad_b q 4096 hq (by omega)
 have hv := toP_val (ad q) c ⟨hb.1, hb.2.1⟩ (by unfold rdb at hc; omega) (by unfold rdb at hc; omega)
 have h1 : bits .and .u64 (toP (ad q) c) ((254 : Nat) : Int) = (((toP (ad q) c % 1024).toNat &&& 254 : Nat) : Int) := and_low _ (by rw [hv]; unfold rdb at hc; omega) 254 (by omega)
 have h2 : (toP (ad q) c % 1024).toNat = (c + 1).toNat := by rw [hv]; unfold rdb at hc; omega
 rw [h2] at h1
 refine (show bits .and .u64 (toP (ad q) c) 254 = _ from h1).trans ?_
 rcases hc with ⟨rfl, _⟩ | ⟨rfl, _⟩ | ⟨rfl, _⟩ | ⟨rfl, _⟩ <;> decide
theorem not16 {c d : Int} (hc : rdb c d) : bits .andNot .u64 c 16 = d := by
 rcases hc with ⟨rfl, rfl⟩ | ⟨rfl, rfl⟩ | ⟨rfl, rfl⟩ | ⟨rfl, rfl⟩ <;> decide
theorem rdb_ok {c d : Int} (hc : rdb c d) : (!ho d 18446744073709551361 && ho d 10 && (!hs d 4 || hs d 2)) = true := by
 rcases hc with ⟨rfl, rfl⟩ | ⟨rfl, rfl⟩ | ⟨rfl, rfl⟩ | ⟨rfl, rfl⟩ <;> decide
theorem rdb_leaf {c d : Int} (hc : rdb c d) {f N : Nat} (hf : f < N) (hN : N ≤ 4096) : kd (toP (ad f) d) 0 = 2 ∧ 0 ≤ toP (ad f) d ∧ toP (ad f) d < 18446744073709551616 := by
 have hb := ad_b f N hf hN
 rcases hc with ⟨rfl, rfl⟩ | ⟨rfl, rfl⟩ | ⟨rfl, rfl⟩ | ⟨rfl, rfl⟩ <;> exact leaf_b _ _ ⟨hb.1, hb.2.2, hb.2.1⟩ (by decide) (by decide) (by decide) (by decide)
/-- A frame that is none of the table's has its bytes yet. -/
def Byo (F : Nat → Option Nat) (B B' : Nat → Int) : Prop := ∀ f, (∀ x, F x ≠ some f) → ∀ k, k < 4096 → B' (f * 4096 + k) = B (f * 4096 + k)
theorem over_frame (B : Nat → Int) {f g e : Nat} (v : Int) (h : f ≠ g) (he : e < 512) (k : Nat) (hk : k < 4096) : over B (g * 4096 + e * 8) (le v 8) (f * 4096 + k) = B (f * 4096 + k) :=
 over_out B g e v _ (by rcases Nat.lt_or_gt_of_ne h with h1 | h1 <;> omega)
/-- What a page that is taken comes to where another is in its node. -/
def UnK (w : World) (p b m N : Nat) (B : Nat → Int) (L : List Nat) (F : Nat → Option Nat) (lf : Nat → Nat → Int) (va tp : Int) (e : Ending) (w' : World) : Prop := e = .returned (.tuple #[.int .u64 tp, .int .i64 0]) ∧ Fra p b m w w' ∧ ∃ B', Ram w' p b m N B' L ∧ PT N L B' F (setE lf (y0 va) (i0 va) 0) ∧ Byo F B B'
set_option maxRecDepth 4000 in
set_option maxHeartbeats 2000000 in
theorem unmap_keep {r q : Nat} {c : Int} (h : Ram w p b m N B L) (hP : PT N L B F lf) (hr : F 0 = some r) (va : Int) (hv : 0 ≤ va ∧ va < 274877906944 ∧ va % 4096 = 0) (hq : Pag N L F lf va q c) (k' : Nat) (hk' : k' < 512 ∧ k' ≠ i0 va ∧ kd (lf (y0 va) k') 0 = 2) :
  Calls Tryz.prog 153 #[.pointer (some ⟨p, 0, .none⟩), .int .u64 (ad r), .int .u64 va] w (UnK w p b m N B L F lf va (toP (ad q) c)) := by
 have hN := h.mem.n2
 obtain ⟨g1, e1⟩ := hq.w1
 obtain ⟨q0, e0⟩ := hq.w0
 have hrN := hP.held 0 r hr
 have hrb := ad_b r N hrN.2.1 hN
 have hqN := hP.held _ _ e0
 have hqb := ad_b q0 N hqN.2.1 hN
 have hgb := ad_b g1 N (hP.held _ _ e1).2.1 hN
 have c140 := isMade_any h
 have c142 := userPage_any va ⟨hv.1, by omega⟩ w
 rw [show decide (va % 4096 = 0 ∧ va < 274877906944) = true by simpa using ⟨hv.2.2, hv.2.1⟩] at c142
 have c144 := isNode_any h (ad r) ⟨hrb.1, by omega⟩
 rw [hP.ndB hr] at c144
 have c141 : ∀ W, Below w.heap.size w W → Calls Tryz.prog 141 #[.pointer (some ⟨p, 0, .none⟩), .int .u64 (ad r), .int .u64 va, .agg #[]] W fun e w' => e = .returned (.agg #[.int .u64 (st (ad q0) va 0), .int .u64 (st (ad g1) va 1), .int .u64 (st (ad r) va 2), .int .i64 0, .int .u64 (toP (ad q) c), .int .i64 2]) ∧ Below W.heap.size W w' := fun W bW => by
  have := look_any (h.below bW) (ad r) va ⟨hrb.1, by omega⟩ ⟨hv.1, by omega⟩
  rw [look_0 hP hN hr va e1 e0, hq.l, hq.k] at this
  exact this
 have hi0 := ix_b va 0
 have hi2 := ix_b va 2
 have c174 : ∀ W, Below w.heap.size w W → Calls Tryz.prog 174 #[.pointer (some ⟨p, 0, .none⟩), .int .u64 (st (ad q0) va 0), .int .i64 8, .int .u64 0] W fun e w' => e = .returned (.bool true) ∧ Ram w' p b m N (over B (q0 * 4096 + i0 va * 8) (le 0 8)) L ∧ Fra p b m W w' := fun W bW => by
  have := store_nd (h.below bW) (ad q0) va 0 0 (hP.ndB e0) (by omega)
  rw [show fi (ad q0) = q0 from fi_adr q0] at this
  exact this
 have hP2 := hP.leaf (v := 0) (y0_ge va) e0 (i0_lt va) (.inl rfl)
 have hne : q0 ≠ r := fun e => by
  have := hP.inj (y0 va) 0 q0 e0 (by rw [e]; exact hr)
  have := y0_ge va
  omega
 have c175 : ∀ W, Ram W p b m N (over B (q0 * 4096 + i0 va * 8) (le 0 8)) L → Calls Tryz.prog 175 #[.pointer (some ⟨p, 0, .none⟩), .agg #[.int .u64 (st (ad q0) va 0), .int .u64 (st (ad g1) va 1), .int .u64 (st (ad r) va 2), .int .i64 0, .int .u64 (toP (ad q) c), .int .i64 2]] W fun x w' => x = .returned (.tuple #[]) ∧ Below W.heap.size W w' := fun W hW =>
  prune_keep hW q0 r _ _ _ _ _ _ (hP.ndB e0) ⟨hqb.1, hqb.2.1⟩ (by unfold st; omega) (by unfold st; omega) hne (ft_leaf hW.mem.bb (hP2.el (y0 va) q0 (y0_ge va) e0 k' hk'.1) (by unfold setE; rw [if_neg (fun e => hk'.2.1 e.2)]; exact hk'.2.2) hk'.1)
 have hp : p < w.heap.size := lt_of_cell h.mem.c0
 have hbb : b < w.heap.size := lt_of_cell (h.mem.cb 0 (by have := h.mem.n1; omega))
 have hm : m < w.heap.size := h.mem.mlt
 have H141 : Hid (∀ W, Below w.heap.size w W → Calls Tryz.prog 141 #[.pointer (some ⟨p, 0, .none⟩), .int .u64 (ad r), .int .u64 va, .agg #[]] W fun e w' => e = .returned (.agg #[.int .u64 (st (ad q0) va 0), .int .u64 (st (ad g1) va 1), .int .u64 (st (ad r) va 2), .int .i64 0, .int .u64 (toP (ad q) c), .int .i64 2]) ∧ Below W.heap.size W w') := c141
 have H174 : Hid (∀ W, Below w.heap.size w W → Calls Tryz.prog 174 #[.pointer (some ⟨p, 0, .none⟩), .int .u64 (st (ad q0) va 0), .int .i64 8, .int .u64 0] W fun e w' => e = .returned (.bool true) ∧ Ram w' p b m N (over B (q0 * 4096 + i0 va * 8) (le 0 8)) L ∧ Fra p b m W w') := c174
 have H175 : Hid (∀ W, Ram W p b m N (over B (q0 * 4096 + i0 va * 8) (le 0 8)) L → Calls Tryz.prog 175 #[.pointer (some ⟨p, 0, .none⟩), .agg #[.int .u64 (st (ad q0) va 0), .int .u64 (st (ad g1) va 1), .int .u64 (st (ad r) va 2), .int .i64 0, .int .u64 (toP (ad q) c), .int .i64 2]] W fun x w' => x = .returned (.tuple #[]) ∧ Below W.heap.size W w') := c175
 have HBY : Hid (Byo F B (over B (q0 * 4096 + i0 va * 8) (le 0 8))) := fun f hf k hk => over_frame B 0 (fun e => hf (y0 va) (by rw [e]; exact e0)) (i0_lt va) k hk
 have HP2 : Hid (PT N L (over B (q0 * 4096 + i0 va * 8) (le 0 8)) F (setE lf (y0 va) (i0 va) 0)) := hP2
 clear h hP hP2 c141 c174 c175 hq hk' hrN hqN hgb hrb hqb hi0 hi2 e1 e0 hr
 generalize st (ad q0) va 0 = a0 at *
 generalize st (ad g1) va 1 = a1 at *
 generalize st (ad r) va 2 = a2 at *
 generalize toP (ad q) c = tp at *
 go_enter Tryz.func153, Tryz.ntmps153
 go_upto_region 7 with first | (go_at_call 140; refine c140.mono ?_; rintro _ w1 ⟨rfl, e1⟩; obtain rfl : w = w1 := e1.symm) | (go_at_call 142; refine c142.mono ?_; rintro _ w1 ⟨rfl, e1⟩; obtain rfl : w = w1 := e1.symm) | (go_at_call 144; refine c144.mono ?_; rintro _ w1 ⟨rfl, b1⟩; have H1 : Hid (Below w.heap.size w w1) := b1; clear b1 c144)
 go_upto_region 8 with (go_at_call 141; refine (H141.out _ H1.out).mono ?_; rintro _ w2 ⟨rfl, b2⟩; have H2 : Hid (Below w.heap.size w w2) := H1.out.trans (b2.mono H1.out.size); clear b2)
 obtain ⟨w3, hw3⟩ : ∃ w3, w3 = w2.alloc (.cells #[.int .u64 a0, .int .u64 a1, .int .u64 a2, .int .i64 0, .int .u64 tp, .int .i64 2] 199) := ⟨_, rfl⟩
 have b3 : Below w2.heap.size w2 w3 := by rw [hw3]; exact (Below.refl _ _).alloc (Nat.le_refl _) _
 have P3 : P6 w3 w2.heap.size a0 a1 a2 0 tp 2 := by rw [hw3]; exact P6.new _ _ _ _ _ _ _ _
 have H3 : Hid (Below w.heap.size w w3 ∧ P6 w3 w2.heap.size a0 a1 a2 0 tp 2 ∧ w.heap.size ≤ w2.heap.size) := ⟨H2.out.trans (b3.mono H2.out.size), P3, H2.out.size⟩
 rw [← hw3]
 clear hw3 b3
 have k0 := P3.c0
 have k3 := P3.c3
 have k5 := P3.c5
 clear P3
 go_upto_region 11 with (go_at_call 174; refine (H174.out _ H3.out.1).mono ?_; rintro _ w4 ⟨rfl, r4, f4⟩; have H4 : Hid (Ram w4 p b m N (over B (q0 * 4096 + i0 va * 8) (le 0 8)) L ∧ Fra p b m w w4 ∧ P6 w4 w2.heap.size a0 a1 a2 0 tp 2) := ⟨r4, (Fra.below H3.out.1).trans f4, H3.out.2.1.fra f4 (by have := H3.out.2.2; omega) (by have := H3.out.2.2; omega) (by have := H3.out.2.2; omega)⟩; clear r4 f4)
 clear k0 k3 k5
 have k0 := H4.out.2.2.c0
 have k1 := H4.out.2.2.c1
 have k2 := H4.out.2.2.c2
 have k3 := H4.out.2.2.c3
 have k4 := H4.out.2.2.c4
 have k5 := H4.out.2.2.c5
 go_upto_region 12 with (go_at_call 175; refine (H175.out _ H4.out.1).mono ?_; rintro _ w5 ⟨rfl, b5⟩; have H5 : Hid (Below w4.heap.size w4 w5) := b5; clear b5)
 clear k0 k1 k2 k3 k4 k5
 have k4 := (H4.out.2.2.below H5.out).c4
 go_wp2_with fail
 refine bodyPost_ret (v := .tuple #[.int .u64 tp, .int .i64 0]) (by simp [results, Tryz.results153, go_sem]) rfl ⟨rfl, H4.out.2.1.trans (Fra.below H5.out), _, H4.out.1.below H5.out, HP2.out, HBY.out⟩
/-- What Guard comes to. -/
def GuQ (w : World) (p b m N : Nat) (B : Nat → Int) (L : List Nat) (F : Nat → Option Nat) (lf : Nat → Nat → Int) (va leaf : Int) (e : Ending) (w' : World) : Prop := e = .returned (.tuple #[]) ∧ Fra p b m w w' ∧ ∃ B', Ram w' p b m N B' L ∧ PT N L B' F (setE lf (y0 va) (i0 va) leaf) ∧ Byo F B B'
theorem setE_set (lf : Nat → Nat → Int) (y i : Nat) (a x : Int) : setE (setE lf y i a) y i x = setE lf y i x := by
 funext u v
 unfold setE
 split <;> rfl
set_option maxHeartbeats 2000000 in
theorem guardT_pt {r q : Nat} (h : Ram w p b m N B L) (hP : PT N L B F lf) (hr : F 0 = some r) (pg : Int) (hpg : 0 ≤ pg ∧ pg < 67108864) {c d : Int} (hcd : rdb c d) (hq : Pag N L F lf (pg * 4096) q c) (k' : Nat) (hk' : k' < 512 ∧ k' ≠ i0 (pg * 4096) ∧ kd (lf (y0 (pg * 4096)) k') 0 = 2) :
  Calls Tryz.prog 112 #[.agg #[.pointer (some ⟨p, 0, .none⟩), .int .u64 (ad r)], .int .i64 pg] w (GuQ w p b m N B L F lf (pg * 4096) (toP (ad q) d)) := by
 have hN := h.mem.n2
 have hqb := ad_b q N hq.qb.1 hN
 obtain ⟨X, hX⟩ : ∃ X, X = w.heap.size := ⟨_, rfl⟩
 obtain ⟨w1, hw1⟩ : ∃ w1, w1 = w.alloc (.cells #[.pointer (some ⟨p, 0, .none⟩), .int .u64 (ad r)] 90) := ⟨_, rfl⟩
 have b1 : Below w.heap.size w w1 := by rw [hw1]; exact (Below.refl _ _).alloc (Nat.le_refl _) _
 have k1 : C2w w1 X (.pointer (some ⟨p, 0, .none⟩)) (.int .u64 (ad r)) := by
  rw [hw1, hX]
  exact ⟨by simp, by simp, fun k => World.frozen?_alloc_new _ _ _ _⟩
 have hp : p < X := by rw [hX]; exact lt_of_cell h.mem.c0
 have hb : b < X := by rw [hX]; exact lt_of_cell (h.mem.cb 0 (by have := h.mem.n1; omega))
 have hm : m < X := by rw [hX]; exact h.mem.mlt
 have c153 := unmap_keep (w := w1.drew) (h.below b1).drew hP hr (pg * 4096) ⟨by omega, by omega, by omega⟩ hq k' hk'
 have hval := hq.val hN
 have hbd : 0 ≤ toP (ad q) c ∧ toP (ad q) c < 18014398509481984 := by rw [hval]; unfold rdb at hcd; omega
 have hfr : toP (ad q) c / 1024 * 4096 = ad q := by rw [hval]; unfold rdb at hcd; omega
 have c152 := fun W => frameOf_any (toP (ad q) c) hbd W
 rw [hfr] at c152
 have h254 := and254 q (by have := hq.qb.1; omega) hcd
 have h16 := not16 hcd
 have hlf := rdb_leaf hcd hq.qb.1 hN
 have kS : w1.drew.cell? ⟨X, 0, .none⟩ = some (.pointer (some ⟨p, 0, .none⟩)) ∧ w1.drew.cell? ⟨X, 1, .none⟩ = some (.int .u64 (ad r)) := ⟨k1.a, k1.b⟩
 have HW : Hid (Below w.heap.size w w1 ∧ C2w w1 X (.pointer (some ⟨p, 0, .none⟩)) (.int .u64 (ad r)) ∧ F 0 = some r ∧ (∃ g, F (y1 (pg * 4096)) = some g) ∧ (∃ g, F (y0 (pg * 4096)) = some g) ∧ rdb c d ∧ kd (toP (ad q) d) 0 = 2 ∧ 0 ≤ toP (ad q) d ∧ toP (ad q) d < 18446744073709551616) := ⟨b1, k1, hr, hq.w1, hq.w0, hcd, hlf⟩
 clear h hP hq hk' hr hcd hlf b1 k1 hval hbd hfr
 unfold UnK at c153
 generalize toP (ad q) c = tp at *
 go_enter Tryz.func112, Tryz.ntmps112
 go_upto_region 1 with fail
 rw [← hw1, ← hX]
 have HXX : Hid (X = w.heap.size) := hX
 clear hw1 hX
 refine wp_region_held_drew (S := (fun U => U.cell? ⟨X, 0, .none⟩ = some (.pointer (some ⟨p, 0, .none⟩)) ∧ U.cell? ⟨X, 1, .none⟩ = some (.int .u64 (ad r)))) (by kernel_rfl) kS (fun hHeld => ?_)
 refine wpAnyH_take (i := 0) (v := (.pointer (some ⟨X, 0, .none⟩))) rfl (by kernel_rfl) (by kernel_rfl) (by kernel_rfl) (fun _ _ _ h => h) (Or.inl ⟨by rfl, fun ww hSw => by (try dsimp only at hSw); go_simp⟩) (by assumption) ?_
 simp only [Act.put, List.setIfInBounds_toArray, List.set_cons_zero, List.set_cons_succ, List.getElem_toArray, List.getElem_cons_succ, List.getElem_cons_zero]
 refine wpAnyH_take (i := 1) (v := (.pointer (some ⟨p, 0, .none⟩))) rfl (by kernel_rfl) (by kernel_rfl) (by kernel_rfl) (fun _ _ _ h => h) (Or.inl ⟨by rfl, fun ww hSw => by (try dsimp only at hSw); go_simp⟩) (by assumption) ?_
 simp only [Act.put, List.setIfInBounds_toArray, List.set_cons_zero, List.set_cons_succ, List.getElem_toArray, List.getElem_cons_succ, List.getElem_cons_zero]
 refine wpAnyH_take (i := 2) (v := (.pointer (some ⟨X, 1, .none⟩))) rfl (by kernel_rfl) (by kernel_rfl) (by kernel_rfl) (fun _ _ _ h => h) (Or.inl ⟨by rfl, fun ww hSw => by (try dsimp only at hSw); go_simp⟩) (by assumption) ?_
 simp only [Act.put, List.setIfInBounds_toArray, List.set_cons_zero, List.set_cons_succ, List.getElem_toArray, List.getElem_cons_succ, List.getElem_cons_zero]
 refine wpAnyH_take (i := 3) (v := (.int .u64 (ad r))) rfl (by kernel_rfl) (by kernel_rfl) (by kernel_rfl) (fun _ _ _ h => h) (Or.inl ⟨by rfl, fun ww hSw => by (try dsimp only at hSw); go_simp⟩) (by assumption) ?_
 simp only [Act.put, List.setIfInBounds_toArray, List.set_cons_zero, List.set_cons_succ, List.getElem_toArray, List.getElem_cons_succ, List.getElem_cons_zero]
 refine wpAnyH_take (i := 4) (v := (.int .i64 pg)) rfl (by kernel_rfl) (by kernel_rfl) (by kernel_rfl) (fun _ _ _ h => h) (Or.inl ⟨by rfl, fun ww hSw => by (try dsimp only at hSw); go_simp⟩) (by assumption) ?_
 simp only [Act.put, List.setIfInBounds_toArray, List.set_cons_zero, List.set_cons_succ, List.getElem_toArray, List.getElem_cons_succ, List.getElem_cons_zero]
 refine wpAnyH_ready (rs := [5]) (by kernel_rfl) (by simp) ?_
 refine AllReadyH.cons rfl (fun K hK => ?_) AllReadyH.nil
 go_simp
 go_at_call 76
 refine (addrOf_any pg (by omega) _).mono ?_
 rintro _ w3 ⟨rfl, e3⟩
 obtain rfl : w1.drew = w3 := e3.symm
 refine hK.out _ _ kS (fun hHeld => ?_)
 clear hK K
 try simp only [Act.put, List.setIfInBounds_toArray, List.set_cons_zero, List.set_cons_succ, List.getElem_toArray, List.getElem_cons_succ, List.getElem_cons_zero]
 refine wpAnyH_ready (rs := [6]) (by kernel_rfl) (by simp) ?_
 refine AllReadyH.cons rfl (fun K hK => ?_) AllReadyH.nil
 go_simp
 go_at_call 153
 refine c153.mono ?_
 rintro _ w3 ⟨rfl, f3, B', r3, P3, y3⟩
 have H3 : Hid (Fra p b m w w3 ∧ Ram w3 p b m N B' L ∧ PT N L B' F (setE lf (y0 (pg * 4096)) (i0 (pg * 4096)) 0) ∧ Byo F B B') := ⟨(Fra.below HW.out.1).trans ((Fra.below (Below.refl _ _).drew).trans f3), r3, P3, y3⟩
 have k3 := HW.out.2.1.fra ((Fra.below (Below.refl _ _).drew).trans f3) (by omega) (by omega) (by omega)
 have kS3 : w3.cell? ⟨X, 0, .none⟩ = some (.pointer (some ⟨p, 0, .none⟩)) ∧ w3.cell? ⟨X, 1, .none⟩ = some (.int .u64 (ad r)) := ⟨k3.a, k3.b⟩
 clear f3 r3 P3 y3 c153
 refine hK.out _ _ kS3 (fun hHeld => ?_)
 clear hK K
 try simp only [Act.put, List.setIfInBounds_toArray, List.set_cons_zero, List.set_cons_succ, List.getElem_toArray, List.getElem_cons_succ, List.getElem_cons_zero]
 refine wpAnyH_take (i := 7) (v := (.tuple #[.int .u64 tp, .int .i64 0])) rfl (by kernel_rfl) (by kernel_rfl) (by kernel_rfl) (fun _ _ _ h => h) (Or.inl ⟨by rfl, fun ww hSw => by (try dsimp only at hSw); go_simp⟩) (by assumption) ?_
 simp only [Act.put, List.setIfInBounds_toArray, List.set_cons_zero, List.set_cons_succ, List.getElem_toArray, List.getElem_cons_succ, List.getElem_cons_zero]
 refine wpAnyH_take (i := 8) (v := (.int .u64 tp)) rfl (by kernel_rfl) (by kernel_rfl) (by kernel_rfl) (fun _ _ _ h => h) (Or.inl ⟨by rfl, fun ww hSw => by (try dsimp only at hSw); go_simp⟩) (by assumption) ?_
 simp only [Act.put, List.setIfInBounds_toArray, List.set_cons_zero, List.set_cons_succ, List.getElem_toArray, List.getElem_cons_succ, List.getElem_cons_zero]
 refine wpAnyH_take (i := 9) (v := (.int .i64 0)) rfl (by kernel_rfl) (by kernel_rfl) (by kernel_rfl) (fun _ _ _ h => h) (Or.inl ⟨by rfl, fun ww hSw => by (try dsimp only at hSw); go_simp⟩) (by assumption) ?_
 simp only [Act.put, List.setIfInBounds_toArray, List.set_cons_zero, List.set_cons_succ, List.getElem_toArray, List.getElem_cons_succ, List.getElem_cons_zero]
 refine wpAnyH_take (i := 10) (v := (.int .u64 tp)) rfl (by kernel_rfl) (by kernel_rfl) (by kernel_rfl) (fun _ _ _ h => h) (Or.inl ⟨by rfl, fun ww hSw => by (try dsimp only at hSw); go_simp⟩) (by assumption) ?_
 simp only [Act.put, List.setIfInBounds_toArray, List.set_cons_zero, List.set_cons_succ, List.getElem_toArray, List.getElem_cons_succ, List.getElem_cons_zero]
 refine wpAnyH_take (i := 11) (v := (.int .i64 0)) rfl (by kernel_rfl) (by kernel_rfl) (by kernel_rfl) (fun _ _ _ h => h) (Or.inl ⟨by rfl, fun ww hSw => by (try dsimp only at hSw); go_simp⟩) (by assumption) ?_
 simp only [Act.put, List.setIfInBounds_toArray, List.set_cons_zero, List.set_cons_succ, List.getElem_toArray, List.getElem_cons_succ, List.getElem_cons_zero]
 refine wpAnyH_done (by kernel_rfl) ?_ _
 have kS4 : w3.drew.cell? ⟨X, 0, .none⟩ = some (.pointer (some ⟨p, 0, .none⟩)) ∧ w3.drew.cell? ⟨X, 1, .none⟩ = some (.int .u64 (ad r)) := kS3
 have c107 := map_pt (w := w3.drew) H3.out.2.1.drew H3.out.2.2.1 HW.out.2.2.1 (pg * 4096) (ad q) d (by omega) (by omega) ⟨hqb.1, hqb.2.2, hqb.2.1⟩ (rdb_ok HW.out.2.2.2.2.2.1) HW.out.2.2.2.2.2.2 (by unfold setE; rw [if_pos ⟨rfl, rfl⟩]) (by
  obtain ⟨g1, e1⟩ := HW.out.2.2.2.1
  obtain ⟨g0, e0⟩ := HW.out.2.2.2.2.1
  unfold need
  rw [e1, e0]
  simp)
 have hnd : need F (pg * 4096) = 0 := by
  obtain ⟨g1, e1⟩ := HW.out.2.2.2.1
  obtain ⟨g0, e0⟩ := HW.out.2.2.2.2.1
  unfold need
  rw [e1, e0]
  simp
 rw [hnd] at c107
 clear hnd
 go_upto_region 3 with fail
 refine wp_region_held_drew (S := (fun U => U.cell? ⟨X, 0, .none⟩ = some (.pointer (some ⟨p, 0, .none⟩)) ∧ U.cell? ⟨X, 1, .none⟩ = some (.int .u64 (ad r)))) (by kernel_rfl) kS4 (fun hHeld => ?_)
 refine wpAnyH_take (i := 0) (v := (.pointer (some ⟨X, 0, .none⟩))) rfl (by kernel_rfl) (by kernel_rfl) (by kernel_rfl) (fun _ _ _ h => h) (Or.inl ⟨by rfl, fun ww hSw => by (try dsimp only at hSw); go_simp⟩) (by assumption) ?_
 simp only [Act.put, List.setIfInBounds_toArray, List.set_cons_zero, List.set_cons_succ, List.getElem_toArray, List.getElem_cons_succ, List.getElem_cons_zero]
 refine wpAnyH_take (i := 1) (v := (.pointer (some ⟨p, 0, .none⟩))) rfl (by kernel_rfl) (by kernel_rfl) (by kernel_rfl) (fun _ _ _ h => h) (Or.inl ⟨by rfl, fun ww hSw => by (try dsimp only at hSw); go_simp⟩) (by assumption) ?_
 simp only [Act.put, List.setIfInBounds_toArray, List.set_cons_zero, List.set_cons_succ, List.getElem_toArray, List.getElem_cons_succ, List.getElem_cons_zero]
 refine wpAnyH_take (i := 2) (v := (.pointer (some ⟨X, 1, .none⟩))) rfl (by kernel_rfl) (by kernel_rfl) (by kernel_rfl) (fun _ _ _ h => h) (Or.inl ⟨by rfl, fun ww hSw => by (try dsimp only at hSw); go_simp⟩) (by assumption) ?_
 simp only [Act.put, List.setIfInBounds_toArray, List.set_cons_zero, List.set_cons_succ, List.getElem_toArray, List.getElem_cons_succ, List.getElem_cons_zero]
 refine wpAnyH_take (i := 3) (v := (.int .u64 (ad r))) rfl (by kernel_rfl) (by kernel_rfl) (by kernel_rfl) (fun _ _ _ h => h) (Or.inl ⟨by rfl, fun ww hSw => by (try dsimp only at hSw); go_simp⟩) (by assumption) ?_
 simp only [Act.put, List.setIfInBounds_toArray, List.set_cons_zero, List.set_cons_succ, List.getElem_toArray, List.getElem_cons_succ, List.getElem_cons_zero]
 refine wpAnyH_take (i := 4) (v := (.int .i64 pg)) rfl (by kernel_rfl) (by kernel_rfl) (by kernel_rfl) (fun _ _ _ h => h) (Or.inl ⟨by rfl, fun ww hSw => by (try dsimp only at hSw); go_simp⟩) (by assumption) ?_
 simp only [Act.put, List.setIfInBounds_toArray, List.set_cons_zero, List.set_cons_succ, List.getElem_toArray, List.getElem_cons_succ, List.getElem_cons_zero]
 refine wpAnyH_take (i := 6) (v := (.int .u64 tp)) rfl (by kernel_rfl) (by kernel_rfl) (by kernel_rfl) (fun _ _ _ h => h) (Or.inl ⟨by rfl, fun ww hSw => by (try dsimp only at hSw); go_simp⟩) (by assumption) ?_
 simp only [Act.put, List.setIfInBounds_toArray, List.set_cons_zero, List.set_cons_succ, List.getElem_toArray, List.getElem_cons_succ, List.getElem_cons_zero]
 refine wpAnyH_take (i := 8) (v := (.int .u64 tp)) rfl (by kernel_rfl) (by kernel_rfl) (by kernel_rfl) (fun _ _ _ h => h) (Or.inl ⟨by rfl, fun ww hSw => by (try dsimp only at hSw); go_simp⟩) (by assumption) ?_
 simp only [Act.put, List.setIfInBounds_toArray, List.set_cons_zero, List.set_cons_succ, List.getElem_toArray, List.getElem_cons_succ, List.getElem_cons_zero]
 refine wpAnyH_take (i := 9) (v := (.int .u64 c)) rfl (by kernel_rfl) (by kernel_rfl) (by kernel_rfl) (fun _ _ _ h => h) (Or.inl ⟨by rfl, fun ww hSw => by (try dsimp only at hSw); go_simp⟩) (by assumption) ?_
 simp only [Act.put, List.setIfInBounds_toArray, List.set_cons_zero, List.set_cons_succ, List.getElem_toArray, List.getElem_cons_succ, List.getElem_cons_zero]
 refine wpAnyH_take (i := 10) (v := (.int .u64 d)) rfl (by kernel_rfl) (by kernel_rfl) (by kernel_rfl) (fun _ _ _ h => h) (Or.inl ⟨by rfl, fun ww hSw => by (try dsimp only at hSw); go_simp⟩) (by assumption) ?_
 simp only [Act.put, List.setIfInBounds_toArray, List.set_cons_zero, List.set_cons_succ, List.getElem_toArray, List.getElem_cons_succ, List.getElem_cons_zero]
 refine wpAnyH_ready (rs := [5]) (by kernel_rfl) (by simp) ?_
 refine AllReadyH.cons rfl (fun K hK => ?_) AllReadyH.nil
 go_simp
 go_at_call 76
 refine (addrOf_any pg (by omega) _).mono ?_
 rintro _ w4 ⟨rfl, e4⟩
 obtain rfl : w3.drew = w4 := e4.symm
 refine hK.out _ _ kS4 (fun hHeld => ?_)
 clear hK K
 try simp only [Act.put, List.setIfInBounds_toArray, List.set_cons_zero, List.set_cons_succ, List.getElem_toArray, List.getElem_cons_succ, List.getElem_cons_zero]
 refine wpAnyH_ready (rs := [7]) (by kernel_rfl) (by simp) ?_
 refine AllReadyH.cons rfl (fun K hK => ?_) AllReadyH.nil
 go_simp
 go_at_call 152
 refine (c152 _).mono ?_
 rintro _ w4 ⟨rfl, e4⟩
 obtain rfl : w3.drew = w4 := e4.symm
 refine hK.out _ _ kS4 (fun hHeld => ?_)
 clear hK K
 try simp only [Act.put, List.setIfInBounds_toArray, List.set_cons_zero, List.set_cons_succ, List.getElem_toArray, List.getElem_cons_succ, List.getElem_cons_zero]
 refine wpAnyH_ready (rs := [11]) (by kernel_rfl) (by simp) ?_
 refine AllReadyH.cons rfl (fun K hK => ?_) AllReadyH.nil
 go_simp
 go_at_call 107
 refine c107.mono ?_
 rintro _ w4 ⟨rfl, B2, L2, F2, R2, e2, r4, f4⟩
 rw [List.take_zero, List.nil_append] at e2
 subst e2
 have H4 : Hid (Fra p b m w w4 ∧ Ram w4 p b m N B2 L ∧ PT N L B2 F (setE lf (y0 (pg * 4096)) (i0 (pg * 4096)) (toP (ad q) d)) ∧ Byo F B B2) := by
  have eF : F2 = F := funext fun x => by
   cases hF : F x with
   | some f => exact R2.ext x f hF
   | none =>
    cases hG : F2 x with
    | none => rfl
    | some f =>
     rcases R2.new x f hG with e | ⟨e, e', _⟩
     ·rw [hF] at e; cases e
     ·exact absurd e e'
  subst eF
  refine ⟨H3.out.1.trans ((Fra.below (Below.refl _ _).drew).trans f4), r4, by have := R2.pt; rw [setE_set] at this; exact this, fun f hf k hk => (R2.byt f hf k hk).trans (H3.out.2.2.2 f hf k hk)⟩
 have k4 := k3.fra ((Fra.below (Below.refl _ _).drew).trans f4) (by omega) (by omega) (by omega)
 clear R2 r4 f4 c107
 refine hK.out _ _ ⟨k4.a, k4.b⟩ (fun hHeld => ?_)
 clear hK K
 try simp only [Act.put, List.setIfInBounds_toArray, List.set_cons_zero, List.set_cons_succ, List.getElem_toArray, List.getElem_cons_succ, List.getElem_cons_zero]
 refine wpAnyH_done (by kernel_rfl) ?_ _
 go_wp2_with fail
 refine bodyPost_end (v := .tuple #[]) (by simp [results, Tryz.results112, go_sem]) rfl ⟨rfl, H4.out.1, B2, H4.out.2⟩
set_option maxHeartbeats 1000000 in
theorem guard_pt {r q : Nat} {size : Int} (hS : Sp w s p (ad r) size) (h : Ram w p b m N B L) (hP : PT N L B F lf) (hr : F 0 = some r) (hne : s ≠ p ∧ s ≠ b ∧ s ≠ m) (pg : Int) (hpg : 0 ≤ pg ∧ pg < 67108864) (hsz : pg * 4096 < size ∧ size ≤ 1099511627776) {c d : Int} (hcd : rdb c d) (hq : Pag N L F lf (pg * 4096) q c) (k' : Nat) (hk' : k' < 512 ∧ k' ≠ i0 (pg * 4096) ∧ kd (lf (y0 (pg * 4096)) k') 0 = 2) :
  Calls Tryz.prog 64 #[.pointer (some ⟨s, 0, .none⟩), .int .i64 pg] w fun e w' => e = .returned (.int .i64 0) ∧ Fra p b m w w' ∧ ∃ B', Ram w' p b m N B' L ∧ PT N L B' F (setE lf (y0 (pg * 4096)) (i0 (pg * 4096)) (toP (ad q) d)) ∧ Byo F B B' := by
 have c33 := made_sp hS
 have c77 := pages_sp hS (by omega)
 have c112 := guardT_pt h hP hr pg hpg hcd hq k' hk'
 unfold GuQ at c112
 have hlt : ¬ ((size + 4095) / 4096 ≤ pg) := by omega
 have k0 := hS.c0
 have k1 := hS.c1
 clear hS h hP hq hk' hr hcd
 generalize (size + 4095) / 4096 = P at *
 go_enter Tryz.func64, Tryz.ntmps64
 go_wp2_with first | (go_at_call 33; refine c33.mono ?_; rintro _ w1 ⟨rfl, e1⟩; obtain rfl : w = w1 := e1.symm) | (go_at_call 77; refine c77.mono ?_; rintro _ w1 ⟨rfl, e1⟩; obtain rfl : w = w1 := e1.symm) | (go_at_call 112; refine c112.mono ?_; rintro _ w3 ⟨rfl, f3, B', r3⟩; have H3 : Hid (Fra p b m w w3 ∧ Ram w3 p b m N B' L ∧ PT N L B' F (setE lf (y0 (pg * 4096)) (i0 (pg * 4096)) (toP (ad q) d)) ∧ Byo F B B') := ⟨f3, r3⟩; clear f3 r3)
 go_ret
 exact ⟨rfl, H3.out.1, B', H3.out.2⟩
end
end Go.Proofs.YtacdgfojdkppmaaGreatDoor.Rm
