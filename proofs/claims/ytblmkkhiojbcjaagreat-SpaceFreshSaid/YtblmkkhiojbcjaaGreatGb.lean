import Derived.Test.YtblmkkhiojbcjaaGreatEo
import Derived.Test.YtblmkkhiojbcjaaGreatVn
namespace Go.Proofs.YtblmkkhiojbcjaaGreat
open Go Go.RowKit
set_option linter.unusedVariables false
set_option linter.unusedSimpArgs false
section
variable {w : World} {s p b m N : Nat} {B : Nat → Int} {L : List Nat} {F : Nat → Option Nat} {lf : Nat → Nat → Int}
/-- The leaf's bits of a page that may be read. -/
def rdb (c d : Int) : Prop := c = 210 ∧ d = 194 ∨ c = 214 ∧ d = 198 ∨ c = 218 ∧ d = 202 ∨ c = 222 ∧ d = 206
theorem and254 (q : Nat) (hq : q < 4096) {c d : Int} (hc : rdb c d) : bits .and .u64 (toP (ad q) c) 254 = c := by
  have hb := ad_b q 4096 hq (by omega)
  have hv := toP_val (ad q) c ⟨hb.1, hb.2.1⟩ (by unfold rdb at hc; omega) (by unfold rdb at hc; omega)
  have h1 : bits .and .u64 (toP (ad q) c) ((254 : Nat) : Int) = (((toP (ad q) c % 1024).toNat &&& 254 : Nat) : Int) := and_low _ (by rw [hv]; unfold rdb at hc; omega) 254 (by omega)
  have h2 : (toP (ad q) c % 1024).toNat = (c + 1).toNat := by rw [hv]; unfold rdb at hc; omega
  rw [h2] at h1
  refine (show bits .and .u64 (toP (ad q) c) 254 = _ from h1).trans ?_
  rcases hc with ⟨rfl, _⟩ | ⟨rfl, _⟩ | ⟨rfl, _⟩ | ⟨rfl, _⟩ <;> decide
theorem not16 {c d : Int} (hc : rdb c d) : bits .andNot .u64 c 16 = d := by
  rcases hc with ⟨rfl, rfl⟩ | ⟨rfl, rfl⟩ | ⟨rfl, rfl⟩ | ⟨rfl, rfl⟩ <;> decide
theorem rdb_ok {c d : Int} (hc : rdb c d) : (!ho d 18446744073709551361 && ho d 10 && (!hs d 4 || hs d 2)) = true := by
  rcases hc with ⟨rfl, rfl⟩ | ⟨rfl, rfl⟩ | ⟨rfl, rfl⟩ | ⟨rfl, rfl⟩ <;> decide
theorem rdb_leaf {c d : Int} (hc : rdb c d) {f N : Nat} (hf : f < N) (hN : N ≤ 4096) : kd (toP (ad f) d) 0 = 2 ∧ 0 ≤ toP (ad f) d ∧ toP (ad f) d < 18446744073709551616 := by
  have hb := ad_b f N hf hN
  rcases hc with ⟨rfl, rfl⟩ | ⟨rfl, rfl⟩ | ⟨rfl, rfl⟩ | ⟨rfl, rfl⟩ <;> exact leaf_b _ _ ⟨hb.1, hb.2.2, hb.2.1⟩ (by decide) (by decide) (by decide) (by decide)
/-- What a page that is taken comes to where another is in its node. -/
def UnK (w : World) (p b m N : Nat) (B : Nat → Int) (L : List Nat) (F : Nat → Option Nat) (lf : Nat → Nat → Int) (va tp : Int) (e : Ending) (w' : World) : Prop := e = .returned (.tuple #[.int .u64 tp, .int .i64 0]) ∧ Fra p b m w w' ∧ ∃ B', Ram w' p b m N B' L ∧ PT N L B' F (setE lf (y0 va) (i0 va) 0) ∧ Byo F B B'
theorem unmap_keep {r q : Nat} {c : Int} (h : Ram w p b m N B L) (hP : PT N L B F lf) (hr : F 0 = some r) (va : Int) (hv : 0 ≤ va ∧ va < 274877906944 ∧ va % 4096 = 0) (hq : Pag N L F lf va q c) (k' : Nat) (hk' : k' < 512 ∧ k' ≠ i0 va ∧ kd (lf (y0 va) k') 0 = 2) :
    Calls Tryz.prog 88 #[.pointer (some ⟨p, 0, .none⟩), .int .u64 (ad r), .int .u64 va] w (UnK w p b m N B L F lf va (toP (ad q) c)) := by
  have hz : ∀ x, kd x 0 = 2 → x ≠ 0 := fun x h1 e => by rw [e] at h1; revert h1; decide
  refine (unmap_byt h hP hr va hv (by rw [hq.l]; exact hz _ hq.k)).mono fun e w' h9 => ?_
  obtain ⟨he, g, q1, B', L', F', lf', e1, e0, hpt, hpr, hram, hfra, hby⟩ := h9
  rw [hq.l] at he
  have hno : ¬ ∀ k, k < 512 → setE lf (y0 va) (i0 va) 0 (y0 va) k = 0 := fun hall => by
    have := hall k' hk'.1
    unfold setE at this
    rw [if_neg (fun e => hk'.2.1 e.2)] at this
    exact hz _ hk'.2.2 this
  rcases hpr with ⟨rfl, rfl, rfl, _⟩ | ⟨_, _, _, h4, _⟩ | ⟨_, _, _, h4, _⟩
  · exact ⟨he, hfra, B', hram, hpt, hby⟩
  · exact absurd h4 hno
  · exact absurd h4 hno
/-- What Guard comes to. -/
def GuQ (w : World) (p b m N : Nat) (B : Nat → Int) (L : List Nat) (F : Nat → Option Nat) (lf : Nat → Nat → Int) (va leaf : Int) (e : Ending) (w' : World) : Prop := e = .returned (.tuple #[]) ∧ Fra p b m w w' ∧ ∃ B', Ram w' p b m N B' L ∧ PT N L B' F (setE lf (y0 va) (i0 va) leaf) ∧ Byo F B B'
theorem setE_set (lf : Nat → Nat → Int) (y i : Nat) (a x : Int) : setE (setE lf y i a) y i x = setE lf y i x := by
  funext u v
  unfold setE
  split <;> rfl
set_option maxHeartbeats 2000000 in
theorem guardT_pt {r q : Nat} (h : Ram w p b m N B L) (hP : PT N L B F lf) (hr : F 0 = some r) (pg : Int) (hpg : 0 ≤ pg ∧ pg < 67108864) {c d : Int} (hcd : rdb c d) (hq : Pag N L F lf (pg * 4096) q c) (k' : Nat) (hk' : k' < 512 ∧ k' ≠ i0 (pg * 4096) ∧ kd (lf (y0 (pg * 4096)) k') 0 = 2) :
    Calls Tryz.prog 49 #[.agg #[.pointer (some ⟨p, 0, .none⟩), .int .u64 (ad r)], .int .i64 pg] w (GuQ w p b m N B L F lf (pg * 4096) (toP (ad q) d)) := by
  have hN := h.mem.n2
  have hqb := ad_b q N hq.qb.1 hN
  obtain ⟨X, hX⟩ : ∃ X, X = w.heap.size := ⟨_, rfl⟩
  obtain ⟨w1, hw1⟩ : ∃ w1, w1 = w.alloc (.cells #[.pointer (some ⟨p, 0, .none⟩), .int .u64 (ad r)] 77) := ⟨_, rfl⟩
  have b1 : Below w.heap.size w w1 := by rw [hw1]; exact (Below.refl _ _).alloc (Nat.le_refl _) _
  have k1 : C2w w1 X (.pointer (some ⟨p, 0, .none⟩)) (.int .u64 (ad r)) := by
    rw [hw1, hX]
    exact ⟨by simp, by simp, fun k => World.frozen?_alloc_new _ _ _ _⟩
  have hp : p < X := by rw [hX]; exact lt_of_cell h.mem.c0
  have hb : b < X := by rw [hX]; exact lt_of_cell (h.mem.cb 0 (by have := h.mem.n1; omega))
  have hm : m < X := by rw [hX]; exact h.mem.mlt
  have c153 := unmap_keep (w := w1.drew) (h.below b1).drew hP hr (pg * 4096) ⟨by omega, by omega, by omega⟩ hq k' hk'
  have hval := hq.val hN
  have hbd : 0 ≤ toP (ad q) c ∧ toP (ad q) c < 18014398509481984 := by rw [hval]; unfold rdb at hcd; omega
  have hfr : toP (ad q) c / 1024 * 4096 = ad q := by rw [hval]; unfold rdb at hcd; omega
  have c152 := fun W => frameOf_any (toP (ad q) c) hbd W
  rw [hfr] at c152
  have h254 := and254 q (by have := hq.qb.1; omega) hcd
  have h16 := not16 hcd
  have hlf := rdb_leaf hcd hq.qb.1 hN
  have kS : w1.drew.cell? ⟨X, 0, .none⟩ = some (.pointer (some ⟨p, 0, .none⟩)) ∧ w1.drew.cell? ⟨X, 1, .none⟩ = some (.int .u64 (ad r)) := ⟨k1.a, k1.b⟩
  have HW : Hid (Below w.heap.size w w1 ∧ C2w w1 X (.pointer (some ⟨p, 0, .none⟩)) (.int .u64 (ad r)) ∧ F 0 = some r ∧ (∃ g, F (y1 (pg * 4096)) = some g) ∧ (∃ g, F (y0 (pg * 4096)) = some g) ∧ rdb c d ∧ kd (toP (ad q) d) 0 = 2 ∧ 0 ≤ toP (ad q) d ∧ toP (ad q) d < 18446744073709551616) := ⟨b1, k1, hr, hq.w1, hq.w0, hcd, hlf⟩
  clear h hP hq hk' hr hcd hlf b1 k1 hval hbd hfr
  unfold UnK at c153
  generalize toP (ad q) c = tp at *
  go_enter Tryz.func49, Tryz.ntmps49
  go_upto_region 1 with fail
  rw [← hw1, ← hX]
  have HXX : Hid (X = w.heap.size) := hX
  clear hw1 hX
  refine wp_region_held_drew (S := (fun U => U.cell? ⟨X, 0, .none⟩ = some (.pointer (some ⟨p, 0, .none⟩)) ∧ U.cell? ⟨X, 1, .none⟩ = some (.int .u64 (ad r)))) (by kernel_rfl) kS (fun hHeld => ?_)
  refine wpAnyH_take (i := 0) (v := (.pointer (some ⟨X, 0, .none⟩))) rfl (by kernel_rfl) (by kernel_rfl) (by kernel_rfl) (fun _ _ _ h => h) (Or.inl ⟨by rfl, fun ww hSw => by (try dsimp only at hSw); go_simp⟩) (by assumption) ?_
  simp only [Act.put, List.setIfInBounds_toArray, List.set_cons_zero, List.set_cons_succ, List.getElem_toArray, List.getElem_cons_succ, List.getElem_cons_zero]
  refine wpAnyH_take (i := 1) (v := (.pointer (some ⟨p, 0, .none⟩))) rfl (by kernel_rfl) (by kernel_rfl) (by kernel_rfl) (fun _ _ _ h => h) (Or.inl ⟨by rfl, fun ww hSw => by (try dsimp only at hSw); go_simp⟩) (by assumption) ?_
  simp only [Act.put, List.setIfInBounds_toArray, List.set_cons_zero, List.set_cons_succ, List.getElem_toArray, List.getElem_cons_succ, List.getElem_cons_zero]
  refine wpAnyH_take (i := 2) (v := (.pointer (some ⟨X, 1, .none⟩))) rfl (by kernel_rfl) (by kernel_rfl) (by kernel_rfl) (fun _ _ _ h => h) (Or.inl ⟨by rfl, fun ww hSw => by (try dsimp only at hSw); go_simp⟩) (by assumption) ?_
  simp only [Act.put, List.setIfInBounds_toArray, List.set_cons_zero, List.set_cons_succ, List.getElem_toArray, List.getElem_cons_succ, List.getElem_cons_zero]
  refine wpAnyH_take (i := 3) (v := (.int .u64 (ad r))) rfl (by kernel_rfl) (by kernel_rfl) (by kernel_rfl) (fun _ _ _ h => h) (Or.inl ⟨by rfl, fun ww hSw => by (try dsimp only at hSw); go_simp⟩) (by assumption) ?_
  simp only [Act.put, List.setIfInBounds_toArray, List.set_cons_zero, List.set_cons_succ, List.getElem_toArray, List.getElem_cons_succ, List.getElem_cons_zero]
  refine wpAnyH_take (i := 4) (v := (.int .i64 pg)) rfl (by kernel_rfl) (by kernel_rfl) (by kernel_rfl) (fun _ _ _ h => h) (Or.inl ⟨by rfl, fun ww hSw => by (try dsimp only at hSw); go_simp⟩) (by assumption) ?_
  simp only [Act.put, List.setIfInBounds_toArray, List.set_cons_zero, List.set_cons_succ, List.getElem_toArray, List.getElem_cons_succ, List.getElem_cons_zero]
  refine wpAnyH_ready (rs := [5]) (by kernel_rfl) (by simp) ?_
  refine AllReadyH.cons rfl (fun K hK => ?_) AllReadyH.nil
  go_simp
  go_at_call 87
  refine (addrOf_any pg (by omega) _).mono ?_
  rintro _ w3 ⟨rfl, e3⟩
  obtain rfl : w1.drew = w3 := e3.symm
  refine hK.out _ _ kS (fun hHeld => ?_)
  clear hK K
  try simp only [Act.put, List.setIfInBounds_toArray, List.set_cons_zero, List.set_cons_succ, List.getElem_toArray, List.getElem_cons_succ, List.getElem_cons_zero]
  refine wpAnyH_ready (rs := [6]) (by kernel_rfl) (by simp) ?_
  refine AllReadyH.cons rfl (fun K hK => ?_) AllReadyH.nil
  go_simp
  go_at_call 88
  refine c153.mono ?_
  rintro _ w3 ⟨rfl, f3, B', r3, P3, y3⟩
  have H3 : Hid (Fra p b m w w3 ∧ Ram w3 p b m N B' L ∧ PT N L B' F (setE lf (y0 (pg * 4096)) (i0 (pg * 4096)) 0) ∧ Byo F B B') := ⟨(Fra.below HW.out.1).trans ((Fra.below (Below.refl _ _).drew).trans f3), r3, P3, y3⟩
  have k3 := HW.out.2.1.fra ((Fra.below (Below.refl _ _).drew).trans f3) (by omega) (by omega) (by omega)
  have kS3 : w3.cell? ⟨X, 0, .none⟩ = some (.pointer (some ⟨p, 0, .none⟩)) ∧ w3.cell? ⟨X, 1, .none⟩ = some (.int .u64 (ad r)) := ⟨k3.a, k3.b⟩
  clear f3 r3 P3 y3 c153
  refine hK.out _ _ kS3 (fun hHeld => ?_)
  clear hK K
  try simp only [Act.put, List.setIfInBounds_toArray, List.set_cons_zero, List.set_cons_succ, List.getElem_toArray, List.getElem_cons_succ, List.getElem_cons_zero]
  refine wpAnyH_take (i := 7) (v := (.tuple #[.int .u64 tp, .int .i64 0])) rfl (by kernel_rfl) (by kernel_rfl) (by kernel_rfl) (fun _ _ _ h => h) (Or.inl ⟨by rfl, fun ww hSw => by (try dsimp only at hSw); go_simp⟩) (by assumption) ?_
  simp only [Act.put, List.setIfInBounds_toArray, List.set_cons_zero, List.set_cons_succ, List.getElem_toArray, List.getElem_cons_succ, List.getElem_cons_zero]
  refine wpAnyH_take (i := 8) (v := (.int .u64 tp)) rfl (by kernel_rfl) (by kernel_rfl) (by kernel_rfl) (fun _ _ _ h => h) (Or.inl ⟨by rfl, fun ww hSw => by (try dsimp only at hSw); go_simp⟩) (by assumption) ?_
  simp only [Act.put, List.setIfInBounds_toArray, List.set_cons_zero, List.set_cons_succ, List.getElem_toArray, List.getElem_cons_succ, List.getElem_cons_zero]
  refine wpAnyH_take (i := 9) (v := (.int .i64 0)) rfl (by kernel_rfl) (by kernel_rfl) (by kernel_rfl) (fun _ _ _ h => h) (Or.inl ⟨by rfl, fun ww hSw => by (try dsimp only at hSw); go_simp⟩) (by assumption) ?_
  simp only [Act.put, List.setIfInBounds_toArray, List.set_cons_zero, List.set_cons_succ, List.getElem_toArray, List.getElem_cons_succ, List.getElem_cons_zero]
  refine wpAnyH_take (i := 10) (v := (.int .u64 tp)) rfl (by kernel_rfl) (by kernel_rfl) (by kernel_rfl) (fun _ _ _ h => h) (Or.inl ⟨by rfl, fun ww hSw => by (try dsimp only at hSw); go_simp⟩) (by assumption) ?_
  simp only [Act.put, List.setIfInBounds_toArray, List.set_cons_zero, List.set_cons_succ, List.getElem_toArray, List.getElem_cons_succ, List.getElem_cons_zero]
  refine wpAnyH_take (i := 11) (v := (.int .i64 0)) rfl (by kernel_rfl) (by kernel_rfl) (by kernel_rfl) (fun _ _ _ h => h) (Or.inl ⟨by rfl, fun ww hSw => by (try dsimp only at hSw); go_simp⟩) (by assumption) ?_
  simp only [Act.put, List.setIfInBounds_toArray, List.set_cons_zero, List.set_cons_succ, List.getElem_toArray, List.getElem_cons_succ, List.getElem_cons_zero]
  refine wpAnyH_done (by kernel_rfl) ?_ _
  have kS4 : w3.drew.cell? ⟨X, 0, .none⟩ = some (.pointer (some ⟨p, 0, .none⟩)) ∧ w3.drew.cell? ⟨X, 1, .none⟩ = some (.int .u64 (ad r)) := kS3
  have c107 := map_pt (w := w3.drew) H3.out.2.1.drew H3.out.2.2.1 HW.out.2.2.1 (pg * 4096) (ad q) d (by omega) (by omega) ⟨hqb.1, hqb.2.2, hqb.2.1⟩ (rdb_ok HW.out.2.2.2.2.2.1) HW.out.2.2.2.2.2.2 (by unfold setE; rw [if_pos ⟨rfl, rfl⟩]) (by
    obtain ⟨g1, e1⟩ := HW.out.2.2.2.1
    obtain ⟨g0, e0⟩ := HW.out.2.2.2.2.1
    unfold needY
    rw [e1, e0]
    simp)
  have hnd : needY F (pg * 4096) = 0 := by
    obtain ⟨g1, e1⟩ := HW.out.2.2.2.1
    obtain ⟨g0, e0⟩ := HW.out.2.2.2.2.1
    unfold needY
    rw [e1, e0]
    simp
  rw [hnd] at c107
  clear hnd
  go_upto_region 3 with fail
  refine wp_region_held_drew (S := (fun U => U.cell? ⟨X, 0, .none⟩ = some (.pointer (some ⟨p, 0, .none⟩)) ∧ U.cell? ⟨X, 1, .none⟩ = some (.int .u64 (ad r)))) (by kernel_rfl) kS4 (fun hHeld => ?_)
  refine wpAnyH_take (i := 0) (v := (.pointer (some ⟨X, 0, .none⟩))) rfl (by kernel_rfl) (by kernel_rfl) (by kernel_rfl) (fun _ _ _ h => h) (Or.inl ⟨by rfl, fun ww hSw => by (try dsimp only at hSw); go_simp⟩) (by assumption) ?_
  simp only [Act.put, List.setIfInBounds_toArray, List.set_cons_zero, List.set_cons_succ, List.getElem_toArray, List.getElem_cons_succ, List.getElem_cons_zero]
  refine wpAnyH_take (i := 1) (v := (.pointer (some ⟨p, 0, .none⟩))) rfl (by kernel_rfl) (by kernel_rfl) (by kernel_rfl) (fun _ _ _ h => h) (Or.inl ⟨by rfl, fun ww hSw => by (try dsimp only at hSw); go_simp⟩) (by assumption) ?_
  simp only [Act.put, List.setIfInBounds_toArray, List.set_cons_zero, List.set_cons_succ, List.getElem_toArray, List.getElem_cons_succ, List.getElem_cons_zero]
  refine wpAnyH_take (i := 2) (v := (.pointer (some ⟨X, 1, .none⟩))) rfl (by kernel_rfl) (by kernel_rfl) (by kernel_rfl) (fun _ _ _ h => h) (Or.inl ⟨by rfl, fun ww hSw => by (try dsimp only at hSw); go_simp⟩) (by assumption) ?_
  simp only [Act.put, List.setIfInBounds_toArray, List.set_cons_zero, List.set_cons_succ, List.getElem_toArray, List.getElem_cons_succ, List.getElem_cons_zero]
  refine wpAnyH_take (i := 3) (v := (.int .u64 (ad r))) rfl (by kernel_rfl) (by kernel_rfl) (by kernel_rfl) (fun _ _ _ h => h) (Or.inl ⟨by rfl, fun ww hSw => by (try dsimp only at hSw); go_simp⟩) (by assumption) ?_
  simp only [Act.put, List.setIfInBounds_toArray, List.set_cons_zero, List.set_cons_succ, List.getElem_toArray, List.getElem_cons_succ, List.getElem_cons_zero]
  refine wpAnyH_take (i := 4) (v := (.int .i64 pg)) rfl (by kernel_rfl) (by kernel_rfl) (by kernel_rfl) (fun _ _ _ h => h) (Or.inl ⟨by rfl, fun ww hSw => by (try dsimp only at hSw); go_simp⟩) (by assumption) ?_
  simp only [Act.put, List.setIfInBounds_toArray, List.set_cons_zero, List.set_cons_succ, List.getElem_toArray, List.getElem_cons_succ, List.getElem_cons_zero]
  refine wpAnyH_take (i := 6) (v := (.int .u64 tp)) rfl (by kernel_rfl) (by kernel_rfl) (by kernel_rfl) (fun _ _ _ h => h) (Or.inl ⟨by rfl, fun ww hSw => by (try dsimp only at hSw); go_simp⟩) (by assumption) ?_
  simp only [Act.put, List.setIfInBounds_toArray, List.set_cons_zero, List.set_cons_succ, List.getElem_toArray, List.getElem_cons_succ, List.getElem_cons_zero]
  refine wpAnyH_take (i := 8) (v := (.int .u64 tp)) rfl (by kernel_rfl) (by kernel_rfl) (by kernel_rfl) (fun _ _ _ h => h) (Or.inl ⟨by rfl, fun ww hSw => by (try dsimp only at hSw); go_simp⟩) (by assumption) ?_
  simp only [Act.put, List.setIfInBounds_toArray, List.set_cons_zero, List.set_cons_succ, List.getElem_toArray, List.getElem_cons_succ, List.getElem_cons_zero]
  refine wpAnyH_take (i := 9) (v := (.int .u64 c)) rfl (by kernel_rfl) (by kernel_rfl) (by kernel_rfl) (fun _ _ _ h => h) (Or.inl ⟨by rfl, fun ww hSw => by (try dsimp only at hSw); go_simp⟩) (by assumption) ?_
  simp only [Act.put, List.setIfInBounds_toArray, List.set_cons_zero, List.set_cons_succ, List.getElem_toArray, List.getElem_cons_succ, List.getElem_cons_zero]
  refine wpAnyH_take (i := 10) (v := (.int .u64 d)) rfl (by kernel_rfl) (by kernel_rfl) (by kernel_rfl) (fun _ _ _ h => h) (Or.inl ⟨by rfl, fun ww hSw => by (try dsimp only at hSw); go_simp⟩) (by assumption) ?_
  simp only [Act.put, List.setIfInBounds_toArray, List.set_cons_zero, List.set_cons_succ, List.getElem_toArray, List.getElem_cons_succ, List.getElem_cons_zero]
  refine wpAnyH_ready (rs := [5]) (by kernel_rfl) (by simp) ?_
  refine AllReadyH.cons rfl (fun K hK => ?_) AllReadyH.nil
  go_simp
  go_at_call 87
  refine (addrOf_any pg (by omega) _).mono ?_
  rintro _ w4 ⟨rfl, e4⟩
  obtain rfl : w3.drew = w4 := e4.symm
  refine hK.out _ _ kS4 (fun hHeld => ?_)
  clear hK K
  try simp only [Act.put, List.setIfInBounds_toArray, List.set_cons_zero, List.set_cons_succ, List.getElem_toArray, List.getElem_cons_succ, List.getElem_cons_zero]
  refine wpAnyH_ready (rs := [7]) (by kernel_rfl) (by simp) ?_
  refine AllReadyH.cons rfl (fun K hK => ?_) AllReadyH.nil
  go_simp
  go_at_call 62
  refine (c152 _).mono ?_
  rintro _ w4 ⟨rfl, e4⟩
  obtain rfl : w3.drew = w4 := e4.symm
  refine hK.out _ _ kS4 (fun hHeld => ?_)
  clear hK K
  try simp only [Act.put, List.setIfInBounds_toArray, List.set_cons_zero, List.set_cons_succ, List.getElem_toArray, List.getElem_cons_succ, List.getElem_cons_zero]
  refine wpAnyH_ready (rs := [11]) (by kernel_rfl) (by simp) ?_
  refine AllReadyH.cons rfl (fun K hK => ?_) AllReadyH.nil
  go_simp
  go_at_call 86
  refine c107.mono ?_
  rintro _ w4 ⟨rfl, B2, L2, F2, R2, e2, r4, f4⟩
  rw [List.take_zero, List.nil_append] at e2
  subst e2
  have H4 : Hid (Fra p b m w w4 ∧ Ram w4 p b m N B2 L ∧ PT N L B2 F (setE lf (y0 (pg * 4096)) (i0 (pg * 4096)) (toP (ad q) d)) ∧ Byo F B B2) := by
    have eF : F2 = F := funext fun x => by
      cases hF : F x with
      | some f => exact R2.ext x f hF
      | none =>
        cases hG : F2 x with
        | none => rfl
        | some f =>
          rcases R2.new x f hG with e | ⟨e, e', _⟩
          · rw [hF] at e; cases e
          · exact absurd e e'
    subst eF
    refine ⟨H3.out.1.trans ((Fra.below (Below.refl _ _).drew).trans f4), r4, by have := R2.pt; rw [setE_set] at this; exact this, fun f hf k hk => (R2.byt f hf k hk).trans (H3.out.2.2.2 f hf k hk)⟩
  have k4 := k3.fra ((Fra.below (Below.refl _ _).drew).trans f4) (by omega) (by omega) (by omega)
  clear R2 r4 f4 c107
  refine hK.out _ _ ⟨k4.a, k4.b⟩ (fun hHeld => ?_)
  clear hK K
  try simp only [Act.put, List.setIfInBounds_toArray, List.set_cons_zero, List.set_cons_succ, List.getElem_toArray, List.getElem_cons_succ, List.getElem_cons_zero]
  refine wpAnyH_done (by kernel_rfl) ?_ _
  go_wp2_with fail
  refine bodyPost_end (v := .tuple #[]) (by simp [results, Tryz.results49, go_sem]) rfl ⟨rfl, H4.out.1, B2, H4.out.2⟩
set_option maxHeartbeats 1000000 in
theorem guard_pt {r q : Nat} {size : Int} (hS : Sp w s p (ad r) size) (h : Ram w p b m N B L) (hP : PT N L B F lf) (hr : F 0 = some r) (hne : s ≠ p ∧ s ≠ b ∧ s ≠ m) (pg : Int) (hpg : 0 ≤ pg ∧ pg < 67108864) (hsz : pg * 4096 < size ∧ size ≤ 1099511627776) {c d : Int} (hcd : rdb c d) (hq : Pag N L F lf (pg * 4096) q c) (k' : Nat) (hk' : k' < 512 ∧ k' ≠ i0 (pg * 4096) ∧ kd (lf (y0 (pg * 4096)) k') 0 = 2) :
    Calls Tryz.prog 11 #[.pointer (some ⟨s, 0, .none⟩), .int .i64 pg] w fun e w' => e = .returned (.int .i64 0) ∧ Fra p b m w w' ∧ ∃ B', Ram w' p b m N B' L ∧ PT N L B' F (setE lf (y0 (pg * 4096)) (i0 (pg * 4096)) (toP (ad q) d)) ∧ Byo F B B' := by
  have c33 := made_sp hS
  have c77 := pages_sp hS (by omega)
  have c112 := guardT_pt h hP hr pg hpg hcd hq k' hk'
  unfold GuQ at c112
  have hlt : ¬ ((size + 4095) / 4096 ≤ pg) := by omega
  have k0 := hS.c0
  have k1 := hS.c1
  clear hS h hP hq hk' hr hcd
  generalize (size + 4095) / 4096 = P at *
  go_enter Tryz.func11, Tryz.ntmps11
  go_wp2_with first | (go_at_call 43; refine c33.mono ?_; rintro _ w1 ⟨rfl, e1⟩; obtain rfl : w = w1 := e1.symm) | (go_at_call 19; refine c77.mono ?_; rintro _ w1 ⟨rfl, e1⟩; obtain rfl : w = w1 := e1.symm) | (go_at_call 49; refine c112.mono ?_; rintro _ w3 ⟨rfl, f3, B', r3⟩; have H3 : Hid (Fra p b m w w3 ∧ Ram w3 p b m N B' L ∧ PT N L B' F (setE lf (y0 (pg * 4096)) (i0 (pg * 4096)) (toP (ad q) d)) ∧ Byo F B B') := ⟨f3, r3⟩; clear f3 r3)
  go_ret
  exact ⟨rfl, H3.out.1, B', H3.out.2⟩
end
end Go.Proofs.YtblmkkhiojbcjaaGreat
namespace Go.Proofs.YtblmkkhiojbcjaaGreat
open Go Go.RowKit
set_option linter.unusedVariables false
set_option linter.unusedSimpArgs false
/-- What Unmap leaves. -/
def TkZ (w : World) (p b m N : Nat) (B : Nat → Int) (L : List Nat) (F : Nat → Option Nat) (lf : Nat → Nat → Int) (va : Int) (w' : World) : Prop := ∃ g q B' L' F' lf', F (y1 va) = some g ∧ F (y0 va) = some q ∧ PT N L' B' F' lf' ∧ PrR L F (setE lf (y0 va) (i0 va) 0) va q g L' F' lf' ∧ Ram w' p b m N B' L' ∧ Fra p b m w w' ∧ Byo F B B'
/-- What taking a page away leaves. -/
def TkP (w : World) (p b m N r ft : Nat) (B : Nat → Int) (L : List Nat) (F : Nat → Option Nat) (fr : Nat → Nat) (c : Nat → Int) (I I' : List Nat) (e : Ending) (w' : World) : Prop := e = .returned (.tuple #[]) ∧ Fra p b m w w' ∧ ∃ B' L' F' lf', Ram w' p b m N B' L' ∧ SpL N r ft B' L' F' lf' fr c I' ∧ L'.length + nodesF F' = L.length + nodesF F + 1 ∧ Oth L F fr I B L' F' fr I' B'
section
variable {w : World} {s p b m N r ft : Nat} {B : Nat → Int} {L : List Nat} {F : Nat → Option Nat} {lf : Nat → Nat → Int} {fr : Nat → Nat} {c : Nat → Int} {I I' : List Nat}
set_option maxHeartbeats 1000000 in
theorem take_any (h : Ram w p b m N B L) (hs : SpL N r ft B L F lf fr c I) {i : Nat} (hi : i ∈ I) (hI : ∀ j, j ∈ I' ↔ j ∈ I ∧ j ≠ i) (hd : I'.Nodup) :
    Calls Tryz.prog 65 #[.agg #[.pointer (some ⟨p, 0, .none⟩), .int .u64 (ad r)], .int .i64 i] w (TkP w p b m N r ft B L F fr c I I') := by
  have hN := h.mem.n2
  have hq := hs.pag hi
  have hib := hs.bd i hi
  obtain ⟨X, hX⟩ : ∃ X, X = w.heap.size := ⟨_, rfl⟩
  obtain ⟨w1, hw1⟩ : ∃ w1, w1 = w.alloc (.cells #[.pointer (some ⟨p, 0, .none⟩), .int .u64 (ad r)] 77) := ⟨_, rfl⟩
  have b1 : Below w.heap.size w w1 := by rw [hw1]; exact (Below.refl _ _).alloc (Nat.le_refl _) _
  have k1 : C2w w1 X (.pointer (some ⟨p, 0, .none⟩)) (.int .u64 (ad r)) := by
    rw [hw1, hX]
    exact ⟨by simp, by simp, fun k => World.frozen?_alloc_new _ _ _ _⟩
  have hp : p < X := by rw [hX]; exact lt_of_cell h.mem.c0
  have hb : b < X := by rw [hX]; exact lt_of_cell (h.mem.cb 0 (by have := h.mem.n1; omega))
  have hm : m < X := by rw [hX]; exact h.mem.mlt
  have hlf := hs.leaf hi
  have hok := hs.ok hi
  have c88 : Calls Tryz.prog 88 #[.pointer (some ⟨p, 0, .none⟩), .int .u64 (ad r), .int .u64 ((i : Int) * 4096)] w1.drew (fun e w' => e = .returned (.tuple #[.int .u64 (toP (ad (fr i)) (c i)), .int .i64 0]) ∧ TkZ w1.drew p b m N B L F lf ((i : Int) * 4096) w') := by
    rw [← hlf]
    exact unmap_byt (w := w1.drew) (h.below b1).drew hs.pt hs.rt ((i : Int) * 4096) ⟨by omega, by omega, by omega⟩ (by rw [hlf]; exact hok.ne)
  have hval := hq.val hN
  have hqb := ad_b (fr i) N hq.qb.1 hN
  have hbd : 0 ≤ toP (ad (fr i)) (c i) ∧ toP (ad (fr i)) (c i) < 18014398509481984 := by rw [hval]; have := hq.cb; have := hq.qb.1; unfold ad; omega
  have hfr : toP (ad (fr i)) (c i) / 1024 * 4096 = ad (fr i) := by rw [hval]; have := hq.cb; have := hq.qb.1; unfold ad; omega
  have c62 := fun W => frameOf_any (toP (ad (fr i)) (c i)) hbd W
  rw [hfr] at c62
  have kS : w1.drew.cell? ⟨X, 0, .none⟩ = some (.pointer (some ⟨p, 0, .none⟩)) ∧ w1.drew.cell? ⟨X, 1, .none⟩ = some (.int .u64 (ad r)) := ⟨k1.a, k1.b⟩
  have HW : Hid (Below w.heap.size w w1 ∧ C2w w1 X (.pointer (some ⟨p, 0, .none⟩)) (.int .u64 (ad r)) ∧ SpL N r ft B L F lf fr c I) := ⟨b1, k1, hs⟩
  have HI : Hid (i ∈ I ∧ (∀ j, j ∈ I' ↔ j ∈ I ∧ j ≠ i) ∧ I'.Nodup) := ⟨hi, hI, hd⟩
  clear h hs hi hI hd b1 k1 hval hbd hfr hlf hok hq hqb
  generalize toP (ad (fr i)) (c i) = tp at *
  go_enter Tryz.func65, Tryz.ntmps65
  go_upto_region 1 with fail
  rw [← hw1, ← hX]
  have HXX : Hid (X = w.heap.size) := hX
  clear hw1 hX
  refine wp_region_held_drew (S := (fun U => U.cell? ⟨X, 0, .none⟩ = some (.pointer (some ⟨p, 0, .none⟩)) ∧ U.cell? ⟨X, 1, .none⟩ = some (.int .u64 (ad r)))) (by kernel_rfl) kS (fun hHeld => ?_)
  refine wpAnyH_take (i := 0) (v := (.pointer (some ⟨X, 0, .none⟩))) rfl (by kernel_rfl) (by kernel_rfl) (by kernel_rfl) (fun _ _ _ h => h) (Or.inl ⟨by rfl, fun ww hSw => by (try dsimp only at hSw); go_simp⟩) (by assumption) ?_
  simp only [Act.put, List.setIfInBounds_toArray, List.set_cons_zero, List.set_cons_succ, List.getElem_toArray, List.getElem_cons_succ, List.getElem_cons_zero]
  refine wpAnyH_take (i := 1) (v := (.pointer (some ⟨p, 0, .none⟩))) rfl (by kernel_rfl) (by kernel_rfl) (by kernel_rfl) (fun _ _ _ h => h) (Or.inl ⟨by rfl, fun ww hSw => by (try dsimp only at hSw); go_simp⟩) (by assumption) ?_
  simp only [Act.put, List.setIfInBounds_toArray, List.set_cons_zero, List.set_cons_succ, List.getElem_toArray, List.getElem_cons_succ, List.getElem_cons_zero]
  refine wpAnyH_take (i := 2) (v := (.pointer (some ⟨X, 1, .none⟩))) rfl (by kernel_rfl) (by kernel_rfl) (by kernel_rfl) (fun _ _ _ h => h) (Or.inl ⟨by rfl, fun ww hSw => by (try dsimp only at hSw); go_simp⟩) (by assumption) ?_
  simp only [Act.put, List.setIfInBounds_toArray, List.set_cons_zero, List.set_cons_succ, List.getElem_toArray, List.getElem_cons_succ, List.getElem_cons_zero]
  refine wpAnyH_take (i := 3) (v := (.int .u64 (ad r))) rfl (by kernel_rfl) (by kernel_rfl) (by kernel_rfl) (fun _ _ _ h => h) (Or.inl ⟨by rfl, fun ww hSw => by (try dsimp only at hSw); go_simp⟩) (by assumption) ?_
  simp only [Act.put, List.setIfInBounds_toArray, List.set_cons_zero, List.set_cons_succ, List.getElem_toArray, List.getElem_cons_succ, List.getElem_cons_zero]
  refine wpAnyH_take (i := 4) (v := (.int .i64 i)) rfl (by kernel_rfl) (by kernel_rfl) (by kernel_rfl) (fun _ _ _ h => h) (Or.inl ⟨by rfl, fun ww hSw => by (try dsimp only at hSw); go_simp⟩) (by assumption) ?_
  simp only [Act.put, List.setIfInBounds_toArray, List.set_cons_zero, List.set_cons_succ, List.getElem_toArray, List.getElem_cons_succ, List.getElem_cons_zero]
  refine wpAnyH_ready (rs := [5]) (by kernel_rfl) (by simp) ?_
  refine AllReadyH.cons rfl (fun K hK => ?_) AllReadyH.nil
  go_simp
  go_at_call 87
  refine (addrOf_any i (by omega) _).mono ?_
  rintro _ w3 ⟨rfl, e3⟩
  obtain rfl : w1.drew = w3 := e3.symm
  refine hK.out _ _ kS (fun hHeld => ?_)
  clear hK K
  try simp only [Act.put, List.setIfInBounds_toArray, List.set_cons_zero, List.set_cons_succ, List.getElem_toArray, List.getElem_cons_succ, List.getElem_cons_zero]
  refine wpAnyH_ready (rs := [6]) (by kernel_rfl) (by simp) ?_
  refine AllReadyH.cons rfl (fun K hK => ?_) AllReadyH.nil
  go_simp
  go_at_call 88
  refine (c88).mono ?_
  rintro _ w3 ⟨rfl, Z⟩
  obtain ⟨g, q, B1, L1, F1, lf1, hg, hq, P1, R1, r1, f1, y1⟩ := Z
  have D := HW.out.2.2.del HI.out.1 HI.out.2.1 HI.out.2.2 hg hq P1 R1 y1 (adr L1)
  have f13 : Fra p b m w w3 := (Fra.below HW.out.1).trans ((Fra.below (Below.refl _ _).drew).trans f1)
  have k3 := HW.out.2.1.fra ((Fra.below (Below.refl _ _).drew).trans f1) (by omega) (by omega) (by omega)
  have kS3 : w3.cell? ⟨X, 0, .none⟩ = some (.pointer (some ⟨p, 0, .none⟩)) ∧ w3.cell? ⟨X, 1, .none⟩ = some (.int .u64 (ad r)) := ⟨k3.a, k3.b⟩
  have hfi := HW.out.2.2.pg i HI.out.1
  have c35 : Calls Tryz.prog 35 #[.pointer (some ⟨p, 0, .none⟩), .int .u64 (ad (fr i))] w3.drew _ := free_held (fr i) (r1.below ((Below.refl _ _).drew)) hfi.1 hfi.2.1 D.1
  have H3 : Hid (Fra p b m w w3 ∧ SpL N r ft (thr B1 (fr i) (adr L1)) (fr i :: L1) F1 lf1 fr c I' ∧ (fr i :: L1).length + nodesF F1 = L.length + nodesF F + 1 ∧ Oth L F fr I B (fr i :: L1) F1 fr I' (thr B1 (fr i) (adr L1))) := ⟨f13, D.2⟩
  have kS4 : w3.drew.cell? ⟨X, 0, .none⟩ = some (.pointer (some ⟨p, 0, .none⟩)) ∧ w3.drew.cell? ⟨X, 1, .none⟩ = some (.int .u64 (ad r)) := kS3
  clear D f13 hfi f1 r1 P1 R1 y1 hg hq c88
  refine hK.out _ _ kS3 (fun hHeld => ?_)
  clear hK K
  try simp only [Act.put, List.setIfInBounds_toArray, List.set_cons_zero, List.set_cons_succ, List.getElem_toArray, List.getElem_cons_succ, List.getElem_cons_zero]
  refine wpAnyH_take (i := 7) (v := (.tuple #[.int .u64 tp, .int .i64 0])) rfl (by kernel_rfl) (by kernel_rfl) (by kernel_rfl) (fun _ _ _ h => h) (Or.inl ⟨by rfl, fun ww hSw => by (try dsimp only at hSw); go_simp⟩) (by assumption) ?_
  simp only [Act.put, List.setIfInBounds_toArray, List.set_cons_zero, List.set_cons_succ, List.getElem_toArray, List.getElem_cons_succ, List.getElem_cons_zero]
  refine wpAnyH_take (i := 8) (v := (.int .u64 tp)) rfl (by kernel_rfl) (by kernel_rfl) (by kernel_rfl) (fun _ _ _ h => h) (Or.inl ⟨by rfl, fun ww hSw => by (try dsimp only at hSw); go_simp⟩) (by assumption) ?_
  simp only [Act.put, List.setIfInBounds_toArray, List.set_cons_zero, List.set_cons_succ, List.getElem_toArray, List.getElem_cons_succ, List.getElem_cons_zero]
  refine wpAnyH_take (i := 9) (v := (.int .i64 0)) rfl (by kernel_rfl) (by kernel_rfl) (by kernel_rfl) (fun _ _ _ h => h) (Or.inl ⟨by rfl, fun ww hSw => by (try dsimp only at hSw); go_simp⟩) (by assumption) ?_
  simp only [Act.put, List.setIfInBounds_toArray, List.set_cons_zero, List.set_cons_succ, List.getElem_toArray, List.getElem_cons_succ, List.getElem_cons_zero]
  refine wpAnyH_take (i := 10) (v := (.int .u64 tp)) rfl (by kernel_rfl) (by kernel_rfl) (by kernel_rfl) (fun _ _ _ h => h) (Or.inl ⟨by rfl, fun ww hSw => by (try dsimp only at hSw); go_simp⟩) (by assumption) ?_
  simp only [Act.put, List.setIfInBounds_toArray, List.set_cons_zero, List.set_cons_succ, List.getElem_toArray, List.getElem_cons_succ, List.getElem_cons_zero]
  refine wpAnyH_take (i := 11) (v := (.int .i64 0)) rfl (by kernel_rfl) (by kernel_rfl) (by kernel_rfl) (fun _ _ _ h => h) (Or.inl ⟨by rfl, fun ww hSw => by (try dsimp only at hSw); go_simp⟩) (by assumption) ?_
  simp only [Act.put, List.setIfInBounds_toArray, List.set_cons_zero, List.set_cons_succ, List.getElem_toArray, List.getElem_cons_succ, List.getElem_cons_zero]
  refine wpAnyH_done (by kernel_rfl) ?_ _
  go_upto_region 3 with fail
  refine wp_region_held_drew (S := (fun U => U.cell? ⟨X, 0, .none⟩ = some (.pointer (some ⟨p, 0, .none⟩)) ∧ U.cell? ⟨X, 1, .none⟩ = some (.int .u64 (ad r)))) (by kernel_rfl) kS4 (fun hHeld => ?_)
  refine wpAnyH_take (i := 0) (v := (.pointer (some ⟨X, 0, .none⟩))) rfl (by kernel_rfl) (by kernel_rfl) (by kernel_rfl) (fun _ _ _ h => h) (Or.inl ⟨by rfl, fun ww hSw => by (try dsimp only at hSw); go_simp⟩) (by assumption) ?_
  simp only [Act.put, List.setIfInBounds_toArray, List.set_cons_zero, List.set_cons_succ, List.getElem_toArray, List.getElem_cons_succ, List.getElem_cons_zero]
  refine wpAnyH_take (i := 1) (v := (.pointer (some ⟨p, 0, .none⟩))) rfl (by kernel_rfl) (by kernel_rfl) (by kernel_rfl) (fun _ _ _ h => h) (Or.inl ⟨by rfl, fun ww hSw => by (try dsimp only at hSw); go_simp⟩) (by assumption) ?_
  simp only [Act.put, List.setIfInBounds_toArray, List.set_cons_zero, List.set_cons_succ, List.getElem_toArray, List.getElem_cons_succ, List.getElem_cons_zero]
  refine wpAnyH_take (i := 2) (v := (.int .u64 tp)) rfl (by kernel_rfl) (by kernel_rfl) (by kernel_rfl) (fun _ _ _ h => h) (Or.inl ⟨by rfl, fun ww hSw => by (try dsimp only at hSw); go_simp⟩) (by assumption) ?_
  simp only [Act.put, List.setIfInBounds_toArray, List.set_cons_zero, List.set_cons_succ, List.getElem_toArray, List.getElem_cons_succ, List.getElem_cons_zero]
  refine wpAnyH_ready (rs := [3]) (by kernel_rfl) (by simp) ?_
  refine AllReadyH.cons rfl (fun K hK => ?_) AllReadyH.nil
  go_simp
  go_at_call 62
  refine (c62 _).mono ?_
  rintro _ w4 ⟨rfl, e4⟩
  obtain rfl : w3.drew = w4 := e4.symm
  refine hK.out _ _ kS4 (fun hHeld => ?_)
  clear hK K
  try simp only [Act.put, List.setIfInBounds_toArray, List.set_cons_zero, List.set_cons_succ, List.getElem_toArray, List.getElem_cons_succ, List.getElem_cons_zero]
  refine wpAnyH_ready (rs := [4]) (by kernel_rfl) (by simp) ?_
  refine AllReadyH.cons rfl (fun K hK => ?_) AllReadyH.nil
  go_simp
  go_at_call 35
  refine (c35).mono ?_
  rintro _ w4 ⟨rfl, r4, f4⟩
  have k4 := k3.fra ((Fra.below (Below.refl _ _).drew).trans f4) (by omega) (by omega) (by omega)
  have H4 : Hid (Fra p b m w w4 ∧ Ram w4 p b m N (thr B1 (fr i) (adr L1)) (fr i :: L1)) := ⟨H3.out.1.trans ((Fra.below (Below.refl _ _).drew).trans f4), r4⟩
  clear r4 f4
  refine hK.out _ _ ⟨k4.a, k4.b⟩ (fun hHeld => ?_)
  clear hK K
  try simp only [Act.put, List.setIfInBounds_toArray, List.set_cons_zero, List.set_cons_succ, List.getElem_toArray, List.getElem_cons_succ, List.getElem_cons_zero]
  refine wpAnyH_done (by kernel_rfl) ?_ _
  go_wp2_with fail
  exact bodyPost_end (v := .tuple #[]) (by simp [results, Tryz.results65, go_sem]) rfl ⟨rfl, H4.out.1, _, _, F1, lf1, H4.out.2, H3.out.2⟩
end
/-- A space, with its whole table. -/
structure SpT (W : World) (s p b m N r P ft : Nat) (size : Int) (B : Nat → Int) (L : List Nat) (F : Nat → Option Nat) (lf : Nat → Nat → Int) (fr : Nat → Nat) (c : Nat → Int) : Prop where
  sp : Sp W s p (ad r) size
  sz : 0 ≤ size ∧ (size + 4095) / 4096 = P
  pm : P ≤ 4096
  ram : Ram W p b m N B L
  ne : s ≠ p ∧ s ≠ b ∧ s ≠ m
  tab : SpL N r ft B L F lf fr c (List.range P)
section
variable {w w' : World} {s p b m N r P ft : Nat} {size : Int} {B : Nat → Int} {L : List Nat} {F : Nat → Option Nat} {lf : Nat → Nat → Int} {fr : Nat → Nat} {c : Nat → Int}
theorem SpT.below (h : SpT w s p b m N r P ft size B L F lf fr c) (k : Below w.heap.size w w') : SpT w' s p b m N r P ft size B L F lf fr c := ⟨h.sp.below k, h.sz, h.pm, h.ram.below k, h.ne, h.tab⟩
theorem SpT.su (h : SpT w s p b m N r P ft size B L F lf fr c) : SpU w s p b m N r P size B L F lf fr c := ⟨h.sp, h.sz, h.pm, h.ram, h.tab.pt, h.tab.rt, h.ne, fun i hi => h.tab.pag (List.mem_range.2 hi)⟩
/-- The pages but those from Q on tz j. -/
def gapL (Q j P : Nat) : List Nat := (List.range P).filter fun i => decide (i < Q ∨ j ≤ i)
theorem gapL_mem (Q j P i : Nat) : i ∈ gapL Q j P ↔ i < P ∧ (i < Q ∨ j ≤ i) := by unfold gapL; rw [List.mem_filter, List.mem_range, decide_eq_true_iff]
theorem gapL_nd (Q j P : Nat) : (gapL Q j P).Nodup := List.Pairwise.filter _ List.nodup_range
/-- In the midst of Shrink. -/
def ShI (w : World) (s p b m N r P ft Q : Nat) (B : Nat → Int) (L : List Nat) (F : Nat → Option Nat) (fr : Nat → Nat) (c : Nat → Int) (j : Nat) (W : World) : Prop := Fra p b m w W ∧ ∃ B' L' F' lf', Ram W p b m N B' L' ∧ SpL N r ft B' L' F' lf' fr c (gapL Q j P) ∧ L'.length + nodesF F' + Q = L.length + nodesF F + j ∧ Oth L F fr (List.range P) B L' F' fr (gapL Q j P) B'
/-- What Shrink leaves. -/
def ShP (w : World) (s p b m N r P ft Q : Nat) (tz : Int) (B : Nat → Int) (L : List Nat) (F : Nat → Option Nat) (fr : Nat → Nat) (c : Nat → Int) (e : Ending) (w' : World) : Prop := e = .returned (.int .i64 0) ∧ Tch p b m s w w' ∧ ∃ B' L' F' lf', SpT w' s p b m N r Q ft tz B' L' F' lf' fr c ∧ L'.length + nodesF F' + Q = L.length + nodesF F + P ∧ Oth L F fr (List.range P) B L' F' fr (List.range Q) B'
theorem Sp.resize {W : World} {s p : Nat} {root size tz : Int} (g1 : Sp W s p root size) : Sp (W.setCell ⟨s, 2, .none⟩ (.int .u64 tz)) s p root tz := ⟨(World.cell?_setCell_other _ _ _ _ (by simp)).trans g1.c0, (World.cell?_setCell_other _ _ _ _ (by simp)).trans g1.c1, World.cell?_setCell_same' _ _ _ (by rw [g1.c2]; rfl), fun k => by rw [World.frozen?_setCell]; exact g1.fr k⟩
set_option maxHeartbeats 1000000 in
theorem shrink_any (h : SpT w s p b m N r P ft size B L F lf fr c) (tz : Int) (hto : 0 ≤ tz ∧ tz ≤ size) (Q : Nat) (hQ : (tz + 4095) / 4096 = Q) :
    Calls Tryz.prog 31 #[.pointer (some ⟨s, 0, .none⟩), .int .u64 tz] w (ShP w s p b m N r P ft Q tz B L F fr c) := by
  have hsz := h.sz
  have hpm := h.pm
  have hne := h.ne
  have c43 := made_sp h.sp
  have c46 := fun W => pagesOf_any tz (by omega) W
  rw [hQ] at c46
  have c19 := fun W (hW : Sp W s p (ad r) size) => pages_sp hW (by omega)
  rw [hsz.2] at c19
  have hQP : Q ≤ P := by omega
  have k2 := h.sp.c2
  have hle : ¬ size < tz := by omega
  have H0 : Hid (SpT w s p b m N r P ft size B L F lf fr c) := h
  have HZ : Hid ((tz + 4095) / 4096 = Q ∧ (size + 4095) / 4096 = P) := ⟨hQ, hsz.2⟩
  clear h hQ hsz
  go_enter Tryz.func31, Tryz.ntmps31
  go_upto_region 5 with (go_at_call 43; refine c43.mono ?_; rintro _ w1 ⟨rfl, e1⟩; obtain rfl : w = w1 := e1.symm)
  go_wp2_with (go_at_call 46; refine (c46 _).mono ?_; rintro _ w1 ⟨rfl, e1⟩; obtain rfl : w = w1 := e1.symm)
  go_loopw [5] (fun k wr => ∃ j : Nat, Q ≤ j ∧ j ≤ P ∧ k = .int .i64 j ∧ Hid (ShI w s p b m N r P ft Q B L F fr c j wr)) (fun k _ => (P - intOf k).toNat)
  case atStart =>
    refine ⟨Q, Nat.le_refl _, hQP, rfl, ⟨Fra.refl .., B, L, F, lf, H0.out.ram, H0.out.tab.perm (fun j => by rw [gapL_mem, List.mem_range]; omega) (gapL_nd ..), rfl, ?_⟩⟩
    exact (Oth.refl L F fr (List.range P) B).perm (fun _ => Iff.rfl) (fun j => by rw [gapL_mem, List.mem_range]; omega)
  case round =>
    obtain ⟨j, hj1, hj2, rfl, HJ⟩ := hrel
    have Sr : Sp wr s p (ad r) size := H0.out.sp.fra HJ.out.1 hne.1 hne.2.1 hne.2.2
    have k0 := Sr.c0
    have k1 := Sr.c1
    have k2 := Sr.c2
    have kf := Sr.fr 2
    have d19 := c19 wr Sr
    have HS : Hid (Sp wr s p (ad r) size) := Sr
    clear Sr
    by_cases hjP : j < P
    · have hlt : (j : Int) < P := by omega
      obtain ⟨fw, B1, L1, F1, lf1, r1, t1, n1, o1⟩ := HJ.out
      have c65 := take_any r1 t1 (i := j) (I' := gapL Q (j + 1) P) ((gapL_mem ..).2 ⟨hjP, .inr (Nat.le_refl _)⟩) (fun i => by rw [gapL_mem, gapL_mem]; omega) (gapL_nd ..)
      unfold TkP at c65
      have HN : Hid (Fra p b m w wr ∧ L1.length + nodesF F1 + Q = L.length + nodesF F + j ∧ Oth L F fr (List.range P) B L1 F1 fr (gapL Q j P) B1) := ⟨fw, n1, o1⟩
      clear r1 t1 fw n1 o1 HJ
      go_wp2_with first | (go_at_call 19; refine d19.mono ?_; rintro _ w1 ⟨rfl, e1⟩; obtain rfl : wr = w1 := e1.symm) | (go_at_call 65; refine c65.mono ?_; rintro _ w2 ⟨rfl, f2, Z⟩; have HJ2 : Hid (ShI w s p b m N r P ft Q B L F fr c (j + 1) w2) := (by obtain ⟨B2, L2, F2, lf2, r2, t2, n2, o2⟩ := Z; exact ⟨HN.out.1.trans f2, B2, L2, F2, lf2, r2, t2, (by have := HN.out.2.1; omega), HN.out.2.2.trans o2⟩); clear Z f2 c65)
      exact ⟨⟨j + 1, by omega, by omega, by simp, HJ2⟩, by simp only [intOf]; omega⟩
    · have hlt : ¬ (j : Int) < P := by omega
      go_wp2_with (go_at_call 19; refine d19.mono ?_; rintro _ w1 ⟨rfl, e1⟩; obtain rfl : wr = w1 := e1.symm)
      go_ret
      obtain ⟨fw, B1, L1, F1, lf1, r1, t1, n1, o1⟩ := HJ.out
      have ej : j = P := by omega
      subst ej
      refine ⟨rfl, (Tch.of fw).trans (Tch.set 2 _), B1, L1, F1, lf1, ⟨HS.out.resize, ⟨hto.1, HZ.out.1⟩, by omega, ?_, hne, t1.perm (fun i => by rw [gapL_mem, List.mem_range]; omega) List.nodup_range⟩, n1, o1.perm (fun _ => Iff.rfl) (fun i => by rw [gapL_mem, List.mem_range]; omega)⟩
      exact r1.beside ⟨s, 2, .none⟩ _ (fun e => hne.1 e.symm) (fun e => hne.2.1 e.symm) (fun e => hne.2.2 e.symm)
end
end Go.Proofs.YtblmkkhiojbcjaaGreat
