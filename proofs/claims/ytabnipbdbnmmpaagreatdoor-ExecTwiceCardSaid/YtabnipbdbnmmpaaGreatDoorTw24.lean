import Derived.Test.YtabnipbdbnmmpaaGreatDoorTw22
import Derived.Test.YtabnipbdbnmmpaaGreatDoorTw03
import Derived.Test.YtabnipbdbnmmpaaGreatDoorTw23
set_option linter.unusedVariables false
set_option linter.unusedSimpArgs false
namespace Go.Proofs.YtabnipbdbnmmpaaGreatDoor.Rm
open Go Go.RowKit
section
variable {w : World} {s p b m N : Nat} {B : Nat → Int} {L : List Nat} {F : Nat → Option Nat} {lf : Nat → Nat → Int}
def rdb (c d : Int) : Prop := c = 210 ∧ d = 194 ∨ c = 214 ∧ d = 198 ∨ c = 218 ∧ d = 202 ∨ c = 222 ∧ d = 206
theorem and254 (q : Nat) (hq : q < 4096) {c d : Int} (hc : rdb c d) : bits .and .u64 (toP (ad q) c) 254 = c := by
 have hb := ad_b q 4096 hq (by omega)
 have hv := toP_val (ad q) c ⟨hb.1, hb.2.1⟩ (by unfold rdb at hc; omega) (by unfold rdb at hc; omega)
 have h1 : bits .and .u64 (toP (ad q) c) ((254 : Nat) : Int) = (((toP (ad q) c % 1024).toNat &&& 254 : Nat) : Int) := and_low _ (by rw [hv]; unfold rdb at hc; omega) 254 (by omega)
 have h2 : (toP (ad q) c % 1024).toNat = (c + 1).toNat := by rw [hv]; unfold rdb at hc; omega
 rw [h2] at h1
 refine (show bits .and .u64 (toP (ad q) c) 254 = _ from h1).trans ?_
 rcases hc with ⟨rfl, _⟩ | ⟨rfl, _⟩ | ⟨rfl, _⟩ | ⟨rfl, _⟩ <;> decide
theorem not16 {c d : Int} (hc : rdb c d) : bits .andNot .u64 c 16 = d := by
 rcases hc with ⟨rfl, rfl⟩ | ⟨rfl, rfl⟩ | ⟨rfl, rfl⟩ | ⟨rfl, rfl⟩ <;> decide
theorem rdb_ok {c d : Int} (hc : rdb c d) : (!ho d 18446744073709551361 && ho d 10 && (!hs d 4 || hs d 2)) = true := by
 rcases hc with ⟨rfl, rfl⟩ | ⟨rfl, rfl⟩ | ⟨rfl, rfl⟩ | ⟨rfl, rfl⟩ <;> decide
theorem rdb_leaf {c d : Int} (hc : rdb c d) {f N : Nat} (hf : f < N) (hN : N ≤ 4096) : kd (toP (ad f) d) 0 = 2 ∧ 0 ≤ toP (ad f) d ∧ toP (ad f) d < 18446744073709551616 := by
 have hb := ad_b f N hf hN
 rcases hc with ⟨rfl, rfl⟩ | ⟨rfl, rfl⟩ | ⟨rfl, rfl⟩ | ⟨rfl, rfl⟩ <;> exact leaf_b _ _ ⟨hb.1, hb.2.2, hb.2.1⟩ (by decide) (by decide) (by decide) (by decide)
def UnK (w : World) (p b m N : Nat) (B : Nat → Int) (L : List Nat) (F : Nat → Option Nat) (lf : Nat → Nat → Int) (va tp : Int) (e : Ending) (w' : World) : Prop := e = .returned (.tuple #[.int .u64 tp, .int .i64 0]) ∧ Fra p b m w w' ∧ ∃ B', Ram w' p b m N B' L ∧ PT N L B' F (setE lf (y0 va) (i0 va) 0) ∧ Byo F B B'
theorem unmap_keep {r q : Nat} {c : Int} (h : Ram w p b m N B L) (hP : PT N L B F lf) (hr : F 0 = some r) (va : Int) (hv : 0 ≤ va ∧ va < 274877906944 ∧ va % 4096 = 0) (hq : Pag N L F lf va q c) (k' : Nat) (hk' : k' < 512 ∧ k' ≠ i0 va ∧ kd (lf (y0 va) k') 0 = 2) :
  Calls Tryz.prog 114 #[.pointer (some ⟨p, 0, .none⟩), .int .u64 (ad r), .int .u64 va] w (UnK w p b m N B L F lf va (toP (ad q) c)) := by
 have hz : ∀ x, kd x 0 = 2 → x ≠ 0 := fun x h1 e => by rw [e] at h1; revert h1; decide
 refine (unmap_byt h hP hr va hv (by rw [hq.l]; exact hz _ hq.k)).mono fun e w' h9 => ?_
 obtain ⟨he, g, q1, B', L', F', lf', e1, e0, hpt, hpr, hram, hfra, hby⟩ := h9
 rw [hq.l] at he
 have hno : ¬ ∀ k, k < 512 → setE lf (y0 va) (i0 va) 0 (y0 va) k = 0 := fun hall => by
  have := hall k' hk'.1
  unfold setE at this
  rw [if_neg (fun e => hk'.2.1 e.2)] at this
  exact hz _ hk'.2.2 this
 rcases hpr with ⟨rfl, rfl, rfl, _⟩ | ⟨_, _, _, h4, _⟩ | ⟨_, _, _, h4, _⟩
 ·exact ⟨he, hfra, B', hram, hpt, hby⟩
 ·exact absurd h4 hno
 ·exact absurd h4 hno
def GuQ (w : World) (p b m N : Nat) (B : Nat → Int) (L : List Nat) (F : Nat → Option Nat) (lf : Nat → Nat → Int) (va leaf : Int) (e : Ending) (w' : World) : Prop := e = .returned (.tuple #[]) ∧ Fra p b m w w' ∧ ∃ B', Ram w' p b m N B' L ∧ PT N L B' F (setE lf (y0 va) (i0 va) leaf) ∧ Byo F B B'
theorem setE_set (lf : Nat → Nat → Int) (y i : Nat) (a x : Int) : setE (setE lf y i a) y i x = setE lf y i x := by
 funext u v
 unfold setE
 split <;> rfl
set_option maxHeartbeats 2000000 in
theorem guardT_pt {r q : Nat} (h : Ram w p b m N B L) (hP : PT N L B F lf) (hr : F 0 = some r) (pg : Int) (hpg : 0 ≤ pg ∧ pg < 67108864) {c d : Int} (hcd : rdb c d) (hq : Pag N L F lf (pg * 4096) q c) (k' : Nat) (hk' : k' < 512 ∧ k' ≠ i0 (pg * 4096) ∧ kd (lf (y0 (pg * 4096)) k') 0 = 2) :
  Calls Tryz.prog 150 #[.agg #[.pointer (some ⟨p, 0, .none⟩), .int .u64 (ad r)], .int .i64 pg] w (GuQ w p b m N B L F lf (pg * 4096) (toP (ad q) d)) := by
 have hN := h.mem.n2
 have hqb := ad_b q N hq.qb.1 hN
 obtain ⟨X, hX⟩ : ∃ X, X = w.heap.size := ⟨_, rfl⟩
 obtain ⟨w1, hw1⟩ : ∃ w1, w1 = w.alloc (.cells #[.pointer (some ⟨p, 0, .none⟩), .int .u64 (ad r)] 105) := ⟨_, rfl⟩
 have b1 : Below w.heap.size w w1 := by rw [hw1]; exact (Below.refl _ _).alloc (Nat.le_refl _) _
 have k1 : C2w w1 X (.pointer (some ⟨p, 0, .none⟩)) (.int .u64 (ad r)) := by
  rw [hw1, hX]
  exact ⟨by simp, by simp, fun k => World.frozen?_alloc_new _ _ _ _⟩
 have hp : p < X := by rw [hX]; exact lt_of_cell h.mem.c0
 have hb : b < X := by rw [hX]; exact lt_of_cell (h.mem.cb 0 (by have := h.mem.n1; omega))
 have hm : m < X := by rw [hX]; exact h.mem.mlt
 have c153 := unmap_keep (w := w1.drew) (h.below b1).drew hP hr (pg * 4096) ⟨by omega, by omega, by omega⟩ hq k' hk'
 have hval := hq.val hN
 have hbd : 0 ≤ toP (ad q) c ∧ toP (ad q) c < 18014398509481984 := by rw [hval]; unfold rdb at hcd; omega
 have hfr : toP (ad q) c / 1024 * 4096 = ad q := by rw [hval]; unfold rdb at hcd; omega
 have c152 := fun W => frameOf_any (toP (ad q) c) hbd W
 rw [hfr] at c152
 have h254 := and254 q (by have := hq.qb.1; omega) hcd
 have h16 := not16 hcd
 have hlf := rdb_leaf hcd hq.qb.1 hN
 have kS : w1.drew.cell? ⟨X, 0, .none⟩ = some (.pointer (some ⟨p, 0, .none⟩)) ∧ w1.drew.cell? ⟨X, 1, .none⟩ = some (.int .u64 (ad r)) := ⟨k1.a, k1.b⟩
 have HW : Hid (Below w.heap.size w w1 ∧ C2w w1 X (.pointer (some ⟨p, 0, .none⟩)) (.int .u64 (ad r)) ∧ F 0 = some r ∧ (∃ g, F (y1 (pg * 4096)) = some g) ∧ (∃ g, F (y0 (pg * 4096)) = some g) ∧ rdb c d ∧ kd (toP (ad q) d) 0 = 2 ∧ 0 ≤ toP (ad q) d ∧ toP (ad q) d < 18446744073709551616) := ⟨b1, k1, hr, hq.w1, hq.w0, hcd, hlf⟩
 clear h hP hq hk' hr hcd hlf b1 k1 hval hbd hfr
 unfold UnK at c153
 generalize toP (ad q) c = tp at *
 go_enter Tryz.func150, Tryz.ntmps150
 go_upto_region 1 with fail
 rw [← hw1, ← hX]
 have HXX : Hid (X = w.heap.size) := hX
 clear hw1 hX
 refine wp_region_held_drew (S := (fun U => U.cell? ⟨X, 0, .none⟩ = some (.pointer (some ⟨p, 0, .none⟩)) ∧ U.cell? ⟨X, 1, .none⟩ = some (.int .u64 (ad r)))) (by kernel_rfl) kS (fun hHeld => ?_)
 refine wpAnyH_take (i := 0) (v := (.pointer (some ⟨X, 0, .none⟩))) rfl (by kernel_rfl) (by kernel_rfl) (by kernel_rfl) (fun _ _ _ h => h) (Or.inl ⟨by rfl, fun ww hSw => by (try dsimp only at hSw); go_simp⟩) (by assumption) ?_
 simp only [Act.put, List.setIfInBounds_toArray, List.set_cons_zero, List.set_cons_succ, List.getElem_toArray, List.getElem_cons_succ, List.getElem_cons_zero]
 refine wpAnyH_take (i := 1) (v := (.pointer (some ⟨p, 0, .none⟩))) rfl (by kernel_rfl) (by kernel_rfl) (by kernel_rfl) (fun _ _ _ h => h) (Or.inl ⟨by rfl, fun ww hSw => by (try dsimp only at hSw); go_simp⟩) (by assumption) ?_
 simp only [Act.put, List.setIfInBounds_toArray, List.set_cons_zero, List.set_cons_succ, List.getElem_toArray, List.getElem_cons_succ, List.getElem_cons_zero]
 refine wpAnyH_take (i := 2) (v := (.pointer (some ⟨X, 1, .none⟩))) rfl (by kernel_rfl) (by kernel_rfl) (by kernel_rfl) (fun _ _ _ h => h) (Or.inl ⟨by rfl, fun ww hSw => by (try dsimp only at hSw); go_simp⟩) (by assumption) ?_
 simp only [Act.put, List.setIfInBounds_toArray, List.set_cons_zero, List.set_cons_succ, List.getElem_toArray, List.getElem_cons_succ, List.getElem_cons_zero]
 refine wpAnyH_take (i := 3) (v := (.int .u64 (ad r))) rfl (by kernel_rfl) (by kernel_rfl) (by kernel_rfl) (fun _ _ _ h => h) (Or.inl ⟨by rfl, fun ww hSw => by (try dsimp only at hSw); go_simp⟩) (by assumption) ?_
 simp only [Act.put, List.setIfInBounds_toArray, List.set_cons_zero, List.set_cons_succ, List.getElem_toArray, List.getElem_cons_succ, List.getElem_cons_zero]
 refine wpAnyH_take (i := 4) (v := (.int .i64 pg)) rfl (by kernel_rfl) (by kernel_rfl) (by kernel_rfl) (fun _ _ _ h => h) (Or.inl ⟨by rfl, fun ww hSw => by (try dsimp only at hSw); go_simp⟩) (by assumption) ?_
 simp only [Act.put, List.setIfInBounds_toArray, List.set_cons_zero, List.set_cons_succ, List.getElem_toArray, List.getElem_cons_succ, List.getElem_cons_zero]
 refine wpAnyH_ready (rs := [5]) (by kernel_rfl) (by simp) ?_
 refine AllReadyH.cons rfl (fun K hK => ?_) AllReadyH.nil
 go_simp
 go_at_call 98
 refine (addrOf_any pg (by omega) _).mono ?_
 rintro _ w3 ⟨rfl, e3⟩
 obtain rfl : w1.drew = w3 := e3.symm
 refine hK.out _ _ kS (fun hHeld => ?_)
 clear hK K
 try simp only [Act.put, List.setIfInBounds_toArray, List.set_cons_zero, List.set_cons_succ, List.getElem_toArray, List.getElem_cons_succ, List.getElem_cons_zero]
 refine wpAnyH_ready (rs := [6]) (by kernel_rfl) (by simp) ?_
 refine AllReadyH.cons rfl (fun K hK => ?_) AllReadyH.nil
 go_simp
 go_at_call 114
 refine c153.mono ?_
 rintro _ w3 ⟨rfl, f3, B', r3, P3, y3⟩
 have H3 : Hid (Fra p b m w w3 ∧ Ram w3 p b m N B' L ∧ PT N L B' F (setE lf (y0 (pg * 4096)) (i0 (pg * 4096)) 0) ∧ Byo F B B') := ⟨(Fra.below HW.out.1).trans ((Fra.below (Below.refl _ _).drew).trans f3), r3, P3, y3⟩
 have k3 := HW.out.2.1.fra ((Fra.below (Below.refl _ _).drew).trans f3) (by omega) (by omega) (by omega)
 have kS3 : w3.cell? ⟨X, 0, .none⟩ = some (.pointer (some ⟨p, 0, .none⟩)) ∧ w3.cell? ⟨X, 1, .none⟩ = some (.int .u64 (ad r)) := ⟨k3.a, k3.b⟩
 clear f3 r3 P3 y3 c153
 refine hK.out _ _ kS3 (fun hHeld => ?_)
 clear hK K
 try simp only [Act.put, List.setIfInBounds_toArray, List.set_cons_zero, List.set_cons_succ, List.getElem_toArray, List.getElem_cons_succ, List.getElem_cons_zero]
 refine wpAnyH_take (i := 7) (v := (.tuple #[.int .u64 tp, .int .i64 0])) rfl (by kernel_rfl) (by kernel_rfl) (by kernel_rfl) (fun _ _ _ h => h) (Or.inl ⟨by rfl, fun ww hSw => by (try dsimp only at hSw); go_simp⟩) (by assumption) ?_
 simp only [Act.put, List.setIfInBounds_toArray, List.set_cons_zero, List.set_cons_succ, List.getElem_toArray, List.getElem_cons_succ, List.getElem_cons_zero]
 refine wpAnyH_take (i := 8) (v := (.int .u64 tp)) rfl (by kernel_rfl) (by kernel_rfl) (by kernel_rfl) (fun _ _ _ h => h) (Or.inl ⟨by rfl, fun ww hSw => by (try dsimp only at hSw); go_simp⟩) (by assumption) ?_
 simp only [Act.put, List.setIfInBounds_toArray, List.set_cons_zero, List.set_cons_succ, List.getElem_toArray, List.getElem_cons_succ, List.getElem_cons_zero]
 refine wpAnyH_take (i := 9) (v := (.int .i64 0)) rfl (by kernel_rfl) (by kernel_rfl) (by kernel_rfl) (fun _ _ _ h => h) (Or.inl ⟨by rfl, fun ww hSw => by (try dsimp only at hSw); go_simp⟩) (by assumption) ?_
 simp only [Act.put, List.setIfInBounds_toArray, List.set_cons_zero, List.set_cons_succ, List.getElem_toArray, List.getElem_cons_succ, List.getElem_cons_zero]
 refine wpAnyH_take (i := 10) (v := (.int .u64 tp)) rfl (by kernel_rfl) (by kernel_rfl) (by kernel_rfl) (fun _ _ _ h => h) (Or.inl ⟨by rfl, fun ww hSw => by (try dsimp only at hSw); go_simp⟩) (by assumption) ?_
 simp only [Act.put, List.setIfInBounds_toArray, List.set_cons_zero, List.set_cons_succ, List.getElem_toArray, List.getElem_cons_succ, List.getElem_cons_zero]
 refine wpAnyH_take (i := 11) (v := (.int .i64 0)) rfl (by kernel_rfl) (by kernel_rfl) (by kernel_rfl) (fun _ _ _ h => h) (Or.inl ⟨by rfl, fun ww hSw => by (try dsimp only at hSw); go_simp⟩) (by assumption) ?_
 simp only [Act.put, List.setIfInBounds_toArray, List.set_cons_zero, List.set_cons_succ, List.getElem_toArray, List.getElem_cons_succ, List.getElem_cons_zero]
 refine wpAnyH_done (by kernel_rfl) ?_ _
 have kS4 : w3.drew.cell? ⟨X, 0, .none⟩ = some (.pointer (some ⟨p, 0, .none⟩)) ∧ w3.drew.cell? ⟨X, 1, .none⟩ = some (.int .u64 (ad r)) := kS3
 have c107 := map_pt (w := w3.drew) H3.out.2.1.drew H3.out.2.2.1 HW.out.2.2.1 (pg * 4096) (ad q) d (by omega) (by omega) ⟨hqb.1, hqb.2.2, hqb.2.1⟩ (rdb_ok HW.out.2.2.2.2.2.1) HW.out.2.2.2.2.2.2 (by unfold setE; rw [if_pos ⟨rfl, rfl⟩]) (by
  obtain ⟨g1, e1⟩ := HW.out.2.2.2.1
  obtain ⟨g0, e0⟩ := HW.out.2.2.2.2.1
  unfold needY
  rw [e1, e0]
  simp)
 have hnd : needY F (pg * 4096) = 0 := by
  obtain ⟨g1, e1⟩ := HW.out.2.2.2.1
  obtain ⟨g0, e0⟩ := HW.out.2.2.2.2.1
  unfold needY
  rw [e1, e0]
  simp
 rw [hnd] at c107
 clear hnd
 go_upto_region 3 with fail
 refine wp_region_held_drew (S := (fun U => U.cell? ⟨X, 0, .none⟩ = some (.pointer (some ⟨p, 0, .none⟩)) ∧ U.cell? ⟨X, 1, .none⟩ = some (.int .u64 (ad r)))) (by kernel_rfl) kS4 (fun hHeld => ?_)
 refine wpAnyH_take (i := 0) (v := (.pointer (some ⟨X, 0, .none⟩))) rfl (by kernel_rfl) (by kernel_rfl) (by kernel_rfl) (fun _ _ _ h => h) (Or.inl ⟨by rfl, fun ww hSw => by (try dsimp only at hSw); go_simp⟩) (by assumption) ?_
 simp only [Act.put, List.setIfInBounds_toArray, List.set_cons_zero, List.set_cons_succ, List.getElem_toArray, List.getElem_cons_succ, List.getElem_cons_zero]
 refine wpAnyH_take (i := 1) (v := (.pointer (some ⟨p, 0, .none⟩))) rfl (by kernel_rfl) (by kernel_rfl) (by kernel_rfl) (fun _ _ _ h => h) (Or.inl ⟨by rfl, fun ww hSw => by (try dsimp only at hSw); go_simp⟩) (by assumption) ?_
 simp only [Act.put, List.setIfInBounds_toArray, List.set_cons_zero, List.set_cons_succ, List.getElem_toArray, List.getElem_cons_succ, List.getElem_cons_zero]
 refine wpAnyH_take (i := 2) (v := (.pointer (some ⟨X, 1, .none⟩))) rfl (by kernel_rfl) (by kernel_rfl) (by kernel_rfl) (fun _ _ _ h => h) (Or.inl ⟨by rfl, fun ww hSw => by (try dsimp only at hSw); go_simp⟩) (by assumption) ?_
 simp only [Act.put, List.setIfInBounds_toArray, List.set_cons_zero, List.set_cons_succ, List.getElem_toArray, List.getElem_cons_succ, List.getElem_cons_zero]
 refine wpAnyH_take (i := 3) (v := (.int .u64 (ad r))) rfl (by kernel_rfl) (by kernel_rfl) (by kernel_rfl) (fun _ _ _ h => h) (Or.inl ⟨by rfl, fun ww hSw => by (try dsimp only at hSw); go_simp⟩) (by assumption) ?_
 simp only [Act.put, List.setIfInBounds_toArray, List.set_cons_zero, List.set_cons_succ, List.getElem_toArray, List.getElem_cons_succ, List.getElem_cons_zero]
 refine wpAnyH_take (i := 4) (v := (.int .i64 pg)) rfl (by kernel_rfl) (by kernel_rfl) (by kernel_rfl) (fun _ _ _ h => h) (Or.inl ⟨by rfl, fun ww hSw => by (try dsimp only at hSw); go_simp⟩) (by assumption) ?_
 simp only [Act.put, List.setIfInBounds_toArray, List.set_cons_zero, List.set_cons_succ, List.getElem_toArray, List.getElem_cons_succ, List.getElem_cons_zero]
 refine wpAnyH_take (i := 6) (v := (.int .u64 tp)) rfl (by kernel_rfl) (by kernel_rfl) (by kernel_rfl) (fun _ _ _ h => h) (Or.inl ⟨by rfl, fun ww hSw => by (try dsimp only at hSw); go_simp⟩) (by assumption) ?_
 simp only [Act.put, List.setIfInBounds_toArray, List.set_cons_zero, List.set_cons_succ, List.getElem_toArray, List.getElem_cons_succ, List.getElem_cons_zero]
 refine wpAnyH_take (i := 8) (v := (.int .u64 tp)) rfl (by kernel_rfl) (by kernel_rfl) (by kernel_rfl) (fun _ _ _ h => h) (Or.inl ⟨by rfl, fun ww hSw => by (try dsimp only at hSw); go_simp⟩) (by assumption) ?_
 simp only [Act.put, List.setIfInBounds_toArray, List.set_cons_zero, List.set_cons_succ, List.getElem_toArray, List.getElem_cons_succ, List.getElem_cons_zero]
 refine wpAnyH_take (i := 9) (v := (.int .u64 c)) rfl (by kernel_rfl) (by kernel_rfl) (by kernel_rfl) (fun _ _ _ h => h) (Or.inl ⟨by rfl, fun ww hSw => by (try dsimp only at hSw); go_simp⟩) (by assumption) ?_
 simp only [Act.put, List.setIfInBounds_toArray, List.set_cons_zero, List.set_cons_succ, List.getElem_toArray, List.getElem_cons_succ, List.getElem_cons_zero]
 refine wpAnyH_take (i := 10) (v := (.int .u64 d)) rfl (by kernel_rfl) (by kernel_rfl) (by kernel_rfl) (fun _ _ _ h => h) (Or.inl ⟨by rfl, fun ww hSw => by (try dsimp only at hSw); go_simp⟩) (by assumption) ?_
 simp only [Act.put, List.setIfInBounds_toArray, List.set_cons_zero, List.set_cons_succ, List.getElem_toArray, List.getElem_cons_succ, List.getElem_cons_zero]
 refine wpAnyH_ready (rs := [5]) (by kernel_rfl) (by simp) ?_
 refine AllReadyH.cons rfl (fun K hK => ?_) AllReadyH.nil
 go_simp
 go_at_call 98
 refine (addrOf_any pg (by omega) _).mono ?_
 rintro _ w4 ⟨rfl, e4⟩
 obtain rfl : w3.drew = w4 := e4.symm
 refine hK.out _ _ kS4 (fun hHeld => ?_)
 clear hK K
 try simp only [Act.put, List.setIfInBounds_toArray, List.set_cons_zero, List.set_cons_succ, List.getElem_toArray, List.getElem_cons_succ, List.getElem_cons_zero]
 refine wpAnyH_ready (rs := [7]) (by kernel_rfl) (by simp) ?_
 refine AllReadyH.cons rfl (fun K hK => ?_) AllReadyH.nil
 go_simp
 go_at_call 128
 refine (c152 _).mono ?_
 rintro _ w4 ⟨rfl, e4⟩
 obtain rfl : w3.drew = w4 := e4.symm
 refine hK.out _ _ kS4 (fun hHeld => ?_)
 clear hK K
 try simp only [Act.put, List.setIfInBounds_toArray, List.set_cons_zero, List.set_cons_succ, List.getElem_toArray, List.getElem_cons_succ, List.getElem_cons_zero]
 refine wpAnyH_ready (rs := [11]) (by kernel_rfl) (by simp) ?_
 refine AllReadyH.cons rfl (fun K hK => ?_) AllReadyH.nil
 go_simp
 go_at_call 145
 refine c107.mono ?_
 rintro _ w4 ⟨rfl, B2, L2, F2, R2, e2, r4, f4⟩
 rw [List.take_zero, List.nil_append] at e2
 subst e2
 have H4 : Hid (Fra p b m w w4 ∧ Ram w4 p b m N B2 L ∧ PT N L B2 F (setE lf (y0 (pg * 4096)) (i0 (pg * 4096)) (toP (ad q) d)) ∧ Byo F B B2) := by
  have eF : F2 = F := funext fun x => by
   cases hF : F x with
   | some f => exact R2.ext x f hF
   | none =>
    cases hG : F2 x with
    | none => rfl
    | some f =>
     rcases R2.new x f hG with e | ⟨e, e', _⟩
     ·rw [hF] at e; cases e
     ·exact absurd e e'
  subst eF
  refine ⟨H3.out.1.trans ((Fra.below (Below.refl _ _).drew).trans f4), r4, by have := R2.pt; rw [setE_set] at this; exact this, fun f hf k hk => (R2.byt f hf k hk).trans (H3.out.2.2.2 f hf k hk)⟩
 have k4 := k3.fra ((Fra.below (Below.refl _ _).drew).trans f4) (by omega) (by omega) (by omega)
 clear R2 r4 f4 c107
 refine hK.out _ _ ⟨k4.a, k4.b⟩ (fun hHeld => ?_)
 clear hK K
 try simp only [Act.put, List.setIfInBounds_toArray, List.set_cons_zero, List.set_cons_succ, List.getElem_toArray, List.getElem_cons_succ, List.getElem_cons_zero]
 refine wpAnyH_done (by kernel_rfl) ?_ _
 go_wp2_with fail
 refine bodyPost_end (v := .tuple #[]) (by simp [results, Tryz.results150, go_sem]) rfl ⟨rfl, H4.out.1, B2, H4.out.2⟩
set_option maxHeartbeats 1000000 in
theorem guard_pt {r q : Nat} {size : Int} (hS : Sp w s p (ad r) size) (h : Ram w p b m N B L) (hP : PT N L B F lf) (hr : F 0 = some r) (hne : s ≠ p ∧ s ≠ b ∧ s ≠ m) (pg : Int) (hpg : 0 ≤ pg ∧ pg < 67108864) (hsz : pg * 4096 < size ∧ size ≤ 1099511627776) {c d : Int} (hcd : rdb c d) (hq : Pag N L F lf (pg * 4096) q c) (k' : Nat) (hk' : k' < 512 ∧ k' ≠ i0 (pg * 4096) ∧ kd (lf (y0 (pg * 4096)) k') 0 = 2) :
  Calls Tryz.prog 96 #[.pointer (some ⟨s, 0, .none⟩), .int .i64 pg] w fun e w' => e = .returned (.int .i64 0) ∧ Fra p b m w w' ∧ ∃ B', Ram w' p b m N B' L ∧ PT N L B' F (setE lf (y0 (pg * 4096)) (i0 (pg * 4096)) (toP (ad q) d)) ∧ Byo F B B' := by
 have c33 := made_sp hS
 have c77 := pages_sp hS (by omega)
 have c112 := guardT_pt h hP hr pg hpg hcd hq k' hk'
 unfold GuQ at c112
 have hlt : ¬ ((size + 4095) / 4096 ≤ pg) := by omega
 have k0 := hS.c0
 have k1 := hS.c1
 clear hS h hP hq hk' hr hcd
 generalize (size + 4095) / 4096 = P at *
 go_enter Tryz.func96, Tryz.ntmps96
 go_wp2_with first | (go_at_call 46; refine c33.mono ?_; rintro _ w1 ⟨rfl, e1⟩; obtain rfl : w = w1 := e1.symm) | (go_at_call 99; refine c77.mono ?_; rintro _ w1 ⟨rfl, e1⟩; obtain rfl : w = w1 := e1.symm) | (go_at_call 150; refine c112.mono ?_; rintro _ w3 ⟨rfl, f3, B', r3⟩; have H3 : Hid (Fra p b m w w3 ∧ Ram w3 p b m N B' L ∧ PT N L B' F (setE lf (y0 (pg * 4096)) (i0 (pg * 4096)) (toP (ad q) d)) ∧ Byo F B B') := ⟨f3, r3⟩; clear f3 r3)
 go_ret
 exact ⟨rfl, H3.out.1, B', H3.out.2⟩
end
end Go.Proofs.YtabnipbdbnmmpaaGreatDoor.Rm
namespace Go.Proofs.YtabnipbdbnmmpaaGreatDoor.Rm
open Go Go.RowKit
section
variable {w : World} {s p b m N r P K : Nat} {B : Nat → Int} {L : List Nat} {F : Nat → Option Nat} {lf : Nat → Nat → Int} {fr : Nat → Nat} {c : Nat → Int}
def GdP (w : World) (s p b m N r P K : Nat) (fr : Nat → Nat) (c : Nat → Int) (e : Ending) (w' : World) : Prop := e = .returned (.int .i64 0) ∧ (∃ B' L' F' lf', SpG w' s p b m N r P K B' L' F' lf' fr c) ∧ Fra p b m w w'
theorem SpG.guard (h : SpG w s p b m N r P K B L F lf fr c) (hP : P ≤ 512) (i : Nat) (hi : 1 ≤ i ∧ i < P) {d : Int} (hd : rdb (c i) d) : Calls Tryz.prog 96 #[.pointer (some ⟨s, 0, .none⟩), .int .i64 (i : Int)] w (GdP w s p b m N r P K fr (upd c i d)) := by
 have hN := h.su.ram.mem.n2
 have hq := h.su.pag i hi.2
 have h0 := h.su.pag 0 (by omega)
 have e00 : y0 (((0 : Nat) : Int) * 4096) = 513 ∧ i0 (((0 : Nat) : Int) * 4096) = 0 := ⟨low_y0 0 (by omega), low_i0 0 (by omega)⟩
 refine (guard_pt h.su.sp h.su.ram h.su.pt h.su.rt h.su.ne (i : Int) (by omega) (by omega) hd hq 0 ⟨by omega, by rw [low_i0 i (by omega)]; omega, ?_⟩).mono fun e w' h9 => ?_
 ·have hl := h0.l
  have hk := h0.k
  rw [e00.1, e00.2] at hl
  rw [low_y0 i (by omega), hl]
  exact hk
 ·obtain ⟨he, hfra, B', hram, hpt, hby⟩ := h9
  rw [low_y0 i (by omega), low_i0 i (by omega)] at hpt
  refine ⟨he, ⟨B', L, F, _, ⟨h.su.sp.fra hfra h.su.ne.1 h.su.ne.2.1 h.su.ne.2.2, h.su.sz, h.su.pm, hram, hpt, h.su.rt, h.su.ne, fun j hj => ?_⟩, fun k h1 h2 => ?_, h.nod, h.len, h.inj⟩, hfra⟩
  ·have hqj := h.su.pag j hj
   unfold upd
   by_cases hij : j = i
   ·subst hij
    rw [if_pos rfl]
    have hl := rdb_leaf hd hq.qb.1 hN
    refine ⟨hq.w1, hq.w0, ?_, hl.1, by unfold rdb at hd; omega, hq.qb, hq.nn⟩
    rw [low_y0 j (by omega), low_i0 j (by omega)]
    unfold setE
    rw [if_pos ⟨rfl, rfl⟩]
   ·rw [if_neg hij]
    refine ⟨hqj.w1, hqj.w0, ?_, hqj.k, hqj.cb, hqj.qb, hqj.nn⟩
    have := hqj.l
    rw [low_y0 j (by omega), low_i0 j (by omega)] at this ⊢
    unfold setE
    rw [if_neg (fun e => hij e.2)]
    exact this
  ·unfold setE
   rw [if_neg (fun e => by omega)]
   exact h.zr k h1 h2
end
end Go.Proofs.YtabnipbdbnmmpaaGreatDoor.Rm
