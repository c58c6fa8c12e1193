import Derived.Test.YtabnipbdbnmmpaaGreatDoorTw30
set_option linter.unusedVariables false
set_option linter.unusedSimpArgs false
namespace Go.Proofs.YtabnipbdbnmmpaaGreatDoor
open Go.RowKit
theorem pow2 : (256 : Int) ^ 2 = 65536 := by decide
def cntB (B : Nat → Int) : Nat := (num B 56 2).toNat
def froB (B : Nat → Int) : Nat := (num B 32 8).toNat
theorem cnt_e (B : Nat → Int) (hB : ∀ i, 0 ≤ B i ∧ B i < 256) : (cntB B : Int) = num B 56 2 ∧ cntB B < 65536 := by
 have h := num_bd B hB 56 2
 rw [pow2] at h
 have e : (cntB B : Int) = num B 56 2 := Int.toNat_of_nonneg h.1
 exact ⟨e, by omega⟩
theorem fro_e (B : Nat → Int) (hB : ∀ i, 0 ≤ B i ∧ B i < 256) : (froB B : Int) = num B 32 8 ∧ froB B < 18446744073709551616 := by
 have h := num_bd B hB 32 8
 rw [pow8] at h
 have e : (froB B : Int) = num B 32 8 := Int.toNat_of_nonneg h.1
 exact ⟨e, by omega⟩
set_option maxHeartbeats 2000000 in
theorem heads_any {w : World} {rb b o n c : Nat} {B : Nat → Int} (hL : Laid w) (hF : Fil w rb b o n c B) (h64 : 64 ≤ n) (hn : n ≤ 262144) : Calls Tryz.prog 173 #[.pointer (some ⟨rb, 0, .none⟩)] w fun e w' =>
  ((cntB B = 0 ∨ 64 < cntB B) ∧ Up w 56 143 e w') ∨ (¬ (cntB B = 0 ∨ 64 < cntB B) ∧ ((¬ froB B + cntB B * 56 ≤ n ∧ Up w 32 140 e w') ∨ (froB B + cntB B * 56 ≤ n ∧ e = .returned (.tuple #[.int .i64 (froB B), .int .u64 (cntB B)]) ∧ Below w.heap.size w w'))) := by
 have HL : Hid (Laid w) := hL
 have HF : Hid (Fil w rb b o n c B) := hF
 obtain ⟨ec, lc⟩ := cnt_e B hF.bd
 obtain ⟨ef, lf⟩ := fro_e B hF.bd
 have HEc : Hid ((cntB B : Int) = num B 56 2) := ec
 have HEf : Hid ((froB B : Int) = num B 32 8) := ef
 clear ec ef
 have t0 := hL.h0 11 (by omega)
 have t1 := hL.h0 8 (by omega)
 clear hL hF
 go_enter Tryz.func173, Tryz.ntmps173
 have bd_V1 : Below w.heap.size w w.drew := (Below.refl _ _).drew
 have ks_V1 : (w.drew.cell? ⟨0, 33, .none⟩ = some (.int .i64 56) ∧ w.drew.cell? ⟨0, 34, .none⟩ = some (.int .i64 2) ∧ w.drew.cell? ⟨0, 35, .none⟩ = some (.int .u64 0)) ∧ w.drew.cell? ⟨rb, 0, .none⟩ = some (.slice (some ⟨b, o, .none⟩) n c) := ⟨⟨(HL.out.below bd_V1).h0 11 (by omega), (HL.out.below bd_V1).h1 11 (by omega), (HL.out.below bd_V1).h2 11 (by omega)⟩, (HF.out.below bd_V1).f0⟩
 go_upto_region 1 with fail
 refine wp_region_held_drew (S := fun U2 => (U2.cell? ⟨0, 33, .none⟩ = some (.int .i64 56) ∧ U2.cell? ⟨0, 34, .none⟩ = some (.int .i64 2) ∧ U2.cell? ⟨0, 35, .none⟩ = some (.int .u64 0)) ∧ U2.cell? ⟨rb, 0, .none⟩ = some (.slice (some ⟨b, o, .none⟩) n c)) (by kernel_rfl) ks_V1 (fun hHeld => ?_)
 refine wpAnyH_take (i := 0) (v := (.pointer (some ⟨0, 33, .none⟩))) rfl (by kernel_rfl) (by kernel_rfl) (by kernel_rfl) (fun _ _ _ h => h) (Or.inl ⟨by rfl, fun ww hSw => by (try dsimp only at hSw); go_simp⟩) (by assumption) ?_
 simp only [Act.put, List.setIfInBounds_toArray, List.set_cons_zero, List.set_cons_succ, List.getElem_toArray, List.getElem_cons_succ, List.getElem_cons_zero]
 refine wpAnyH_take (i := 1) (v := (.agg #[.int .i64 56, .int .i64 2, .int .u64 0])) rfl (by kernel_rfl) (by kernel_rfl) (by kernel_rfl) (fun _ _ _ h => h) (Or.inl ⟨by rfl, fun ww hSw => by (try dsimp only at hSw); go_simp⟩) (by assumption) ?_
 simp only [Act.put, List.setIfInBounds_toArray, List.set_cons_zero, List.set_cons_succ, List.getElem_toArray, List.getElem_cons_succ, List.getElem_cons_zero]
 refine wpAnyH_take (i := 2) (v := (.pointer (some ⟨rb, 0, .none⟩))) rfl (by kernel_rfl) (by kernel_rfl) (by kernel_rfl) (fun _ _ _ h => h) (Or.inl ⟨by rfl, fun ww hSw => by (try dsimp only at hSw); go_simp⟩) (by assumption) ?_
 simp only [Act.put, List.setIfInBounds_toArray, List.set_cons_zero, List.set_cons_succ, List.getElem_toArray, List.getElem_cons_succ, List.getElem_cons_zero]
 refine wpAnyH_take (i := 3) (v := (.pointer (some ⟨rb, 0, .none⟩))) rfl (by kernel_rfl) (by kernel_rfl) (by kernel_rfl) (fun _ _ _ h => h) (Or.inl ⟨by rfl, fun ww hSw => by (try dsimp only at hSw); go_simp⟩) (by assumption) ?_
 simp only [Act.put, List.setIfInBounds_toArray, List.set_cons_zero, List.set_cons_succ, List.getElem_toArray, List.getElem_cons_succ, List.getElem_cons_zero]
 refine wpAnyH_take (i := 4) (v := (.pointer (some ⟨rb, 0, .none⟩))) rfl (by kernel_rfl) (by kernel_rfl) (by kernel_rfl) (fun _ _ _ h => h) (Or.inl ⟨by rfl, fun ww hSw => by (try dsimp only at hSw); go_simp⟩) (by assumption) ?_
 simp only [Act.put, List.setIfInBounds_toArray, List.set_cons_zero, List.set_cons_succ, List.getElem_toArray, List.getElem_cons_succ, List.getElem_cons_zero]
 refine wpAnyH_take (i := 5) (v := (.slice (some ⟨b, o, .none⟩) n c)) rfl (by kernel_rfl) (by kernel_rfl) (by kernel_rfl) (fun _ _ _ h => h) (Or.inl ⟨by rfl, fun ww hSw => by (try dsimp only at hSw); go_simp⟩) (by assumption) ?_
 simp only [Act.put, List.setIfInBounds_toArray, List.set_cons_zero, List.set_cons_succ, List.getElem_toArray, List.getElem_cons_succ, List.getElem_cons_zero]
 refine wpAnyH_ready (rs := [6]) (by kernel_rfl) (by simp) ?_
 refine AllReadyH.cons rfl (fun K hK => ?_) AllReadyH.nil
 go_simp
 go_at_call 176
 refine (in_any b o n c 56 2 0 B _ (by omega) HF.out.nc.1 HF.out.nc.2 (by omega) (by omega) HF.out.bd (HF.out.row.keep bd_V1)).mono ?_
 rintro e V1 ⟨rfl, hb_V1⟩
 have b_V1 : Below w.heap.size w V1 := bd_V1.trans (hb_V1.mono bd_V1.size)
 have kt_V1 : (V1.cell? ⟨0, 33, .none⟩ = some (.int .i64 56) ∧ V1.cell? ⟨0, 34, .none⟩ = some (.int .i64 2) ∧ V1.cell? ⟨0, 35, .none⟩ = some (.int .u64 0)) ∧ V1.cell? ⟨rb, 0, .none⟩ = some (.slice (some ⟨b, o, .none⟩) n c) := ⟨⟨(HL.out.below b_V1).h0 11 (by omega), (HL.out.below b_V1).h1 11 (by omega), (HL.out.below b_V1).h2 11 (by omega)⟩, (HF.out.below b_V1).f0⟩
 refine hK.out _ _ kt_V1 (fun hHeld => ?_)
 clear hK K
 try simp only [Act.put, List.setIfInBounds_toArray, List.set_cons_zero, List.set_cons_succ, List.getElem_toArray, List.getElem_cons_succ, List.getElem_cons_zero]
 refine wpAnyH_take (i := 7) (v := (.int .u64 (num B 56 2))) rfl (by kernel_rfl) (by kernel_rfl) (by kernel_rfl) (fun _ _ _ h => h) (Or.inl ⟨by rfl, fun ww hSw => by (try dsimp only at hSw); go_simp⟩) (by assumption) ?_
 simp only [Act.put, List.setIfInBounds_toArray, List.set_cons_zero, List.set_cons_succ, List.getElem_toArray, List.getElem_cons_succ, List.getElem_cons_zero]
 refine wpAnyH_done (by kernel_rfl) ?_ _
 clear hHeld ks_V1 kt_V1 hb_V1 bd_V1
 rw [← HEc.out]
 have u0 : V1.cell? ⟨0, 33, .none⟩ = some (.int .i64 56) := (HL.out.below b_V1).h0 11 (by omega)
 by_cases hc0 : cntB B = 0
 ·have g0 : ((cntB B : Int) == 0) = true := by simp [hc0]
  have HC0 : Hid (cntB B = 0) := hc0
  clear hc0
  go_wp2_with (first | (go_at_call 175; refine (giveUp_any _ _ _).mono ?_; intro e w0 hu; obtain ⟨v, rfl, hu2⟩ := id hu) | fail)
  exact ⟨rfl, .inl ⟨.inl HC0.out, hu.back b_V1⟩⟩
 ·have g0 : ((cntB B : Int) == 0) = false := by simp; omega
  by_cases hc1 : 64 < cntB B
  ·have g1 : (cntB B : Int) > 64 := by omega
   go_wp2_with (first | (go_at_call 175; refine (giveUp_any _ _ _).mono ?_; intro e w0 hu; obtain ⟨v, rfl, hu2⟩ := id hu) | fail)
   exact ⟨rfl, .inl ⟨.inr hc1, hu.back b_V1⟩⟩
  ·have g1 : ¬ (cntB B : Int) > 64 := by omega
   clear u0
   have bd_V2 : Below w.heap.size w V1.drew := (b_V1).drew
   have ks_V2 : (V1.drew.cell? ⟨0, 24, .none⟩ = some (.int .i64 32) ∧ V1.drew.cell? ⟨0, 25, .none⟩ = some (.int .i64 8) ∧ V1.drew.cell? ⟨0, 26, .none⟩ = some (.int .u64 0)) ∧ V1.drew.cell? ⟨rb, 0, .none⟩ = some (.slice (some ⟨b, o, .none⟩) n c) := ⟨⟨(HL.out.below bd_V2).h0 8 (by omega), (HL.out.below bd_V2).h1 8 (by omega), (HL.out.below bd_V2).h2 8 (by omega)⟩, (HF.out.below bd_V2).f0⟩
   go_upto_region 4 with fail
   refine wp_region_held_drew (S := fun U2 => (U2.cell? ⟨0, 24, .none⟩ = some (.int .i64 32) ∧ U2.cell? ⟨0, 25, .none⟩ = some (.int .i64 8) ∧ U2.cell? ⟨0, 26, .none⟩ = some (.int .u64 0)) ∧ U2.cell? ⟨rb, 0, .none⟩ = some (.slice (some ⟨b, o, .none⟩) n c)) (by kernel_rfl) ks_V2 (fun hHeld => ?_)
   refine wpAnyH_take (i := 0) (v := (.pointer (some ⟨0, 24, .none⟩))) rfl (by kernel_rfl) (by kernel_rfl) (by kernel_rfl) (fun _ _ _ h => h) (Or.inl ⟨by rfl, fun ww hSw => by (try dsimp only at hSw); go_simp⟩) (by assumption) ?_
   simp only [Act.put, List.setIfInBounds_toArray, List.set_cons_zero, List.set_cons_succ, List.getElem_toArray, List.getElem_cons_succ, List.getElem_cons_zero]
   refine wpAnyH_take (i := 1) (v := (.agg #[.int .i64 32, .int .i64 8, .int .u64 0])) rfl (by kernel_rfl) (by kernel_rfl) (by kernel_rfl) (fun _ _ _ h => h) (Or.inl ⟨by rfl, fun ww hSw => by (try dsimp only at hSw); go_simp⟩) (by assumption) ?_
   simp only [Act.put, List.setIfInBounds_toArray, List.set_cons_zero, List.set_cons_succ, List.getElem_toArray, List.getElem_cons_succ, List.getElem_cons_zero]
   refine wpAnyH_take (i := 2) (v := (.pointer (some ⟨rb, 0, .none⟩))) rfl (by kernel_rfl) (by kernel_rfl) (by kernel_rfl) (fun _ _ _ h => h) (Or.inl ⟨by rfl, fun ww hSw => by (try dsimp only at hSw); go_simp⟩) (by assumption) ?_
   simp only [Act.put, List.setIfInBounds_toArray, List.set_cons_zero, List.set_cons_succ, List.getElem_toArray, List.getElem_cons_succ, List.getElem_cons_zero]
   refine wpAnyH_take (i := 3) (v := (.pointer (some ⟨rb, 0, .none⟩))) rfl (by kernel_rfl) (by kernel_rfl) (by kernel_rfl) (fun _ _ _ h => h) (Or.inl ⟨by rfl, fun ww hSw => by (try dsimp only at hSw); go_simp⟩) (by assumption) ?_
   simp only [Act.put, List.setIfInBounds_toArray, List.set_cons_zero, List.set_cons_succ, List.getElem_toArray, List.getElem_cons_succ, List.getElem_cons_zero]
   refine wpAnyH_take (i := 4) (v := (.pointer (some ⟨rb, 0, .none⟩))) rfl (by kernel_rfl) (by kernel_rfl) (by kernel_rfl) (fun _ _ _ h => h) (Or.inl ⟨by rfl, fun ww hSw => by (try dsimp only at hSw); go_simp⟩) (by assumption) ?_
   simp only [Act.put, List.setIfInBounds_toArray, List.set_cons_zero, List.set_cons_succ, List.getElem_toArray, List.getElem_cons_succ, List.getElem_cons_zero]
   refine wpAnyH_take (i := 5) (v := (.slice (some ⟨b, o, .none⟩) n c)) rfl (by kernel_rfl) (by kernel_rfl) (by kernel_rfl) (fun _ _ _ h => h) (Or.inl ⟨by rfl, fun ww hSw => by (try dsimp only at hSw); go_simp⟩) (by assumption) ?_
   simp only [Act.put, List.setIfInBounds_toArray, List.set_cons_zero, List.set_cons_succ, List.getElem_toArray, List.getElem_cons_succ, List.getElem_cons_zero]
   refine wpAnyH_ready (rs := [6]) (by kernel_rfl) (by simp) ?_
   refine AllReadyH.cons rfl (fun K hK => ?_) AllReadyH.nil
   go_simp
   go_at_call 176
   refine (in_any b o n c 32 8 0 B _ (by omega) HF.out.nc.1 HF.out.nc.2 (by omega) (by omega) HF.out.bd (HF.out.row.keep bd_V2)).mono ?_
   rintro e V2 ⟨rfl, hb_V2⟩
   have b_V2 : Below w.heap.size w V2 := bd_V2.trans (hb_V2.mono bd_V2.size)
   have kt_V2 : (V2.cell? ⟨0, 24, .none⟩ = some (.int .i64 32) ∧ V2.cell? ⟨0, 25, .none⟩ = some (.int .i64 8) ∧ V2.cell? ⟨0, 26, .none⟩ = some (.int .u64 0)) ∧ V2.cell? ⟨rb, 0, .none⟩ = some (.slice (some ⟨b, o, .none⟩) n c) := ⟨⟨(HL.out.below b_V2).h0 8 (by omega), (HL.out.below b_V2).h1 8 (by omega), (HL.out.below b_V2).h2 8 (by omega)⟩, (HF.out.below b_V2).f0⟩
   refine hK.out _ _ kt_V2 (fun hHeld => ?_)
   clear hK K
   try simp only [Act.put, List.setIfInBounds_toArray, List.set_cons_zero, List.set_cons_succ, List.getElem_toArray, List.getElem_cons_succ, List.getElem_cons_zero]
   refine wpAnyH_take (i := 7) (v := (.int .u64 (num B 32 8))) rfl (by kernel_rfl) (by kernel_rfl) (by kernel_rfl) (fun _ _ _ h => h) (Or.inl ⟨by rfl, fun ww hSw => by (try dsimp only at hSw); go_simp⟩) (by assumption) ?_
   simp only [Act.put, List.setIfInBounds_toArray, List.set_cons_zero, List.set_cons_succ, List.getElem_toArray, List.getElem_cons_succ, List.getElem_cons_zero]
   refine wpAnyH_done (by kernel_rfl) ?_ _
   clear hHeld ks_V2 kt_V2 hb_V2 bd_V2
   rw [← HEf.out]
   have u0 : V2.cell? ⟨0, 24, .none⟩ = some (.int .i64 32) := (HL.out.below b_V2).h0 8 (by omega)
   have c34 := lies_any rb n c (some ⟨b, o, .none⟩) (froB B) ((cntB B : Int) * 56) V2 (HF.out.below b_V2).f0 (by omega) ⟨by omega, by omega⟩ ⟨by omega, by omega⟩
   by_cases hf : froB B + cntB B * 56 ≤ n
   ·rw [show decide ((froB B : Int) + (cntB B : Int) * 56 ≤ n) = true by simp; omega] at c34
    go_wp2_with (first | (go_at_call 204; refine c34.mono ?_; rintro e V3 ⟨rfl, rfl⟩) | fail)
    refine bodyPost_ret (v := .tuple #[.int .i64 (froB B), .int .u64 (cntB B)]) (by simp [results, Tryz.results173, go_sem]) rfl ?_
    exact .inr ⟨by omega, .inr ⟨hf, rfl, b_V2⟩⟩
   ·rw [show decide ((froB B : Int) + (cntB B : Int) * 56 ≤ n) = false by simp; omega] at c34
    go_wp2_with (first | (go_at_call 204; refine c34.mono ?_; rintro e V3 ⟨rfl, rfl⟩) | (go_at_call 175; refine (giveUp_any _ _ _).mono ?_; intro e w0 hu; obtain ⟨v, rfl, hu2⟩ := id hu) | fail)
    exact ⟨rfl, .inr ⟨by omega, .inl ⟨hf, hu.back b_V2⟩⟩⟩
end Go.Proofs.YtabnipbdbnmmpaaGreatDoor
