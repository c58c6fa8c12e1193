import Derived.Test.YtfafinjbobmafaaDoorItoa
import Derived.Test.YtfafinjbobmafaaDoorLay
import Derived.LoopTactic
namespace Go.Proofs.YtfafinjbobmafaaDoor
open Go.RowKit Go.Maps Go.WideMaps
set_option linter.unusedVariables false
theorem law9 : Keyed Tryd.prog 9 := string_keyed Tryd.underlying9
theorem zero3 (w : World) : (zeroValue 3).run Tryd.prog w = .ok (.int .i64 0) w := by kernel_rfl
theorem ownsMap_below {w w' : World} {b n : Nat} {D : DataW Unit} (h : w.ownsMap Tryd.prog 9 (plainElem Tryd.prog 3) b n D) (hb : Below w.heap.size w w') : w'.ownsMap Tryd.prog 9 (plainElem Tryd.prog 3) b n D := by
  have lt := h.lt
  obtain ⟨es, clock, h1, h2⟩ := h
  exact ⟨es, clock, (hb.block b lt).trans h1, h2⟩
theorem run_makeMap77 (w : World) : (Instr.makeMap 59 (some (.int .i64 77))).run Tryd.prog w = .ok (.map (some w.heap.size)) (w.alloc (.map #[] 0)) := by kernel_rfl
theorem run_makeMap65 (w : World) : (Instr.makeMap 59 (some (.int .i64 65))).run Tryd.prog w = .ok (.map (some w.heap.size)) (w.alloc (.map #[] 0)) := by kernel_rfl
theorem nm_size_all : (List.range 76).all (fun n : Nat => decide ((nm ((n : Int) + 1)).size ≤ 16)) = true := by decide +kernel
theorem nm_size (k : Nat) (h : k < 76) : (nm ((k : Int) + 1)).size ≤ maxLen := by
  have := List.all_eq_true.1 nm_size_all k (by simpa using h)
  have := of_decide_eq_true this
  unfold maxLen
  omega
set_option maxHeartbeats 1000000 in
set_option maxRecDepth 100000 in
theorem opMap_any (w : World) :
    Calls Tryd.prog 27 #[] w fun e w' => e = .returned (.map (some w.heap.size)) ∧ w'.ownsMap Tryd.prog 9 (plainElem Tryd.prog 3) w.heap.size 76 opM ∧ Below w.heap.size w w' := by
  have hmm := run_makeMap77
  go_enter Tryd.func27, Tryd.ntmps27
  go_wp2
  go_loopw [2] (fun i wr => ∃ k : Nat, k ≤ 76 ∧ i = .int .i64 ((k : Int) + 1) ∧ wr.ownsMap Tryd.prog 9 (plainElem Tryd.prog 3) w.heap.size k (putAll (.map []) (opPairs.take k)) ∧ Below w.heap.size w wr)
    (fun i _ => 77 - (intOf i).toNat)
  case atStart => exact ⟨0, Nat.zero_le _, rfl, World.ownsMap_made _ _ _ _, (Below.refl _ _).alloc (Nat.le_refl _) _⟩
  case round =>
    obtain ⟨k, hk, rfl, hown, hnx⟩ := hrel
    by_cases hlt : k < 76
    · have hN := name_any ((k : Int) + 1)
      have hkey : keyOf Tryd.prog 9 (.string (nm ((k : Int) + 1))) = some (.string (nm ((k : Int) + 1)).data.toList) := keyOf_string_mk Tryd.underlying9 (nm_size k hlt)
      have hst := opM_step k hlt
      have zz := hnx.size
      go_wp2_with fail
      refine (hN _).mono ?_
      rintro e w1 ⟨rfl, hb⟩
      clear hN
      have hown1 := ownsMap_below hown hb
      have hb1 := bseq hnx hb
      go_wp2_with (at_mapUpdate; refine wpList_mapUpdate_own _ rfl _ _ _ 59 rfl 9 3 law9 Tryd.underlying59 _ w.heap.size k _ rfl hown1 (by unfold maxLen; omega) _ _ _ rfl rfl hkey _ [] (plainElem_int Tryd.underlying3 (WalkArith.wf_i64 (by omega))) ?_; intro w2 hown2 hgrow2)
      exact ⟨⟨k + 1, by omega, by go_num, hst.symm ▸ hown2, hb1.grown hgrow2 hb1.size (fun j hj => by cases hj; exact Nat.le_refl _)⟩, by simp [intOf]; omega⟩
    · have e : k = 76 := by omega
      subst e
      go_wp2
      go_ret
      exact ⟨rfl, hown, hnx⟩
/-- What a look-up by a string finds. -/
def Found (D : DataW Unit) (s : ByteArray) (c : Int) : Prop := D.atKey (.string s.data.toList) (.lit (.int .i64 0)) = .lit (.int .i64 c)
theorem byName_any (s : ByteArray) (hs : s.size ≤ maxLen) (w : World) :
    Calls Tryd.prog 7 #[.string s] w fun e w' => (∃ c, e = .returned (.tuple #[.int .i64 c, .bool (Maps.has opM (.string s.data.toList))]) ∧ Found opM s c) ∧ Below w.heap.size w w' := by
  have hkey : keyOf Tryd.prog 9 (.string s) = some (.string s.data.toList) := keyOf_string_mk Tryd.underlying9 hs
  go_enter Tryd.func7, Tryd.ntmps7
  go_wp2_with fail
  refine (opMap_any _).mono ?_
  rintro e w1 ⟨rfl, hown, hb⟩
  go_wp2_with (at_lookup; refine wpList_lookup_own_ok_int _ rfl _ _ 59 rfl 9 3 .i64 law9 Tryd.underlying59 Tryd.underlying3 (zero3 _) w.heap.size 76 _ rfl hown _ _ rfl hkey ?_; intro c hat hwc)
  go_ret2
  exact ⟨⟨c, rfl, hat⟩, hb⟩
theorem rn_size_all : (List.range 32).all (fun n : Nat => decide ((rgn n).size ≤ 16) && decide ((xname n).size ≤ 16)) = true := by decide +kernel
theorem rn_size (k : Nat) (h : k < 32) : (rgn k).size ≤ maxLen ∧ (xname k).size ≤ maxLen := by
  have := List.all_eq_true.1 rn_size_all k (by simpa using h)
  rw [Bool.and_eq_true, decide_eq_true_eq, decide_eq_true_eq] at this
  unfold maxLen
  omega
theorem xname_is (r : Int) : (⟨#[120]⟩ : ByteArray) ++ ⟨(itoa r).toArray⟩ = xname r := by
  apply ByteArray.ext
  simp [xname, ByteArray.data_append]
set_option maxHeartbeats 1000000 in
set_option maxRecDepth 100000 in
theorem regMap_any (w : World) :
    Calls Tryd.prog 28 #[] w fun e w' => e = .returned (.map (some w.heap.size)) ∧ w'.ownsMap Tryd.prog 9 (plainElem Tryd.prog 3) w.heap.size 65 regM ∧ Below w.heap.size w w' := by
  have hmm := run_makeMap65
  go_enter Tryd.func28, Tryd.ntmps28
  go_wp2
  go_loopw [4] (fun i wr => ∃ k : Nat, k ≤ 32 ∧ i = .int .i64 (k : Int) ∧ wr.ownsMap Tryd.prog 9 (plainElem Tryd.prog 3) w.heap.size (2 * k) (putAll (.map []) (regPairs.take (2 * k))) ∧ Below w.heap.size w wr)
    (fun i _ => 32 - (intOf i).toNat)
  case atStart => exact ⟨0, Nat.zero_le _, rfl, World.ownsMap_made _ _ _ _, (Below.refl _ _).alloc (Nat.le_refl _) _⟩
  case round =>
    obtain ⟨k, hk, rfl, hown, hnx⟩ := hrel
    by_cases hlt : k < 32
    · have hI := fun w => itoa_any (k : Int) w (by omega) (by omega)
      have hN := regName_all (k : Int)
      have er : rgn' (k : Int) = rgn k := if_pos (by omega)
      rw [er] at hN
      have hz := rn_size k hlt
      have hkx : keyOf Tryd.prog 9 (.string (⟨#[120]⟩ ++ ⟨(itoa k).toArray⟩)) = some (.string (xname k).data.toList) := by rw [xname_is]; exact keyOf_string_mk Tryd.underlying9 hz.2
      have hkr : keyOf Tryd.prog 9 (.string (rgn k)) = some (.string (rgn k).data.toList) := keyOf_string_mk Tryd.underlying9 hz.1
      have hst := regM_step k hlt
      have hil : ¬ 9223372036854775807 < 1 + (itoa (k : Int)).length := by
        have : (itoa (k : Int)).length ≤ 2 := by unfold itoa; split <;> simp
        omega
      have zz := hnx.size
      clear er hz
      go_wp2_with fail
      refine (hI _).mono ?_
      rintro e w1 ⟨rfl, rfl⟩
      clear hI
      go_wp2_with (first | (at_mapUpdate; refine wpList_mapUpdate_own _ rfl _ _ _ 59 rfl 9 3 law9 Tryd.underlying59 _ w.heap.size (2 * k) _ rfl hown (by unfold maxLen; omega) _ _ _ rfl rfl hkx _ [] (plainElem_int Tryd.underlying3 (WalkArith.wf_i64 (by omega))) ?_; intro w2 hown2 hgrow2) | fail)
      have hb2 := hnx.grown hgrow2 hnx.size (fun j hj => by cases hj; exact Nat.le_refl _)
      refine (hN _).mono ?_
      rintro e w3 ⟨rfl, hb⟩
      clear hN
      have hown3 := ownsMap_below hown2 hb
      have hb3 := bseq hb2 hb
      go_wp2_with (at_mapUpdate; refine wpList_mapUpdate_own _ rfl _ _ _ 59 rfl 9 3 law9 Tryd.underlying59 _ w.heap.size (2 * k + 1) _ rfl hown3 (by unfold maxLen; omega) _ _ _ rfl rfl hkr _ [] (plainElem_int Tryd.underlying3 (WalkArith.wf_i64 (by omega))) ?_; intro w4 hown4 hgrow4)
      exact ⟨⟨k + 1, by omega, by go_num, hst.symm ▸ hown4, hb3.grown hgrow4 hb3.size (fun j hj => by cases hj; exact Nat.le_refl _)⟩, by simp [intOf]; omega⟩
    · have e : k = 32 := by omega
      subst e
      have hk0 : keyOf Tryd.prog 9 (.string ⟨#[115, 48]⟩) = some (.string [115, 48]) := keyOf_string_mk Tryd.underlying9 (by decide)
      have hk1 : keyOf Tryd.prog 9 (.string ⟨#[102, 112]⟩) = some (.string [102, 112]) := keyOf_string_mk Tryd.underlying9 (by decide)
      have et : regPairs.take (2 * 32) = regPairs := List.take_of_length_le (by rw [regPairs_len]; omega)
      rw [et] at hown
      have hl : regM = _ := regM_last
      go_wp2_with (first
        | (at_lookup; refine wpList_lookup_own_int _ rfl _ _ 59 rfl 9 3 .i64 law9 Tryd.underlying59 Tryd.underlying3 (zero3 _) w.heap.size 64 _ rfl hown _ _ rfl hk0 ?_; intro c hat hwc)
        | (at_mapUpdate; refine wpList_mapUpdate_own _ rfl _ _ _ 59 rfl 9 3 law9 Tryd.underlying59 _ w.heap.size 64 _ rfl hown (by unfold maxLen; omega) _ _ _ rfl rfl hk1 _ [] (plainElem_int Tryd.underlying3 hwc) ?_; intro w2 hown2 hgrow2))
      go_ret
      have ec : c = 8 := by
        have := hat.symm.trans (regM_s0 _)
        simpa using this
      subst ec
      exact ⟨rfl, hl.symm ▸ hown2, hnx.grown hgrow2 hnx.size (fun j hj => by cases hj; exact Nat.le_refl _)⟩
theorem reg_yes (s : ByteArray) (hs : s.size ≤ maxLen) (hh : Maps.has regM (.string s.data.toList) = true) (w : World) :
    Calls Tryd.prog 11 #[.string s] w fun e w' => (∃ c, e = .returned (.tuple #[.int .i64 c, .nilIface]) ∧ Found regM s c) ∧ Below w.heap.size w w' := by
  have hkey : keyOf Tryd.prog 9 (.string s) = some (.string s.data.toList) := keyOf_string_mk Tryd.underlying9 hs
  go_enter Tryd.func11, Tryd.ntmps11
  go_wp2_with fail
  refine (regMap_any _).mono ?_
  rintro e w1 ⟨rfl, hown, hb⟩
  go_wp2_with (at_lookup; refine wpList_lookup_own_ok_int _ rfl _ _ 59 rfl 9 3 .i64 law9 Tryd.underlying59 Tryd.underlying3 (zero3 _) w.heap.size 65 _ rfl hown _ _ rfl hkey ?_; intro c hat hwc)
  go_ret2
  exact ⟨⟨c, rfl, hat⟩, hb⟩
end Go.Proofs.YtfafinjbobmafaaDoor
