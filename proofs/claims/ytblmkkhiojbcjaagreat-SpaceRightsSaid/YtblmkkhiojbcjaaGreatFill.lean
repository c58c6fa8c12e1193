import Derived.Test.YtblmkkhiojbcjaaGreatLeaf
import Derived.Deep.RegionLaw
import Derived.Deep.Cut
namespace Go.Proofs.YtblmkkhiojbcjaaGreat
open Go.RowKit
set_option linter.unusedVariables false
set_option linter.unusedSimpArgs false
theorem setCells_drewN (b : Nat) : ∀ (vs : List Value) (o n : Nat) (w : World), (w.drewN n).setCells b o vs = (w.setCells b o vs).drewN n
  | [], _, _, _ => rfl
  | v :: vs, o, n, w => setCells_drewN b vs (o + 1) n (w.setCell ⟨b, o, .none⟩ v)
theorem setCells_append (b : Nat) : ∀ (vs us : List Value) (o : Nat) (w : World), (w.setCells b o vs).setCells b (o + vs.length) us = w.setCells b o (vs ++ us)
  | [], us, o, w => rfl
  | v :: vs, us, o, w => by
    have ih := setCells_append b vs us (o + 1) (w.setCell ⟨b, o, .none⟩ v)
    simp only [World.setCells, List.cons_append, List.length_cons]
    rw [← ih]
    congr 1
    omega
/-- 'copy' as one step of a region that draws. -/
theorem step_copy_cells {P : Program} {ops : Array Oper} {o : Oper} {a : Act} {w : World} {K : Act → World → Prop} {Q : Exit → Act → World → Prop} {E : Prop} (hgd : o.guard = none) (d s : Operand) (dT sT : TypeId)
    (ho : o.op = .call { callee := .builtin .copy, args := #[d, s], argTypes := #[dT, sT] }) (elem : TypeId) (hu : P.underlying dT = some (.slice elem)) (hsz : (P.info? elem).map (·.size) = some 1)
    (b off dLen dCap : Nat) (ad : Addr) (sLen sCap : Nat) (hd : a.eval d = .slice (some ⟨b, off, .none⟩) dLen dCap) (hs : a.eval s = .slice (some ad) sLen sCap) (cs : List Value) (hn : cs.length = Nat.min sLen dLen)
    (hsrc : ∀ j v, cs[j]? = some v → w.cell? (ad.add j) = some v) (hc : ∀ j, j < cs.length → (w.cell? ⟨b, off + j, .none⟩).isSome = true) (hf : ∀ j, j < cs.length → w.frozen? ⟨b, off + j, .none⟩ = false) (h1 : ∀ v ∈ cs, v.oneCell' = true)
    (h : K (a.put o.dst (goInt cs.length)) (w.setCells b off cs)) : if Region.wanted o (yielded ops a.tmps) = true then Oper.wp P o a w K Q else E := by
  have hw : Region.wanted o (yielded ops a.tmps) = true := by simp [Region.wanted, hgd]
  rw [if_pos hw]
  have hrun := run_copy_cells (P := P) w dT sT o.type elem b off dLen dCap ad sLen sCap cs hu hsz hn hsrc hc hf h1
  unfold Oper.wp
  simp [execOp, ho, resolve, invoke, builtin, hd, hs, hrun, Result.andThen]
  exact h
theorem info5 : (Tryz.prog.info? 5).map (·.size) = some 1 := by kernel_rfl
theorem addr_add (b o j : Nat) : (⟨b, o, .none⟩ : Addr).add j = ⟨b, o + j, .none⟩ := by unfold Addr.add; split <;> simp_all
set_option maxHeartbeats 1000000 in
theorem fill_any (b o n cap : Nat) (x : Int) (w : World) (hn : 1 ≤ n) (hn2 : n ≤ 16777216) (hcap : n ≤ cap) (hcap2 : cap ≤ 16777216)
    (hc : ∀ i, i < n → (w.cell? ⟨b, o + i, .none⟩).isSome = true) (hf : ∀ i, i < n → w.frozen? ⟨b, o + i, .none⟩ = false) :
    Calls Tryz.prog 106 #[.slice (some ⟨b, o, .none⟩) n cap, .int .u8 x] w fun e w' => (∃ v, e = .returned v) ∧ ∃ k, w' = (w.setCells b o (List.replicate n (.int .u8 x))).drewN k := by
  obtain ⟨u0, h0⟩ := Option.isSome_iff_exists.1 (hc 0 (by omega))
  have g0 := hf 0 (by omega)
  simp only [Nat.add_zero] at h0 g0
  go_enter Tryz.func106, Tryz.ntmps106
  go_wp2
  clear h0 g0
  go_loopw [4] (fun k wr => ∃ d q : Nat, 1 ≤ d ∧ d ≤ 2 * n ∧ k = .int .i64 d ∧ wr = (w.setCells b o (List.replicate (min d n) (.int .u8 x))).drewN q) (fun k _ => n - (intOf k).toNat)
  case atStart => exact ⟨1, 0, by omega, by omega, rfl, by rw [show min 1 n = 1 by omega]; rfl⟩
  case round =>
    obtain ⟨d, q, hd1, hd2, rfl, hw⟩ := hrel
    have HW : Hid (wr = (w.setCells b o (List.replicate (min d n) (.int .u8 x))).drewN q) := hw
    clear hw
    by_cases hdn : d < n
    · have i1 : (d : Int) < n := by omega
      have i2 : (d : Int) ≤ n := by omega
      have i3 : (n : Int) ≤ cap := by omega
      have i4 : (d : Int) ≤ cap := by omega
      have i5 : (0 : Int) ≤ d := by omega
      have hk : ∀ i, i < n → (wr.cell? ⟨b, o + i, .none⟩).isSome = true := fun i hi => by
        rw [HW.out, World.cell?_drewN]
        by_cases hid : i < d
        · rw [World.cell?_setCells_in b _ o w (fun j hj => hc j (by simp at hj; omega)) i (by simp; omega)]
          rfl
        · rw [World.cell?_setCells_out b _ o w _ (fun _ _ => .inr (by simp; omega))]
          exact hc i hi
      have s1 : Hid (∀ j v, (List.replicate (min d (n - d)) (Value.int .u8 x))[j]? = some v → wr.drew.cell? ((⟨b, o, .none⟩ : Addr).add j) = some v) := fun j v hj => by
        rw [List.getElem?_replicate] at hj
        split at hj
        · rename_i hjd
          rw [addr_add, World.cell?_drew, HW.out, World.cell?_drewN, World.cell?_setCells_in b _ o w (fun i hi => hc i (by simp at hi; omega)) j (by simp; omega)]
          simpa using hj
        · cases hj
      have s2 : Hid (∀ j, j < (List.replicate (min d (n - d)) (Value.int .u8 x)).length → (wr.drew.cell? ⟨b, o + d + j, .none⟩).isSome = true) := fun j hj => by
        rw [World.cell?_drew, Nat.add_assoc]
        exact hk (d + j) (by simp at hj; omega)
      have s3 : Hid (∀ j, j < (List.replicate (min d (n - d)) (Value.int .u8 x)).length → wr.drew.frozen? ⟨b, o + d + j, .none⟩ = false) := fun j hj => by
        rw [World.frozen?_drew, HW.out, World.frozen?_drewN, World.frozen?_setCells, Nat.add_assoc]
        exact hf (d + j) (by simp at hj; omega)
      have s4 : Hid (∀ v ∈ List.replicate (min d (n - d)) (Value.int .u8 x), v.oneCell' = true) := fun v hv => by rw [List.eq_of_mem_replicate hv]; rfl
      have s5 : Hid ((List.replicate (min d (n - d)) (Value.int .u8 x)).length = Nat.min d (n - d)) := by
        show (List.replicate (min d (n - d)) (Value.int .u8 x)).length = Nat.min d (n - d)
        rw [List.length_replicate]
      generalize hcs : List.replicate (min d (n - d)) (Value.int .u8 x) = cs at *
      clear hk
      have HC : Hid (List.replicate (min d (n - d)) (Value.int .u8 x) = cs) := hcs
      clear hcs
      go_upto_region 4 with fail
      go_region_law (refine step_copy_cells rfl (.tmp 16) (.tmp 19) 24 24 rfl 5 Tryz.underlying24 info5 b (o + d) (n - d) (cap - d) ⟨b, o, .none⟩ d cap (by simp [Act.eval, Act.put]; omega) (by simp [Act.eval, Act.put]) cs s5.out s1.out s2.out s3.out s4.out ?_)
      go_wp2
      refine ⟨⟨2 * d, q + 1, by omega, by omega, congrArg _ (by omega), ?_⟩, by simp [intOf]; omega⟩
      show (wr.drewN 1).setCells b (o + d) cs = _
      rw [setCells_drewN, HW.out, ← HC.out, setCells_drewN, World.drewN_drewN]
      have e := setCells_append b (List.replicate d (.int .u8 x)) (List.replicate (min d (n - d)) (.int .u8 x)) o w
      rw [List.length_replicate, List.replicate_append_replicate] at e
      rw [show min d n = d by omega, e, show d + min d (n - d) = min (2 * d) n by omega]
    · go_wp2
      go_end0
      exact ⟨⟨_, rfl⟩, q, by rw [HW.out, show min d n = n by omega]⟩
end Go.Proofs.YtblmkkhiojbcjaaGreat
