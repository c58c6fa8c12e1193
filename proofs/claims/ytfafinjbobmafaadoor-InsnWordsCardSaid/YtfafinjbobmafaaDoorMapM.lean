import Derived.Test.YtfafinjbobmafaaDoorNames
import Derived.Maps.OwnSet
import Derived.Maps.OwnOps
namespace Go.Proofs.YtfafinjbobmafaaDoor
open Go.RowKit Go.Maps
set_option linter.unusedVariables false
/-- A map of numbers by names, as it is laid, pair by pair. -/
def putAll (D : DataW Unit) (l : List (List UInt8 × Int)) : DataW Unit := l.foldl (fun D p => D.put (.string p.1) (.lit (.int .i64 p.2))) D
theorem putAll_isMap : ∀ (l : List (List UInt8 × Int)) (D : DataW Unit), IsMap D → IsMap (putAll D l)
  | [], D, h => h
  | p :: r, D, h => putAll_isMap r _ (h.put _ _)
theorem putAll_miss : ∀ (l : List (List UInt8 × Int)) (D : DataW Unit) (x : List UInt8), (∀ p ∈ l, p.1 ≠ x) → Maps.has (putAll D l) (.string x) = Maps.has D (.string x) ∧ ∀ z, (putAll D l).atKey (.string x) z = D.atKey (.string x) z
  | [], D, x, h => ⟨rfl, fun _ => rfl⟩
  | p :: r, D, x, h => by
    have hne : (Lit.string x) ≠ .string p.1 := fun e => h p (List.mem_cons_self ..) (Lit.string.inj e).symm
    have := putAll_miss r (D.put (.string p.1) (.lit (.int .i64 p.2))) x (fun q hq => h q (List.mem_cons_of_mem _ hq))
    exact ⟨this.1.trans (has_put_other hne _), fun z => (this.2 z).trans (atKey_put_other hne _ z)⟩
theorem putAll_hit : ∀ (l : List (List UInt8 × Int)) (D : DataW Unit) (x : List UInt8) (v : Int), IsMap D → (l.map (·.1)).Nodup → (x, v) ∈ l → Maps.has (putAll D l) (.string x) = true ∧ ∀ z, (putAll D l).atKey (.string x) z = .lit (.int .i64 v)
  | [], _, _, _, _, _, h => by simp at h
  | p :: r, D, x, v, hD, hn, h => by
    have hn' : p.1 ∉ r.map (·.1) ∧ (r.map (·.1)).Nodup := List.nodup_cons.1 hn
    rcases List.mem_cons.1 h with e | h
    · have m := putAll_miss r (D.put (.string p.1) (.lit (.int .i64 p.2))) x (fun q hq e' => hn'.1 (by rw [← e]; exact e' ▸ List.mem_map_of_mem (f := (·.1)) hq))
      subst e
      exact ⟨m.1.trans (has_put_same hD (by simp [WideAt.IsKeyLit]) _), fun z => (m.2 z).trans (atKey_put_same hD (by simp [WideAt.IsKeyLit]) _ z)⟩
    · exact putAll_hit r _ x v (hD.put _ _) hn'.2 h
def opPairs : List (List UInt8 × Int) := (List.range 76).map fun n : Nat => ((nm ((n : Int) + 1)).data.toList, (n : Int) + 1)
def opM : DataW Unit := putAll (.map []) opPairs
theorem opPairs_nodup : (opPairs.map (·.1)).Nodup := by decide +kernel
theorem opM_step (k : Nat) (h : k < 76) : putAll (.map []) (opPairs.take (k + 1)) = (putAll (.map []) (opPairs.take k)).put (.string (nm ((k : Int) + 1)).data.toList) (.lit (.int .i64 ((k : Int) + 1))) := by
  have hl : opPairs.length = 76 := by simp [opPairs]
  rw [List.take_succ_eq_append_getElem (by omega), putAll, List.foldl_append]
  simp [opPairs, putAll]
theorem opM_hit (op : Int) (h1 : 1 ≤ op) (h2 : op ≤ 76) : Maps.has opM (.string (nm op).data.toList) = true ∧ ∀ z, opM.atKey (.string (nm op).data.toList) z = .lit (.int .i64 op) :=
  putAll_hit _ _ _ _ ⟨[], rfl⟩ opPairs_nodup (by
    refine List.mem_map.2 ⟨(op - 1).toNat, by simp; omega, ?_⟩
    have e : ((op - 1).toNat : Int) + 1 = op := by omega
    rw [e])
def itoa (r : Int) : List UInt8 := if r < 10 then [UInt8.ofNat (48 + r.toNat)] else [UInt8.ofNat (48 + r.toNat / 10), UInt8.ofNat (48 + r.toNat % 10)]
def xname (r : Int) : ByteArray := ⟨(120 :: itoa r).toArray⟩
def regPairs : List (List UInt8 × Int) := (List.range 32).flatMap fun n : Nat => [((xname n).data.toList, (n : Int)), ((rgn n).data.toList, (n : Int))]
def allRegs : List (List UInt8 × Int) := regPairs ++ [([102, 112], 8)]
def regM : DataW Unit := putAll (.map []) allRegs
theorem allRegs_nodup : (allRegs.map (·.1)).Nodup := by decide +kernel
theorem regPairs_len : regPairs.length = 64 := by decide +kernel
theorem regPairs_at : (List.range 32).map (fun n : Nat => (regPairs.drop (2 * n)).take 2) = (List.range 32).map (fun n : Nat => [((xname n).data.toList, (n : Int)), ((rgn n).data.toList, (n : Int))]) := by decide +kernel
theorem regM_step (k : Nat) (h : k < 32) : putAll (.map []) (regPairs.take (2 * (k + 1))) = ((putAll (.map []) (regPairs.take (2 * k))).put (.string (xname k).data.toList) (.lit (.int .i64 k))).put (.string (rgn k).data.toList) (.lit (.int .i64 k)) := by
  have e := congrArg (fun l => l[k]?.getD []) regPairs_at
  simp [h] at e
  rw [show 2 * (k + 1) = 2 * k + 2 by omega, List.take_add, putAll, List.foldl_append, e]
  rfl
theorem regs_nodup : (regPairs.map (·.1)).Nodup := by decide +kernel
theorem regM_s0 (z : DataW Unit) : (putAll (.map []) regPairs).atKey (.string [115, 48]) z = .lit (.int .i64 8) :=
  (putAll_hit _ _ _ _ ⟨[], rfl⟩ regs_nodup (by decide +kernel)).2 z
theorem regM_last : putAll (.map []) allRegs = (putAll (.map []) regPairs).put (.string [102, 112]) (.lit (.int .i64 8)) := by
  unfold allRegs putAll
  rw [List.foldl_append]
  rfl
theorem regM_hit (r : Int) (h0 : 0 ≤ r) (h1 : r < 32) : Maps.has regM (.string (rgn r).data.toList) = true ∧ ∀ z, regM.atKey (.string (rgn r).data.toList) z = .lit (.int .i64 r) :=
  putAll_hit _ _ _ _ ⟨[], rfl⟩ allRegs_nodup (by
    refine List.mem_append.2 (.inl (List.mem_flatMap.2 ⟨r.toNat, by simp; omega, ?_⟩))
    have e : (r.toNat : Int) = r := by omega
    rw [e]
    simp)
end Go.Proofs.YtfafinjbobmafaaDoor
