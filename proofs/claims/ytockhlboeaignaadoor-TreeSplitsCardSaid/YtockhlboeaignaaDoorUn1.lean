import Derived.Test.YtockhlboeaignaaDoorTx
import Derived.Deep.MidRow
import Derived.Laws.IdiomCopy
import Derived.Lib.LazyBuf
import Derived.Lib.SlBytesRow
namespace Go.Proofs.YtockhlboeaignaaDoor
open Go.RowKit
set_option linter.unusedVariables false
set_option linter.unusedSimpArgs false
set_option maxRecDepth 10000
def u8v (b : UInt8) : Value := .int .u8 ((b.toNat : Nat) : Int)
def u8s (l : Bs) : List Value := l.map u8v
theorem u8s_len (l : Bs) : (u8s l).length = l.length := by simp [u8s]
theorem u8s_one (l : Bs) : ∀ v ∈ u8s l, v.oneCell' = true := by
  intro v hv
  simp only [u8s, List.mem_map] at hv
  obtain ⟨b, _, rfl⟩ := hv
  rfl
/-- A slice shows these bytes. -/
def Bts (w : World) (g o : Nat) (l : Bs) : Prop := ∀ i x, l[i]? = some x → w.cell? ⟨g, o + i, .none⟩ = some (u8v x)
theorem Bts.below {w w' : World} {g o B : Nat} {l : Bs} (h : Bts w g o l) (hb : Below B w w') (hg : g < B) : Bts w' g o l := fun i x hx => (hb.cell (p := ⟨g, o + i, .none⟩) hg).trans (h i x hx)
/-- The cells of an entry. -/
def ent (z : Int) (l : Bs) : List Value := .int .i64 z :: u8s l
theorem ent_len (z : Int) (l : Bs) : (ent z l).length = l.length + 1 := by simp [ent, u8s]
theorem ent_one (z : Int) (l : Bs) : (ent z l).toArray.all (·.oneCell') = true := by
  rw [Array.all_eq_true]
  intro i hi
  have hi' : i < (ent z l).length := by simpa using hi
  have : (ent z l).toArray[i] ∈ ent z l := by simp
  generalize (ent z l).toArray[i] = u at *
  simp only [ent, List.mem_cons] at this
  rcases this with rfl | h
  · rfl
  · exact u8s_one l _ h
theorem results_cell_any {P : Program} {fn : Func} {p : Tmp} {ty : TypeId} (h : fn.results = #[.cell p ty]) (tmps : Array Value) (w : World) (ad : Addr) (v : Value) (hp : tmps.getD p undef = .pointer (some ad)) (hl : (loadVar ty ad).run P w = .ok v w) : (results fn tmps).run P w = .ok v w := by
  have hp' : tmps[p]?.getD undef = .pointer (some ad) := by simpa using hp
  simp [results, h, hp', asAddr, hl]
theorem range_new (w : World) (l : List Value) (t : TypeId) : (w.alloc (.cells l.toArray t)).rangeAt w.heap.size 0 l := by
  intro j v hv
  rw [Nat.zero_add, World.cell?_alloc_at _ _ _ _ rfl]
  simpa using hv
theorem step_copy_cells {P : Program} {ops : Array Oper} {o : Oper} {a : Act} {w : World} {K : Act → World → Prop} {Q : Exit → Act → World → Prop} {E : Prop}
    (hg : o.guard = none) (d x : Operand) (dT sT : TypeId) (hop : o.op = Op.call { callee := Callee.builtin Builtin.copy, args := #[d, x], argTypes := #[dT, sT] })
    (elem : TypeId) (hu : P.underlying dT = some (.slice elem)) (hs : (P.info? elem).map (·.size) = some 1) (b off dLen dCap : Nat) (hd : a.eval d = .slice (some ⟨b, off, none⟩) dLen dCap) (ad : Addr) (sLen sCap : Nat) (hx : a.eval x = .slice (some ad) sLen sCap)
    (cs : List Value) (hn : cs.length = Nat.min sLen dLen) (hsrc : ∀ j v, cs[j]? = some v → w.cell? (ad.add j) = some v) (hc : ∀ j, j < cs.length → (w.cell? ⟨b, off + j, none⟩).isSome = true) (hf : ∀ j, j < cs.length → w.frozen? ⟨b, off + j, none⟩ = false) (h1 : ∀ v ∈ cs, v.oneCell' = true)
    (hK : K (a.put o.dst (goInt cs.length)) (w.setCells b off cs)) : if Region.wanted o (yielded ops a.tmps) = true then Oper.wp P o a w K Q else E := by
  have hw : Region.wanted o (yielded ops a.tmps) = true := by simp [Region.wanted, hg]
  rw [if_pos hw]
  have hrun := run_copy_cells (P := P) w dT sT o.type elem b off dLen dCap ad sLen sCap cs hu hs hn hsrc hc hf h1
  unfold Oper.wp
  simp [execOp, hop, resolve, invoke, builtin, hd, hx, hrun, Result.andThen]
  exact hK
theorem ent_copy {V : World} {b : Nat} {z : Int} {old new : Bs} (h : V.rangeAt b 0 (ent z old)) (hl : old.length = new.length) : (V.setCells b 1 (u8s new)).rangeAt b 0 (ent z new) := by
  intro j v hv
  rw [Nat.zero_add]
  have hs : ∀ j, j < (u8s new).length → (V.cell? ⟨b, 1 + j, .none⟩).isSome = true := fun j hj => by
    rw [u8s_len] at hj
    have : (ent z old)[j + 1]? = some (u8v old[j]) := by simp [ent, u8s, List.getElem?_eq_getElem (show j < old.length by omega)]
    have := h (j + 1) _ this
    rw [Nat.zero_add, Nat.add_comm] at this
    rw [this]; rfl
  match j, hv with
  | 0, hv =>
    rw [World.cell?_setCells_out _ _ _ _ _ (fun _ _ => .inl (by show (0 : Nat) < 1; omega))]
    have := h 0 (.int .i64 z) rfl
    rw [Nat.zero_add] at this
    have e : v = .int .i64 z := by simpa [ent] using hv.symm
    rw [e]; exact this
  | j + 1, hv =>
    have hv' : (u8s new)[j]? = some v := by simpa [ent] using hv
    obtain ⟨hj, e⟩ := List.getElem?_eq_some_iff.1 hv'
    rw [Nat.add_comm j 1, World.cell?_setCells_in b (u8s new) 1 V hs j hj, e]
theorem range_there {V : World} {b : Nat} {cs : List Value} (h : V.rangeAt b 0 cs) (hf : ∀ j, V.frozen? ⟨b, j, .none⟩ = false) : V.there b 0 cs.length := fun j hj => by
  have := h j _ (List.getElem?_eq_getElem hj)
  exact ⟨by rw [this]; rfl, hf _⟩
theorem below_sets {B b : Nat} (hb : B ≤ b) : ∀ (vs : List Value) (o : Nat) (w : World), Below B w (w.setCells b o vs)
  | [], _, w => Below.refl _ _
  | v :: r, o, w => ((Below.refl B w).setCell (p := ⟨b, o, .none⟩) hb v).trans (below_sets hb r (o + 1) _)
theorem wrap64_small (n : Nat) (h : n < 65536) : wrap64 (n : Int) = n := by unfold wrap64; omega
theorem or_two (a b : Nat) (ha : a < 256) (hb : b < 256) : bits .or .i64 (a : Int) ((b : Int) * 256) = (a : Int) + 256 * (b : Int) := by
  have e : bits .or .i64 (a : Int) ((b : Int) * 256) = IntKind.i64.wrap (((BitVec.ofInt 64 (a : Int) ||| BitVec.ofInt 64 ((b : Int) * 256)).toNat : Nat) : Int) := rfl
  have ea : (BitVec.ofInt 64 (a : Int)).toNat = a := by rw [BitVec.toNat_ofInt]; omega
  have eb : (BitVec.ofInt 64 ((b : Int) * 256)).toNat = b * 256 := by rw [BitVec.toNat_ofInt]; omega
  have hj : a ||| b * 256 = a + b * 256 := by
    have := Nat.two_pow_add_eq_or_of_lt (i := 8) (b := a) ha b
    rw [Nat.or_comm, Nat.mul_comm b 256]
    rw [show (256 : Nat) = 2 ^ 8 by decide, ← this]
    omega
  rw [e, BitVec.toNat_or, ea, eb, hj, IntKind.wrap_i64]
  omega
theorem or_ino (x y : UInt8) : bits .or .i64 (wrap64 (x.toNat : Int)) (wrap64 (wrap64 (y.toNat : Int) * 256)) = (x.toNat : Int) + 256 * (y.toNat : Int) := by
  have hx := x.toNat_lt
  have hy := y.toNat_lt
  rw [wrap64_small _ (by omega), wrap64_small _ (by omega)]
  rw [show wrap64 ((y.toNat : Int) * 256) = (y.toNat : Int) * 256 by unfold wrap64; omega]
  exact or_two _ _ (by omega) (by omega)
set_option maxHeartbeats 1000000 in
theorem read_any {w : World} {g o c : Nat} {bs : Bs} (hB : Bts w g o bs) (hl : bs.length = 16) (hg : g < w.heap.size) (hc : 16 ≤ c ∧ c < 9223372036854775808) (x0 x1 : UInt8) (e0 : bs[0]? = some x0) (e1 : bs[1]? = some x1) :
    Calls Tryd.prog 18 #[.slice (some ⟨g, o, .none⟩) 16 c] w fun e w' => e = .returned (.agg (ent (x0.toNat + 256 * x1.toNat) (bs.drop 2)).toArray) ∧ Below w.heap.size w w' := by
  have HB : Hid (Bts w g o bs ∧ bs.length = 16) := ⟨hB, hl⟩
  have k0 := hB 0 x0 e0
  have k1 := hB 1 x1 e1
  simp only [u8v, Nat.add_zero] at k0 k1
  have hc2 := hc.2
  have hc3 : ¬ c = 2 := by omega
  clear hB hl e0 e1
  go_enter Tryd.func18, Tryd.ntmps18
  go_upto_region 1 with fail
  go_region
  rw [or_ino]
  have hb2 : Below w.heap.size w ((w.alloc (.cells #[.int .i64 0, .int .u8 0, .int .u8 0, .int .u8 0, .int .u8 0, .int .u8 0, .int .u8 0, .int .u8 0, .int .u8 0, .int .u8 0, .int .u8 0, .int .u8 0, .int .u8 0, .int .u8 0, .int .u8 0] 46)).alloc (.cells #[.int .i64 (x0.toNat + 256 * x1.toNat), .int .u8 0, .int .u8 0, .int .u8 0, .int .u8 0, .int .u8 0, .int .u8 0, .int .u8 0, .int .u8 0, .int .u8 0, .int .u8 0, .int .u8 0, .int .u8 0, .int .u8 0, .int .u8 0] 46)).drew := ((below_past w _).alloc (by simp) _).drew
  have hr0 : ((w.alloc (.cells #[.int .i64 0, .int .u8 0, .int .u8 0, .int .u8 0, .int .u8 0, .int .u8 0, .int .u8 0, .int .u8 0, .int .u8 0, .int .u8 0, .int .u8 0, .int .u8 0, .int .u8 0, .int .u8 0, .int .u8 0] 46)).alloc (.cells #[.int .i64 (x0.toNat + 256 * x1.toNat), .int .u8 0, .int .u8 0, .int .u8 0, .int .u8 0, .int .u8 0, .int .u8 0, .int .u8 0, .int .u8 0, .int .u8 0, .int .u8 0, .int .u8 0, .int .u8 0, .int .u8 0, .int .u8 0] 46)).drew.rangeAt w.heap.size 0 (ent 0 (List.replicate 14 0)) := fun j v hv => by
    rw [Nat.zero_add, World.cell?_drew, World.cell?_alloc_past _ _ _ (by simp)]
    have := range_new w (ent 0 (List.replicate 14 0)) 46 j v hv
    rwa [Nat.zero_add] at this
  have hr1 : ((w.alloc (.cells #[.int .i64 0, .int .u8 0, .int .u8 0, .int .u8 0, .int .u8 0, .int .u8 0, .int .u8 0, .int .u8 0, .int .u8 0, .int .u8 0, .int .u8 0, .int .u8 0, .int .u8 0, .int .u8 0, .int .u8 0] 46)).alloc (.cells #[.int .i64 (x0.toNat + 256 * x1.toNat), .int .u8 0, .int .u8 0, .int .u8 0, .int .u8 0, .int .u8 0, .int .u8 0, .int .u8 0, .int .u8 0, .int .u8 0, .int .u8 0, .int .u8 0, .int .u8 0, .int .u8 0, .int .u8 0] 46)).drew.rangeAt (w.heap.size + 1) 0 (ent (x0.toNat + 256 * x1.toNat) (List.replicate 14 0)) := fun j v hv => by
    rw [Nat.zero_add, World.cell?_drew]
    have := range_new (w.alloc (.cells #[.int .i64 0, .int .u8 0, .int .u8 0, .int .u8 0, .int .u8 0, .int .u8 0, .int .u8 0, .int .u8 0, .int .u8 0, .int .u8 0, .int .u8 0, .int .u8 0, .int .u8 0, .int .u8 0, .int .u8 0] 46)) (ent (x0.toNat + 256 * x1.toNat) (List.replicate 14 0)) 46 j v hv
    rw [Nat.zero_add, World.size_alloc] at this
    exact this
  have hf1 : ∀ b j, w.heap.size ≤ b → b ≤ w.heap.size + 1 → ((w.alloc (.cells #[.int .i64 0, .int .u8 0, .int .u8 0, .int .u8 0, .int .u8 0, .int .u8 0, .int .u8 0, .int .u8 0, .int .u8 0, .int .u8 0, .int .u8 0, .int .u8 0, .int .u8 0, .int .u8 0, .int .u8 0] 46)).alloc (.cells #[.int .i64 (x0.toNat + 256 * x1.toNat), .int .u8 0, .int .u8 0, .int .u8 0, .int .u8 0, .int .u8 0, .int .u8 0, .int .u8 0, .int .u8 0, .int .u8 0, .int .u8 0, .int .u8 0, .int .u8 0, .int .u8 0, .int .u8 0] 46)).drew.frozen? ⟨b, j, .none⟩ = false := fun b j h1 h2 => by
    rw [World.frozen?_drew]
    rcases Nat.lt_or_ge w.heap.size b with h | h
    · obtain rfl : b = w.heap.size + 1 := by omega
      rw [World.frozen?_alloc_at _ _ _ _ (by simp)]
    · obtain rfl : b = w.heap.size := by omega
      rw [World.frozen?_alloc_past _ _ _ (by simp), World.frozen?_alloc_at _ _ _ _ rfl]
  have HW : Hid (Below w.heap.size w ((w.alloc (.cells #[.int .i64 0, .int .u8 0, .int .u8 0, .int .u8 0, .int .u8 0, .int .u8 0, .int .u8 0, .int .u8 0, .int .u8 0, .int .u8 0, .int .u8 0, .int .u8 0, .int .u8 0, .int .u8 0, .int .u8 0] 46)).alloc (.cells #[.int .i64 (x0.toNat + 256 * x1.toNat), .int .u8 0, .int .u8 0, .int .u8 0, .int .u8 0, .int .u8 0, .int .u8 0, .int .u8 0, .int .u8 0, .int .u8 0, .int .u8 0, .int .u8 0, .int .u8 0, .int .u8 0, .int .u8 0] 46)).drew ∧ ((w.alloc (.cells #[.int .i64 0, .int .u8 0, .int .u8 0, .int .u8 0, .int .u8 0, .int .u8 0, .int .u8 0, .int .u8 0, .int .u8 0, .int .u8 0, .int .u8 0, .int .u8 0, .int .u8 0, .int .u8 0, .int .u8 0] 46)).alloc (.cells #[.int .i64 (x0.toNat + 256 * x1.toNat), .int .u8 0, .int .u8 0, .int .u8 0, .int .u8 0, .int .u8 0, .int .u8 0, .int .u8 0, .int .u8 0, .int .u8 0, .int .u8 0, .int .u8 0, .int .u8 0, .int .u8 0, .int .u8 0] 46)).drew.rangeAt w.heap.size 0 (ent 0 (List.replicate 14 0)) ∧ ((w.alloc (.cells #[.int .i64 0, .int .u8 0, .int .u8 0, .int .u8 0, .int .u8 0, .int .u8 0, .int .u8 0, .int .u8 0, .int .u8 0, .int .u8 0, .int .u8 0, .int .u8 0, .int .u8 0, .int .u8 0, .int .u8 0] 46)).alloc (.cells #[.int .i64 (x0.toNat + 256 * x1.toNat), .int .u8 0, .int .u8 0, .int .u8 0, .int .u8 0, .int .u8 0, .int .u8 0, .int .u8 0, .int .u8 0, .int .u8 0, .int .u8 0, .int .u8 0, .int .u8 0, .int .u8 0, .int .u8 0] 46)).drew.rangeAt (w.heap.size + 1) 0 (ent (x0.toNat + 256 * x1.toNat) (List.replicate 14 0)) ∧ ∀ b j, w.heap.size ≤ b → b ≤ w.heap.size + 1 → ((w.alloc (.cells #[.int .i64 0, .int .u8 0, .int .u8 0, .int .u8 0, .int .u8 0, .int .u8 0, .int .u8 0, .int .u8 0, .int .u8 0, .int .u8 0, .int .u8 0, .int .u8 0, .int .u8 0, .int .u8 0, .int .u8 0] 46)).alloc (.cells #[.int .i64 (x0.toNat + 256 * x1.toNat), .int .u8 0, .int .u8 0, .int .u8 0, .int .u8 0, .int .u8 0, .int .u8 0, .int .u8 0, .int .u8 0, .int .u8 0, .int .u8 0, .int .u8 0, .int .u8 0, .int .u8 0, .int .u8 0] 46)).drew.frozen? ⟨b, j, .none⟩ = false) := ⟨hb2, hr0, hr1, hf1⟩
  clear hb2 hr0 hr1 hf1 k0 k1
  generalize ((w.alloc (.cells #[.int .i64 0, .int .u8 0, .int .u8 0, .int .u8 0, .int .u8 0, .int .u8 0, .int .u8 0, .int .u8 0, .int .u8 0, .int .u8 0, .int .u8 0, .int .u8 0, .int .u8 0, .int .u8 0, .int .u8 0] 46)).alloc (.cells #[.int .i64 (x0.toNat + 256 * x1.toNat), .int .u8 0, .int .u8 0, .int .u8 0, .int .u8 0, .int .u8 0, .int .u8 0, .int .u8 0, .int .u8 0, .int .u8 0, .int .u8 0, .int .u8 0, .int .u8 0, .int .u8 0, .int .u8 0] 46)).drew = V at *
  go_upto_region 2 with fail
  refine wp_region_held_drew (S := fun _ => True) (by kernel_rfl) trivial (fun hHeld => ?_)
  refine wpAnyH_take (i := 0) (v := .pointer (some ⟨w.heap.size + 1, 1, .none⟩)) rfl (by kernel_rfl) (by kernel_rfl) (by kernel_rfl) (fun _ _ _ h => h) (Or.inl ⟨by rfl, fun ww hSw => by (try dsimp only at hSw); go_simp⟩) (by assumption) ?_
  simp only [Act.put, List.setIfInBounds_toArray, List.set_cons_zero, List.set_cons_succ, List.getElem_toArray, List.getElem_cons_succ, List.getElem_cons_zero]
  refine wpAnyH_take (i := 1) (v := .slice (some ⟨w.heap.size + 1, 1, .none⟩) 14 14) rfl (by kernel_rfl) (by kernel_rfl) (by kernel_rfl) (fun _ _ _ h => h) (Or.inl ⟨by rfl, fun ww hSw => by (try dsimp only at hSw); go_simp⟩) (by assumption) ?_
  simp only [Act.put, List.setIfInBounds_toArray, List.set_cons_zero, List.set_cons_succ, List.getElem_toArray, List.getElem_cons_succ, List.getElem_cons_zero]
  refine wpAnyH_take (i := 2) (v := .slice (some ⟨g, o, .none⟩) 16 c) rfl (by kernel_rfl) (by kernel_rfl) (by kernel_rfl) (fun _ _ _ h => h) (Or.inl ⟨by rfl, fun ww hSw => by (try dsimp only at hSw); go_simp⟩) (by assumption) ?_
  simp only [Act.put, List.setIfInBounds_toArray, List.set_cons_zero, List.set_cons_succ, List.getElem_toArray, List.getElem_cons_succ, List.getElem_cons_zero]
  refine wpAnyH_take (i := 3) (v := .slice (some ⟨g, o + 2, .none⟩) 14 (c - 2)) rfl (by kernel_rfl) (by kernel_rfl) (by kernel_rfl) (fun _ _ _ h => h) (Or.inl ⟨by rfl, fun ww hSw => by (try dsimp only at hSw); go_simp⟩) (by assumption) ?_
  simp only [Act.put, List.setIfInBounds_toArray, List.set_cons_zero, List.set_cons_succ, List.getElem_toArray, List.getElem_cons_succ, List.getElem_cons_zero]
  refine wpAnyH_ready (rs := [4]) (by kernel_rfl) (by simp) ?_
  refine AllReadyH.cons rfl (fun K hK => ?_) AllReadyH.nil
  refine step_copy_cells rfl (.tmp 16) (.tmp 18) 24 24 rfl 5 Tryd.underlying24 (by kernel_rfl) (w.heap.size + 1) 1 14 14 (by simp [Act.eval]) ⟨g, o + 2, .none⟩ 14 (c - 2) (by simp [Act.eval]) (u8s (bs.drop 2)) (by rw [u8s_len, List.length_drop, HB.out.2]; rfl) (fun j v hv => ?_) (fun j hj => ?_) (fun j hj => ?_) (u8s_one _) ?_
  · rw [u8s, List.getElem?_map, List.getElem?_drop] at hv
    obtain ⟨x, hx, rfl⟩ := Option.map_eq_some_iff.1 hv
    rw [le_addr_add, World.cell?_drew]
    have := (HW.out.1.cell (p := ⟨g, o + (2 + j), .none⟩) hg).trans (HB.out.1 (2 + j) x hx)
    rwa [Nat.add_assoc]
  · rw [u8s_len, List.length_drop, HB.out.2] at hj
    have := HW.out.2.2.1 (j + 1) (u8v 0) (by simp only [ent, List.getElem?_cons_succ, u8s, List.map_replicate, List.getElem?_replicate]; rw [if_pos (by omega)])
    rw [Nat.zero_add] at this
    rw [World.cell?_drew, Nat.add_comm 1 j, this]; rfl
  · rw [World.frozen?_drew]; exact HW.out.2.2.2 _ _ (by omega) (by omega)
  refine hK.out _ _ trivial (fun hHeld => ?_)
  clear hK K
  try simp only [Act.put, List.setIfInBounds_toArray, List.set_cons_zero, List.set_cons_succ, List.getElem_toArray, List.getElem_cons_succ, List.getElem_cons_zero]
  refine wpAnyH_done (by kernel_rfl) ?_ _
  have hx1 := ent_copy (V := V.drew) (new := bs.drop 2) HW.out.2.2.1 (by rw [List.length_drop, HB.out.2]; rfl)
  have hbx := below_sets (B := w.heap.size + 1) (b := w.heap.size + 1) (Nat.le_refl _) (u8s (bs.drop 2)) 1 V.drew
  have hx0 : (V.drew.setCells (w.heap.size + 1) 1 (u8s (bs.drop 2))).rangeAt w.heap.size 0 (ent 0 (List.replicate 14 0)) := fun j v hv => (hbx.cell (p := ⟨w.heap.size, 0 + j, .none⟩) (by show w.heap.size < _; omega)).trans (HW.out.2.1 j v hv)
  have hxf : ∀ j, (V.drew.setCells (w.heap.size + 1) 1 (u8s (bs.drop 2))).frozen? ⟨w.heap.size, j, .none⟩ = false := fun j => (hbx.frozen (p := ⟨w.heap.size, j, .none⟩) (by show w.heap.size < _; omega)).trans (HW.out.2.2.2 _ _ (by omega) (by omega))
  have HX : Hid (Below w.heap.size w (V.drew.setCells (w.heap.size + 1) 1 (u8s (bs.drop 2))) ∧ (V.drew.setCells (w.heap.size + 1) 1 (u8s (bs.drop 2))).rangeAt (w.heap.size + 1) 0 (ent (x0.toNat + 256 * x1.toNat) (bs.drop 2)) ∧ (V.drew.setCells (w.heap.size + 1) 1 (u8s (bs.drop 2))).there w.heap.size 0 15) := ⟨(HW.out.1.drew).trans (hbx.mono (by omega)), hx1, range_there hx0 hxf⟩
  clear hx1 hbx hx0 hxf
  generalize V.drew.setCells (w.heap.size + 1) 1 (u8s (bs.drop 2)) = X at *
  go_upto_region 3 with fail
  refine wp_region_lit ?_
  have hl15 : (ent (x0.toNat + 256 * x1.toNat) (bs.drop 2)).length = 15 := by rw [ent_len, List.length_drop, HB.out.2]
  have hs15 : (ent (x0.toNat + 256 * x1.toNat) (bs.drop 2)).toArray.size = 15 := by rw [List.size_toArray]; exact hl15
  refine wpList_load_mid rfl 46 (.tmp 3) rfl (w.heap.size + 1) 0 (by simp [Act.eval]) _ _ HX.out.2.1 Tryd.underlying46 rfl (by rw [hl15]; kernel_rfl) ?_
  simp only [Act.put, List.setIfInBounds_toArray, List.set_cons_zero, List.set_cons_succ, List.getElem_toArray, List.getElem_cons_succ, List.getElem_cons_zero]
  refine wpList_store_mid rfl 46 (.tmp 2) (.tmp 20) rfl w.heap.size 0 (ent (x0.toNat + 256 * x1.toNat) (bs.drop 2)).toArray (by simp [Act.eval]) (by simp [Act.eval]) (by rw [hs15]; exact HX.out.2.2) (by rw [hs15]; kernel_rfl) (ent_one _ _) ?_
  have hb9 : Below w.heap.size w (X.setCells w.heap.size 0 (ent (x0.toNat + 256 * x1.toNat) (bs.drop 2))) := HX.out.1.trans (below_sets (Nat.le_refl _) _ 0 X)
  have hr9 : (X.setCells w.heap.size 0 (ent (x0.toNat + 256 * x1.toNat) (bs.drop 2))).rangeAt w.heap.size 0 (ent (x0.toNat + 256 * x1.toNat) (bs.drop 2)) := fun j v hv => by
    obtain ⟨hj, e⟩ := List.getElem?_eq_some_iff.1 hv
    rw [World.cell?_setCells_in w.heap.size _ 0 X (fun j hj => (HX.out.2.2 j (by rw [hl15] at hj; exact hj)).1) j hj, e]
  generalize X.setCells w.heap.size 0 (ent (x0.toNat + 256 * x1.toNat) (bs.drop 2)) = Z at *
  go_wp2
  exact bodyPost_ret (results_cell_any (p := 2) (ty := 46) rfl _ _ ⟨w.heap.size, 0, .none⟩ _ rfl (run_loadVar_mid (P := Tryd.prog) _ w.heap.size 0 46 _ _ hr9 Tryd.underlying46 rfl (by rw [hl15]; kernel_rfl))) rfl ⟨rfl, hb9⟩
end Go.Proofs.YtockhlboeaignaaDoor
