import Derived.Test.YthdlefbaegbldaaGreatDoorFw
import Derived.Test.YthdlefbaegbldaaGreatDoorBad
import Derived.Test.YthdlefbaegbldaaGreatDoorCx
import Derived.Lib.LazyBuf
import Derived.RangeFuncRecord
import Derived.Lib.SlBuf
import Derived.Lib.SlBytesRow
namespace Go.Proofs.YthdlefbaegbldaaGreatDoor
open Go.RowKit
set_option linter.unusedVariables false
set_option linter.unusedSimpArgs false
set_option maxRecDepth 100000
abbrev Bs := List UInt8
theorem below_past (w : World) (b : Obj) : Below w.heap.size w (w.alloc b) := (Below.refl _ _).alloc (Nat.le_refl _) _
theorem step_copy_cells9 {P : Program} {ops : Array Oper} {o : Oper} {a : Act} {w : World} {K : Act → World → Prop} {Q : Exit → Act → World → Prop} {E : Prop}
    (hg : o.guard = none) (d x : Operand) (dT sT : TypeId) (hop : o.op = Op.call { callee := Callee.builtin Builtin.copy, args := #[d, x], argTypes := #[dT, sT] })
    (elem : TypeId) (hu : P.underlying dT = some (.slice elem)) (hs : (P.info? elem).map (·.size) = some 1) (b off dLen dCap : Nat) (hd : a.eval d = .slice (some ⟨b, off, none⟩) dLen dCap) (ad : Addr) (sLen sCap : Nat) (hx : a.eval x = .slice (some ad) sLen sCap)
    (cs : List Value) (hn : cs.length = Nat.min sLen dLen) (hsrc : ∀ j v, cs[j]? = some v → w.cell? (ad.add j) = some v) (hc : ∀ j, j < cs.length → (w.cell? ⟨b, off + j, none⟩).isSome = true) (hf : ∀ j, j < cs.length → w.frozen? ⟨b, off + j, none⟩ = false) (h1 : ∀ v ∈ cs, v.oneCell' = true)
    (hK : K (a.put o.dst (goInt cs.length)) (w.setCells b off cs)) : if Region.wanted o (yielded ops a.tmps) = true then Oper.wp P o a w K Q else E := by
  have hw : Region.wanted o (yielded ops a.tmps) = true := by simp [Region.wanted, hg]
  rw [if_pos hw]
  have hrun := run_copy_cells (P := P) w dT sT o.type elem b off dLen dCap ad sLen sCap cs hu hs hn hsrc hc hf h1
  unfold Oper.wp
  simp [execOp, hop, resolve, invoke, builtin, hd, hx, hrun, Result.andThen]
  exact hK
def u8v (b : UInt8) : Value := .int .u8 ((b.toNat : Nat) : Int)
def u8s (l : Bs) : List Value := l.map u8v
theorem u8s_len (l : Bs) : (u8s l).length = l.length := by simp [u8s]
theorem u8s_one (l : Bs) : ∀ v ∈ u8s l, v.oneCell' = true := by
  intro v hv
  simp only [u8s, List.mem_map] at hv
  obtain ⟨b, _, rfl⟩ := hv
  rfl
/-- The cells of an entry. -/
def ent (z : Int) (l : Bs) : List Value := .int .i64 z :: u8s l
theorem range_there {V : World} {b : Nat} {cs : List Value} (h : V.rangeAt b 0 cs) (hf : ∀ j, V.frozen? ⟨b, j, .none⟩ = false) : V.there b 0 cs.length := fun j hj => by
  have := h j _ (List.getElem?_eq_getElem hj)
  exact ⟨by rw [this]; rfl, hf _⟩
theorem below_sets {B b : Nat} (hb : B ≤ b) : ∀ (vs : List Value) (o : Nat) (w : World), Below B w (w.setCells b o vs)
  | [], _, w => Below.refl _ _
  | v :: r, o, w => ((Below.refl B w).setCell (p := ⟨b, o, .none⟩) hb v).trans (below_sets hb r (o + 1) _)
/-- A name as it lies in an entry. -/
def padb (s : Bs) : Bs := s.take 14 ++ List.replicate (14 - (s.take 14).length) 0
theorem padb_len (s : Bs) : (padb s).length = 14 := by
  rw [padb, List.length_append, List.length_replicate, List.length_take]; omega
theorem run_copy_cut {P : Program} (w : World) (dT sT ty elem : TypeId) (b o dLen dCap : Nat) (t : Bs) (hu : P.underlying dT = some (.slice elem)) (hz : ∀ w, (Go.sizeOf elem).run P w = .ok 1 w)
    (hc : ∀ j, j < dLen → (w.cell? ⟨b, o + j, none⟩).isSome = true) (hf : ∀ j, j < dLen → w.frozen? ⟨b, o + j, none⟩ = false) :
    (Builtin.copy_ #[dT, sT] ty #[.slice (some ⟨b, o, none⟩) dLen dCap, .string ⟨t.toArray⟩]).run P w = .ok (goInt (t.take dLen).length) (w.setCells b o (u8s (t.take dLen))) := by
  have hm : Nat.min t.length dLen = (t.take dLen).length := by rw [List.length_take]; exact Nat.min_comm _ _
  have hs : (⟨t.toArray⟩ : ByteArray).size = t.length := by simp [ByteArray.size]
  have hle : (t.take dLen).length ≤ dLen := by rw [List.length_take]; omega
  have hst := run_storeCells_cells (P := P) b o (u8s (t.take dLen)) 0 w (by rw [u8s_len]; intro j hj; simpa using hc j (by omega)) (by rw [u8s_len]; intro j hj; simpa using hf j (by omega)) (u8s_one _)
  have ht : List.take (t.take dLen).length (List.map (fun b : UInt8 => Value.int IntKind.u8 (b.toNat : Int)) t) = u8s (t.take dLen) := by
    rw [u8s, ← List.map_take]
    congr 1
    rw [List.length_take]
    rcases Nat.le_total dLen t.length with h | h
    · rw [Nat.min_eq_left h]
    · rw [Nat.min_eq_right h, List.take_length, List.take_of_length_le h]
  simp [Builtin.copy_, run_underlying hu, Builtin.lenOf, Builtin.firstCells, hz, hs]
  rw [hm, ht, hst]
  simp [Result.andThen]
theorem pad_copy {V : World} {b : Nat} {s : Bs} (h : V.rangeAt b 0 (u8s (List.replicate 14 0))) : (V.setCells b 0 (u8s (s.take 14))).rangeAt b 0 (u8s (padb s)) := by
  have hle : (s.take 14).length ≤ 14 := by rw [List.length_take]; omega
  have hold : ∀ j, j < 14 → V.cell? ⟨b, 0 + j, .none⟩ = some (u8v 0) := fun j hj => h j _ (by rw [u8s, List.map_replicate, List.getElem?_replicate, if_pos hj])
  intro j v hv
  rw [padb, u8s, List.map_append] at hv
  rcases Nat.lt_or_ge j (s.take 14).length with hj | hj
  · rw [List.getElem?_append_left (by rw [List.length_map]; exact hj)] at hv
    obtain ⟨hj', e⟩ := List.getElem?_eq_some_iff.1 hv
    rw [World.cell?_setCells_in b (u8s (s.take 14)) 0 V (fun i hi => by rw [u8s_len] at hi; rw [hold i (by omega)]; rfl) j (by rw [u8s_len]; exact hj)]
    exact congrArg some e
  · rw [List.getElem?_append_right (by rw [List.length_map]; exact hj), List.length_map, List.map_replicate, List.getElem?_replicate] at hv
    split at hv
    · injection hv with hv
      rw [World.cell?_setCells_out _ _ _ _ _ (fun _ _ => .inr (by rw [u8s_len]; show 0 + _ ≤ 0 + j; omega)), hold j (by omega), ← hv]
    · cases hv
theorem u8s_all (l : Bs) : (u8s l).toArray.all (·.oneCell') = true := by
  rw [Array.all_eq_true]
  intro i hi
  exact u8s_one l _ (by simp)
set_option maxHeartbeats 1000000 in
theorem pad_any (s : Bs) (w : World) : Calls Tryz.prog 71 #[.string ⟨s.toArray⟩] w fun e w' => e = .returned (.agg (u8s (padb s)).toArray) ∧ Below w.heap.size w w' := by
  go_enter Tryz.func71, Tryz.ntmps71
  go_upto_region 2 with fail
  have hb : Below w.heap.size w ((w.alloc (.cells #[.int .u8 0, .int .u8 0, .int .u8 0, .int .u8 0, .int .u8 0, .int .u8 0, .int .u8 0, .int .u8 0, .int .u8 0, .int .u8 0, .int .u8 0, .int .u8 0, .int .u8 0, .int .u8 0] 156)).alloc (.cells #[.int .u8 0, .int .u8 0, .int .u8 0, .int .u8 0, .int .u8 0, .int .u8 0, .int .u8 0, .int .u8 0, .int .u8 0, .int .u8 0, .int .u8 0, .int .u8 0, .int .u8 0, .int .u8 0] 156)) := (below_past w _).alloc (by simp) _
  have hr0 : ((w.alloc (.cells #[.int .u8 0, .int .u8 0, .int .u8 0, .int .u8 0, .int .u8 0, .int .u8 0, .int .u8 0, .int .u8 0, .int .u8 0, .int .u8 0, .int .u8 0, .int .u8 0, .int .u8 0, .int .u8 0] 156)).alloc (.cells #[.int .u8 0, .int .u8 0, .int .u8 0, .int .u8 0, .int .u8 0, .int .u8 0, .int .u8 0, .int .u8 0, .int .u8 0, .int .u8 0, .int .u8 0, .int .u8 0, .int .u8 0, .int .u8 0] 156)).rangeAt w.heap.size 0 (u8s (List.replicate 14 0)) := fun j v hv => by
    rw [Nat.zero_add, World.cell?_alloc_past _ _ _ (by simp)]
    have := range_new w (u8s (List.replicate 14 0)) 156 j v hv
    rwa [Nat.zero_add] at this
  have hr1 : ((w.alloc (.cells #[.int .u8 0, .int .u8 0, .int .u8 0, .int .u8 0, .int .u8 0, .int .u8 0, .int .u8 0, .int .u8 0, .int .u8 0, .int .u8 0, .int .u8 0, .int .u8 0, .int .u8 0, .int .u8 0] 156)).alloc (.cells #[.int .u8 0, .int .u8 0, .int .u8 0, .int .u8 0, .int .u8 0, .int .u8 0, .int .u8 0, .int .u8 0, .int .u8 0, .int .u8 0, .int .u8 0, .int .u8 0, .int .u8 0, .int .u8 0] 156)).rangeAt (w.heap.size + 1) 0 (u8s (List.replicate 14 0)) := fun j v hv => by
    have := range_new (w.alloc (.cells #[.int .u8 0, .int .u8 0, .int .u8 0, .int .u8 0, .int .u8 0, .int .u8 0, .int .u8 0, .int .u8 0, .int .u8 0, .int .u8 0, .int .u8 0, .int .u8 0, .int .u8 0, .int .u8 0] 156)) (u8s (List.replicate 14 0)) 156 j v hv
    rw [World.size_alloc] at this
    exact this
  have hf1 : ∀ b j, w.heap.size ≤ b → b ≤ w.heap.size + 1 → ((w.alloc (.cells #[.int .u8 0, .int .u8 0, .int .u8 0, .int .u8 0, .int .u8 0, .int .u8 0, .int .u8 0, .int .u8 0, .int .u8 0, .int .u8 0, .int .u8 0, .int .u8 0, .int .u8 0, .int .u8 0] 156)).alloc (.cells #[.int .u8 0, .int .u8 0, .int .u8 0, .int .u8 0, .int .u8 0, .int .u8 0, .int .u8 0, .int .u8 0, .int .u8 0, .int .u8 0, .int .u8 0, .int .u8 0, .int .u8 0, .int .u8 0] 156)).frozen? ⟨b, j, .none⟩ = false := fun b j h1 h2 => by
    rcases Nat.lt_or_ge w.heap.size b with h | h
    · obtain rfl : b = w.heap.size + 1 := by omega
      rw [World.frozen?_alloc_at _ _ _ _ (by simp)]
    · obtain rfl : b = w.heap.size := by omega
      rw [World.frozen?_alloc_past _ _ _ (by simp), World.frozen?_alloc_at _ _ _ _ rfl]
  have HV : Hid (Below w.heap.size w ((w.alloc (.cells #[.int .u8 0, .int .u8 0, .int .u8 0, .int .u8 0, .int .u8 0, .int .u8 0, .int .u8 0, .int .u8 0, .int .u8 0, .int .u8 0, .int .u8 0, .int .u8 0, .int .u8 0, .int .u8 0] 156)).alloc (.cells #[.int .u8 0, .int .u8 0, .int .u8 0, .int .u8 0, .int .u8 0, .int .u8 0, .int .u8 0, .int .u8 0, .int .u8 0, .int .u8 0, .int .u8 0, .int .u8 0, .int .u8 0, .int .u8 0] 156)) ∧ ((w.alloc (.cells #[.int .u8 0, .int .u8 0, .int .u8 0, .int .u8 0, .int .u8 0, .int .u8 0, .int .u8 0, .int .u8 0, .int .u8 0, .int .u8 0, .int .u8 0, .int .u8 0, .int .u8 0, .int .u8 0] 156)).alloc (.cells #[.int .u8 0, .int .u8 0, .int .u8 0, .int .u8 0, .int .u8 0, .int .u8 0, .int .u8 0, .int .u8 0, .int .u8 0, .int .u8 0, .int .u8 0, .int .u8 0, .int .u8 0, .int .u8 0] 156)).rangeAt w.heap.size 0 (u8s (List.replicate 14 0)) ∧ ((w.alloc (.cells #[.int .u8 0, .int .u8 0, .int .u8 0, .int .u8 0, .int .u8 0, .int .u8 0, .int .u8 0, .int .u8 0, .int .u8 0, .int .u8 0, .int .u8 0, .int .u8 0, .int .u8 0, .int .u8 0] 156)).alloc (.cells #[.int .u8 0, .int .u8 0, .int .u8 0, .int .u8 0, .int .u8 0, .int .u8 0, .int .u8 0, .int .u8 0, .int .u8 0, .int .u8 0, .int .u8 0, .int .u8 0, .int .u8 0, .int .u8 0] 156)).rangeAt (w.heap.size + 1) 0 (u8s (List.replicate 14 0)) ∧ ∀ b j, w.heap.size ≤ b → b ≤ w.heap.size + 1 → ((w.alloc (.cells #[.int .u8 0, .int .u8 0, .int .u8 0, .int .u8 0, .int .u8 0, .int .u8 0, .int .u8 0, .int .u8 0, .int .u8 0, .int .u8 0, .int .u8 0, .int .u8 0, .int .u8 0, .int .u8 0] 156)).alloc (.cells #[.int .u8 0, .int .u8 0, .int .u8 0, .int .u8 0, .int .u8 0, .int .u8 0, .int .u8 0, .int .u8 0, .int .u8 0, .int .u8 0, .int .u8 0, .int .u8 0, .int .u8 0, .int .u8 0] 156)).frozen? ⟨b, j, .none⟩ = false) := ⟨hb, hr0, hr1, hf1⟩
  clear hb hr0 hr1 hf1
  generalize ((w.alloc (.cells #[.int .u8 0, .int .u8 0, .int .u8 0, .int .u8 0, .int .u8 0, .int .u8 0, .int .u8 0, .int .u8 0, .int .u8 0, .int .u8 0, .int .u8 0, .int .u8 0, .int .u8 0, .int .u8 0] 156)).alloc (.cells #[.int .u8 0, .int .u8 0, .int .u8 0, .int .u8 0, .int .u8 0, .int .u8 0, .int .u8 0, .int .u8 0, .int .u8 0, .int .u8 0, .int .u8 0, .int .u8 0, .int .u8 0, .int .u8 0] 156)) = V at *
  have hthere : ∀ j, j < 14 → (V.cell? ⟨w.heap.size + 1, 0 + j, .none⟩).isSome = true := fun j hj => by
    have := HV.out.2.2.1 j (u8v 0) (by rw [u8s, List.map_replicate, List.getElem?_replicate, if_pos hj])
    rw [this]; rfl
  have hrun := fun ty => run_copy_cut (P := Tryz.prog) V 35 9 ty 5 (w.heap.size + 1) 0 14 14 s Tryz.underlying35 (fun w => by kernel_rfl) hthere (fun j hj => HV.out.2.2.2 _ _ (by omega) (by omega))
  have hx1 := pad_copy (s := s) HV.out.2.2.1
  have hbx := below_sets (B := w.heap.size + 1) (b := w.heap.size + 1) (Nat.le_refl _) (u8s (s.take 14)) 0 V
  have hx0 : (V.setCells (w.heap.size + 1) 0 (u8s (s.take 14))).rangeAt w.heap.size 0 (u8s (List.replicate 14 0)) := fun j v hv => (hbx.cell (p := ⟨w.heap.size, 0 + j, .none⟩) (by show w.heap.size < _; omega)).trans (HV.out.2.1 j v hv)
  have hxf : ∀ j, (V.setCells (w.heap.size + 1) 0 (u8s (s.take 14))).frozen? ⟨w.heap.size, j, .none⟩ = false := fun j => (hbx.frozen (p := ⟨w.heap.size, j, .none⟩) (by show w.heap.size < _; omega)).trans (HV.out.2.2.2 _ _ (by omega) (by omega))
  have HX : Hid (Below w.heap.size w (V.setCells (w.heap.size + 1) 0 (u8s (s.take 14))) ∧ (V.setCells (w.heap.size + 1) 0 (u8s (s.take 14))).rangeAt (w.heap.size + 1) 0 (u8s (padb s)) ∧ (V.setCells (w.heap.size + 1) 0 (u8s (s.take 14))).there w.heap.size 0 14) := ⟨HV.out.1.trans (hbx.mono (by omega)), hx1, range_there hx0 hxf⟩
  clear hx1 hbx hx0 hxf HV hthere
  generalize V.setCells (w.heap.size + 1) 0 (u8s (s.take 14)) = X at *
  go_upto_region 3 with fail
  refine wp_region_lit ?_
  have hl14 : (u8s (padb s)).length = 14 := by rw [u8s_len, padb_len]
  have hs14 : (u8s (padb s)).toArray.size = 14 := by rw [List.size_toArray]; exact hl14
  refine wpList_load_mid rfl 156 (.tmp 3) rfl (w.heap.size + 1) 0 (by simp [Act.eval]) _ _ HX.out.2.1 Tryz.underlying156 rfl (by rw [hl14]; kernel_rfl) ?_
  simp only [Act.put, List.setIfInBounds_toArray, List.set_cons_zero, List.set_cons_succ, List.getElem_toArray, List.getElem_cons_succ, List.getElem_cons_zero]
  refine wpList_store_mid rfl 156 (.tmp 2) (.tmp 7) rfl w.heap.size 0 (u8s (padb s)).toArray (by simp [Act.eval]) (by simp [Act.eval]) (by rw [hs14]; exact HX.out.2.2) (by rw [hs14]; kernel_rfl) (u8s_all _) ?_
  have hb9 : Below w.heap.size w (X.setCells w.heap.size 0 (u8s (padb s))) := HX.out.1.trans (below_sets (Nat.le_refl _) _ 0 X)
  have hr9 : (X.setCells w.heap.size 0 (u8s (padb s))).rangeAt w.heap.size 0 (u8s (padb s)) := fun j v hv => by
    obtain ⟨hj, e⟩ := List.getElem?_eq_some_iff.1 hv
    rw [World.cell?_setCells_in w.heap.size _ 0 X (fun j hj => (HX.out.2.2 j (by rw [hl14] at hj; exact hj)).1) j hj, e]
  generalize X.setCells w.heap.size 0 (u8s (padb s)) = Z at *
  go_wp2
  exact bodyPost_ret (results_cell_any (p := 2) (ty := 156) rfl _ _ ⟨w.heap.size, 0, .none⟩ _ rfl (run_loadVar_mid (P := Tryz.prog) _ w.heap.size 0 156 _ _ hr9 Tryz.underlying156 rfl (by rw [hl14]; kernel_rfl))) rfl ⟨rfl, hb9⟩
/-- A row of sixteen bytes. -/
def B16 (W : World) (g : Nat) : Prop := ∃ cur, W.heap[g]? = some (.cells cur 5 (0, 0)) ∧ cur.size = 16
theorem B16.set {W : World} {g : Nat} (h : B16 W g) (i : Nat) (v : Value) : B16 (W.setCell ⟨g, i, .none⟩ v) g := by
  obtain ⟨cur, h1, h2⟩ := h
  exact ⟨_, heap_setCell_same W g i cur 5 v h1, by simpa using h2⟩
theorem B16.sets {g : Nat} : ∀ (vs : List Value) (o : Nat) (W : World), B16 W g → B16 (W.setCells g o vs) g
  | [], _, _, h => h
  | v :: r, o, W, h => B16.sets r (o + 1) _ (h.set o v)
theorem own16 {W : World} {g base : Nat} {xs : List Value} (h : B16 W g) (hr : W.rangeAt g 0 xs) (hl : xs.length = 16) (hb : base ≤ g) : W.ownsRow base 5 1 (.slice (some ⟨g, 0, .none⟩) 16 16) 16 xs := by
  obtain ⟨cur, h1, h2⟩ := h
  refine ⟨by omega, .inr ⟨g, 16, cur, rfl, hb, h1, by omega, by decide, by omega, ?_⟩⟩
  have hlen : cur.toList.length = 16 := by simpa using h2
  rw [List.take_of_length_le (by omega)]
  apply List.ext_getElem? 
  intro i
  by_cases hi : i < 16
  · have := hr i _ (List.getElem?_eq_getElem (by omega : i < xs.length))
    simp only [World.cell?, h1, Nat.zero_add] at this
    rw [List.getElem?_eq_getElem (by omega : i < xs.length), ← this]
    simp
  · rw [List.getElem?_eq_none (by omega), List.getElem?_eq_none (by omega)]
/-- An entry's sixteen bytes. -/
def pkx (z : Int) (l : Bs) : List Int := (z % 256) :: (z / 256 % 256) :: l.map fun b => ((b.toNat : Nat) : Int)
theorem pkx_len (z : Int) (l : Bs) : (pkx z l).length = l.length + 2 := by simp [pkx]
theorem by8_pkx (z : Int) (l : Bs) : by8 (pkx z l) = .int .u8 (z % 256) :: .int .u8 (z / 256 % 256) :: u8s l := by
  simp only [by8, pkx, List.map_cons, List.map_map, u8s]
  rfl
theorem pk_range {V : World} {b : Nat} {u v : Value} {l : Bs} (hs : ∀ j, j < 16 → (V.cell? ⟨b, j, .none⟩).isSome = true) (hl : l.length = 14) : (((V.setCell ⟨b, 0, .none⟩ u).setCell ⟨b, 1, .none⟩ v).drew.setCells b 2 (u8s l)).rangeAt b 0 (u :: v :: u8s l) := by
  have h1 : ∀ j, j < 16 → (((V.setCell ⟨b, 0, .none⟩ u).setCell ⟨b, 1, .none⟩ v).cell? ⟨b, j, .none⟩).isSome = true := fun j hj => by
    by_cases e1 : j = 1
    · subst e1
      obtain ⟨x, hx⟩ := Option.isSome_iff_exists.1 (hs 1 (by omega))
      rw [World.cell?_setCell_same _ _ _ ((World.cell?_setCell_other _ _ _ _ (by simp)).trans hx)]; rfl
    · rw [World.cell?_setCell_other _ _ _ _ (by intro h; injection h with _ h; omega)]
      by_cases e0 : j = 0
      · subst e0
        obtain ⟨x, hx⟩ := Option.isSome_iff_exists.1 (hs 0 (by omega))
        rw [World.cell?_setCell_same _ _ _ hx]; rfl
      · rw [World.cell?_setCell_other _ _ _ _ (by intro h; injection h with _ h; omega)]
        exact hs j hj
  intro j x hj
  rw [Nat.zero_add]
  match j, hj with
  | 0, hj =>
    injection hj with hj
    subst hj
    rw [World.cell?_setCells_out _ _ _ _ _ (fun _ _ => .inl (by show (0 : Nat) < 2; omega)), World.cell?_drew, World.cell?_setCell_other _ _ _ _ (by simp)]
    obtain ⟨x, hx⟩ := Option.isSome_iff_exists.1 (hs 0 (by omega))
    exact World.cell?_setCell_same _ _ _ hx
  | 1, hj =>
    injection hj with hj
    subst hj
    rw [World.cell?_setCells_out _ _ _ _ _ (fun _ _ => .inl (by show (1 : Nat) < 2; omega)), World.cell?_drew]
    obtain ⟨x, hx⟩ := Option.isSome_iff_exists.1 (hs 1 (by omega))
    exact World.cell?_setCell_same _ _ _ ((World.cell?_setCell_other _ _ _ _ (by simp)).trans hx)
  | j + 2, hj =>
    have hj' : (u8s l)[j]? = some x := hj
    obtain ⟨hlt, e⟩ := List.getElem?_eq_some_iff.1 hj'
    rw [Nat.add_comm j 2, World.cell?_setCells_in b (u8s l) 2 _ (fun i hi => by rw [u8s_len, hl] at hi; rw [World.cell?_drew]; exact h1 _ (by omega)) j hlt, e]
theorem mk16 (W : World) : (Instr.makeSlice 35 (.int .i64 16) (.int .i64 16)).run Tryz.prog W = .ok (.slice (some ⟨W.heap.size, 0, .none⟩) 16 16) (W.alloc (.cells #[.int .u8 0, .int .u8 0, .int .u8 0, .int .u8 0, .int .u8 0, .int .u8 0, .int .u8 0, .int .u8 0, .int .u8 0, .int .u8 0, .int .u8 0, .int .u8 0, .int .u8 0, .int .u8 0, .int .u8 0, .int .u8 0] 5)) := by kernel_rfl
set_option maxHeartbeats 1000000 in
theorem bytes21_any (z : Int) (l : Bs) (w : World) (hl : l.length = 14) (hz : -9223372036854775808 ≤ z ∧ z < 9223372036854775808) : Calls Tryz.prog 72 #[.agg (ent z l).toArray] w (Gb (pkx z l) w) := by
  have HL : Hid (l.length = 14) := hl
  clear hl
  have hmk := mk16
  go_enter Tryz.func72, Tryz.ntmps72
  go_upto_region 2 with fail
  have hb : Below w.heap.size w ((w.alloc (.cells (ent z l).toArray 159)).alloc (.cells #[.int .u8 0, .int .u8 0, .int .u8 0, .int .u8 0, .int .u8 0, .int .u8 0, .int .u8 0, .int .u8 0, .int .u8 0, .int .u8 0, .int .u8 0, .int .u8 0, .int .u8 0, .int .u8 0, .int .u8 0, .int .u8 0] 5)) := (below_past w _).alloc (by simp) _
  have hr0 : ((w.alloc (.cells (ent z l).toArray 159)).alloc (.cells #[.int .u8 0, .int .u8 0, .int .u8 0, .int .u8 0, .int .u8 0, .int .u8 0, .int .u8 0, .int .u8 0, .int .u8 0, .int .u8 0, .int .u8 0, .int .u8 0, .int .u8 0, .int .u8 0, .int .u8 0, .int .u8 0] 5)).rangeAt w.heap.size 0 (ent z l) := fun j v hv => by
    rw [Nat.zero_add, World.cell?_alloc_past _ _ _ (by simp)]
    have := range_new w (ent z l) 159 j v hv
    rwa [Nat.zero_add] at this
  have hr1 : ((w.alloc (.cells (ent z l).toArray 159)).alloc (.cells #[.int .u8 0, .int .u8 0, .int .u8 0, .int .u8 0, .int .u8 0, .int .u8 0, .int .u8 0, .int .u8 0, .int .u8 0, .int .u8 0, .int .u8 0, .int .u8 0, .int .u8 0, .int .u8 0, .int .u8 0, .int .u8 0] 5)).rangeAt (w.heap.size + 1) 0 (u8s (List.replicate 16 0)) := fun j v hv => by
    have := range_new (w.alloc (.cells (ent z l).toArray 159)) (u8s (List.replicate 16 0)) 5 j v hv
    rw [World.size_alloc] at this
    exact this
  have h16 : B16 ((w.alloc (.cells (ent z l).toArray 159)).alloc (.cells #[.int .u8 0, .int .u8 0, .int .u8 0, .int .u8 0, .int .u8 0, .int .u8 0, .int .u8 0, .int .u8 0, .int .u8 0, .int .u8 0, .int .u8 0, .int .u8 0, .int .u8 0, .int .u8 0, .int .u8 0, .int .u8 0] 5)) (w.heap.size + 1) := ⟨_, by have := World.alloc_heap_new (w.alloc (.cells (ent z l).toArray 159)) (.cells #[.int .u8 0, .int .u8 0, .int .u8 0, .int .u8 0, .int .u8 0, .int .u8 0, .int .u8 0, .int .u8 0, .int .u8 0, .int .u8 0, .int .u8 0, .int .u8 0, .int .u8 0, .int .u8 0, .int .u8 0, .int .u8 0] 5); rw [World.size_alloc] at this; exact this, rfl⟩
  have hf1 : ∀ j, ((w.alloc (.cells (ent z l).toArray 159)).alloc (.cells #[.int .u8 0, .int .u8 0, .int .u8 0, .int .u8 0, .int .u8 0, .int .u8 0, .int .u8 0, .int .u8 0, .int .u8 0, .int .u8 0, .int .u8 0, .int .u8 0, .int .u8 0, .int .u8 0, .int .u8 0, .int .u8 0] 5)).frozen? ⟨w.heap.size + 1, j, .none⟩ = false := fun j => by rw [World.frozen?_alloc_at _ _ _ _ (by simp)]
  have v0 := hr0 0 (.int .i64 z) rfl
  have b0 := hr1 0 (u8v 0) rfl
  have b1 := hr1 1 (u8v 0) rfl
  have q0 := hf1 0
  have q1 := hf1 1
  simp only [Nat.zero_add, u8v] at v0 b0 b1
  have HV : Hid (Below w.heap.size w ((w.alloc (.cells (ent z l).toArray 159)).alloc (.cells #[.int .u8 0, .int .u8 0, .int .u8 0, .int .u8 0, .int .u8 0, .int .u8 0, .int .u8 0, .int .u8 0, .int .u8 0, .int .u8 0, .int .u8 0, .int .u8 0, .int .u8 0, .int .u8 0, .int .u8 0, .int .u8 0] 5)) ∧ ((w.alloc (.cells (ent z l).toArray 159)).alloc (.cells #[.int .u8 0, .int .u8 0, .int .u8 0, .int .u8 0, .int .u8 0, .int .u8 0, .int .u8 0, .int .u8 0, .int .u8 0, .int .u8 0, .int .u8 0, .int .u8 0, .int .u8 0, .int .u8 0, .int .u8 0, .int .u8 0] 5)).rangeAt w.heap.size 0 (ent z l) ∧ ((w.alloc (.cells (ent z l).toArray 159)).alloc (.cells #[.int .u8 0, .int .u8 0, .int .u8 0, .int .u8 0, .int .u8 0, .int .u8 0, .int .u8 0, .int .u8 0, .int .u8 0, .int .u8 0, .int .u8 0, .int .u8 0, .int .u8 0, .int .u8 0, .int .u8 0, .int .u8 0] 5)).rangeAt (w.heap.size + 1) 0 (u8s (List.replicate 16 0)) ∧ B16 ((w.alloc (.cells (ent z l).toArray 159)).alloc (.cells #[.int .u8 0, .int .u8 0, .int .u8 0, .int .u8 0, .int .u8 0, .int .u8 0, .int .u8 0, .int .u8 0, .int .u8 0, .int .u8 0, .int .u8 0, .int .u8 0, .int .u8 0, .int .u8 0, .int .u8 0, .int .u8 0] 5)) (w.heap.size + 1) ∧ ∀ j, ((w.alloc (.cells (ent z l).toArray 159)).alloc (.cells #[.int .u8 0, .int .u8 0, .int .u8 0, .int .u8 0, .int .u8 0, .int .u8 0, .int .u8 0, .int .u8 0, .int .u8 0, .int .u8 0, .int .u8 0, .int .u8 0, .int .u8 0, .int .u8 0, .int .u8 0, .int .u8 0] 5)).frozen? ⟨w.heap.size + 1, j, .none⟩ = false) := ⟨hb, hr0, hr1, h16, hf1⟩
  clear hb hr0 hr1 h16 hf1 hmk
  generalize ((w.alloc (.cells (ent z l).toArray 159)).alloc (.cells #[.int .u8 0, .int .u8 0, .int .u8 0, .int .u8 0, .int .u8 0, .int .u8 0, .int .u8 0, .int .u8 0, .int .u8 0, .int .u8 0, .int .u8 0, .int .u8 0, .int .u8 0, .int .u8 0, .int .u8 0, .int .u8 0] 5)) = V at *
  have hs : ∀ j, j < 16 → (V.cell? ⟨w.heap.size + 1, j, .none⟩).isSome = true := fun j hj => by
    have := HV.out.2.2.1 j (u8v 0) (by rw [u8s, List.map_replicate, List.getElem?_replicate, if_pos hj])
    rw [Nat.zero_add] at this
    rw [this]; rfl
  have hr := pk_range (u := .int .u8 (z % 256)) (v := .int .u8 (z / 256 % 256)) hs HL.out
  have h16 : B16 (((V.setCell ⟨w.heap.size + 1, 0, .none⟩ (.int .u8 (z % 256))).setCell ⟨w.heap.size + 1, 1, .none⟩ (.int .u8 (z / 256 % 256))).drew.setCells (w.heap.size + 1) 2 (u8s l)) (w.heap.size + 1) := B16.sets _ 2 _ ((HV.out.2.2.2.1.set 0 _).set 1 _)
  have hb2 : Below w.heap.size w (((V.setCell ⟨w.heap.size + 1, 0, .none⟩ (.int .u8 (z % 256))).setCell ⟨w.heap.size + 1, 1, .none⟩ (.int .u8 (z / 256 % 256))).drew) := ((HV.out.1.setCell (p := ⟨w.heap.size + 1, 0, .none⟩) (by show w.heap.size ≤ w.heap.size + 1; omega) _).setCell (p := ⟨w.heap.size + 1, 1, .none⟩) (by show w.heap.size ≤ w.heap.size + 1; omega) _).drew
  have hbx : Below w.heap.size w (((V.setCell ⟨w.heap.size + 1, 0, .none⟩ (.int .u8 (z % 256))).setCell ⟨w.heap.size + 1, 1, .none⟩ (.int .u8 (z / 256 % 256))).drew.setCells (w.heap.size + 1) 2 (u8s l)) := hb2.trans (below_sets (by omega) _ 2 _)
  have HR : Hid (Gb (pkx z l) w (.returned (.slice (some ⟨w.heap.size + 1, 0, .none⟩) 16 16)) (((V.setCell ⟨w.heap.size + 1, 0, .none⟩ (.int .u8 (z % 256))).setCell ⟨w.heap.size + 1, 1, .none⟩ (.int .u8 (z / 256 % 256))).drew.setCells (w.heap.size + 1) 2 (u8s l))) := by
    have e : (pkx z l).length = 16 := by rw [pkx_len, HL.out]
    refine ⟨some ⟨w.heap.size + 1, 0, .none⟩, 16, by rw [e], ?_, hbx⟩
    rw [e, by8_pkx]
    exact own16 h16 hr (by simp [u8s, HL.out]) (by omega)
  have HS : Hid (∀ j v, (u8s l)[j]? = some v → ((V.setCell ⟨w.heap.size + 1, 0, .none⟩ (.int .u8 (z % 256))).setCell ⟨w.heap.size + 1, 1, .none⟩ (.int .u8 (z / 256 % 256))).drew.cell? ((⟨w.heap.size, 1, .none⟩ : Addr).add j) = some v) := fun j v hv => by
    rw [le_addr_add, World.cell?_drew, World.cell?_setCell_far _ _ _ _ (by show w.heap.size + 1 ≠ w.heap.size; omega), World.cell?_setCell_far _ _ _ _ (by show w.heap.size + 1 ≠ w.heap.size; omega)]
    have := HV.out.2.1 (j + 1) v (by simpa [ent] using hv)
    rwa [Nat.zero_add, Nat.add_comm] at this
  have HT : Hid (∀ j, j < (u8s l).length → (((V.setCell ⟨w.heap.size + 1, 0, .none⟩ (.int .u8 (z % 256))).setCell ⟨w.heap.size + 1, 1, .none⟩ (.int .u8 (z / 256 % 256))).drew.cell? ⟨w.heap.size + 1, 2 + j, .none⟩).isSome = true ∧ ((V.setCell ⟨w.heap.size + 1, 0, .none⟩ (.int .u8 (z % 256))).setCell ⟨w.heap.size + 1, 1, .none⟩ (.int .u8 (z / 256 % 256))).drew.frozen? ⟨w.heap.size + 1, 2 + j, .none⟩ = false) := fun j hj => by
    rw [u8s_len, HL.out] at hj
    rw [World.cell?_drew, World.frozen?_drew, World.cell?_setCell_other _ _ _ _ (by intro h; injection h with _ h; omega), World.cell?_setCell_other _ _ _ _ (by intro h; injection h with _ h; omega), World.frozen?_setCell, World.frozen?_setCell]
    exact ⟨hs _ (by omega), HV.out.2.2.2.2 _⟩
  clear hs hr h16 hb2 hbx
  go_upto_region 3 with fail
  refine wp_region_held_drew (S := fun _ => True) (by kernel_rfl) trivial (fun hHeld => ?_)
  refine wpAnyH_take (i := 0) (v := .slice (some ⟨w.heap.size + 1, 0, .none⟩) 16 16) rfl (by kernel_rfl) (by kernel_rfl) (by kernel_rfl) (fun _ _ _ h => h) (Or.inl ⟨by rfl, fun ww hSw => by (try dsimp only at hSw); go_simp⟩) (by assumption) ?_
  simp only [Act.put, List.setIfInBounds_toArray, List.set_cons_zero, List.set_cons_succ, List.getElem_toArray, List.getElem_cons_succ, List.getElem_cons_zero]
  refine wpAnyH_take (i := 1) (v := .slice (some ⟨w.heap.size + 1, 2, .none⟩) 14 14) rfl (by kernel_rfl) (by kernel_rfl) (by kernel_rfl) (fun _ _ _ h => h) (Or.inl ⟨by rfl, fun ww hSw => by (try dsimp only at hSw); go_simp⟩) (by assumption) ?_
  simp only [Act.put, List.setIfInBounds_toArray, List.set_cons_zero, List.set_cons_succ, List.getElem_toArray, List.getElem_cons_succ, List.getElem_cons_zero]
  refine wpAnyH_take (i := 2) (v := .pointer (some ⟨w.heap.size, 1, .none⟩)) rfl (by kernel_rfl) (by kernel_rfl) (by kernel_rfl) (fun _ _ _ h => h) (Or.inl ⟨by rfl, fun ww hSw => by (try dsimp only at hSw); go_simp⟩) (by assumption) ?_
  simp only [Act.put, List.setIfInBounds_toArray, List.set_cons_zero, List.set_cons_succ, List.getElem_toArray, List.getElem_cons_succ, List.getElem_cons_zero]
  refine wpAnyH_take (i := 3) (v := .slice (some ⟨w.heap.size, 1, .none⟩) 14 14) rfl (by kernel_rfl) (by kernel_rfl) (by kernel_rfl) (fun _ _ _ h => h) (Or.inl ⟨by rfl, fun ww hSw => by (try dsimp only at hSw); go_simp⟩) (by assumption) ?_
  simp only [Act.put, List.setIfInBounds_toArray, List.set_cons_zero, List.set_cons_succ, List.getElem_toArray, List.getElem_cons_succ, List.getElem_cons_zero]
  refine wpAnyH_ready (rs := [4]) (by kernel_rfl) (by simp) ?_
  refine AllReadyH.cons rfl (fun K hK => ?_) AllReadyH.nil
  refine step_copy_cells9 rfl (.tmp 17) (.tmp 19) 35 35 rfl 5 Tryz.underlying35 (by kernel_rfl) (w.heap.size + 1) 2 14 14 (by simp [Act.eval]) ⟨w.heap.size, 1, .none⟩ 14 14 (by simp [Act.eval]) (u8s l) (by rw [u8s_len, HL.out]; rfl) HS.out (fun j hj => (HT.out j hj).1) (fun j hj => (HT.out j hj).2) (u8s_one _) ?_
  refine hK.out _ _ trivial (fun hHeld => ?_)
  clear hK K
  try simp only [Act.put, List.setIfInBounds_toArray, List.set_cons_zero, List.set_cons_succ, List.getElem_toArray, List.getElem_cons_succ, List.getElem_cons_zero]
  refine wpAnyH_done (by kernel_rfl) ?_ _
  generalize ((V.setCell ⟨w.heap.size + 1, 0, .none⟩ (.int .u8 (z % 256))).setCell ⟨w.heap.size + 1, 1, .none⟩ (.int .u8 (z / 256 % 256))).drew.setCells (w.heap.size + 1) 2 (u8s l) = X at *
  go_wp2
  go_ret
  exact HR.out
theorem ent_cells (z : Int) (l : Bs) (hl : l.length = 14) (w : World) : (Instr.build 159 #[(0, .int .i64 z), (1, .agg (u8s l).toArray)]).run Tryz.prog w = .ok (.agg (ent z l).toArray) w := by
  obtain ⟨a0, a1, a2, a3, a4, a5, a6, a7, a8, a9, a10, a11, a12, a13, rfl⟩ : ∃ a0 a1 a2 a3 a4 a5 a6 a7 a8 a9 a10 a11 a12 a13, l = [a0, a1, a2, a3, a4, a5, a6, a7, a8, a9, a10, a11, a12, a13] := by
    match l, hl with
    | [a0, a1, a2, a3, a4, a5, a6, a7, a8, a9, a10, a11, a12, a13], _ => exact ⟨a0, a1, a2, a3, a4, a5, a6, a7, a8, a9, a10, a11, a12, a13, rfl⟩
  kernel_rfl
theorem build_val {P : Program} {ev : Operand → Value} {o : Oper} {w : World} {v : Value} {t : TypeId} {ps : Array (Nat × Operand)} {qs : Array (Nat × Value)} (h : (Instr.build t qs).run P w = .ok v w) (ho : o.op = .build t ps := by rfl) (hq : (ps.map fun (i, x) => (i, ev x)) = qs := by rfl) : (execOp ev o).run P w = .ok (.value v) w := by
  unfold execOp
  simp only [ho, Sem.run_bind, hq, h, Result.andThen_ok, Sem.run_pure]
theorem Gb.up {xs : List Int} {w X Y : World} {e : Ending} (h : Gb xs X e Y) (hb : Below w.heap.size w X) : Gb xs w e Y := by
  obtain ⟨p, c, h1, h2, h3⟩ := h
  exact ⟨p, c, h1, own_mono h2 hb.size, hb.trans (h3.mono hb.size)⟩
theorem Gb.belowG {xs : List Int} {w Y : World} {e : Ending} (h : Gb xs w e Y) : Below w.heap.size w Y := by
  obtain ⟨p, c, h1, h2, h3⟩ := h
  exact h3
end Go.Proofs.YthdlefbaegbldaaGreatDoor
