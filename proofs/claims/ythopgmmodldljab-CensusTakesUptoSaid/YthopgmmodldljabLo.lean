import Derived.Test.YthopgmmodldljabCka
import Derived.Test.YthopgmmodldljabRows
import Derived.ProofKit
import Derived.OpenShut
import Derived.ShutString
import Derived.ChangeOld
import Derived.SizedLaws
import Derived.Carry
import Derived.Deep.Slices
import Derived.Deep.CondSized
namespace Go.Proofs.Ythopgmmodldljab
open Go.ChangeShapes Go.WideShapes Go.ChangeAt Go.RowKit
set_option linter.unusedVariables false
set_option linter.unusedSimpArgs false
theorem one_le {H : Type} (d : DataW H) : 1 ≤ Rows.uptoBulk d := by
 cases d with
 | lit l => cases l <;> simp [Rows.uptoBulk]
 | nil => simp [Rows.uptoBulk]
 | ptr d => simp [Rows.uptoBulk]
 | slice elems spare => simp [Rows.uptoBulk]
 | agg parts => simp [Rows.uptoBulk]
 | iface t d => simp [Rows.uptoBulk]
 | map entries => simp [Rows.uptoBulk]
 | held h => simp [Rows.uptoBulk]
theorem part_le {H : Type} {d : DataW H} {l : List (DataW H)} (h : d ∈ l) : Rows.uptoBulk d ≤ Rows.uptoBulkAll l := by
 induction l with
 | nil => cases h
 | cons x r ih =>
  simp only [Rows.uptoBulkAll]
  cases List.mem_cons.1 h with
  | inl e => subst e; omega
  | inr e => have := ih e; omega
theorem length_le {H : Type} (l : List (DataW H)) : l.length ≤ Rows.uptoBulkAll l := by
 induction l with
 | nil => simp [Rows.uptoBulkAll]
 | cons x r ih => have := one_le x; simp only [Rows.uptoBulkAll, List.length_cons]; omega
theorem slice_le {H : Type} (elems spare : List (DataW H)) : elems.length ≤ Rows.uptoBulk (.slice elems spare) := by
 have h1 := length_le elems
 simp only [Rows.uptoBulk]
 omega
theorem elem_le {H : Type} {d : DataW H} {elems spare : List (DataW H)} (h : d ∈ elems) : Rows.uptoBulk d ≤ Rows.uptoBulk (.slice elems spare) := by
 have h1 := part_le h
 simp only [Rows.uptoBulk]
 omega
theorem agg_le {H : Type} {d : DataW H} {parts : List (DataW H)} (h : d ∈ parts) : Rows.uptoBulk d ≤ Rows.uptoBulk (.agg parts) := by
 have h1 := part_le h
 simp only [Rows.uptoBulk]
 omega
theorem bound {H : Type} {l : List (DataW H)} (hk : Rows.uptoSmall H l = true) : Rows.uptoBulkAll l ≤ 1048576 := of_decide_eq_true hk
/-! What the cells of a value are, whatever its type. -/
inductive CK where
 | int (k : IntKind)
 | bool
 | row (t : TypeId)
def shf (o : Nat) : List (Nat × CK) → List (Nat × CK)
 | [] => []
 | x :: l => (o + x.1, x.2) :: shf o l
theorem mem_shf {o : Nat} {x : Nat × CK} : ∀ {l : List (Nat × CK)}, x ∈ shf o l → ∃ y ∈ l, (o + y.1, y.2) = x
 | y :: l, h => by
  rcases List.mem_cons.1 h with h | h
  ·exact ⟨y, by simp, h.symm⟩
  ·obtain ⟨z, hz, e⟩ := mem_shf h
   exact ⟨z, by simp [hz], e⟩
def ckF (r : TypeId → List (Nat × CK)) : List Field → List (Nat × CK)
 | [] => []
 | f :: l => shf f.offset (r f.type) ++ ckF r l
theorem mem_ckF {r : TypeId → List (Nat × CK)} {x : Nat × CK} : ∀ {l : List Field}, x ∈ ckF r l → ∃ f ∈ l, x ∈ shf f.offset (r f.type)
 | f :: l, h => by
  rcases List.mem_append.1 h with h | h
  ·exact ⟨f, by simp, h⟩
  ·obtain ⟨z, hz, e⟩ := mem_ckF h
   exact ⟨z, by simp [hz], e⟩
def ckA (r : List (Nat × CK)) (k : Nat) : Nat → Nat → List (Nat × CK)
 | 0, _ => []
 | m + 1, i => shf (i * k) r ++ ckA r k m (i + 1)
theorem mem_ckA {r : List (Nat × CK)} {k : Nat} {x : Nat × CK} : ∀ {m i : Nat}, x ∈ ckA r k m i → ∃ j, i ≤ j ∧ j < i + m ∧ x ∈ shf (j * k) r
 | m + 1, i, h => by
  rcases List.mem_append.1 h with h | h
  ·exact ⟨i, by omega, by omega, h⟩
  ·obtain ⟨j, h1, h2, h3⟩ := mem_ckA h
   exact ⟨j, by omega, by omega, h3⟩
def ckS (P : Program) (r : TypeId → List (Nat × CK)) (t : TypeId) : List (Nat × CK) := match P.underlying t with
 | some (.int k) => [(0, .int k)]
 | some .bool => [(0, .bool)]
 | some (.slice _) => [(0, .row t)]
 | some (.struct fs) => ckF r fs.toList
 | some (.array m e) => ckA (r e) (P.cellsOf e) m 0
 | _ => []
def cks (P : Program) : Nat → TypeId → List (Nat × CK)
 | 0 => fun _ => []
 | n + 1 => ckS P (cks P n)
section
variable {H : Type} {enc : TypeId × Value → H} {w : World} {base : Nat} {held : Bool} {B : Nat}
def CKok (enc : TypeId × Value → H) (w : World) (base : Nat) (held : Bool) (B : Nat) (k : CK) (v : Value) : Prop := match k with
 | .int k => ∃ z, v = .int k z ∧ (Lit.int k z).wf = true
 | .bool => ∃ b, v = .bool b
 | .row t => ∃ fuel d pl, DataW.trod enc Try.prog w base (fun _ => true) held fuel t [v] = some (d, pl) ∧ Rows.uptoBulk d ≤ B
theorem sub_cell {cs : List Value} {o k j : Nat} {v : Value} (h : ((cs.drop o).take k)[j]? = some v) : cs[o + j]? = some v := by
 rw [List.getElem?_take] at h
 split at h
 ·rw [List.getElem?_drop] at h; exact h
 ·cases h
theorem open_cks : ∀ (n fuel : Nat) (t : TypeId) (cs : List Value) (d : DataW H) (pl : List MemPlace), DataW.trod enc Try.prog w base (fun _ => true) held fuel t cs = some (d, pl) → Rows.uptoBulk d ≤ B → ∀ x ∈ cks Try.prog n t, ∃ v, cs[x.1]? = some v ∧ CKok enc w base held B x.2 v
 | 0, _, _, _, _, _, _, _, x, hx => by simp [cks] at hx
 | n + 1, fuel, t, cs, d, pl, h, hB, x, hx => by
  unfold cks ckS at hx
  split at hx
  ·rename_i k hu
   obtain ⟨z, hc, _, hz⟩ := DataW.trod_int hu h
   simp only [List.mem_cons, List.not_mem_nil, or_false] at hx
   subst hx hc
   exact ⟨_, rfl, z, rfl, hz⟩
  ·rename_i hu
   obtain ⟨z, hc, _⟩ := DataW.trod_bool hu h
   simp only [List.mem_cons, List.not_mem_nil, or_false] at hx
   subst hx hc
   exact ⟨_, rfl, z, rfl⟩
  ·rename_i e hu
   simp only [List.mem_cons, List.not_mem_nil, or_false] at hx
   subst hx
   rcases Deep.open_slice hu h with ⟨hc, _⟩ | ⟨a, len, cap, m, n', D, Pl, hc, _⟩
   ·subst hc; exact ⟨_, rfl, fuel, d, pl, h, hB⟩
   ·subst hc; exact ⟨_, rfl, fuel, d, pl, h, hB⟩
  ·rename_i fs hu
   obtain ⟨f, hf, hx⟩ := mem_ckF hx
   obtain ⟨y, hy, rfl⟩ := mem_shf hx
   obtain ⟨xs, m, _, hxy, _, hxl, hfs⟩ := DataW.trod_struct hu h
   obtain ⟨i, hi⟩ := List.getElem?_of_mem hf
   have hi' : fs[i]? = some f := by simpa using hi
   have h1 := hfs i f hi'
   have hil : i < xs.length := by
    have := (Array.getElem?_eq_some_iff.1 hi').1
    rw [hxl]; exact this
   rw [List.getElem?_eq_getElem hil] at h1
   have hd : d = .agg (xs.map (·.1)) := congrArg Prod.fst hxy
   obtain ⟨v, hv, ok⟩ := open_cks n m f.type _ _ _ h1 (Nat.le_trans (by rw [hd]; exact agg_le (List.mem_map.2 ⟨_, List.getElem_mem hil, rfl⟩)) hB) y hy
   exact ⟨v, sub_cell hv, ok⟩
  ·rename_i m e hu
   obtain ⟨i, _, hi, hx⟩ := mem_ckA hx
   obtain ⟨y, hy, rfl⟩ := mem_shf hx
   obtain ⟨xs, k, _, hxy, _, hxl, hfs⟩ := DataW.trod_array hu h
   have hil : i < xs.length := by omega
   have h1 := hfs i (by omega)
   rw [List.getElem?_eq_getElem hil] at h1
   have hd : d = .agg (xs.map (·.1)) := congrArg Prod.fst hxy
   obtain ⟨v, hv, ok⟩ := open_cks n k e _ _ _ h1 (Nat.le_trans (by rw [hd]; exact agg_le (List.mem_map.2 ⟨_, List.getElem_mem hil, rfl⟩)) hB) y hy
   exact ⟨v, sub_cell hv, ok⟩
  ·simp at hx
def mk (K : List (Nat × CK)) (c : Nat → Int) (bf : Nat → Bool) (rv : Nat → Value) : List Value := K.map fun x => match x.2 with
 | .int k => .int k (c x.1)
 | .bool => .bool (bf x.1)
 | .row _ => rv x.1
theorem open_mk (n : Nat) {fuel : Nat} {t : TypeId} {cs : List Value} {d : DataW H} {pl : List MemPlace} (K : List (Nat × CK)) (hK : cks Try.prog n t = K) (hr : K.map (·.1) = List.range K.length) (h : DataW.trod enc Try.prog w base (fun _ => true) held fuel t cs = some (d, pl)) (hB : Rows.uptoBulk d ≤ B) (hl : cs.length = K.length) :
  ∃ c bf rv, cs = mk K c bf rv ∧ (∀ i k, (i, CK.int k) ∈ K → (Lit.int k (c i)).wf = true) ∧ ∀ i t', (i, CK.row t') ∈ K → ∃ fuel d' pl', DataW.trod enc Try.prog w base (fun _ => true) held fuel t' [rv i] = some (d', pl') ∧ Rows.uptoBulk d' ≤ B := by
 have ho := open_cks (B := B) n fuel t cs d pl h hB
 rw [hK] at ho
 refine ⟨fun i => match cs[i]? with | some (.int _ z) => z | _ => 0, fun i => match cs[i]? with | some (.bool b) => b | _ => false, fun i => cs.getD i undef, ?_, ?_, ?_⟩
 ·apply List.ext_getElem?
  intro i
  by_cases hi : i < K.length
  ·unfold mk
   rw [List.getElem?_map, List.getElem?_eq_getElem hi, Option.map_some]
   obtain ⟨v, hv, ok⟩ := ho K[i] (List.getElem_mem hi)
   have hi1 : K[i].1 = i := by
    have h1 : (K.map (·.1))[i]? = some i := by rw [hr, List.getElem?_range hi]
    rw [List.getElem?_map, List.getElem?_eq_getElem hi] at h1
    simpa using h1
   rw [hi1] at hv
   rw [hi1, hv]
   unfold CKok at ok
   split at ok
   ·rename_i hk
    obtain ⟨z, rfl, _⟩ := ok
    simp only [hk, hv]
   ·rename_i hk
    obtain ⟨z, rfl⟩ := ok
    simp only [hk, hv]
   ·rename_i hk
    simp only [hk, List.getD_eq_getElem?_getD, hv, Option.getD_some]
  ·rw [List.getElem?_eq_none (by omega), List.getElem?_eq_none (by unfold mk; rw [List.length_map]; omega)]
 ·intro i k hm
  obtain ⟨v, hv, z, rfl, hz⟩ := ho _ hm
  simp only at hv
  simp only [hv]
  exact hz
 ·intro i t' hm
  obtain ⟨v, hv, fuel', d', pl', h1, h2⟩ := ho _ hm
  simp only at hv
  refine ⟨fuel', d', pl', ?_, h2⟩
  simp only [List.getD_eq_getElem?_getD, hv, Option.getD_some]
  exact h1
theorem le_addr_add (b o : Nat) (i : Nat) : (⟨b, o, .none⟩ : Addr).add i = ⟨b, o + i, .none⟩ := by
 unfold Addr.add
 by_cases h : i = 0 <;> simp [h]
theorem lt_cell {w : World} {b o : Nat} {v : Value} (h : w.cell? ⟨b, o, .none⟩ = some v) : b < w.heap.size := by
 by_cases hb : b < w.heap.size
 ·exact hb
 ·simp [World.cell?, Array.getElem?_eq_none (Nat.le_of_not_lt hb)] at h
/-- A slice, opened: every element is what Q says. -/
theorem open_sl {α : Type} [Inhabited α] {t e : TypeId} {sz fuel : Nat} {v : Value} {d : DataW H} {pl : List MemPlace} (Q : α → List Value → Prop) (ht : Try.prog.underlying t = some (.slice e)) (hc : Try.prog.cellsOf e = sz) (hsz : 0 < sz)
  (hel : ∀ n cs d pl, cs.length = sz → DataW.trod enc Try.prog w base (fun _ => true) held n e cs = some (d, pl) → Rows.uptoBulk d ≤ B → ∃ x, Q x cs)
  (h : DataW.trod enc Try.prog w base (fun _ => true) held fuel t [v] = some (d, pl)) (hB : Rows.uptoBulk d ≤ B) : ∃ l : List α, Sl w w.heap.size sz Q v l ∧ l.length ≤ B := by
 rcases Deep.open_slice ht h with ⟨hcs, hx⟩ | ⟨a, len, cap, m, n, D, Pl, hcs, _, hlc, hmax, hm, hx, hcc⟩
 ·simp only [List.cons.injEq, and_true] at hcs
  subst hcs
  exact ⟨[], Sl.nil _ _ _ _, Nat.zero_le _⟩
 ·simp only [List.cons.injEq, and_true] at hcs
  subst hcs
  have hlm : len ≤ m := by rw [hm]; split <;> omega
  have hd : d = .slice ((List.range len).map D) ((List.range (m - len)).map fun j => D (len + j)) := congrArg Prod.fst hx
  have each : ∀ i, i < len → ∃ x : α, ∃ cs, Q x cs ∧ cs.length = sz ∧ ∀ j u, cs[j]? = some u → w.cell? (a.add (i * sz + j)) = some u := by
   intro i hi
   obtain ⟨cs', h1, h2⟩ := hcc i (by omega)
   rw [hc] at h1
   obtain ⟨_, hlen, hcell⟩ := World.cells?_some h1
   have hb : Rows.uptoBulk (D i) ≤ B := Nat.le_trans (by rw [hd]; exact elem_le (List.mem_map.2 ⟨i, List.mem_range.2 hi, rfl⟩)) hB
   obtain ⟨x, hq⟩ := hel n cs' _ _ hlen h2 hb
   refine ⟨x, cs', hq, hlen, fun j u hj => ?_⟩
   have hjl : j < sz := by have := (List.getElem?_eq_some_iff.1 hj).1; omega
   have := hcell j hjl
   rw [Deep.add_add] at this
   rw [this]
   exact hj
  obtain ⟨X, hX⟩ := Deep.choose_lt each
  refine ⟨(List.range len).map X, ⟨some a, cap, by simp, ?_⟩, ?_⟩
  ·by_cases h0 : len = 0
   ·left; subst h0; rfl
   ·right
    obtain ⟨cs0, _, hl0, hc0⟩ := hX 0 (by omega)
    have hc00 := hc0 0 cs0[0] (List.getElem?_eq_getElem (by omega))
    obtain ⟨b, off, spot⟩ := a
    have hspot : spot = none := by simpa [Addr.add] using World.cell?_spot hc00
    subst hspot
    refine ⟨b, off, rfl, ?_, fun i x hx => ?_⟩
    ·rw [le_addr_add] at hc00
     exact lt_cell hc00
    ·have hi : i < len := by have := (List.getElem?_eq_some_iff.1 hx).1; simpa using this
     rw [List.getElem?_map, List.getElem?_range hi] at hx
     simp only [Option.map_some, Option.some.injEq] at hx
     subst hx
     obtain ⟨cs, q, hl, hcl⟩ := hX i hi
     refine ⟨cs, q, hl, fun j u hj => ?_⟩
     have := hcl j u hj
     rw [le_addr_add] at this
     rw [Nat.add_assoc]
     exact this
  ·rw [List.length_map, List.length_range]
   have := slice_le (H := H) ((List.range len).map D) ((List.range (m - len)).map fun j => D (len + j))
   rw [← hd] at this
   simp only [List.length_map, List.length_range] at this
   omega
theorem Sl.all {α : Type} {w : World} {X sz : Nat} {Q : α → List Value → Prop} {v : Value} {l : List α} (h : Sl w X sz Q v l) : ∀ x ∈ l, ∃ cs, Q x cs := by
 intro x hx
 obtain ⟨p, c, _, h⟩ := h
 rcases h with h | ⟨b, o, _, _, hr⟩
 ·rw [h] at hx; cases hx
 ·obtain ⟨i, hi⟩ := List.getElem?_of_mem hx
  obtain ⟨cs, q, _⟩ := hr i x hi
  exact ⟨cs, q⟩
theorem Sl.weak {α : Type} {w : World} {X sz : Nat} {Q Q' : α → List Value → Prop} {v : Value} {l : List α} (h : Sl w X sz Q v l) (hq : ∀ x cs, Q x cs → Q' x cs) : Sl w X sz Q' v l := by
 obtain ⟨p, c, hv, h⟩ := h
 refine ⟨p, c, hv, h.imp id ?_⟩
 rintro ⟨b, o, hp, hlt, hr⟩
 exact ⟨b, o, hp, hlt, fun i x hx => let ⟨cs, q, r⟩ := hr i x hx; ⟨cs, hq _ _ q, r⟩⟩
end
end Go.Proofs.Ythopgmmodldljab
