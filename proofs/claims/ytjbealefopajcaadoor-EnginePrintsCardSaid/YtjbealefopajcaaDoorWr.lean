import Derived.Test.YtjbealefopajcaaDoorWo
import Derived.Test.YtjbealefopajcaaDoorTie
import Derived.Test.YtjbealefopajcaaDoorCards
import Derived.Deep.Strs
import Derived.ChangeOld
import Derived.Below
import Derived.Carry
import Derived.ProofKit
import Derived.OpenShut
import Derived.LaidMore
import Derived.SevenTiedAt
import Derived.Stop.Joined
import Derived.Lib.SmallJoins
import Derived.Lib.LaidTab
import Derived.Deep.Slices
namespace Go.Proofs.YtjbealefopajcaaDoor
open Go.ChangeShapes Go.WideShapes Go.ChangeAt Go.RowKit Go.Joins
set_option linter.unusedVariables false
set_option linter.unusedSimpArgs false
set_option maxRecDepth 100000
/-! The lift's openings: a script as it is handed in. -/
instance : Inhabited Fl := ⟨⟨⟨#[]⟩, 0, 0, 0, []⟩⟩
instance : Inhabited Ip := ⟨⟨0, []⟩⟩
theorem wts_all {H : Type} {e : TypeId} {d : DataW H} {k : Nat} : ∀ {l : List (DataW H)}, d ∈ l → k ∈ d.weights Tryd.prog e → k ∈ DataW.weightsAll Tryd.prog e l
  | x :: l, h, hk => by
    simp only [DataW.weightsAll, List.mem_append]
    rcases List.mem_cons.1 h with rfl | h
    · exact .inl hk
    · exact .inr (wts_all h hk)
theorem Sl.all {α : Type} {w : World} {X sz : Nat} {Q : α → List Value → Prop} {v : Value} {l : List α} (h : Sl w X sz Q v l) : ∀ x ∈ l, ∃ cs, Q x cs := by
  intro x hx
  obtain ⟨p, c, _, _, h⟩ := h
  rcases h with h | ⟨b, o, _, _, hr⟩
  · rw [h] at hx; cases hx
  · obtain ⟨i, hi⟩ := List.getElem?_of_mem hx
    obtain ⟨cs, q, _⟩ := hr i x hi
    exact ⟨cs, q⟩
theorem Sl.weak {α : Type} {w : World} {X sz : Nat} {Q Q' : α → List Value → Prop} {v : Value} {l : List α} (h : Sl w X sz Q v l) (hq : ∀ x cs, Q x cs → Q' x cs) : Sl w X sz Q' v l := by
  obtain ⟨p, c, hv, hlc, h⟩ := h
  refine ⟨p, c, hv, hlc, h.imp id ?_⟩
  rintro ⟨b, o, hp, hlt, hr⟩
  exact ⟨b, o, hp, hlt, fun i x hx => let ⟨cs, q, r⟩ := hr i x hx; ⟨cs, hq _ _ q, r⟩⟩
section
variable {H : Type} {enc : TypeId × Value → H} {w : World} {base : Nat} {held : Bool} {M : Nat}
/-- A slice, opened: every element is what Q says. -/
theorem open_sl {α : Type} [Inhabited α] {t e : TypeId} {sz fuel : Nat} {v : Value} {d : DataW H} {pl : List MemPlace} (Q : α → List Value → Prop) (ht : Tryd.prog.underlying t = some (.slice e)) (hc : Tryd.prog.cellsOf e = sz) (hsz : 0 < sz) (hby : 1 ≤ Tryd.prog.bytesOf e)
    (hel : ∀ n cs d pl, cs.length = sz → DataW.trod enc Tryd.prog w base (fun _ => true) held n e cs = some (d, pl) → (∀ k ∈ d.weights Tryd.prog e, k ≤ M) → ∃ x, Q x cs)
    (h : DataW.trod enc Tryd.prog w base (fun _ => true) held fuel t [v] = some (d, pl)) (hB : ∀ k ∈ d.weights Tryd.prog t, k ≤ M) : ∃ l : List α, Sl w w.heap.size sz Q v l ∧ l.length ≤ M := by
  rcases Deep.open_slice ht h with ⟨hcs, hx⟩ | ⟨a, len, cap, m, n, D, Pl, hcs, _, hlc, hmax, hm, hx, hcc⟩
  · simp only [List.cons.injEq, and_true] at hcs
    subst hcs
    exact ⟨[], Sl.nil _ _ _ _, Nat.zero_le _⟩
  · simp only [List.cons.injEq, and_true] at hcs
    subst hcs
    have hlm : len ≤ m := by rw [hm]; split <;> omega
    have hd : d = .slice ((List.range len).map D) ((List.range (m - len)).map fun j => D (len + j)) := congrArg Prod.fst hx
    have hw : ∀ i, i < len → ∀ k ∈ (D i).weights Tryd.prog e, k ≤ M := by
      intro i hi k hkk
      refine hB k ?_
      rw [hd]
      simp only [DataW.weights, ht]
      exact List.mem_cons.2 (.inr (List.mem_append.2 (.inl (wts_all (d := D i) (List.mem_map.2 ⟨i, List.mem_range.2 hi, rfl⟩) hkk))))
    have hlen : len ≤ M := by
      have h1 := hB (((List.range len).map D).length + ((List.range (m - len)).map fun j => D (len + j)).length |> (· * Tryd.prog.bytesOf e)) (by
        rw [hd]
        simp only [DataW.weights, ht]
        exact List.mem_cons_self ..)
      simp only [List.length_map, List.length_range] at h1
      have h2 : len + (m - len) ≤ (len + (m - len)) * Tryd.prog.bytesOf e := Nat.le_mul_of_pos_right _ (by omega)
      omega
    have each : ∀ i, i < len → ∃ x : α, ∃ cs, Q x cs ∧ cs.length = sz ∧ ∀ j u, cs[j]? = some u → w.cell? (a.add (i * sz + j)) = some u := by
      intro i hi
      obtain ⟨cs', h1, h2⟩ := hcc i (by omega)
      rw [hc] at h1
      obtain ⟨_, hlen, hcell⟩ := World.cells?_some h1
      obtain ⟨x, hq⟩ := hel n cs' _ _ hlen h2 (hw i hi)
      refine ⟨x, cs', hq, hlen, fun j u hj => ?_⟩
      have hjl : j < sz := by have := (List.getElem?_eq_some_iff.1 hj).1; omega
      have := hcell j hjl
      rw [Deep.add_add] at this
      rw [this]
      exact hj
    obtain ⟨X, hX⟩ := Deep.choose_lt each
    refine ⟨(List.range len).map X, ⟨some a, cap, by simp, ⟨by simpa using hlc, hmax⟩, ?_⟩, by simpa using hlen⟩
    by_cases h0 : len = 0
    · left; subst h0; rfl
    · right
      obtain ⟨cs0, _, hl0, hc0⟩ := hX 0 (by omega)
      have hc00 := hc0 0 cs0[0] (List.getElem?_eq_getElem (by omega))
      obtain ⟨b, off, spot⟩ := a
      have hspot : spot = none := by simpa [Addr.add] using World.cell?_spot hc00
      subst hspot
      refine ⟨b, off, rfl, ?_, fun i x hx => ?_⟩
      · rw [le_addr_add] at hc00
        exact lt_of_cell hc00
      · have hi : i < len := by have := (List.getElem?_eq_some_iff.1 hx).1; simpa using this
        rw [List.getElem?_map, List.getElem?_range hi] at hx
        simp only [Option.map_some, Option.some.injEq] at hx
        subst hx
        obtain ⟨cs, q, hl, hcl⟩ := hX i hi
        refine ⟨cs, q, hl, fun j u hj => ?_⟩
        have := hcl j u hj
        rw [le_addr_add] at this
        rw [Nat.add_assoc]
        exact this
theorem wf_u8' (z : Int) (h : (Lit.int .u8 z).wf = true) : 0 ≤ z ∧ z < 256 := by
  simp [Lit.wf, IntKind.min, IntKind.max, IntKind.signed, IntKind.bits] at h
  omega
theorem wf_i16' (z : Int) (h : (Lit.int .i16 z).wf = true) : i16b z := by
  simp [Lit.wf, IntKind.min, IntKind.max, IntKind.signed, IntKind.bits] at h
  unfold i16b
  omega
theorem wf_i64' (z : Int) (h : (Lit.int .i64 z).wf = true) : i64b z := by
  have e1 : IntKind.i64.min = -9223372036854775808 := by decide
  have e2 : IntKind.i64.max = 9223372036854775807 := by decide
  simp [Lit.wf, e1, e2] at h
  unfold i64b
  omega
theorem by3 : 1 ≤ Tryd.prog.bytesOf 3 := by rw [show Tryd.prog.bytesOf 3 = 8 by kernel_rfl]; decide
theorem by5 : 1 ≤ Tryd.prog.bytesOf 5 := by rw [show Tryd.prog.bytesOf 5 = 1 by kernel_rfl]; decide
theorem by43 : 1 ≤ Tryd.prog.bytesOf 43 := by rw [show Tryd.prog.bytesOf 43 = 56 by kernel_rfl]; decide
theorem by45 : 1 ≤ Tryd.prog.bytesOf 45 := by rw [show Tryd.prog.bytesOf 45 = 32 by kernel_rfl]; decide
theorem cl3 : Tryd.prog.cellsOf 3 = 1 := by kernel_rfl
theorem cl5 : Tryd.prog.cellsOf 5 = 1 := by kernel_rfl
theorem cl9 : Tryd.prog.cellsOf 9 = 1 := by kernel_rfl
theorem cl40 : Tryd.prog.cellsOf 40 = 1 := by kernel_rfl
theorem cl41 : Tryd.prog.cellsOf 41 = 1 := by kernel_rfl
theorem cl43 : Tryd.prog.cellsOf 43 = 5 := by kernel_rfl
theorem cl45 : Tryd.prog.cellsOf 45 = 2 := by kernel_rfl
theorem cl22 : Tryd.prog.cellsOf 22 = 1 := by kernel_rfl
theorem cl23 : Tryd.prog.cellsOf 23 = 1 := by kernel_rfl
theorem cl24 : Tryd.prog.cellsOf 24 = 1 := by kernel_rfl
theorem open_nums {t e : TypeId} {k : IntKind} (hu : Tryd.prog.underlying t = some (.slice e)) (he : Tryd.prog.underlying e = some (.int k)) (hc : Tryd.prog.cellsOf e = 1) (hby : 1 ≤ Tryd.prog.bytesOf e) {fuel : Nat} {v : Value} {d : DataW H} {pl : List MemPlace} (h : DataW.trod enc Tryd.prog w base (fun _ => true) held fuel t [v] = some (d, pl)) (hB : ∀ k ∈ d.weights Tryd.prog t, k ≤ M) : ∃ l : List Int, Sl w w.heap.size 1 (qI k) v l ∧ (∀ a ∈ l, (Lit.int k a).wf = true) ∧ l.length ≤ M := by
  obtain ⟨l, hl, hn⟩ := open_sl (fun (x : Int) cs => qI k x cs ∧ (Lit.int k x).wf = true) hu hc (by decide) hby (fun n cs d pl hlen ht hb => by
    obtain ⟨z, hz, _, hw⟩ := DataW.trod_int he ht
    exact ⟨z, hz, hw⟩) h hB
  exact ⟨l, hl.weak (fun _ _ q => q.1), fun a ha => let ⟨_, q⟩ := hl.all a ha; q.2, hn⟩
def FlR (M : Nat) (f : Fl) : Prop := f.path.size ≤ M ∧ i64b f.ty ∧ i16b f.mj ∧ i16b f.mn ∧ f.data.length ≤ M ∧ ∀ x ∈ f.data, 0 ≤ x ∧ x < 256
def IpR (M : Nat) (f : Ip) : Prop := i64b f.tm ∧ f.data.length ≤ M ∧ ∀ x ∈ f.data, 0 ≤ x ∧ x < 256
theorem open_fls {fuel : Nat} {v : Value} {d : DataW H} {pl : List MemPlace} (h : DataW.trod enc Tryd.prog w base (fun _ => true) held fuel 22 [v] = some (d, pl)) (hB : ∀ k ∈ d.weights Tryd.prog 22, k ≤ M) : ∃ l : List Fl, Fls w w.heap.size v l ∧ (∀ a ∈ l, FlR M a) ∧ l.length ≤ M := by
  obtain ⟨l, hl, hn⟩ := open_sl (sz := 5) (fun (x : Fl) cs => (∃ dv, cs = x.l dv ∧ Bt w w.heap.size dv x.data) ∧ FlR M x) Tryd.underlying22 cl43 (by decide) by43 (fun n cs d pl hlen ht hb => by
    obtain ⟨xs, k, hk, hxy, _, hxl, hf⟩ := DataW.trod_struct Tryd.underlying43 ht
    have hxl : xs.length = 5 := hxl
    match xs, hxl, cs, hlen with
    | [y0, y1, y2, y3, y4], _, [v0, v1, v2, v3, v4], _ =>
      have g0 := hf 0 _ rfl
      have g1 := hf 1 _ rfl
      have g2 := hf 2 _ rfl
      have g3 := hf 3 _ rfl
      have g4 := hf 4 _ rfl
      simp [cl9, cl3, cl40, cl41] at g0 g1 g2 g3 g4
      have hd : d = .agg [y0.1, y1.1, y2.1, y3.1, y4.1] := congrArg Prod.fst hxy
      have hww : ∀ (j : Nat) (t : TypeId) (y : DataW H × List MemPlace), [9, 3, 40, 40, 41][j]? = some t → [y0, y1, y2, y3, y4][j]? = some y → ∀ k ∈ y.1.weights Tryd.prog t, k ≤ M := fun j t y h1 h2 k hk => hb k (by
        rw [hd]
        simp only [DataW.weights, Tryd.underlying43]
        exact DataW.weights_mem_each (ts := [9, 3, 40, 40, 41]) (ds := [y0, y1, y2, y3, y4].map (·.1)) (j := j) h1 (by rw [List.getElem?_map, h2]; rfl) k hk)
      obtain ⟨s, f0, e0, _⟩ := DataW.trod_string Tryd.underlying9 g0
      obtain ⟨z1, f1, _, hz1⟩ := DataW.trod_int Tryd.underlying3 g1
      obtain ⟨z2, f2, _, hz2⟩ := DataW.trod_int Tryd.underlying40 g2
      obtain ⟨z3, f3, _, hz3⟩ := DataW.trod_int Tryd.underlying40 g3
      obtain ⟨ds, hbt, hdb, hdl⟩ := open_nums Tryd.underlying41 Tryd.underlying5 cl5 by5 g4 (hww 4 41 y4 rfl rfl)
      have hsl : s.size ≤ M := by
        have h1 := hww 0 9 y0 rfl rfl s.data.toList.length (by rw [e0]; simp [DataW.weights])
        simpa using h1
      simp only [List.cons.injEq, and_true] at f0 f1 f2 f3
      subst f0 f1 f2 f3
      exact ⟨⟨s, z1, z2, z3, ds⟩, ⟨v4, rfl, hbt⟩, hsl, wf_i64' _ hz1, wf_i16' _ hz2, wf_i16' _ hz3, hdl, fun x hx => wf_u8' x (hdb x hx)⟩) h hB
  exact ⟨l, hl.weak (fun _ _ q => q.1), fun a ha => let ⟨_, q⟩ := hl.all a ha; q.2, hn⟩
theorem open_ips {fuel : Nat} {v : Value} {d : DataW H} {pl : List MemPlace} (h : DataW.trod enc Tryd.prog w base (fun _ => true) held fuel 24 [v] = some (d, pl)) (hB : ∀ k ∈ d.weights Tryd.prog 24, k ≤ M) : ∃ l : List Ip, Ips w w.heap.size v l ∧ (∀ a ∈ l, IpR M a) ∧ l.length ≤ M := by
  obtain ⟨l, hl, hn⟩ := open_sl (sz := 2) (fun (x : Ip) cs => (∃ dv, cs = x.l dv ∧ Bt w w.heap.size dv x.data) ∧ IpR M x) Tryd.underlying24 cl45 (by decide) by45 (fun n cs d pl hlen ht hb => by
    obtain ⟨xs, k, hk, hxy, _, hxl, hf⟩ := DataW.trod_struct Tryd.underlying45 ht
    have hxl : xs.length = 2 := hxl
    match xs, hxl, cs, hlen with
    | [y0, y1], _, [v0, v1], _ =>
      have g0 := hf 0 _ rfl
      have g1 := hf 1 _ rfl
      simp [cl3, cl41] at g0 g1
      have hd : d = .agg [y0.1, y1.1] := congrArg Prod.fst hxy
      have hww : ∀ k ∈ y1.1.weights Tryd.prog 41, k ≤ M := fun k hk => hb k (by
        rw [hd]
        simp only [DataW.weights, Tryd.underlying45]
        exact DataW.weights_mem_each (ts := [3, 41]) (ds := [y0.1, y1.1]) (j := 1) rfl rfl k hk)
      obtain ⟨z0, f0, _, hz0⟩ := DataW.trod_int Tryd.underlying3 g0
      obtain ⟨ds, hbt, hdb, hdl⟩ := open_nums Tryd.underlying41 Tryd.underlying5 cl5 by5 g1 hww
      simp only [List.cons.injEq, and_true] at f0
      subst f0
      exact ⟨⟨z0, ds⟩, ⟨v1, rfl, hbt⟩, wf_i64' _ hz0, hdl, fun x hx => wf_u8' x (hdb x hx)⟩) h hB
  exact ⟨l, hl.weak (fun _ _ q => q.1), fun a ha => let ⟨_, q⟩ := hl.all a ha; q.2, hn⟩
theorem list6 {l : List Value} (h : l.length = 6) : ∃ a b c d e f, l = [a, b, c, d, e, f] := by
  match l, h with
  | [a, b, c, d, e, f], _ => exact ⟨a, b, c, d, e, f, rfl⟩
theorem open_script {base' : Nat} {r : Reach} {v : Value} {d : DataW H} {p : List MemPlace} (hv : Value.okWide Tryd.prog w r base' 26 v) (h : DataW.Trod enc Tryd.prog w base (fun _ => true) held 26 v d p) (hk : ∀ k ∈ d.weights Tryd.prog 26, k ≤ 140737488351232) :
    ∃ (S : Sc) (fv tv iv : Value), v = .agg (scL S fv tv iv).toArray ∧ ScW w w.heap.size fv tv iv S ∧ ScB S := by
  obtain ⟨cs, rfl, hsz⟩ := okWide_struct Tryd.underlying26 hv
  have hsz2 : cs.toList.length = 6 := by
    have : cs.size = 6 := hsz.trans (by kernel_rfl)
    simpa using this
  obtain ⟨c0, c1, c2, c3, c4, c5, hcs⟩ := list6 hsz2
  obtain ⟨fuel, hf⟩ := h
  obtain ⟨xs, n, _, hxy, hl, hxl, hf⟩ := DataW.trod_struct Tryd.underlying26 hf
  simp only [Value.cells, hcs] at hf
  have hxl : xs.length = 6 := hxl
  match xs, hxl with
  | [y0, y1, y2, y3, y4, y5], _ =>
    have g0 := hf 0 _ rfl
    have g1 := hf 1 _ rfl
    have g2 := hf 2 _ rfl
    have g3 := hf 3 _ rfl
    have g4 := hf 4 _ rfl
    have g5 := hf 5 _ rfl
    simp [cl9, cl3, cl22, cl23, cl24] at g0 g1 g2 g3 g4 g5
    have hd : d = .agg [y0.1, y1.1, y2.1, y3.1, y4.1, y5.1] := congrArg Prod.fst hxy
    have hww : ∀ (j : Nat) (t : TypeId) (y : DataW H × List MemPlace), [3, 22, 9, 3, 23, 24][j]? = some t → [y0, y1, y2, y3, y4, y5][j]? = some y → ∀ k ∈ y.1.weights Tryd.prog t, k ≤ 140737488351232 := fun j t y h1 h2 k hkk => hk k (by
      rw [hd]
      simp only [DataW.weights, Tryd.underlying26]
      exact DataW.weights_mem_each (ts := [3, 22, 9, 3, 23, 24]) (ds := [y0, y1, y2, y3, y4, y5].map (·.1)) (j := j) h1 (by rw [List.getElem?_map, h2]; rfl) k hkk)
    obtain ⟨z0, f0, _, hz0⟩ := DataW.trod_int Tryd.underlying3 g0
    obtain ⟨fl, hfs, hfr, hfn⟩ := open_fls g1 (hww 1 22 y1 rfl rfl)
    obtain ⟨s, f2, e2, _⟩ := DataW.trod_string Tryd.underlying9 g2
    obtain ⟨z3, f3, _, hz3⟩ := DataW.trod_int Tryd.underlying3 g3
    obtain ⟨ts, hts, htb, htn⟩ := open_nums Tryd.underlying23 Tryd.underlying3 cl3 by3 g4 (hww 4 23 y4 rfl rfl)
    obtain ⟨il, his, hir, hin⟩ := open_ips g5 (hww 5 24 y5 rfl rfl)
    have hsl : s.size ≤ 140737488351232 := by
      have h1 := hww 2 9 y2 rfl rfl s.data.toList.length (by rw [e2]; simp [DataW.weights])
      simpa using h1
    simp only [List.cons.injEq, and_true] at f0 f2 f3
    subst f0 f2 f3
    refine ⟨⟨z0, fl, s, z3, ts, il⟩, c1, c4, c5, ?_, ⟨hfs, hts, his⟩, ⟨wf_i64' _ hz0, wf_i64' _ hz3, hsl, hfn, htn, hin, hfr, fun t ht => wf_i64' t (htb t ht), hir⟩⟩
    rw [← Array.toArray_toList (xs := cs), hcs]
    rfl
end
end Go.Proofs.YtjbealefopajcaaDoor
