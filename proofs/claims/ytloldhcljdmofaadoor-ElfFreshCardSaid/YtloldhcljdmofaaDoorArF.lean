import Derived.Test.YtloldhcljdmofaaDoorTr
import Derived.Test.YtloldhcljdmofaaDoorBk1
import Derived.Test.YtloldhcljdmofaaDoorWq4
import Derived.Test.YtloldhcljdmofaaDoorWx
import Derived.Test.YtloldhcljdmofaaDoorSamP
namespace Go.Proofs.YtloldhcljdmofaaDoor
open Go.RowKit
set_option linter.unusedVariables false
set_option linter.unusedSimpArgs false
def datD (E : List (Sg × Value)) (B : Nat → Int) (i : Nat) : List Int := match E[i]? with | some x => byt B x.1 | none => []
theorem datD_some {E : List (Sg × Value)} {B : Nat → Int} {i : Nat} {x : Sg × Value} (h : E[i]? = some x) : datD E B i = byt B x.1 := by unfold datD; rw [h]
section
variable {w : World} {X : Nat} {sv : Value} {E : List (Sg × Value)} {B : Nat → Int}
/-- A program of one's own, as one that is handed over. -/
theorem Prs.arg {q : Option Addr} {c : Nat} (h : Prs w X (.slice q E.length c) E B) (hB : ∀ k, 0 ≤ B k ∧ B k < 256) : Arg w q E.length c (srs E) (datD E B) := by
  have key : ∀ i, i < E.length → ∃ x g dq dc, q = some ⟨g, 0, .none⟩ ∧ E[i]? = some x ∧ x.2 = .slice dq x.1.sz dc ∧ srs E i = ⟨x.1.va, x.1.fl, dq, x.1.sz, dc, x.1.mem⟩ ∧ w.cell? ⟨g, i * 4, .none⟩ = some (.int .u64 x.1.va) ∧ w.cell? ⟨g, i * 4 + 1, .none⟩ = some (.int .u32 x.1.fl) ∧ w.cell? ⟨g, i * 4 + 2, .none⟩ = some (.slice dq x.1.sz dc) ∧ w.cell? ⟨g, i * 4 + 3, .none⟩ = some (.int .u64 x.1.mem) := by
    intro i hi
    obtain ⟨x, hx⟩ : ∃ x, E[i]? = some x := ⟨E[i], List.getElem?_eq_getElem hi⟩
    obtain ⟨g', dq, dc, eg, hd, hd1, hd2, a0, a1, a2, a3⟩ := h.cells hx
    exact ⟨x, g', dq, dc, eg, hx, hd, by rw [srs_some hx, srOf, hd], a0, a1, a2, a3⟩
  refine ⟨?_, own_capN h.own, fun i hi => ?_, fun i hi => ?_, fun i hi => ?_, fun i hi => ?_, fun i hi => ?_, fun i hi => ?_⟩
  · by_cases h0 : E.length = 0
    · exact .inl h0
    · obtain ⟨_, g, _, _, hg, _⟩ := key 0 (by omega)
      subst hg
      refine .inr ⟨g, 0, rfl, fun i hi => ?_, fun i hi => ?_, fun i hi => ?_, fun i hi => ?_⟩ <;> obtain ⟨x, g', dq, dc, eg, hx, hd, es, a0, a1, a2, a3⟩ := key i hi <;> injection eg with eg <;> injection eg with eg <;> subst eg <;> rw [es, Nat.zero_add] <;> assumption
  · obtain ⟨x, g', dq, dc, eg, hx, hd, es, a0, a1, a2, a3⟩ := key i hi
    rw [es, datD_some hx]
    have := h.dat x (List.mem_of_getElem? hx)
    rw [hd] at this
    exact byt_own this
  · obtain ⟨x, g', dq, dc, eg, hx, hd, es, a0, a1, a2, a3⟩ := key i hi
    rw [es]
    have := h.sz x (List.mem_of_getElem? hx)
    show x.1.sz < _
    omega
  · obtain ⟨x, g', dq, dc, eg, hx, hd, es, a0, a1, a2, a3⟩ := key i hi
    rw [es]
    exact h.va x (List.mem_of_getElem? hx)
  · obtain ⟨x, g', dq, dc, eg, hx, hd, es, a0, a1, a2, a3⟩ := key i hi
    rw [es]
    exact h.fl x (List.mem_of_getElem? hx)
  · obtain ⟨x, g', dq, dc, eg, hx, hd, es, a0, a1, a2, a3⟩ := key i hi
    rw [es]
    exact h.mem x (List.mem_of_getElem? hx)
  · obtain ⟨x, g', dq, dc, eg, hx, hd, es, a0, a1, a2, a3⟩ := key i hi
    rw [datD_some hx]
    intro y hy
    simp only [byt, List.mem_map] at hy
    obtain ⟨j, _, rfl⟩ := hy
    exact hB _
theorem Prs.slices (h : Prs w X sv E B) : ∀ x ∈ E, ∃ q n c, x.2 = .slice q n c := fun x hx => by
  obtain ⟨dq, dc, e, _⟩ := own_form (h.dat x hx)
  exact ⟨_, _, _, e⟩
theorem Prs.sr (h : Prs w X sv E B) {i : Nat} {x : Sg × Value} (hx : E[i]? = some x) : (srs E i).va = x.1.va ∧ (srs E i).fl = x.1.fl ∧ (srs E i).mem = x.1.mem ∧ (srs E i).n = x.1.sz := by
  obtain ⟨q, n, c, e⟩ := h.slices x (List.mem_of_getElem? hx)
  rw [srs_some hx, srOf, e]
  exact ⟨rfl, rfl, rfl, rfl⟩
theorem Prs.len (h : Prs w X sv E B) : ∀ i, i < E.length → (datD E B i).length = (srs E i).n := fun i hi => by
  obtain ⟨x, hx⟩ : ∃ x, E[i]? = some x := ⟨E[i], List.getElem?_eq_getElem hi⟩
  rw [datD_some hx, byt_len, (h.sr hx).2.2.2]
end
theorem sum_congr {S S' : Nat → Sr} {m : Nat} (h : ∀ i, i < m → (S i).n = (S' i).n) : ∀ i, i ≤ m → sumN S i = sumN S' i
  | 0, _ => rfl
  | i + 1, hi => by
    rw [sumN, sumN, sum_congr h i (by omega), h i (by omega)]
theorem sgs_congr {S S' : Nat → Sr} {m : Nat} (h : ∀ i, i < m → (S i).va = (S' i).va ∧ (S i).fl = (S' i).fl ∧ (S i).mem = (S' i).mem ∧ (S i).n = (S' i).n) : sgsG S m = sgsG S' m := by
  unfold sgsG
  refine List.map_congr_left fun i hi => ?_
  have hi := List.mem_range.1 hi
  obtain ⟨h1, h2, h3, h4⟩ := h i hi
  rw [h1, h2, h3, h4, sum_congr (fun i hi => (h i hi).2.2.2) i (by omega)]
theorem flat_congr {D D' : Nat → List Int} : ∀ m, (∀ i, i < m → D i = D' i) → flat D m = flat D' m
  | 0, _ => rfl
  | m + 1, h => by
    rw [flat, flat, flat_congr m (fun i hi => h i (by omega)), h m (by omega)]
theorem datB_congr {D D' : Nat → List Int} {m : Nat} (h : ∀ i, i < m → D i = D' i) : datB D m = datB D' m := by
  unfold datB
  rw [flat_congr m h]
/-- What is known of a program of m segments and of a copy of it. -/
structure Cp (w : World) (X : Nat) (sv : Value) (E : List (Sg × Value)) (S : Nat → Sr) (D : Nat → List Int) (m : Nat) : Prop where
  own : w.ownsRow X 54 4 sv E.length (flatE E)
  ln : LnP X w E D
  gs : E.map (·.1) = sgsG S m
  va : ∀ i, i < m → 0 ≤ (S i).va ∧ (S i).va < 18446744073709551616
  fl : ∀ i, i < m → 0 ≤ (S i).fl ∧ (S i).fl < 4294967296
  mem : ∀ i, i < m → 0 ≤ (S i).mem ∧ (S i).mem < 18446744073709551616
  sz : ∀ i, i < m → (S i).n ≤ 400000
  ln_ : ∀ i, i < m → (D i).length = (S i).n
  by_ : ∀ i, i < m → ∀ x ∈ D i, 0 ≤ x ∧ x < 256
section
variable {w : World} {X m : Nat} {sv : Value} {E : List (Sg × Value)} {S : Nat → Sr} {D : Nat → List Int}
theorem Cp.len (h : Cp w X sv E S D m) : E.length = m := by
  have := congrArg List.length h.gs
  rwa [List.length_map, sgsG_len] at this
theorem Cp.get (h : Cp w X sv E S D m) {i : Nat} {x : Sg × Value} (hx : E[i]? = some x) : i < m ∧ (sgsG S m)[i]? = some x.1 ∧ x.1 = ⟨(S i).va, (S i).fl, (S i).mem, 64 + 56 * m + sumN S i, (S i).n⟩ := by
  have hg : (sgsG S m)[i]? = some x.1 := by
    rw [← h.gs, List.getElem?_map, hx]
    rfl
  exact ⟨(sgsG_get hg).1, hg, (sgsG_get hg).2⟩
theorem Cp.prs (h : Cp w X sv E S D m) : Prs w X sv E (datB D m) := by
  refine ⟨h.own, fun x hx => ?_, fun x hx => ?_, fun x hx => ?_, fun x hx => ?_, fun x hx => ?_⟩
  all_goals
    obtain ⟨i, hi⟩ := List.getElem?_of_mem hx
    obtain ⟨hm, hg, he⟩ := h.get hi
  · obtain ⟨g, c, e1, e2, e3⟩ := h.ln.1 i x hi
    rw [datB_byt h.ln_ hg, e1, e2]
    exact lent_own e3
  · rw [he]; exact h.va i hm
  · rw [he]; exact h.fl i hm
  · rw [he]; exact h.mem i hm
  · rw [he]; exact h.sz i hm
theorem Cp.below {w' : World} (h : Cp w X sv E S D m) (k : Below w.heap.size w w') : Cp w' X sv E S D m :=
  ⟨owns_below h.own k, h.ln.below k, h.gs, h.va, h.fl, h.mem, h.sz, h.ln_, h.by_⟩
theorem xor_b (x : Int) : 0 ≤ bits .xor .u8 x 255 ∧ bits .xor .u8 x 255 < 256 := by
  have h := bits_within .xor .u8 x 255
  have e1 : IntKind.u8.min = 0 := rfl
  have e2 : IntKind.u8.max = 255 := rfl
  rw [e1, e2] at h
  omega
theorem tn_bd {xs : List Int} (h : ∀ x ∈ xs, 0 ≤ x ∧ x < 256) : ∀ x ∈ tn xs, 0 ≤ x ∧ x < 256 := by
  cases xs with
  | nil => exact h
  | cons y ys =>
    intro x hx
    rcases List.mem_cons.1 hx with rfl | hx
    · exact xor_b y
    · exact h x (List.mem_cons_of_mem _ hx)
def tD (D : Nat → List Int) (i : Nat) : List Int := tn (D i)
theorem Cp.turn {w' : World} (h : Cp w X sv E S D m) (h1 : LnP X w' E (Dn D E.length)) (h2 : w'.ownsRow X 54 4 sv E.length (flatE E)) : Cp w' X sv E S (tD D) m := by
  refine ⟨h2, ⟨fun i x hx => ?_, fun i j x y g c g' c' hx hy hij e1 e2 => ?_⟩, h.gs, h.va, h.fl, h.mem, h.sz, fun i hi => ?_, fun i hi => tn_bd (h.by_ i hi)⟩
  · have hi := (List.getElem?_eq_some_iff.1 hx).1
    have := h1.1 i x hx
    unfold Dn at this
    rw [if_pos hi] at this
    exact this
  · refine h.ln.2 i j x y g c g' c' hx hy hij ?_ ?_
    · rw [tD, tn_len] at e1; exact e1
    · rw [tD, tn_len] at e2; exact e2
  · rw [tD, tn_len]; exact h.ln_ i hi
theorem Cp.bd (h : Cp w X sv E S D m) : ∀ k, 0 ≤ datB D m k ∧ datB D m k < 256 := datB_bd h.by_
theorem Cp.dat (h : Cp w X sv E S D m) {i : Nat} (hi : i < m) : datD E (datB D m) i = D i := by
  obtain ⟨x, hx⟩ : ∃ x, E[i]? = some x := ⟨E[i]'(by rw [h.len]; exact hi), List.getElem?_eq_getElem _⟩
  rw [datD_some hx, datB_byt h.ln_ (h.get hx).2.1]
theorem Cp.sr (h : Cp w X sv E S D m) {i : Nat} (hi : i < m) : (srs E i).va = (S i).va ∧ (srs E i).fl = (S i).fl ∧ (srs E i).mem = (S i).mem ∧ (srs E i).n = (S i).n := by
  obtain ⟨x, hx⟩ : ∃ x, E[i]? = some x := ⟨E[i]'(by rw [h.len]; exact hi), List.getElem?_eq_getElem _⟩
  obtain ⟨r1, r2, r3, r4⟩ := h.prs.sr hx
  have he := (h.get hx).2.2
  rw [r1, r2, r3, r4, he]
  exact ⟨rfl, rfl, rfl, rfl⟩
theorem Cp.wq (h : Cp w X sv E S D m) {w1 w2 : World} {en : Int} {e : Ending} (hP : WqP w1 en (srs E) (datD E (datB D m)) m e w2) : WqP w1 en S D m e w2 := by
  have e1 : sgsG (srs E) m = sgsG S m := sgs_congr fun i hi => h.sr hi
  have e2 : sumN (srs E) m = sumN S m := sum_congr (fun i hi => (h.sr hi).2.2.2) m (Nat.le_refl _)
  have e3 : datB (datD E (datB D m)) m = datB D m := datB_congr fun i hi => h.dat hi
  unfold WqP at hP ⊢
  rw [e1, e2, e3] at hP
  exact hP
end
theorem wx_form {w : World} {E : List (Sg × Value)} {B : Nat → Int} {en : Int} {e : Ending} {w' : World} (h : WxP w E B en e w') : Below w.heap.size w w' ∧ ∃ p n c v, e = .returned (.tuple #[.slice p n c, v]) := by
  obtain ⟨hb, h⟩ := h
  refine ⟨hb, ?_⟩
  rcases h with ⟨a, r, v, _, _, rfl, _⟩ | ⟨_, _, v, rfl, _⟩ | ⟨_, _, v, rfl, ho⟩
  · exact ⟨_, _, _, _, rfl⟩
  · exact ⟨_, _, _, _, rfl⟩
  · obtain ⟨q, c, rfl, _⟩ := own_form ho
    exact ⟨_, _, _, _, rfl⟩
theorem wq_form {w : World} {S : Nat → Sr} {D : Nat → List Int} {m : Nat} {en : Int} {e : Ending} {w' : World} (h : WqP w en S D m e w') : Below w.heap.size w w' ∧ ∃ p n c fp fn fc r, e = .returned (.tuple #[.slice p n c, .agg #[.slice fp fn fc, .int .i64 r]]) := by
  obtain ⟨hb, h⟩ := h
  refine ⟨hb, ?_⟩
  rcases h with ⟨a, r, p, n, c, _, _, rfl, _⟩ | ⟨_, _, p, n, c, rfl, _⟩ | ⟨_, _, p, c, rfl, _⟩
  · exact ⟨_, _, _, _, _, _, _, rfl⟩
  · exact ⟨_, _, _, _, _, _, _, rfl⟩
  · exact ⟨_, _, _, _, _, _, _, rfl⟩
/-- Both answers are the same file, or the same fault. -/
theorem wr_both {w1 w1' w2 w2' : World} {E : List (Sg × Value)} {S : Nat → Sr} {D : Nat → List Int} {m : Nat} {en r : Int} {p1 p2 fp : Option Addr} {n1 c1 n2 c2 fn fc : Nat} {v : Value} (hE : E.map (·.1) = sgsG S m)
    (h1 : WxP w1 E (datB D m) en (.returned (.tuple #[.slice p1 n1 c1, v])) w1') (h2 : WqP w2 en S D m (.returned (.tuple #[.slice p2 n2 c2, .agg #[.slice fp fn fc, .int .i64 r]])) w2') :
    n1 = n2 ∧ n1 ≤ 262144 ∧ (∃ a, ErrR w1' v a r ∧ RefR w2' (.agg #[.slice fp fn fc, .int .i64 r]) a r) ∧ (∃ xs, Byt w1' p1 n1 c1 xs ∧ Byt w2' p2 n2 c2 xs) ∧ (∀ b o, p1 = some ⟨b, o, .none⟩ → w1.heap.size ≤ b) ∧ (∀ b o, p2 = some ⟨b, o, .none⟩ → w2.heap.size ≤ b) := by
  have hl : E.length = m := by
    have := congrArg List.length hE
    rwa [List.length_map, sgsG_len] at this
  have hs : szs (sgsG S m) m = sumN S m := szs_sgs m (Nat.le_refl _)
  obtain ⟨_, h1⟩ := h1
  obtain ⟨_, h2⟩ := h2
  rw [hE, hl, hs] at h1
  have nil : ∀ W : World, Byt W none 0 0 [] := fun W => ⟨rfl, Nat.le_refl _, by decide, .inl rfl⟩
  rcases h1 with ⟨a, r1, v1, hv, hr, e1, he⟩ | ⟨hg, ht, v1, e1, he⟩ | ⟨hg, ht, v1, e1, ho⟩
  · rcases h2 with ⟨a', r2, p, n, c, hv', hr', e2, hf⟩ | ⟨hg', ht', p, n, c, e2, hf⟩ | ⟨hg', ht', p, c, e2, hf⟩
    · obtain ⟨rfl, rfl⟩ := vd_one hv hv'
      cases e1
      cases e2
      exact ⟨rfl, by omega, ⟨a, he, hf⟩, ⟨[], nil _, nil _⟩, fun b o e => (nomatch e), fun b o e => (nomatch e)⟩
    · exact absurd ((vd_good hv).2 hg') hr
    · exact absurd ((vd_good hv).2 hg') hr
  · rcases h2 with ⟨a', r2, p, n, c, hv', hr', e2, hf⟩ | ⟨hg', ht', p, n, c, e2, hf⟩ | ⟨hg', ht', p, c, e2, hf⟩
    · exact absurd ((vd_good hv').2 hg) hr'
    · cases e1
      cases e2
      exact ⟨rfl, by omega, ⟨0, he, hf⟩, ⟨[], nil _, nil _⟩, fun b o e => (nomatch e), fun b o e => (nomatch e)⟩
    · omega
  · rcases h2 with ⟨a', r2, p, n, c, hv', hr', e2, hf⟩ | ⟨hg', ht', p, n, c, e2, hf⟩ | ⟨hg', ht', p, c, e2, hf, hp⟩
    · exact absurd ((vd_good hv').2 hg) hr'
    · omega
    · obtain ⟨q, cc, rfl, _⟩ := own_form ho
      cases e1
      cases e2
      rw [lst_by8] at ho
      refine ⟨rfl, by omega, ⟨0, .inr ⟨rfl, rfl⟩, .inr ⟨rfl, rfl⟩⟩, ⟨_, byt_own ho, hf⟩, fun b o e => ?_, hp⟩
      subst e
      exact own_block ho b rfl
end Go.Proofs.YtloldhcljdmofaaDoor
namespace Go.Proofs.YtloldhcljdmofaaDoor
open Go.RowKit
set_option linter.unusedVariables false
set_option linter.unusedSimpArgs false
/-- A variable of two cells. -/
def Cl2 (W : World) (p : Nat) (a b : Value) : Prop := W.cell? ⟨p, 0, .none⟩ = some a ∧ W.cell? ⟨p, 1, .none⟩ = some b ∧ ∀ i, W.frozen? ⟨p, i, .none⟩ = false
theorem Cl2.below {W W' : World} {p : Nat} {a b : Value} (h : Cl2 W p a b) (k : Below W.heap.size W W') : Cl2 W' p a b :=
  ⟨(k.cell (lt_of_cell h.1)).trans h.1, (k.cell (lt_of_cell h.2.1)).trans h.2.1, fun i => (k.frozen (p := ⟨p, i, .none⟩) (show p < W.heap.size from lt_of_cell (x := ⟨p, 0, .none⟩) h.1)).trans (h.2.2 i)⟩
theorem Cl2.blk {W W' : World} {p : Nat} {a b : Value} (h : Cl2 W p a b) (k : W'.heap[p]? = W.heap[p]?) : Cl2 W' p a b :=
  ⟨(World.cell?_of_block k).trans h.1, (World.cell?_of_block k).trans h.2.1, fun i => (World.frozen?_of_block (a := ⟨p, i, .none⟩) k).trans (h.2.2 i)⟩
theorem cl2_new (W : World) (a b : Value) (t : Nat) : Cl2 (W.alloc (.cells #[a, b] t)) W.heap.size a b :=
  ⟨World.cell?_alloc_at _ _ _ _ rfl, World.cell?_alloc_at _ _ _ _ rfl, fun i => World.frozen?_alloc_new _ _ _ _⟩
theorem Cl2.lt {W : World} {p : Nat} {a b : Value} (h : Cl2 W p a b) : p < W.heap.size := lt_of_cell (x := ⟨p, 0, .none⟩) h.1
theorem byt_move {W W' : World} {p : Option Addr} {n c : Nat} {xs : List Int} (h : Byt W p n c xs) (hk : ∀ b o, p = some ⟨b, o, .none⟩ → n ≠ 0 → W'.heap[b]? = W.heap[b]?) : Byt W' p n c xs := by
  obtain ⟨h1, h2, h3, h4⟩ := h
  refine ⟨h1, h2, h3, ?_⟩
  rcases h4 with h4 | ⟨b, o, rfl, h5, h6⟩
  · exact .inl h4
  · by_cases hn : n = 0
    · exact .inl hn
    · have e := hk b o rfl hn
      refine .inr ⟨b, o, rfl, ?_, fun i x hx => (World.cell?_of_block e).trans (h6 i x hx)⟩
      have : W.heap[b]? = some W.heap[b] := Array.getElem?_eq_getElem h5
      rw [← e] at this
      exact (Array.getElem?_eq_some_iff.1 this).1
theorem bytesB_any {p1 p2 : Option Addr} {n c1 c2 : Nat} {xs : List Int} {w : World} (hn : n < 140737488355000) (h1 : Byt w p1 n c1 xs) (h2 : Byt w p2 n c2 xs) :
    Calls Tryd.prog 12 #[.slice p1 n c1, .slice p2 n c2] w fun e w' => e = .returned (.bool true) ∧ Below w.heap.size w w' :=
  (bytes_any p1 p2 n c1 c2 xs w hn h1 h2).mono fun e w' ⟨h1, k, h2⟩ => ⟨h1, by rw [h2]; exact ⟨rfl, rfl, rfl, Nat.le_refl _, fun _ _ => rfl⟩⟩
theorem Cp.move {w w' w0 : World} {X m : Nat} {sv : Value} {E : List (Sg × Value)} {S : Nat → Sr} {D D0 : Nat → List Int} (h : Cp w X sv E S D m) (h0 : Cp w0 X sv E S D0 m) (hk : ∀ g, X ≤ g → g < w0.heap.size → w'.heap[g]? = w.heap[g]?) : Cp w' X sv E S D m := by
  refine ⟨row_of_block h.own fun g hg => hk g (h0.own.lt g hg).1 (h0.own.lt g hg).2, ⟨fun i x hx => ?_, h.ln.2⟩, h.gs, h.va, h.fl, h.mem, h.sz, h.ln_, h.by_⟩
  obtain ⟨g, c, e1, e2, e3⟩ := h.ln.1 i x hx
  obtain ⟨g', c', e1', e2', e3'⟩ := h0.ln.1 i x hx
  have hi := (h.get hx).1
  rw [e1, h.ln_ i hi, h0.ln_ i hi] at e1'
  injection e1' with e4
  injection e4 with e4
  injection e4 with e4
  subst e4
  refine ⟨g, c, e1, e2, row_of_block e3 fun k hk2 => ?_⟩
  injection hk2 with hk2
  subst hk2
  exact hk g (own_block e3 g rfl) (own_lt e3')
/-- The rows of the copy lie in the room that was made for it. -/
theorem Cp.room {w : World} {X m : Nat} {sv : Value} {E : List (Sg × Value)} {S : Nat → Sr} {D : Nat → List Int} (h : Cp w X sv E S D m) {i : Nat} {x : Sg × Value} {g c : Nat} (hx : E[i]? = some x) (hv : x.2 = .slice (some ⟨g, 0, .none⟩) (D i).length c) : X ≤ g ∧ g < w.heap.size := by
  obtain ⟨g', c', e1, e2, e3⟩ := h.ln.1 i x hx
  rw [hv] at e1
  injection e1 with e1
  injection e1 with e1
  injection e1 with e1
  subst e1
  exact ⟨own_block e3 g rfl, own_lt e3⟩
theorem Cp.oth {w W W' : World} {X m : Nat} {sv : Value} {E : List (Sg × Value)} {S : Nat → Sr} {D : Nat → List Int} (h : Cp w X sv E S D m) (ho : Oth W W' E D) {k : Nat} (hk : k < W.heap.size) (hn : k < X ∨ w.heap.size ≤ k) : W'.heap[k]? = W.heap[k]? :=
  ho k hk fun i x g c hx hv e => by have := h.room hx hv; omega
theorem err_set {V : World} {b : Nat} {v : Value} {a r : Int} {k0 x y : Value} (h : ErrR V v a r) (h0 : V.cell? ⟨b, 0, .none⟩ = some k0) (hk : ∀ s, k0 ≠ .string s) : ErrR ((V.setCell ⟨b, 0, .none⟩ x).setCell ⟨b, 1, .none⟩ y) v a r := by
  rcases h with ⟨h1, B, z, hB, hv, c0, c1, c2⟩ | h
  · have hne : B ≠ b := fun e => by rw [e, h0] at c0; injection c0 with c0; exact hk _ c0
    have so : ∀ o, ((V.setCell ⟨b, 0, .none⟩ x).setCell ⟨b, 1, .none⟩ y).cell? ⟨B, o, .none⟩ = V.cell? ⟨B, o, .none⟩ := fun o => by
      rw [World.cell?_setCell_other _ _ _ _ (by simp [Ne.symm hne]), World.cell?_setCell_other _ _ _ _ (by simp [Ne.symm hne])]
    exact .inl ⟨h1, B, z, by rw [World.size_setCell, World.size_setCell]; exact hB, hv, (so 0).trans c0, (so 1).trans c1, (so 2).trans c2⟩
  · exact .inr h
theorem ref_set {V : World} {b : Nat} {v : Value} {a r : Int} {k0 x y : Value} (h : RefR V v a r) (h0 : V.cell? ⟨b, 0, .none⟩ = some k0) (hk : ∀ s, k0 ≠ .string s) : RefR ((V.setCell ⟨b, 0, .none⟩ x).setCell ⟨b, 1, .none⟩ y) v a r := by
  rcases h with ⟨h1, B, hB, hv, c0, c1⟩ | h
  · have hne : B ≠ b := fun e => by rw [e, h0] at c0; injection c0 with c0; exact hk _ c0
    have so : ∀ o, ((V.setCell ⟨b, 0, .none⟩ x).setCell ⟨b, 1, .none⟩ y).cell? ⟨B, o, .none⟩ = V.cell? ⟨B, o, .none⟩ := fun o => by
      rw [World.cell?_setCell_other _ _ _ _ (by simp [Ne.symm hne]), World.cell?_setCell_other _ _ _ _ (by simp [Ne.symm hne])]
    exact .inl ⟨h1, B, by rw [World.size_setCell, World.size_setCell]; exact hB, hv, (so 0).trans c0, (so 1).trans c1⟩
  · exact .inr h
theorem cl2_set {V : World} {b : Nat} {k0 k1 x y : Value} (h : Cl2 V b k0 k1) : Cl2 ((V.setCell ⟨b, 0, .none⟩ x).setCell ⟨b, 1, .none⟩ y) b x y :=
  ⟨(World.cell?_setCell_other _ _ _ _ (by simp)).trans (World.cell?_setCell_same' _ _ _ (by rw [h.1]; rfl)), World.cell?_setCell_same' _ _ _ (by rw [World.cell?_setCell_other _ _ _ _ (by simp), h.2.1]; rfl), fun i => by rw [World.frozen?_setCell, World.frozen?_setCell]; exact h.2.2 i⟩
theorem set2_blk {V : World} {b k : Nat} {x y : Value} (h : k ≠ b) : ((V.setCell ⟨b, 0, .none⟩ x).setCell ⟨b, 1, .none⟩ y).heap[k]? = V.heap[k]? :=
  (heap_setCell_other _ ⟨b, 1, .none⟩ k _ h).trans (heap_setCell_other _ ⟨b, 0, .none⟩ k _ h)
theorem cp_new {w W1 W2 : World} {q : Option Addr} {m c : Nat} {S : Nat → Sr} {D : Nat → List Int} {sv : Value} {E : List (Sg × Value)} (h : Arg w q m c S D) (hz : sumN S m ≤ 400000) (own : W2.ownsRow W1.heap.size 54 4 sv E.length (flatE E)) (ln : LnP W1.heap.size W2 E D) (gs : E.map (·.1) = sgsG S m) : Cp W2 W1.heap.size sv E S D m :=
  ⟨own, ln, gs, h.va, h.fl, h.mem, fun i hi => Nat.le_trans (sum_one m (Nat.le_refl _) i hi) hz, fun i hi => (h.dat i hi).1, h.by_⟩
end Go.Proofs.YtloldhcljdmofaaDoor
