import Derived.Test.YtblmkkhiojbcjaaGreatGt
import Derived.Test.YtblmkkhiojbcjaaGreatGi
import Derived.Test.YtblmkkhiojbcjaaGreatEu
namespace Go.Proofs.YtblmkkhiojbcjaaGreat
open Go Go.RowKit Fz
set_option linter.unusedVariables false
set_option linter.unusedSimpArgs false
/-- Bytes that were read. -/
def InZ (w : World) (n : Nat) (R : Nat → Int) (e : Ending) (w' : World) : Prop := ∃ q cq, e = .returned (.tuple #[.slice q n cq, .bool true]) ∧ See w' .u8 q n R ∧ Below w.heap.size w w' ∧ ∀ g o, q = some ⟨g, o, .none⟩ → w.heap.size ≤ g
section
variable {w W W' : World} {s p b m N r P ft : Nat} {size : Int} {B B' : Nat → Int} {L L' : List Nat} {F : Nat → Option Nat} {lf : Nat → Nat → Int} {fr : Nat → Nat} {c : Nat → Int}
theorem in_all (h : SpT w s p b m N r P ft size B L F lf fr c) (hc : ∀ i, i < P → c i = 214) (n : Nat) (hn : n ≤ P * 4096) : Calls Tryz.prog 13 #[.pointer (some ⟨s, 0, .none⟩), .int .u64 0, .int .i64 n] w (InZ w n (btU B fr)) := by
  have hsz := h.sz
  by_cases h0 : n = 0
  · subst h0
    exact (in_zero h.su 0).mono fun e w' hh => ⟨none, 0, hh.1, .inl rfl, hh.2, fun g o e => by cases e⟩
  · refine (in_any h.su 0 n (by omega) (by omega)).mono fun e w' hh => ?_
    obtain ⟨hb, ⟨_, g, h1, h2, h3, h4⟩ | ⟨⟨j, hj, h1⟩, _⟩⟩ := hh
    · refine ⟨some ⟨g, 0, .none⟩, n, h3, .inr ⟨g, 0, rfl, h2, fun i hi => ?_⟩, hb, fun g' o' e => by injection e with e; injection e with e; omega⟩
      rw [Nat.zero_add, h4 i hi, Nat.zero_add]
    · unfold accU at h1
      rw [hc _ (by omega)] at h1
      exact absurd h1 (by decide)
theorem see_same {k : IntKind} {q : Option Addr} {n : Nat} {R R' : Nat → Int} (h : See w k q n R) (e : ∀ i, i < n → R i = R' i) : See w k q n R' := by
  rcases h with h | ⟨g, o, hq, hg, hr⟩
  · exact .inl h
  · exact .inr ⟨g, o, hq, hg, fun i hi => by rw [← e i hi]; exact hr i hi⟩
/-- What a write comes to, done or not. -/
def OtP (w : World) (s p b m N r P ft : Nat) (size : Int) (B : Nat → Int) (L : List Nat) (F : Nat → Option Nat) (lf : Nat → Nat → Int) (fr : Nat → Nat) (c : Nat → Int) (e : Ending) (w' : World) : Prop := ∃ v, e = .returned (.bool v) ∧ Fra p b m w w' ∧ ∃ B', SpT w' s p b m N r P ft size B' L F lf fr c ∧ Oth L F fr (List.range P) B L F fr (List.range P) B'
theorem out_sp (h : SpT w s p b m N r P ft size B L F lf fr c) (va n : Nat) (hvn : (va : Int) < 18446744073709551616 ∧ (n : Int) < 9223372036854775808) (q : Option Addr) (cc : Nat) (hcc : n ≤ cc ∧ cc ≤ 9223372036854775807) (R : Nat → Int) (hR : ∀ i, 0 ≤ R i ∧ R i < 256) (hS : See w .u8 q n R) (hgp : n ≠ 0 → ∀ g o, q = some ⟨g, o, .none⟩ → g ≠ p ∧ g ≠ b ∧ g ≠ m) :
    Calls Tryz.prog 16 #[.pointer (some ⟨s, 0, .none⟩), .int .u64 va, .slice q n cc] w (OtP w s p b m N r P ft size B L F lf fr c) := by
  by_cases h0 : n = 0
  · subst h0
    exact (out_zero h.su va q cc).mono fun e w' hh => ⟨true, hh.1, Fra.below hh.2, B, h.below hh.2, Oth.refl _ _ _ _ _⟩
  · rcases hS with hS | ⟨g, o, rfl, hg, hr⟩
    · exact absurd hS h0
    refine (out_any h.su va n (by omega) hvn g o cc hcc R hR hr (hgp h0 g o rfl)).mono fun e w' hh => ?_
    rcases hh with ⟨h1, h2⟩ | ⟨_, h2, h3⟩
    · obtain ⟨k1, k2, k3⟩ := h.wr h1.1 h2
      exact ⟨true, h2.1, k3, _, k1, k2⟩
    · exact ⟨false, h2, Fra.below h3, B, h.below h3, Oth.refl _ _ _ _ _⟩
theorem poke_sp (h : SpT w s p b m N r P ft size B L F lf fr c) (va n : Nat) (hvn : (va : Int) < 18446744073709551616 ∧ (n : Int) < 9223372036854775808) (q : Option Addr) (cc : Nat) (hcc : n ≤ cc ∧ cc ≤ 9223372036854775807) (R : Nat → Int) (hR : ∀ i, 0 ≤ R i ∧ R i < 256) (hS : See w .u8 q n R) (hgp : n ≠ 0 → ∀ g o, q = some ⟨g, o, .none⟩ → g ≠ p ∧ g ≠ b ∧ g ≠ m) :
    Calls Tryz.prog 18 #[.pointer (some ⟨s, 0, .none⟩), .int .u64 va, .slice q n cc] w (OtP w s p b m N r P ft size B L F lf fr c) := by
  have hsz := h.sz
  by_cases h0 : n = 0
  · subst h0
    exact (poke_zero h.su va hvn.1 q cc).mono fun e w' hh => ⟨_, hh.1, Fra.below hh.2, B, h.below hh.2, Oth.refl _ _ _ _ _⟩
  · rcases hS with hS | ⟨g, o, rfl, hg, hr⟩
    · exact absurd hS h0
    refine (poke_gen h.su va n (by omega) hvn g o cc hcc R hR hr (hgp h0 g o rfl)).mono fun e w' hh => ?_
    rcases hh with ⟨h1, h2⟩ | ⟨_, h2, h3⟩
    · obtain ⟨k1, k2, k3⟩ := h.wr (by omega) h2
      exact ⟨true, h2.1, k3, _, k1, k2⟩
    · subst h3
      exact ⟨false, h2, Fra.below (Below.refl _ _), B, h, Oth.refl _ _ _ _ _⟩
/-- A frame is taken. -/
theorem SpT.took {w' : World} {f : Nat} {L1 : List Nat} (h : SpT w s p b m N r P ft size B (f :: L1) F lf fr c) (hR : Ram w' p b m N (zer B f) L1) (hf : Fra p b m w w') : SpT w' s p b m N r P ft size (zer B f) L1 F lf fr c := by
  have d0 : Dis F fr (List.range P) ft (fun _ => none) fr [] := fun f _ h => by
    rcases h with ⟨x, hx⟩ | ⟨i, hi, _⟩
    · cases hx
    · cases hi
  have o : Oth (f :: L1) (fun _ => none) fr [] B L1 (fun _ => none) fr [] (zer B f) := fun g hg h2 h3 => ⟨fun e => hg (List.mem_cons_of_mem _ e), h2, h3, fun j hj => by
    have hne : g ≠ f := fun e => hg (by rw [e]; exact List.mem_cons_self ..)
    exact zer_out _ _ _ (by rcases Nat.lt_or_gt_of_ne hne with e | e <;> omega)⟩
  exact ⟨h.sp.fra hf h.ne.1 h.ne.2.1 h.ne.2.2, h.sz, h.pm, hR, h.ne, (h.tab.beside d0 o).1⟩
end
section
variable {w W W' : World} {s p b m r P ft cb rc fp : Nat} {size : Int} {F : Nat → Option Nat} {lf : Nat → Nat → Int} {fr : Nat → Nat} {c : Nat → Int} {G : Nat → Int} {K : Int}
theorem Tch.low {p b m x B : Nat} {w w' : World} (h : Tch p b m x w w') (hB : B ≤ w.heap.size) (h1 : B ≤ x ∧ B ≤ p ∧ B ≤ b ∧ B ≤ m) : Below B w w' :=
  ⟨h.os, h.tape, h.output, h.size, fun k hk => h.block k (by omega) (by omega) (by omega) (by omega) (by omega)⟩
/-- The space, as it is, and its copy, however it may be. -/
def TwX (K : Int) (w : World) (s p b m r P ft : Nat) (size : Int) (cb rc fp : Nat) (F : Nat → Option Nat) (lf : Nat → Nat → Int) (fr : Nat → Nat) (c : Nat → Int) (G : Nat → Int) (W : World) : Prop := Below w.heap.size w W ∧ (w.heap.size ≤ s ∧ w.heap.size ≤ p ∧ w.heap.size ≤ b ∧ w.heap.size ≤ m ∧ w.heap.size ≤ cb) ∧ ∃ Pc cz B L Fc lfc frc cc, Two W s p b m 60 r P ft size cb rc Pc fp cz B L F lf fr c Fc lfc frc cc ∧ (∀ i, i < P * 4096 → btU B fr i = G i) ∧ cz ≤ K
theorem TwX.below (h : TwX K w s p b m r P ft size cb rc fp F lf fr c G W) (k : Below W.heap.size W W') : TwX K w s p b m r P ft size cb rc fp F lf fr c G W' := by
  obtain ⟨h1, h2, Pc, cz, B, L, Fc, lfc, frc, cc, h3, h4, h5⟩ := h
  exact ⟨h1.trans (k.mono h1.size), h2, Pc, cz, B, L, Fc, lfc, frc, cc, h3.below k, h4, h5⟩
theorem bt_keep {B B' : Nat → Int} (h : ∀ i, i < P → ∀ j, j < 4096 → B' (fr i * 4096 + j) = B (fr i * 4096 + j)) (k : ∀ i, i < P * 4096 → btU B fr i = G i) : ∀ i, i < P * 4096 → btU B' fr i = G i := fun i hi => by
  rw [← k i hi]
  exact h _ (by omega) _ (by omega)
theorem TwX.step {Pc Pc' : Nat} {cz cz' : Int} {B B' : Nat → Int} {L L' : List Nat} {Fc Fc' : Nat → Option Nat} {lfc lfc' : Nat → Nat → Int} {frc frc' : Nat → Nat} {cc cc' : Nat → Int} (h1 : Below w.heap.size w W) (h2 : w.heap.size ≤ s ∧ w.heap.size ≤ p ∧ w.heap.size ≤ b ∧ w.heap.size ≤ m ∧ w.heap.size ≤ cb) (h3 : Two W s p b m 60 r P ft size cb rc Pc fp cz B L F lf fr c Fc lfc frc cc) (h4 : ∀ i, i < P * 4096 → btU B fr i = G i) (k : SpT W' cb p b m 60 rc Pc' fp cz' B' L' Fc' lfc' frc' cc') (o : Oth L Fc frc (List.range Pc) B L' Fc' frc' (List.range Pc') B') (t : Tch p b m cb W W') (hz : cz' ≤ K) : TwX K w s p b m r P ft size cb rc fp F lf fr c G W' := by
  obtain ⟨k1, k2⟩ := h3.step k o t
  exact ⟨h1.trans (t.low h1.size (by omega)), h2, Pc', cz', B', L', Fc', lfc', frc', cc', k1, bt_keep k2 h4, hz⟩
theorem out_tw (h : TwX K w s p b m r P ft size cb rc fp F lf fr c G W) (va n : Nat) (hvn : (va : Int) < 18446744073709551616 ∧ (n : Int) < 9223372036854775808) (q : Option Addr) (ca : Nat) (hcc : n ≤ ca ∧ ca ≤ 9223372036854775807) (R : Nat → Int) (hR : ∀ i, 0 ≤ R i ∧ R i < 256) (hS : See w .u8 q n R) :
    Calls Tryz.prog 16 #[.pointer (some ⟨cb, 0, .none⟩), .int .u64 va, .slice q n ca] W fun e w' => (∃ v, e = .returned (.bool v)) ∧ TwX K w s p b m r P ft size cb rc fp F lf fr c G w' ∧ Tch p b m cb W w' := by
  obtain ⟨h1, h2, Pc, cz, B, L, Fc, lfc, frc, cc, h3, h4, h5⟩ := h
  refine (out_sp h3.C va n hvn q ca hcc R hR (hS.below h1) (fun h0 g o e => ?_)).mono fun e w' hh => ?_
  · rcases hS with hS | ⟨g', o', e', hg, _⟩
    · exact absurd hS h0
    · rw [e] at e'
      have : g = g' := by injection e' with e'; injection e'
      omega
  · obtain ⟨v, k1, k2, B', k3, k4⟩ := hh
    exact ⟨⟨v, k1⟩, TwX.step h1 h2 h3 h4 k3 k4 (Tch.of k2) h5, Tch.of k2⟩
theorem grow_tw {cz : Int} {Pc : Nat} {B : Nat → Int} {L : List Nat} {Fc : Nat → Option Nat} {lfc : Nat → Nat → Int} {frc : Nat → Nat} {cc : Nat → Int} (h1 : Below w.heap.size w W) (h2 : w.heap.size ≤ s ∧ w.heap.size ≤ p ∧ w.heap.size ≤ b ∧ w.heap.size ≤ m ∧ w.heap.size ≤ cb) (h3 : Two W s p b m 60 r P ft size cb rc Pc fp cz B L F lf fr c Fc lfc frc cc) (h4 : ∀ i, i < P * 4096 → btU B fr i = G i) (tz : Int) (htz : cz ≤ tz ∧ tz ≤ K ∧ tz ≤ 65536) :
    Calls Tryz.prog 9 #[.pointer (some ⟨cb, 0, .none⟩), .int .u64 tz, .int .u64 2] W fun e w' => (∃ v, e = .returned (.int .i64 v)) ∧ TwX K w s p b m r P ft size cb rc fp F lf fr c G w' ∧ Tch p b m cb W w' := by
  have hsz := h3.C.sz
  refine (grow_any h3.C tz 2 (by unfold rgt; omega) ⟨htz.1, by omega⟩ ((tz + 4095) / 4096).toNat (by omega)).mono fun e w' hh => ?_
  rcases hh with ⟨_, k2, k3, B', L', F', lf', fr', c', k4, k5, k6, k7, k8⟩ | ⟨_, k2, k3⟩
  · exact ⟨⟨_, k2⟩, TwX.step h1 h2 h3 h4 k4 k6 k3 htz.2.1, k3⟩
  · exact ⟨⟨_, k2⟩, ⟨h1.trans (k3.mono h1.size), h2, Pc, cz, B, L, Fc, lfc, frc, cc, h3.below k3, h4, by omega⟩, Tch.of (Fra.below k3)⟩
theorem shrink_tw {cz : Int} {Pc : Nat} {B : Nat → Int} {L : List Nat} {Fc : Nat → Option Nat} {lfc : Nat → Nat → Int} {frc : Nat → Nat} {cc : Nat → Int} (h1 : Below w.heap.size w W) (h2 : w.heap.size ≤ s ∧ w.heap.size ≤ p ∧ w.heap.size ≤ b ∧ w.heap.size ≤ m ∧ w.heap.size ≤ cb) (h3 : Two W s p b m 60 r P ft size cb rc Pc fp cz B L F lf fr c Fc lfc frc cc) (h4 : ∀ i, i < P * 4096 → btU B fr i = G i) (h5 : cz ≤ K) (tz : Int) (htz : 0 ≤ tz ∧ tz ≤ cz) :
    Calls Tryz.prog 31 #[.pointer (some ⟨cb, 0, .none⟩), .int .u64 tz] W fun e w' => (∃ v, e = .returned (.int .i64 v)) ∧ TwX K w s p b m r P ft size cb rc fp F lf fr c G w' ∧ Tch p b m cb W w' := by
  refine (shrink_any h3.C tz htz ((tz + 4095) / 4096).toNat (by omega)).mono fun e w' hh => ?_
  obtain ⟨k1, k2, B', L', F', lf', k3, k4, k5⟩ := hh
  exact ⟨⟨_, k1⟩, TwX.step h1 h2 h3 h4 k3 k5 k2 (by omega), k2⟩
/-- The space alone, the copy gone, its frame still held. -/
def OnX (w : World) (s p b m r P ft : Nat) (size : Int) (fp : Nat) (F : Nat → Option Nat) (lf : Nat → Nat → Int) (fr : Nat → Nat) (c : Nat → Int) (G : Nat → Int) (W : World) : Prop := Below w.heap.size w W ∧ ∃ B L, SpT W s p b m 60 r P ft size B L F lf fr c ∧ (1 ≤ fp ∧ fp < 60 ∧ fp ∉ L) ∧ ∀ i, i < P * 4096 → btU B fr i = G i
theorem OnX.below (h : OnX w s p b m r P ft size fp F lf fr c G W) (k : Below W.heap.size W W') : OnX w s p b m r P ft size fp F lf fr c G W' := by
  obtain ⟨h1, B, L, h3, h4, h5⟩ := h
  exact ⟨h1.trans (k.mono h1.size), B, L, h3.below k, h4, h5⟩
theorem free_tw (h : TwX K w s p b m r P ft size cb rc fp F lf fr c G W) : Calls Tryz.prog 34 #[.pointer (some ⟨cb, 0, .none⟩)] W fun e w' => e = .returned (.int .i64 0) ∧ OnX w s p b m r P ft size fp F lf fr c G w' ∧ Tch p b m cb W w' := by
  obtain ⟨h1, h2, Pc, cz, B, L, Fc, lfc, frc, cc, h3, h4, h5⟩ := h
  refine (sfree_any h3.C).mono fun e w' hh => ?_
  obtain ⟨k1, k2, k3, B', L', k4, k5, k6⟩ := hh
  obtain ⟨s1, d1, y1⟩ := h3.S.tab.beside h3.d k6
  have hfp := h3.C.tab.ftb
  have hq := k6 fp hfp.2.2.1 hfp.2.2.2 (fun i hi => (h3.C.tab.pg i hi).2.2.2.2)
  exact ⟨k1, ⟨h1.trans (k2.low h1.size (by omega)), B', L', ⟨h3.S.sp.tch k2 h3.S.ne h3.ne, h3.S.sz, h3.S.pm, k4, h3.S.ne, s1⟩, ⟨hfp.1, hfp.2.1, hq.1⟩, bt_keep (fun i hi => y1 i (List.mem_range.2 hi)) h4⟩, k2⟩
theorem in_tw (h : TwX K w s p b m r P ft size cb rc fp F lf fr c G W) (hc : ∀ i, i < P → c i = 214) (n : Nat) (hn : n ≤ P * 4096) : Calls Tryz.prog 13 #[.pointer (some ⟨s, 0, .none⟩), .int .u64 0, .int .i64 n] W (InZ W n G) := by
  obtain ⟨h1, h2, Pc, cz, B, L, Fc, lfc, frc, cc, h3, h4, h5⟩ := h
  exact (in_all h3.S hc n hn).mono fun e w' ⟨q, cq, k1, k2, k3, k4⟩ => ⟨q, cq, k1, see_same k2 (fun i hi => h4 i (by omega)), k3, k4⟩
theorem in_on (h : OnX w s p b m r P ft size fp F lf fr c G W) (hc : ∀ i, i < P → c i = 214) (n : Nat) (hn : n ≤ P * 4096) : Calls Tryz.prog 13 #[.pointer (some ⟨s, 0, .none⟩), .int .u64 0, .int .i64 n] W (InZ W n G) := by
  obtain ⟨h1, B, L, h3, h4, h5⟩ := h
  exact (in_all h3 hc n hn).mono fun e w' ⟨q, cq, k1, k2, k3, k4⟩ => ⟨q, cq, k1, see_same k2 (fun i hi => h5 i (by omega)), k3, k4⟩
/-- A row that is read, beside the spaces. -/
def Rd (p b m cb : Nat) (q : Option Addr) (n : Nat) (G : Nat → Int) (W : World) : Prop := See W .u8 q n G ∧ ∀ g o, q = some ⟨g, o, .none⟩ → g ≠ p ∧ g ≠ b ∧ g ≠ m ∧ g ≠ cb
theorem Rd.tch {q : Option Addr} {n : Nat} (h : Rd p b m cb q n G W) (t : Tch p b m cb W W') : Rd p b m cb q n G W' := by
  refine ⟨?_, h.2⟩
  rcases h.1 with h1 | ⟨g, o, hq, hg, hr⟩
  · exact .inl h1
  · have hn := h.2 g o hq
    exact .inr ⟨g, o, hq, Nat.lt_of_lt_of_le hg t.size, fun i hi => (World.cell?_of_block (a := ⟨g, o + i, .none⟩) (t.block g hg hn.1 hn.2.1 hn.2.2.1 hn.2.2.2)).trans (hr i hi)⟩
theorem Rd.below {q : Option Addr} {n : Nat} (h : Rd p b m cb q n G W) (t : Below W.heap.size W W') : Rd p b m cb q n G W' := h.tch (Tch.of (Fra.below t))
/-- Frames of both, apart. -/
theorem Two.apt {N Pc : Nat} {cz : Int} {B : Nat → Int} {L : List Nat} {Fc : Nat → Option Nat} {lfc : Nat → Nat → Int} {frc : Nat → Nat} {cc : Nat → Int} (h : Two W s p b m N r P ft size cb rc Pc fp cz B L F lf fr c Fc lfc frc cc) {Z Y : List Int} (hz : FrZ N L F fr P Z) (hy : FrZ N L Fc frc Pc Y) : Apt N L (Z ++ Y).length 0 (lz (Z ++ Y)) (lz []) := by
  have hnd : (Z ++ Y).Nodup := by
    refine List.nodup_append.2 ⟨hz.nd, hy.nd, fun a ha a' ha' e => ?_⟩
    subst e
    obtain ⟨f, e1, _, _, _, f1⟩ := hz.mem a ha
    obtain ⟨g, e2, _, _, _, g1⟩ := hy.mem a ha'
    have efg : f = g := by rw [e1] at e2; unfold ad at e2; omega
    subst efg
    refine h.d f (.inl ?_) ?_
    · rcases f1 with f1 | ⟨i, hi, f1⟩
      · exact .inl f1
      · exact .inr ⟨i, List.mem_range.2 hi, f1.symm⟩
    · rcases g1 with g1 | ⟨i, hi, g1⟩
      · exact .inl g1
      · exact .inr ⟨i, List.mem_range.2 hi, g1.symm⟩
  refine ⟨fun i hi => ?_, fun i k hi hk => lz_ne hnd hi hk, fun i k hi hk => by omega⟩
  have hm := lz_mem hi
  rcases List.mem_append.1 hm with h1 | h1
  · obtain ⟨f, e1, _, e2, e3, _⟩ := hz.mem _ h1
    exact ⟨f, e1, e2, e3⟩
  · obtain ⟨f, e1, _, e2, e3, _⟩ := hy.mem _ h1
    exact ⟨f, e1, e2, e3⟩
end
end Go.Proofs.YtblmkkhiojbcjaaGreat
