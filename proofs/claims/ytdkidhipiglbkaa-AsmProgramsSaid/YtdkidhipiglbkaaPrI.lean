import Derived.Test.YtdkidhipiglbkaaPrG
namespace Go.Proofs.Ytdkidhipiglbkaa
open Go.RowKit
set_option linter.unusedVariables false
set_option linter.unusedSimpArgs false
theorem copyBytes_n {p : Option Addr} {n c : Nat} {xs : List Int} {w : World} (h : Byt w p n c xs) (hn : n < 1000000) : Calls Try.prog 9 #[.slice p n c] w fun e w' => ∃ p c, e = .returned (.slice p n c) ∧ w'.ownsRow w.heap.size 5 1 (.slice p n c) n (by8 xs) ∧ Below w.heap.size w w' := by
  have e := h.1
  subst e
  exact copyBytes_any h hn
theorem st_begin (w : World) (J : Im) : St w ((w.alloc (.cells #[.slice J.p1 J.n1 J.c1, .slice J.p2 J.n2 J.c2, .int .u64 J.da, .int .u64 J.ba, .int .u64 J.bs, .int .u64 J.en, .slice J.p3 J.n3 J.c3] 26)).alloc (.cells #[.slice J.p1 J.n1 J.c1, .slice J.p2 J.n2 J.c2, .int .u64 J.da, .int .u64 J.ba, .int .u64 J.bs, .int .u64 J.en, .slice J.p3 J.n3 J.c3] 26)) w.heap.size (w.heap.size + 1) J J := by
  have e : (w.alloc (.cells #[.slice J.p1 J.n1 J.c1, .slice J.p2 J.n2 J.c2, .int .u64 J.da, .int .u64 J.ba, .int .u64 J.bs, .int .u64 J.en, .slice J.p3 J.n3 J.c3] 26)).heap.size = w.heap.size + 1 := by rw [World.size_alloc]
  rw [← e]
  refine St.new ?_ ((Below.refl _ _).alloc (Nat.le_refl _) _) (by rw [World.size_alloc]; omega)
  refine ⟨?_, ?_, ?_, ?_, ?_, ?_, ?_⟩ <;> simp
/-- The argument and what is lent of it. -/
structure Mn (w V : World) (B : Nat) (J J2 : Im) (gA cA gB cB : Nat) (xs ys : List Int) (X1 X2 : Nat) : Prop where
  st : St w V B (B + 1) J J2
  la : Lent V (B + 2) gA cA xs
  lb : Lent V X1 gB cB ys
  a1 : gA < X1
  b2 : gB < X2
  x2 : X2 ≤ V.heap.size
theorem Mn.keep {w V V' : World} {B : Nat} {J J2 : Im} {gA cA gB cB : Nat} {xs ys : List Int} {X1 X2 : Nat} (h : Mn w V B J J2 gA cA gB cB xs ys X1 X2) (hb : Below V.heap.size V V') : Mn w V' B J J2 gA cA gB cB xs ys X1 X2 :=
  ⟨h.st.keep hb, lent_keep h.la hb (Nat.le_refl _), lent_keep h.lb hb (Nat.le_refl _), h.a1, h.b2, Nat.le_trans h.x2 hb.size⟩
/-- A variable that is a program, and its segments. -/
structure El (V : World) (b base : Nat) (en : Int) (p : Option Addr) (n c : Nat) (L : List Sg) : Prop where
  sg : Segs V base p n c L
  box : C2 V b (.int .u64 en) (.slice p n c)
  lo : base ≤ b
  hi : b < V.heap.size
theorem El.keep {V V' : World} {b base : Nat} {en : Int} {p : Option Addr} {n c : Nat} {L : List Sg} (h : El V b base en p n c L) (hb : Below V.heap.size V V') : El V' b base en p n c L :=
  ⟨segs_keep h.sg hb (Nat.le_refl _), c2_keep h.box hb h.hi, h.lo, Nat.lt_of_lt_of_le h.hi hb.size⟩
theorem El.new {V : World} {base : Nat} {en : Int} {p : Option Addr} {n c : Nat} {L : List Sg} (h : Segs V base p n c L) (hb : base ≤ V.heap.size) : El (V.alloc (.cells #[.int .u64 en, .slice p n c] 30)) V.heap.size base en p n c L :=
  ⟨segs_keep h ((Below.refl _ _).alloc (Nat.le_refl _) _) (Nat.le_refl _), ⟨by simp, by simp⟩, hb, by rw [World.size_alloc]; omega⟩
theorem own_blk_lt {V : World} {base e sz n : Nat} {v : Value} {xs : List Value} (h : V.ownsRow base e sz v n xs) : ∀ g, v.ownBlock = some g → g < V.heap.size := by
  intro g hg
  rcases h.2 with ⟨rfl, _⟩ | ⟨g', cap, cur, rfl, _, h4, _⟩
  · cases hg
  · simp only [Value.ownBlock, Option.some.injEq] at hg
    subst hg
    exact (Array.getElem?_eq_some_iff.1 h4).1
theorem keys_len (n : Nat) (xs ys : List Int) (da M : Int) : (keyA n xs ++ keyB da M ys).length ≤ 2 := by
  unfold keyA keyB
  split <;> split <;> simp
theorem keys_bd (n : Nat) (xs ys : List Int) (da M : Int) (h1 : xs.length < 1000000) (h2 : ys.length < 1000000) : ∀ k ∈ keyA n xs ++ keyB da M ys, k.2.2.2.length < 1000000 := by
  intro k hk
  rcases List.mem_append.1 hk with hk | hk
  · unfold keyA at hk
    split at hk
    · cases hk
    · simp only [List.mem_singleton] at hk
      subst hk
      exact h1
  · unfold keyB at hk
    split at hk
    · cases hk
    · simp only [List.mem_singleton] at hk
      subst hk
      exact h2
theorem els_same {V : World} {b1 b2 s1 s2 : Nat} {en da M : Int} {p1 p2 : Option Addr} {n n1 n2 c1 c2 : Nat} {L1 L2 : List Sg} {xs ys : List Int} (h1 : El V b1 s1 en p1 n1 c1 L1) (h2 : El V b2 s2 en p2 n2 c2 L2) (k1 : L1.map Sg.key = keyA n xs ++ keyB da M ys) (k2 : L2.map Sg.key = keyA n xs ++ keyB da M ys) (hx : xs.length < 1000000) (hy : ys.length < 1000000) :
    Calls Try.prog 7 #[.agg #[.int .u64 en, .slice p1 n1 c1], .agg #[.int .u64 en, .slice p2 n2 c2]] V fun e w' => e = .returned (.bool true) ∧ Below V.heap.size V w' := by
  refine same_any h1.sg h2.sg (k1.trans k2.symm) ?_ ?_
  · have := keys_len n xs ys da M
    rw [← k1, List.length_map, h1.sg.2.1] at this
    exact this
  · rw [k1]
    exact keys_bd n xs ys da M hx hy
/-- What stands when the two loops begin: four rows of bytes, two images, and where all lies. -/
structure Fx (V9 V : World) (B T gA gB gC gD : Nat) (J2 J3 : Im) (xs ys : List Int) : Prop where
  ra : Rw V J2.p1 J2.n1 J2.c1 xs gA
  rb : Rw V J2.p2 J2.n2 J2.c2 ys gB
  rc : Rw V J3.p1 J3.n1 J3.c1 xs gC
  rd : Rw V J3.p2 J3.n2 J3.c2 ys gD
  own : S7 (B + 1) J2 V
  tur : S7 T J3 V
  oa : B + 1 < gA
  ab : gA < gB
  bt : gB < T
  tc : T < gC
  td : T < gD
  cd : gC ≠ gD
  bel : Below T V9 V
  t9 : V9.heap.size = T
theorem fx_make {V9 V : World} {w : World} {B T gA gB cA cB X1 X2 X12 : Nat} {J J2 J3 : Im} {xs ys : List Int} (hM : Mn w V9 B J J2 gA cA gB cB xs ys X1 X2) (h2 : X1 ≤ X2) (e1 : J2.p1 = some ⟨gA, 0, .none⟩) (e2 : J2.n1 = xs.length) (e3 : J2.c1 = cA) (f1 : J2.p2 = some ⟨gB, 0, .none⟩) (f2 : J2.n2 = ys.length) (f3 : J2.c2 = cB)
    (hT : V9.heap.size = T) (hS : St w V B T J J3) (oC : V.ownsRow (T + 1) 5 1 (.slice J3.p1 J3.n1 J3.c1) J3.n1 (by8 xs)) (oD : V.ownsRow X12 5 1 (.slice J3.p2 J3.n2 J3.c2) J3.n2 (by8 ys)) (hb : Below T V9 V) (x1 : T < X12) (x2 : X12 ≤ V.heap.size) (x3 : ∀ g, Value.ownBlock (.slice J3.p1 J3.n1 J3.c1) = some g → g < X12) :
    ∃ gC gD, Fx V9 V B T gA gB gC gD J2 J3 xs ys := by
  obtain ⟨gC, c1, RC, c2⟩ := rw_own oC (by omega) V.heap.size (Nat.le_refl _)
  obtain ⟨gD, d1, RD, d2⟩ := rw_own oD x2 (V.heap.size + 1) (by omega)
  have la := own_lt hM.la
  have lb := own_lt hM.lb
  have ba := own_base hM.la
  have bb := own_base hM.lb
  have hs := hb.size
  have ra : Rw V9 J2.p1 J2.n1 J2.c1 xs gA := by rw [e1, e2, e3]; exact rw_lent hM.la
  have rb : Rw V9 J2.p2 J2.n2 J2.c2 ys gB := by rw [f1, f2, f3]; exact rw_lent hM.lb
  have := hM.a1
  have hz := hM.st.sz
  refine ⟨gC, gD, rw_keep ra hb.size (hb.block gA (by omega)), rw_keep rb hb.size (hb.block gB (by omega)), RC, RD, s7_keep hM.st.own hb (by omega), hS.own, by omega, by omega, by omega, by omega, by omega, ?_, hb, hT⟩
  rcases c2 with ⟨c3, c4⟩ | rfl
  · have := x3 gC c3
    omega
  · omega
section
variable {V9 V W W1 W2 : World} {B T gA gB gC gD k : Nat} {J2 J3 : Im} {xs ys : List Int} {f g : Int → Int}
theorem s7_block {b : Nat} {J : Im} (h : S7 b J V) (hb : W.heap[b]? = V.heap[b]?) : S7 b J W := by
  obtain ⟨k0, k1, k2, k3, k4, k5, k6⟩ := h
  exact ⟨(World.cell?_of_block hb).trans k0, (World.cell?_of_block hb).trans k1, (World.cell?_of_block hb).trans k2, (World.cell?_of_block hb).trans k3, (World.cell?_of_block hb).trans k4, (World.cell?_of_block hb).trans k5, (World.cell?_of_block hb).trans k6⟩
/-- Behind the first loop. -/
theorem Fx.mid (h : Fx V9 V B T gA gB gC gD J2 J3 xs ys) (l : Lo V W gA gC xs.length k f xs) : Rw W J2.p2 J2.n2 J2.c2 ys gB ∧ Rw W J3.p2 J3.n2 J3.c2 ys gD ∧ S7 (B + 1) J2 W ∧ S7 T J3 W := by
  have := h.oa
  have := h.ab
  have := h.bt
  have := h.tc
  have := h.td
  have := h.cd
  exact ⟨rw_keep h.rb (Nat.le_of_eq l.size.symm) (l.block gB (by omega) (by omega)), rw_keep h.rd (Nat.le_of_eq l.size.symm) (l.block gD (by omega) (by omega)), s7_block h.own (l.block _ (by omega) (by omega)), s7_block h.tur (l.block _ (by omega) (by omega))⟩
theorem own_range {base X e sz n : Nat} {v : Value} {zs : List Value} (h : V9.ownsRow base e sz v n zs) (hX : X ≤ base) (hT : V9.heap.size = T) (hb : ∀ j, X ≤ j → j < T → W.heap[j]? = V9.heap[j]?) : W.ownsRow base e sz v n zs := by
  rcases h with ⟨h1, h2 | ⟨g, cap, cur, rfl, h3, h4, h5⟩⟩
  · exact ⟨h1, .inl h2⟩
  · have hg : g < V9.heap.size := (Array.getElem?_eq_some_iff.1 h4).1
    exact ⟨h1, .inr ⟨g, cap, cur, rfl, h3, (hb g (by omega) (by omega)).trans h4, h5⟩⟩
theorem el_range {b base X : Nat} {en : Int} {p : Option Addr} {n c : Nat} {L : List Sg} (h : El V9 b base en p n c L) (hX : X ≤ base) (hT : V9.heap.size = T) (hs : T ≤ W.heap.size) (hb : ∀ j, X ≤ j → j < T → W.heap[j]? = V9.heap[j]?) : El W b base en p n c L := by
  have h1 := h.hi
  have h2 := h.lo
  have hbb := hb b (by omega) (by omega)
  exact ⟨⟨own_range h.sg.1 hX hT hb, h.sg.2.1, fun s hs => own_range (h.sg.2.2 s hs) hX hT hb⟩, ⟨(World.cell?_of_block hbb).trans h.box.1, (World.cell?_of_block hbb).trans h.box.2⟩, h.lo, by omega⟩
/-- Behind both loops. -/
theorem Fx.fin (h : Fx V9 V B T gA gB gC gD J2 J3 xs ys) (l1 : Lo V W1 gA gC xs.length xs.length f xs) (l2 : Lo W1 W2 gB gD ys.length ys.length g ys) :
    (Byt W2 J2.p1 J2.n1 J2.c1 (xs.map f) ∧ Byt W2 J2.p2 J2.n2 J2.c2 (ys.map g) ∧ Byt W2 J3.p1 J3.n1 J3.c1 (xs.map f) ∧ Byt W2 J3.p2 J3.n2 J3.c2 (ys.map g)) ∧ S7 (B + 1) J2 W2 ∧ S7 T J3 W2 ∧ (∀ j, gB < j → j < T → W2.heap[j]? = V9.heap[j]?) ∧ T ≤ W2.heap.size ∧ Below (B + 1) V9 W2 := by
  have := h.oa
  have := h.ab
  have := h.bt
  have := h.tc
  have := h.td
  have := h.cd
  have hm := h.mid l1
  have hsz : W2.heap.size = V.heap.size := l2.size.trans l1.size
  have hz := h.bel.size
  have ht := h.t9
  have ca : ∀ i x, (xs.map f)[i]? = some x → W2.cell? ⟨gA, i, .none⟩ = some (.int .u8 x) := fun i x hx => (World.cell?_of_block (l2.block gA (by omega) (by omega))).trans (l1.ca i x (by rw [mt_all]; exact hx))
  have cc : ∀ i x, (xs.map f)[i]? = some x → W2.cell? ⟨gC, i, .none⟩ = some (.int .u8 x) := fun i x hx => (World.cell?_of_block (l2.block gC (by omega) (by omega))).trans (l1.cd i x (by rw [mt_all]; exact hx))
  have cb : ∀ i x, (ys.map g)[i]? = some x → W2.cell? ⟨gB, i, .none⟩ = some (.int .u8 x) := fun i x hx => l2.ca i x (by rw [mt_all]; exact hx)
  have cdd : ∀ i x, (ys.map g)[i]? = some x → W2.cell? ⟨gD, i, .none⟩ = some (.int .u8 x) := fun i x hx => l2.cd i x (by rw [mt_all]; exact hx)
  refine ⟨⟨rw_byt h.ra hsz (by simp [h.ra.len]) ca, rw_byt h.rb hsz (by simp [h.rb.len]) cb, rw_byt h.rc hsz (by simp [h.rc.len]) cc, rw_byt h.rd hsz (by simp [h.rd.len]) cdd⟩, s7_block hm.2.2.1 (l2.block _ (by omega) (by omega)), s7_block hm.2.2.2 (l2.block _ (by omega) (by omega)), fun j h1 h2 => (l2.block j (by omega) (by omega)).trans ((l1.block j (by omega) (by omega)).trans (h.bel.block j h2)), by omega, ?_⟩
  exact ⟨l2.os.trans (l1.os.trans h.bel.os), l2.tape.trans (l1.tape.trans h.bel.tape), l2.output.trans (l1.output.trans h.bel.output), by omega, fun j hj => (l2.block j (by omega) (by omega)).trans ((l1.block j (by omega) (by omega)).trans (h.bel.block j (by omega)))⟩
end
/-- What the last test reads: two programs and two images. -/
def Rg (W : World) (Eb Fb O T : Nat) (en : Int) (pe : Option Addr) (ne ce : Nat) (pf : Option Addr) (nf cf : Nat) (J2 J3 : Im) : Prop := C2 W Eb (.int .u64 en) (.slice pe ne ce) ∧ C2 W Fb (.int .u64 en) (.slice pf nf cf) ∧ S7 O J2 W ∧ S7 T J3 W
theorem rg_keep {X : Nat} {W W' : World} {Eb Fb O T : Nat} {en : Int} {pe : Option Addr} {ne ce : Nat} {pf : Option Addr} {nf cf : Nat} {J2 J3 : Im} (h : Rg W Eb Fb O T en pe ne ce pf nf cf J2 J3) (hb : Below X W W') (h1 : Eb < X) (h2 : Fb < X) (h3 : O < X) (h4 : T < X) : Rg W' Eb Fb O T en pe ne ce pf nf cf J2 J3 :=
  ⟨c2_keep h.1 hb h1, c2_keep h.2.1 hb h2, s7_keep h.2.2.1 hb h3, s7_keep h.2.2.2 hb h4⟩
theorem lt_of_cell {W : World} {a : Addr} {v : Value} (h : W.cell? a = some v) : a.block < W.heap.size := by
  apply Classical.byContradiction
  intro hn
  unfold World.cell? at h
  rw [show W.heap[a.block]? = none from Array.getElem?_eq_none (by omega)] at h
  simp at h
end Go.Proofs.Ytdkidhipiglbkaa
