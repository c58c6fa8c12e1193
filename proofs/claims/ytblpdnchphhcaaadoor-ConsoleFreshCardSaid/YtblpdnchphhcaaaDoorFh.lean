import Derived.Test.YtblpdnchphhcaaaDoorRz
import Derived.Maps.AppendAt
namespace Go.Proofs.YtblpdnchphhcaaaDoor
open Go.RowKit
set_option linter.unusedVariables false
set_option linter.unusedSimpArgs false
theorem info22 : ∃ i z, Tryd.prog.info? 22 = some i ∧ i.zero = some z ∧ i.size = 1 ∧ i.bytes = 24 ∧ z.cells.size = 1 := info_ofF 22 24 (by kernel_rfl) (by kernel_rfl)
theorem cell1_new (w : World) (x : Value) (t : TypeId) : ∀ j u, [x][j]? = some u → (w.alloc (.cells #[x] t)).cell? ((⟨w.heap.size, 0, .none⟩ : Addr).add j) = some u := by
  intro j u hj
  rw [le_addr_add, World.cell?_alloc_at _ _ _ _ rfl, Nat.zero_add]
  simpa using hj
theorem cell2_new (w : World) (x y : Value) (t : TypeId) : ∀ j u, [x, y][j]? = some u → (w.alloc (.cells #[x, y] t)).cell? ((⟨w.heap.size, 0, .none⟩ : Addr).add j) = some u := by
  intro j u hj
  rw [le_addr_add, World.cell?_alloc_at _ _ _ _ rfl, Nat.zero_add]
  simpa using hj
theorem wpList_append_at {P : Program} {w : World} {ops : Array Oper} {rest : List Oper} {o : Oper} {a : Act} {Q : Exit → Act → World → Prop} (hgd : o.guard = none) (s x : Operand) (t : TypeId)
    (hop : o.op = .call { callee := .builtin .append, args := #[s, x], argTypes := #[t, t] }) (base : Nat) (e : TypeId) (i : TypeInfo) (z : Value) (size bytes : Nat) (ht : P.underlying t = some (.slice e)) (hi : P.info? e = some i) (hz : i.zero = some z)
    (hsize : i.size = size) (hby : i.bytes = bytes) (hzs : z.cells.size = size) (hsz : 0 < size) (v : Value) (k : Nat) (xs : List Value) (hs : a.eval s = v) (hown : w.ownsRow base e size v k xs)
    (ad : Addr) (m c : Nat) (news : List Value) (hx : a.eval x = .slice (some ad) m c) (hl : news.length = m * size) (hnews : ∀ j u, news[j]? = some u → w.cell? (ad.add j) = some u) (h1 : ∀ u ∈ news, u.oneCell' = true)
    (h63 : k + m ≤ maxLen) (hbytes : (k + m) * bytes ≤ 140737488355328) (hbase : base ≤ w.heap.size)
    (h : ∀ v' w', w'.ownsRow base e size v' (k + m) (xs ++ news) → w.grownBy w' v.ownBlock → (v'.ownBlock = v.ownBlock ∨ v'.ownBlock = some w.heap.size) → wpList P ops Q rest (a.put o.dst v') w') : wpList P ops Q (o :: rest) a w := by
  obtain ⟨v', w', hrun, r1, r2, _, r4⟩ := run_append_own_at (P := P) w base t o.type e i z size bytes ht hi hz hsize hby hzs hsz v k xs hown ad m c news hl hnews h1 h63 hbytes hbase
  refine wpList_plain hgd fun K hK => ?_
  unfold Oper.wp execOp
  simp only [hop, resolve, invoke, builtin, Sem.run_bind, Sem.run_pure, Result.andThen_ok, List.map_toArray, List.map_cons, List.map_nil, hs, hx, hrun]
  exact hK _ _ (h v' w' r1 r2 r4)
/-- Free of rows that are apart. -/
theorem free_ap {w : World} {L : List (Value × List Int)} {bl cl : Nat} (hrow : ∀ (i : Nat) (r : Value × List Int), L[i]? = some r → w.ownsRow 0 5 1 r.1 r.2.length (by8 r.2) ∧ r.2.length ≤ 1000000) (hap : ∀ (i j : Nat) (r s : Value × List Int), i < j → L[i]? = some r → L[j]? = some s → ∀ g, r.1.ownBlock = some g → s.1.ownBlock ≠ some g) (hl : L.length ≤ 100000) (hbl : bl < w.heap.size) (hnb : ∀ r ∈ L, r.1.ownBlock ≠ some bl) (hc : ∀ (i : Nat) (r : Value × List Int), L[i]? = some r → w.cell? ⟨bl, i, .none⟩ = some r.1) :
    Calls Tryd.prog 27 #[.slice (some ⟨bl, 0, .none⟩) L.length cl] w fun e w' => e = .returned (.bool true) ∧ Chg (fun k => ∃ r ∈ L, r.1.ownBlock = some k) w w' := by
  have gt : ∀ i, i < L.length → L[i]? = some (L.getD i (.bool false, [])) := fun i hi => by
    rw [List.getD_eq_getElem?_getD, List.getElem?_eq_getElem hi]
    rfl
  have c := freeB_any L.length bl cl (fun i => (L.getD i (.bool false, [])).2.length) (fun i => (L.getD i (.bool false, [])).1) (fun i => by8 (L.getD i (.bool false, [])).2) w (by omega) (fun i hi => (hrow i _ (gt i hi)).2)
    ⟨fun i hi => (hrow i _ (gt i hi)).1, rfl, rfl, rfl, Nat.le_refl _, fun _ _ _ => rfl⟩
    (fun i j hi hj hij g hg => by
      rcases Nat.lt_or_gt_of_ne hij with h1 | h1
      · exact hap i j _ _ h1 (gt i hi) (gt j hj) g hg
      · intro e
        exact hap j i _ _ h1 (gt j hj) (gt i hi) g e hg)
    hbl (fun i hi => hnb _ (List.mem_of_getElem? (gt i hi))) (fun i hi => hc i _ (gt i hi))
  refine c.mono ?_
  rintro e w' ⟨rfl, xs, hF⟩
  refine ⟨rfl, hF.os, hF.tape, hF.output, hF.size, fun k hk hn => hF.block k hk (fun i hi e => hn ⟨_, List.mem_of_getElem? (gt i hi), e.symm⟩)⟩
/-- Everything of the law, each with blocks of a colour of its own. -/
structure Fz (w W : World) (b dd pb : Nat) (D : Nat → Prop) (rs ls rs' ls' : List Int) (kl wl : Value) (A B : List Value) (L : List (Value × Value × List Int)) (col : Nat → Nat) : Prop where
  bel : Below w.heap.size w W
  con : Con W b rs ls
  doc : Doc W dd D rs' ls'
  p0 : W.cell? ⟨pb, 0, .none⟩ = some (.pointer (some ⟨b, 0, .none⟩))
  p1 : W.cell? ⟨pb, 1, .none⟩ = some (.pointer (some ⟨dd, 0, .none⟩))
  rl : W.ownsRow 0 22 1 kl A.length A
  rw : W.ownsRow 0 22 1 wl B.length B
  row : ∀ (i : Nat) (r : Value × Value × List Int), L[i]? = some r → W.ownsRow 0 5 1 r.1 r.2.2.length (by8 r.2.2) ∧ W.ownsRow 0 5 1 r.2.1 r.2.2.length (by8 r.2.2) ∧ r.2.2.length ≤ 1000
  c0 : ∀ k, k < w.heap.size → col k = 0
  cb : col b = 1
  cD : ∀ k, D k → col k = 2 ∧ k < W.heap.size
  cp : col pb = 3
  cl : ∀ k, kl.ownBlock = some k → col k = 4
  cw : ∀ k, wl.ownBlock = some k → col k = 5
  cr : ∀ (i : Nat) (r : Value × Value × List Int), L[i]? = some r → (∀ k, r.1.ownBlock = some k → col k = 6 + 2 * i) ∧ (∀ k, r.2.1.ownBlock = some k → col k = 7 + 2 * i)
section
variable {w W V : World} {b dd pb : Nat} {D D' S : Nat → Prop} {rs ls rs' ls' R' L' : List Int} {kl wl kl' : Value} {A B A' : List Value} {L : List (Value × Value × List Int)} {col col' : Nat → Nat}
theorem Fz.recol (h : Fz w W b dd pb D rs ls rs' ls' kl wl A B L col) (hc : ∀ k, k < W.heap.size → col' k = col k) : Fz w W b dd pb D rs ls rs' ls' kl wl A B L col' :=
  ⟨h.bel, h.con, h.doc, h.p0, h.p1, h.rl, h.rw, h.row, fun k hk => (hc k (Nat.lt_of_lt_of_le hk h.bel.size)).trans (h.c0 k hk), (hc b h.con.lt).trans h.cb, fun k hk => ⟨(hc k (h.cD k hk).2).trans (h.cD k hk).1, (h.cD k hk).2⟩, (hc pb (lt_cell h.p0)).trans h.cp, fun k hk => (hc k (own_ltC h.rl k hk)).trans (h.cl k hk), fun k hk => (hc k (own_ltC h.rw k hk)).trans (h.cw k hk),
    fun i r hr => ⟨fun k hk => (hc k (own_ltC (h.row i r hr).1 k hk)).trans ((h.cr i r hr).1 k hk), fun k hk => (hc k (own_ltC (h.row i r hr).2.1 k hk)).trans ((h.cr i r hr).2 k hk)⟩⟩
theorem Fz.rows (h : Fz w W b dd pb D rs ls rs' ls' kl wl A B L col) (t : Chg S W V) (c : Nat) (hS : ∀ k, S k → col k = c) (hc : c < 6) : ∀ (i : Nat) (r : Value × Value × List Int), L[i]? = some r → V.ownsRow 0 5 1 r.1 r.2.2.length (by8 r.2.2) ∧ V.ownsRow 0 5 1 r.2.1 r.2.2.length (by8 r.2.2) ∧ r.2.2.length ≤ 1000 := fun i r hr => by
  have h1 := h.row i r hr
  have h2 := h.cr i r hr
  exact ⟨t.own h1.1 (fun g hg e => by have := hS g e; have := h2.1 g hg; omega), t.own h1.2.1 (fun g hg e => by have := hS g e; have := h2.2 g hg; omega), h1.2.2⟩
theorem Fz.bl (h : Fz w W b dd pb D rs ls rs' ls' kl wl A B L col) (t : Chg S W V) (c : Nat) (hS : ∀ k, S k → col k = c) (hc : c ≠ 0) : Below w.heap.size w V := h.bel.trans (t.toTrn h.bel.size (fun k hk e => hc ((hS k e).symm.trans (h.c0 k hk))))
theorem Fz.con' (h : Fz w W b dd pb D rs ls rs' ls' kl wl A B L col) (t : Trn b W V) (hc : Con V b R' L') : Fz w V b dd pb D R' L' rs' ls' kl wl A B L col := by
  have t := Chg.ofTrn t
  have hS : ∀ k, k = b → col k = 1 := fun k e => by rw [e]; exact h.cb
  have hp : ¬ pb = b := fun e => by have := h.cp; have := hS pb e; omega
  exact ⟨h.bl t 1 hS (by decide), hc, h.doc.keep t (fun k _ hk e => by have := hS k e; have := (h.cD k hk).1; omega), (t.cell (p := ⟨pb, 0, .none⟩) (lt_cell h.p0) hp).trans h.p0, (t.cell (p := ⟨pb, 1, .none⟩) (lt_cell h.p1) hp).trans h.p1, t.own h.rl (fun g hg e => by have := hS g e; have := h.cl g hg; omega), t.own h.rw (fun g hg e => by have := hS g e; have := h.cw g hg; omega), h.rows t 1 hS (by decide), h.c0, h.cb, fun k hk => ⟨(h.cD k hk).1, Nat.lt_of_lt_of_le (h.cD k hk).2 t.size⟩, h.cp, h.cl, h.cw, h.cr⟩
theorem Fz.doc' (h : Fz w W b dd pb D rs ls rs' ls' kl wl A B L col) (t : Chg D W V) (hd : Doc V dd D' R' L') (hD : ∀ k, D' k → col k = 2 ∧ k < V.heap.size) : Fz w V b dd pb D' rs ls R' L' kl wl A B L col := by
  have hS : ∀ k, D k → col k = 2 := fun k e => (h.cD k e).1
  have hp : ¬ D pb := fun e => by have := h.cp; have := hS pb e; omega
  exact ⟨h.bl t 2 hS (by decide), h.con.keep t (fun e => by have := hS b e; have := h.cb; omega), hd, (t.cell (p := ⟨pb, 0, .none⟩) (lt_cell h.p0) hp).trans h.p0, (t.cell (p := ⟨pb, 1, .none⟩) (lt_cell h.p1) hp).trans h.p1, t.own h.rl (fun g hg e => by have := hS g e; have := h.cl g hg; omega), t.own h.rw (fun g hg e => by have := hS g e; have := h.cw g hg; omega), h.rows t 2 hS (by decide), h.c0, h.cb, hD, h.cp, h.cl, h.cw, h.cr⟩
theorem Fz.below (h : Fz w W b dd pb D rs ls rs' ls' kl wl A B L col) (t : Below W.heap.size W V) : Fz w V b dd pb D rs ls rs' ls' kl wl A B L col := by
  have c : Chg (fun _ => False) W V := Chg.ofBelow t
  exact ⟨h.bel.trans (t.mono h.bel.size), h.con.below t, h.doc.below t, (t.cell (p := ⟨pb, 0, .none⟩) (lt_cell h.p0)).trans h.p0, (t.cell (p := ⟨pb, 1, .none⟩) (lt_cell h.p1)).trans h.p1, c.own h.rl (fun _ _ e => e), c.own h.rw (fun _ _ e => e), h.rows c 1 (fun _ e => e.elim) (by decide), h.c0, h.cb, fun k hk => ⟨(h.cD k hk).1, Nat.lt_of_lt_of_le (h.cD k hk).2 t.size⟩, h.cp, h.cl, h.cw, h.cr⟩
theorem Fz.drewN (h : Fz w W b dd pb D rs ls rs' ls' kl wl A B L col) (k : Nat) : Fz w (W.drewN k) b dd pb D rs ls rs' ls' kl wl A B L col := h.below ⟨rfl, rfl, rfl, Nat.le_refl _, fun _ _ => rfl⟩
theorem Fz.setl (h : Fz w W b dd pb D rs ls rs' ls' kl wl A B L col) (t : Chg (fun k => kl.ownBlock = some k) W V) (hO : V.ownsRow 0 22 1 kl' A'.length A') (hk : ∀ k, kl'.ownBlock = some k → col k = 4) : Fz w V b dd pb D rs ls rs' ls' kl' wl A' B L col := by
  have hS : ∀ k, kl.ownBlock = some k → col k = 4 := h.cl
  have hp : ¬ kl.ownBlock = some pb := fun e => by have := h.cp; have := hS pb e; omega
  exact ⟨h.bl t 4 hS (by decide), h.con.keep t (fun e => by have := hS b e; have := h.cb; omega), h.doc.keep t (fun k _ hk e => by have := hS k e; have := (h.cD k hk).1; omega), (t.cell (p := ⟨pb, 0, .none⟩) (lt_cell h.p0) hp).trans h.p0, (t.cell (p := ⟨pb, 1, .none⟩) (lt_cell h.p1) hp).trans h.p1, hO, t.own h.rw (fun g hg e => by have := hS g e; have := h.cw g hg; omega), h.rows t 4 hS (by decide), h.c0, h.cb, fun k hk => ⟨(h.cD k hk).1, Nat.lt_of_lt_of_le (h.cD k hk).2 t.size⟩, h.cp, hk, h.cw, h.cr⟩
theorem Fz.setw (h : Fz w W b dd pb D rs ls rs' ls' kl wl A B L col) (t : Chg (fun k => wl.ownBlock = some k) W V) (hO : V.ownsRow 0 22 1 kl' A'.length A') (hk : ∀ k, kl'.ownBlock = some k → col k = 5) : Fz w V b dd pb D rs ls rs' ls' kl kl' A A' L col := by
  have hS : ∀ k, wl.ownBlock = some k → col k = 5 := h.cw
  have hp : ¬ wl.ownBlock = some pb := fun e => by have := h.cp; have := hS pb e; omega
  exact ⟨h.bl t 5 hS (by decide), h.con.keep t (fun e => by have := hS b e; have := h.cb; omega), h.doc.keep t (fun k _ hk e => by have := hS k e; have := (h.cD k hk).1; omega), (t.cell (p := ⟨pb, 0, .none⟩) (lt_cell h.p0) hp).trans h.p0, (t.cell (p := ⟨pb, 1, .none⟩) (lt_cell h.p1) hp).trans h.p1, t.own h.rl (fun g hg e => by have := hS g e; have := h.cl g hg; omega), hO, h.rows t 5 hS (by decide), h.c0, h.cb, fun k hk => ⟨(h.cD k hk).1, Nat.lt_of_lt_of_le (h.cD k hk).2 t.size⟩, h.cp, h.cl, hk, h.cr⟩
theorem Fz.push (h : Fz w W b dd pb D rs ls rs' ls' kl wl A B L col) {v u : Value} {xs : List Int} (h1 : W.ownsRow 0 5 1 v xs.length (by8 xs)) (h2 : W.ownsRow 0 5 1 u xs.length (by8 xs)) (hx : xs.length ≤ 1000) (c1 : ∀ k, v.ownBlock = some k → col k = 6 + 2 * L.length) (c2 : ∀ k, u.ownBlock = some k → col k = 7 + 2 * L.length) : Fz w W b dd pb D rs ls rs' ls' kl wl A B (L ++ [(v, u, xs)]) col := by
  have cs : ∀ (i : Nat) (r : Value × Value × List Int), (L ++ [(v, u, xs)])[i]? = some r → L[i]? = some r ∨ (i = L.length ∧ r = (v, u, xs)) := fun i r hr => by
    by_cases hi : i < L.length
    · rw [List.getElem?_append_left hi] at hr
      exact .inl hr
    · have := (List.getElem?_eq_some_iff.1 hr).1
      simp at this
      have e : i = L.length := by omega
      subst e
      rw [List.getElem?_append_right (Nat.le_refl _), Nat.sub_self] at hr
      exact .inr ⟨rfl, (Option.some.inj hr).symm⟩
  refine ⟨h.bel, h.con, h.doc, h.p0, h.p1, h.rl, h.rw, fun i r hr => ?_, h.c0, h.cb, h.cD, h.cp, h.cl, h.cw, fun i r hr => ?_⟩
  · rcases cs i r hr with h3 | ⟨rfl, rfl⟩
    · exact h.row i r h3
    · exact ⟨h1, h2, hx⟩
  · rcases cs i r hr with h3 | ⟨rfl, rfl⟩
    · exact h.cr i r h3
    · exact ⟨c1, c2⟩
end
end Go.Proofs.YtblpdnchphhcaaaDoor
