import Derived.Test.YtblmkkhiojbcjaaGreatGu
import Derived.Deep.DeepCutAuto
namespace Go.Proofs.YtblmkkhiojbcjaaGreat
open Go Go.RowKit Fz
set_option linter.unusedVariables false
set_option linter.unusedSimpArgs false
theorem own_keep {W W' : World} {base e size n : Nat} {v : Value} {xs : List Value} (h : W.ownsRow base e size v n xs) (b : Below W.heap.size W W') : W'.ownsRow base e size v n xs := by
  obtain ⟨h1, h2⟩ := h
  refine ⟨h1, ?_⟩
  rcases h2 with h2 | ⟨g, cap, cur, e1, e2, e3, e4⟩
  · exact .inl h2
  · refine .inr ⟨g, cap, cur, e1, e2, ?_, e4⟩
    rw [b.block g (Array.getElem?_eq_some_iff.1 e3).1]
    exact e3
section
variable {P : Program} (w : World)
theorem wpList_append_ownG {ops : Array Oper} {rest : List Oper} {o : Oper} {a : Act} {Q : Exit → Act → World → Prop} (hw : Region.wanted o (yielded ops a.tmps) = true) (s x : Operand) (t : TypeId)
    (ho : o.op = .call { callee := .builtin .append, args := #[s, x], argTypes := #[t, t] })
    (base : Nat) (e : TypeId) (i : TypeInfo) (z : Value) (size bytes : Nat) (ht : P.underlying t = some (.slice e)) (hi : P.info? e = some i) (hz : i.zero = some z)
    (hsize : i.size = size) (hby : i.bytes = bytes) (hzs : z.cells.size = size) (hsz : 0 < size)
    (v : Value) (n : Nat) (xs : List Value) (hs : a.eval s = v) (hown : w.ownsRow base e size v n xs)
    (ad : Addr) (m c : Nat) (news : List Value) (hx : a.eval x = .slice (some ad) m c) (hl : news.length = m * size) (hnews : ∀ j u, news[j]? = some u → w.cell? (ad.add j) = some u) (h1 : ∀ u ∈ news, u.oneCell' = true)
    (h63 : n + m ≤ maxLen) (hbytes : (n + m) * bytes ≤ 140737488355328) (hbase : base ≤ w.heap.size)
    (h : ∀ v' w', w'.ownsRow base e size v' (n + m) (xs ++ news) → w.grownBy w' v.ownBlock → (v' = .slice none 0 0 ↔ v = .slice none 0 0 ∧ m = 0) → wpList P ops Q rest (a.put o.dst v') w') : wpList P ops Q (o :: rest) a w := by
  simp only [wpList, hw, if_true]
  exact .inl (wp_append_own w s x t ho base e i z size bytes ht hi hz hsize hby hzs hsz v n xs hs hown ad m c news hx hl hnews h1 h63 hbytes hbase h)
end
theorem own_sl {W : World} {base e size n : Nat} {v : Value} {xs : List Value} (h : W.ownsRow base e size v n xs) (hn : 1 ≤ n) : ∃ g cap, v = .slice (some ⟨g, 0, .none⟩) n cap := by
  rcases h.2 with h1 | ⟨g, cap, cur, e1, _⟩
  · exact absurd h1.2 (by omega)
  · exact ⟨g, cap, e1⟩
theorem wv_one {l : List Int} : ∀ u ∈ wv l, u.oneCell' = true := fun u hu => by
  unfold wv at hu
  obtain ⟨x, _, rfl⟩ := List.mem_map.1 hu
  rfl
theorem wv_app2 (l k : List Int) : wv l ++ wv k = wv (l ++ k) := by unfold wv; rw [List.map_append]
def LwA (w : World) (e : Ending) (w' : World) : Prop := e = .returned (.bool true) ∧ Below w.heap.size w w'
/-- The space, grown. -/
def GrX (w : World) (s p b m P : Nat) (size : Int) (W : World) : Prop := Below w.heap.size w W ∧ (w.heap.size ≤ s ∧ w.heap.size ≤ p ∧ w.heap.size ≤ b ∧ w.heap.size ≤ m) ∧ P ≤ 10 ∧ size ≤ 40960 ∧ ∃ B L F lf fr c, SpT W s p b m 60 58 P 59 size B L F lf fr c ∧ L.length + nodesF F + P + 3 = 60 ∧ ∀ i, i < P → c i = 214
/-- And a frame taken. -/
def AlX (w : World) (s p b m P : Nat) (size : Int) (fp : Nat) (W : World) : Prop := Below w.heap.size w W ∧ (w.heap.size ≤ s ∧ w.heap.size ≤ p ∧ w.heap.size ≤ b ∧ w.heap.size ≤ m) ∧ P ≤ 10 ∧ size ≤ 40960 ∧ ∃ B L F lf fr c, SpT W s p b m 60 58 P 59 size B L F lf fr c ∧ L.length + nodesF F + P + 4 = 60 ∧ (∀ i, i < P → c i = 214) ∧ (1 ≤ fp ∧ fp < 60 ∧ fp ∉ L ∧ fp ≠ 59)
/-- And copied. -/
def CpX (w : World) (s p b m P : Nat) (size : Int) (cb rc fp : Nat) (F : Nat → Option Nat) (lf : Nat → Nat → Int) (fr : Nat → Nat) (c : Nat → Int) (G : Nat → Int) (W : World) : Prop := Below w.heap.size w W ∧ (w.heap.size ≤ s ∧ w.heap.size ≤ p ∧ w.heap.size ≤ b ∧ w.heap.size ≤ m ∧ w.heap.size ≤ cb) ∧ (P ≤ 10 ∧ size ≤ 40960) ∧ (∀ i, i < P → c i = 214) ∧ ∃ B L Fc lfc frc cc, Two W s p b m 60 58 P 59 size cb rc P fp size B L F lf fr c Fc lfc frc cc ∧ (∀ i, i < P → cc i = 214) ∧ (∀ i, i < P * 4096 → btU B fr i = G i) ∧ ∀ i, i < P * 4096 → btU B frc i = G i
section
variable {w W W' : World} {s p b m P : Nat} {size : Int}
theorem ndP_few (h : P ≤ 10) : ndP P ≤ 7 := by unfold ndP; split <;> omega
theorem grow_x {B : Nat → Int} {L : List Nat} {F : Nat → Option Nat} {lf : Nat → Nat → Int} {fr : Nat → Nat} {c : Nat → Int} (h1 : Below w.heap.size w W) (h2 : w.heap.size ≤ s ∧ w.heap.size ≤ p ∧ w.heap.size ≤ b ∧ w.heap.size ≤ m) (h : SpT W s p b m 60 58 0 59 0 B L F lf fr c) (hn : L.length + nodesF F + 3 = 60) (tz : Int) (ht : 0 ≤ tz ∧ tz ≤ 40960) (Q : Nat) (hQ : (tz + 4095) / 4096 = Q) :
    Calls Tryz.prog 9 #[.pointer (some ⟨s, 0, .none⟩), .int .u64 tz, .int .u64 6] W fun e w' => e = .returned (.int .i64 0) ∧ GrX w s p b m Q tz w' := by
  have e := h.tab.nodes (P := 0) (by omega)
  have e0 : ndP ((0 : Nat) : Int) = 3 := rfl
  have e1 := ndP_few (P := Q) (by omega)
  refine (grow_any h tz 6 (.inr (.inr (.inr (.inl rfl)))) ⟨by omega, by omega⟩ Q hQ).mono fun e w' hh => ?_
  rcases hh with ⟨k1, k2, k3, B', L', F', lf', fr', c', k4, k5, k6, k7, k8⟩ | ⟨k1, k2, k3⟩
  · exact ⟨k2, h1.trans (k3.low h1.size (by omega)), h2, by omega, ht.2, B', L', F', lf', fr', c', k4, by omega, fun i hi => k8 i (by omega) hi⟩
  · exact absurd (by rw [e0]; omega) k1
theorem poke_x (h : GrX w s p b m P size W) (n : Nat) (hvn : (n : Int) < 9223372036854775808) (q : Option Addr) (ca : Nat) (hcc : n ≤ ca ∧ ca ≤ 9223372036854775807) (R : Nat → Int) (hR : ∀ i, 0 ≤ R i ∧ R i < 256) (hS : See w .u8 q n R) :
    Calls Tryz.prog 18 #[.pointer (some ⟨s, 0, .none⟩), .int .u64 0, .slice q n ca] W fun e w' => (∃ v, e = .returned (.bool v)) ∧ GrX w s p b m P size w' := by
  obtain ⟨h1, h2, h3, h4, B, L, F, lf, fr, c, h5, h6, h7⟩ := h
  refine (poke_sp h5 0 n ⟨by decide, hvn⟩ q ca hcc R hR (hS.below h1) (fun h0 g o e => ?_)).mono fun e w' hh => ?_
  · rcases hS with hS | ⟨g', o', e', hg, _⟩
    · exact absurd hS h0
    · rw [e] at e'
      have : g = g' := by injection e' with e'; injection e'
      omega
  · obtain ⟨v, k1, k2, B', k3, k4⟩ := hh
    exact ⟨⟨v, k1⟩, h1.trans ((Tch.of (x := s) k2).low h1.size (by omega)), h2, h3, h4, B', L, F, lf, fr, c, k3, h6, h7⟩
theorem alloc_x (h : GrX w s p b m P size W) : Calls Tryz.prog 39 #[.pointer (some ⟨p, 0, .none⟩)] W fun e w' => ∃ fp, e = .returned (.tuple #[.int .u64 (ad fp), .bool true]) ∧ AlX w s p b m P size fp w' := by
  obtain ⟨h1, h2, h3, h4, B, L, F, lf, fr, c, h5, h6, h7⟩ := h
  have e := h5.tab.nodes (by omega)
  have e1 := ndP_few h3
  obtain ⟨f, L1, rfl⟩ : ∃ f L1, L = f :: L1 := by
    cases L with
    | nil => simp at h6; omega
    | cons f L1 => exact ⟨f, L1, rfl⟩
  refine (alloc_some f h5.ram).mono fun e w' hh => ?_
  obtain ⟨k1, k2, k3⟩ := hh
  have hf := h5.ram.lt f (List.mem_cons_self ..)
  refine ⟨f, k1, h1.trans ((Tch.of (x := s) k3).low h1.size (by omega)), h2, h3, h4, zer B f, L1, F, lf, fr, c, h5.took k2 k3, by rw [List.length_cons] at h6; omega, h7, hf.1, hf.2, (List.nodup_cons.1 h5.ram.nd).1, fun e => h5.tab.ftb.2.2.1 (by rw [← e]; exact List.mem_cons_self ..)⟩
theorem copy_x {fp : Nat} (h : AlX w s p b m P size fp W) : Calls Tryz.prog 40 #[.pointer (some ⟨s, 0, .none⟩), .int .u64 (ad fp)] W fun e w' => ∃ cb rc F lf fr c G, e = .returned (.tuple #[.pointer (some ⟨cb, 0, .none⟩), .int .i64 0]) ∧ CpX w s p b m P size cb rc fp F lf fr c G w' := by
  obtain ⟨h1, h2, h3, h4, B, L, F, lf, fr, c, h5, h6, h7, h8⟩ := h
  have e := h5.tab.nodes (by omega)
  have e1 := ndP_few h3
  refine (copy_any h5 h7 fp h8 (by omega)).mono fun e w' hh => ?_
  obtain ⟨cb, rc, k1, k2, k3, B', L', F', lf', fr', c', k4, k5, k6, k7, k8, k9⟩ := hh
  have z1 := h1.size
  refine ⟨cb, rc, F, lf, fr, c, btU B fr, k1, h1.trans ((Tch.of (x := s) k3).low h1.size (by omega)), ⟨h2.1, h2.2.1, h2.2.2.1, h2.2.2.2, by omega⟩, ⟨h3, h4⟩, h7, B', L', F', lf', fr', c', k4, k7, fun i hi => k8 _ (by omega) _ (by omega), fun i hi => k9 _ (by omega) _ (by omega)⟩
end
set_option maxRecDepth 100000 in
set_option maxHeartbeats 2000000 in
theorem apart_law {w : World} (a0 b0 c0 : Int) (ha0 : 0 ≤ a0 ∧ a0 < 18446744073709551616) (hb0 : 0 ≤ b0 ∧ b0 < 18446744073709551616) (hc0 : 0 ≤ c0 ∧ c0 < 18446744073709551616) (q : Option Addr) (nD cD : Nat) (hcc : nD ≤ cD ∧ cD ≤ 9223372036854775807) (R : Nat → Int) (hR : ∀ i, 0 ≤ R i ∧ R i < 256) (hS : See w .u8 q nD R) : Calls Tryz.prog 7 #[.int .u64 a0, .int .u64 b0, .slice q nD cD, .int .u64 c0] w (LwA w) := by
  have c8 := made_any w 60 (by omega)
  unfold MdT at c8
  obtain ⟨sz, hsz⟩ : ∃ sz, sz = a0 % 40960 := ⟨_, rfl⟩
  have hszb : 0 ≤ sz ∧ sz ≤ 40960 := by omega
  have hm1 : a0.tmod 40960 = sz := by rw [Int.tmod_eq_emod_of_nonneg ha0.1]; exact hsz.symm
  have hm2 : a0 % 40960 = sz := hsz.symm
  obtain ⟨va, hva⟩ : ∃ va : Nat, (va : Int) = b0 % 40960 := ⟨(b0 % 40960).toNat, by omega⟩
  have hvab : va ≤ 40960 := by omega
  have hm3 : b0.tmod 40960 = va := by rw [Int.tmod_eq_emod_of_nonneg hb0.1]; exact hva.symm
  have hm4 : b0 % 40960 = va := hva.symm
  obtain ⟨dz, hdz⟩ : ∃ dz, dz = c0 % 8192 := ⟨_, rfl⟩
  have hdzb : 0 ≤ dz ∧ dz ≤ 8192 := by omega
  have hm5 : c0.tmod 8192 = dz := by rw [Int.tmod_eq_emod_of_nonneg hc0.1]; exact hdz.symm
  have hm6 : c0 % 8192 = dz := hdz.symm
  clear hsz hva hdz
  obtain ⟨P, hP⟩ : ∃ P : Nat, (sz + 4095) / 4096 = P := ⟨((sz + 4095) / 4096).toNat, by omega⟩
  have HP : Hid ((sz + 4095) / 4096 = P) := hP
  have HR : Hid ((∀ i, 0 ≤ R i ∧ R i < 256) ∧ See w .u8 q nD R ∧ (nD ≤ cD ∧ cD ≤ 9223372036854775807)) := ⟨hR, hS, hcc⟩
  clear hR hS hP
  go_enter Tryz.func7, Tryz.ntmps7
  go_upto_region 2 with (go_at_call 8; refine c8.mono ?_; rintro _ w1 ⟨s, p, b, m, B0, L0, F0, lf0, rfl, h1, h2, h3, h4⟩; have c9 := grow_x h4 h1 h2 h3 sz hszb P HP.out; have HL : Hid (w.heap.size ≤ s ∧ w.heap.size ≤ p ∧ w.heap.size ≤ b ∧ w.heap.size ≤ m) := h1; clear h1 h2 h3 h4 c8)
  go_upto_region 4 with (go_at_call 9; refine c9.mono ?_; rintro _ w2 ⟨rfl, x2⟩; have c18 := poke_x x2 nD (by omega) q cD HR.out.2.2 R HR.out.1 HR.out.2.1; clear x2 c9)
  go_upto_region 5 with (go_at_call 18; refine c18.mono ?_; rintro _ w3 ⟨⟨v3, rfl⟩, x3⟩; have c39 := alloc_x x3; clear x3 c18)
  go_upto_region 8 with (go_at_call 39; refine c39.mono ?_; rintro _ w4 ⟨fp, rfl, x4⟩; have c40 := copy_x x4; clear x4 c39)
  go_upto_region 9 with (go_at_call 40; refine c40.mono ?_; rintro _ w5 ⟨cb, rc, F, lf, fr, c, G, rfl, x5⟩; have H5 : Hid (CpX w s p b m P sz cb rc fp F lf fr c G w5) := x5; clear x5 c40)
  obtain ⟨_, _, hPz, _, B, L, Fc, lfc, frc, cc, T, hcc', hG1, hG2⟩ := H5.out
  have c10a := size_sp T.C.sp
  have c10b := size_sp T.S.sp
  have HT : Hid (Two w5 s p b m 60 58 P 59 sz cb rc P fp sz B L F lf fr c Fc lfc frc cc ∧ (∀ i, i < P → cc i = 214) ∧ (∀ i, i < P * 4096 → btU B fr i = G i) ∧ ∀ i, i < P * 4096 → btU B frc i = G i) := ⟨T, hcc', hG1, hG2⟩
  clear T hcc' hG1 hG2
  go_upto_region 11 with first | (go_at_call 10; refine c10a.mono ?_; rintro _ w6 ⟨rfl, e6⟩; obtain rfl : w5 = w6 := e6.symm) | (go_at_call 10; refine c10b.mono ?_; rintro _ w6 ⟨rfl, e6⟩; obtain rfl : w5 = w6 := e6.symm)
  have hnd : nodesF F + 1 ≤ 12 ∧ nodesF Fc + 1 ≤ 12 := by
    have h9 := HT.out.1.S.tab.nodes HT.out.1.S.pm
    have h8 := HT.out.1.C.tab.nodes HT.out.1.C.pm
    have := ndP_few hPz.1
    omega
  have c36 := frames_sp HT.out.1.S hnd.1
  unfold FmP at c36
  obtain ⟨n1, hn1⟩ : ∃ n1, n1 = nodesF F + 1 + P := ⟨_, rfl⟩
  obtain ⟨n2, hn2⟩ : ∃ n2, n2 = nodesF Fc + 1 + P := ⟨_, rfl⟩
  rw [← hn1] at c36
  have hnb : n1 ≤ 22 ∧ n2 ≤ 22 ∧ 1 ≤ n2 := by omega
  have HN1 : Hid (n1 = nodesF F + 1 + P ∧ n2 = nodesF Fc + 1 + P) := ⟨hn1, hn2⟩
  clear hn1 c10a c10b
  go_upto_region 12 with (go_at_call 36; refine c36.mono ?_; rintro _ w6 ⟨ys, q6, c6, rfl, ⟨y1, y2⟩, o6, b6⟩; have H6 : Hid (ys.Perm (ndl 58 (evs F lf 0)) ∧ w6.ownsRow w5.heap.size 23 1 (.slice q6 n1 c6) n1 (wv (ys ++ frL fr P)) ∧ Below w5.heap.size w5 w6) := ⟨y1, o6, b6⟩; clear y1 y2 o6 b6 c36)
  have c36b := frames_sp (HT.out.1.C.below H6.out.2.2) hnd.2
  unfold FmP at c36b
  rw [← hn2] at c36b
  clear hn2
  go_upto_region 13 with (go_at_call 36; refine c36b.mono ?_; rintro _ w7 ⟨zs, q7, c7, rfl, ⟨y1, y2⟩, o7, b7⟩; have H7 : Hid (zs.Perm (ndl rc (evs Fc lfc 0)) ∧ w7.ownsRow w6.heap.size 23 1 (.slice q7 n2 c7) n2 (wv (zs ++ frL frc P)) ∧ Below w6.heap.size w6 w7) := ⟨y1, o7, b7⟩; clear y1 y2 o7 b7 c36b)
  obtain ⟨j0, hj0, hjz, hj1, hj2⟩ := info28'
  obtain ⟨g7, hq7⟩ : ∃ g7, q7 = some ⟨g7, 0, .none⟩ := by
    obtain ⟨g, cap, e⟩ := own_sl H7.out.2.1 (by omega)
    injection e with e1
    exact ⟨g, e1⟩
  subst hq7
  have HO : Hid (w7.ownsRow w5.heap.size 23 1 (.slice q6 n1 c6) n1 (wv (ys ++ frL fr P))) := own_keep H6.out.2.1 H7.out.2.2
  have HB : Hid (Below w5.heap.size w5 w7) := H6.out.2.2.trans (H7.out.2.2.mono H6.out.2.2.size)
  have hl1 : (ys ++ frL fr P).length = n1 := by have := H6.out.2.1.1; rw [wv_len] at this; omega
  have hl2 : (zs ++ frL frc P).length = n2 := by have := H7.out.2.1.1; rw [wv_len] at this; omega
  have hlZ : ((ys ++ frL fr P) ++ (zs ++ frL frc P)).length = n1 + n2 := by rw [List.length_append, hl1, hl2]
  have HZ : Hid (((ys ++ frL fr P) ++ (zs ++ frL frc P)).length = n1 + n2) := hlZ
  have HA : Hid (Apt 60 L (n1 + n2) 0 (lz ((ys ++ frL fr P) ++ (zs ++ frL frc P))) (lz [])) := by
    have k := HT.out.1.apt (HT.out.1.S.tab.frZ HT.out.1.S.ram.mem.n2 H6.out.1) (HT.out.1.C.tab.frZ HT.out.1.C.ram.mem.n2 H7.out.1)
    rw [hlZ] at k
    exact k
  clear hl1 hl2 hlZ
  go_upto_region 15 with first | (at_builtin; (refine wpList_append_ownG _ (by first | rfl | kernel_rfl) _ _ 22 rfl w5.heap.size 23 j0 (.int .u64 0) 1 8 Tryz.underlying22 hj0 hjz hj1 hj2 rfl (by decide) _ _ (wv (ys ++ frL fr P)) rfl HO.out ⟨g7, 0, .none⟩ n2 c7 (wv (zs ++ frL frc P)) rfl H7.out.2.1.1 (H7.out.2.1.cells (g := g7) rfl) wv_one (by unfold maxLen; omega) (by omega) HB.out.size ?_); intro v8 w8 hown8 hgrow _; have b8 : Below w5.heap.size w5 w8 := HB.out.grown hgrow HB.out.size (fun k hk => (HO.out.lt k hk).1); obtain ⟨g8, c8, rfl⟩ := own_sl hown8 (by omega); rw [wv_app2] at hown8; have c37 := apart_any ((HT.out.1.S.below b8).ram) (ca := c8) (c2 := 0) (own_lz HZ.out hown8) (q2 := none) (l2 := lz []) (n2 := 0) (.inl rfl) ⟨by omega, by omega⟩ HA.out; have H8 : Hid (Below w5.heap.size w5 w8) := b8; clear hown8 hgrow b8) | (go_at_call 37; refine c37.mono ?_; rintro _ w9 ⟨rfl, b9⟩; have H9 : Hid (Below w5.heap.size w5 w9) := H8.out.trans (b9.mono H8.out.size); clear b9 c37)
  clear HO HB HZ HA H6 H7 H8
  have T9 : Hid (Two w9 s p b m 60 58 P 59 sz cb rc P fp sz B L F lf fr c Fc lfc frc cc) := HT.out.1.below H9.out
  have c19 := pages_sp T9.out.S.sp (by omega)
  rw [HP.out] at c19
  obtain ⟨n, hn⟩ : ∃ n : Nat, (n : Int) = 4096 * (P : Int) := ⟨4096 * P, by omega⟩
  go_upto_region 16 with (go_at_call 19; refine c19.mono ?_; rintro _ w10 ⟨rfl, e10⟩; obtain rfl : w9 = w10 := e10.symm)
  rw [← hn]
  have hnb2 : n ≤ P * 4096 ∧ n ≤ 40960 := by omega
  clear hn c19
  have c13 := in_all T9.out.S H5.out.2.2.2.1 n hnb2.1
  unfold InZ at c13
  go_upto_region 17 with (go_at_call 13; refine c13.mono ?_; rintro _ w10 ⟨q10, d10, rfl, s10, b10, f10⟩; have H10 : Hid (Below w9.heap.size w9 w10 ∧ Rd p b m cb q10 n G w10) := ⟨b10, see_same s10 (fun i hi => HT.out.2.2.1 i (by omega)), fun g o e => by have e1 := f10 g o e; have e2 := T9.out.S.ram.mem.plt; have e3 := T9.out.S.ram.mem.blt; have e4 := T9.out.S.ram.mem.mlt; have e5 := T9.out.C.sp.lt; omega⟩; clear s10 b10 f10 c13)
  have c13 := in_all (T9.out.C.below H10.out.1) HT.out.2.1 n hnb2.1
  unfold InZ at c13
  go_upto_region 18 with (go_at_call 13; refine c13.mono ?_; rintro _ w11 ⟨q11, d11, rfl, s11, b11, f11⟩; have c17 := bytes_same (ca := d10) (cb := d11) (by omega) (H10.out.2.below b11).1 (see_same s11 (fun i hi => HT.out.2.2.2 i (by omega))); have H11 : Hid (Below w9.heap.size w9 w11 ∧ Rd p b m cb q10 n G w11) := ⟨H10.out.1.trans (b11.mono H10.out.1.size), H10.out.2.below b11⟩; clear s11 b11 f11 c13)
  go_upto_region 20 with (go_at_call 17; refine c17.mono ?_; rintro _ w12 ⟨rfl, b12⟩; have H12 : Hid (Below w9.heap.size w9 w12 ∧ Rd p b m cb q10 n G w12) := ⟨H11.out.1.trans (b12.mono H11.out.1.size), H11.out.2.below b12⟩; clear b12 c17)
  have X12 : Hid (TwX 40960 w s p b m 58 P 59 sz cb rc fp F lf fr c G w12) := by
    have z5 := H5.out
    have k1 : Below w.heap.size w w9 := z5.1.trans (H9.out.mono z5.1.size)
    exact ⟨k1.trans (H12.out.1.mono k1.size), z5.2.1, P, sz, B, L, Fc, lfc, frc, cc, T9.out.below H12.out.1, HT.out.2.2.1, by omega⟩
  have R12 : Hid (Rd p b m cb q10 n G w12) := H12.out.2
  have hC : ∀ i, i < P → c i = 214 := H5.out.2.2.2.1
  have HC : Hid (∀ i, i < P → c i = 214) := hC
  clear hC H5 H9 H10 H11 H12 T9 HT
  have c16 := out_tw X12.out va nD (by omega) q cD HR.out.2.2 R HR.out.1 HR.out.2.1
  go_upto_region 21 with (go_at_call 16; refine c16.mono ?_; rintro _ w13 ⟨⟨v13, rfl⟩, x13, t13⟩; have X13 : Hid (TwX 40960 w s p b m 58 P 59 sz cb rc fp F lf fr c G w13) := x13; have R13 : Hid (Rd p b m cb q10 n G w13) := R12.out.tch t13; clear x13 t13 c16)
  clear X12 R12
  obtain ⟨h1, h2, Pc, cz, B1, L1, Fc1, lfc1, frc1, cc1, h3, h4, h5⟩ := X13.out
  have hcz := h3.C.sz
  have hw1 : IntKind.u64.wrap (cz + dz) = cz + dz := by rw [IntKind.wrap_u64]; omega
  have c10 := size_sp h3.C.sp
  have c9 := grow_tw (K := 65536) h1 h2 h3 h4 (cz + dz) (by omega)
  clear h1 h2 h3 h4
  go_upto_region 22 with first | (go_at_call 10; refine c10.mono ?_; rintro _ w14 ⟨rfl, e14⟩; obtain rfl : w13 = w14 := e14.symm) | (go_at_call 9; refine c9.mono ?_; rintro _ w14 ⟨⟨v14, rfl⟩, x14, t14⟩; have X14 : Hid (TwX 65536 w s p b m 58 P 59 sz cb rc fp F lf fr c G w14) := x14; have R14 : Hid (Rd p b m cb q10 n G w14) := R13.out.tch t14; clear x14 t14 c9)
  clear X13 R13 c10 hw1 hcz h5
  obtain ⟨h1, h2, Pd, dz2, B2, L2, Fc2, lfc2, frc2, cc2, h3, h4, h5⟩ := X14.out
  have hdz2 := h3.C.sz
  have hw2 : IntKind.u64.wrap (dz2 + 1) = dz2 + 1 := by rw [IntKind.wrap_u64]; omega
  obtain ⟨tz, htz⟩ : ∃ tz, tz = c0 % (dz2 + 1) := ⟨_, rfl⟩
  have htzb : 0 ≤ tz ∧ tz ≤ dz2 := by
    have e1 := Int.emod_nonneg c0 (show dz2 + 1 ≠ 0 by omega)
    have e2 := Int.emod_lt_of_pos c0 (show 0 < dz2 + 1 by omega)
    omega
  have hm7 : c0.tmod (dz2 + 1) = tz := by rw [Int.tmod_eq_emod_of_nonneg hc0.1]; exact htz.symm
  have hm8 : c0 % (dz2 + 1) = tz := htz.symm
  have hz0 : (dz2 + 1 == 0) = false := by simp; omega
  have hz1 : ¬ dz2 + 1 = 0 := by omega
  have c10 := size_sp h3.C.sp
  have c31 := shrink_tw h1 h2 h3 h4 h5 tz htzb
  clear h1 h2 h3 h4 htz
  go_upto_region 23 with first | (go_at_call 10; refine c10.mono ?_; rintro _ w15 ⟨rfl, e15⟩; obtain rfl : w14 = w15 := e15.symm) | (go_at_call 31; refine c31.mono ?_; rintro _ w15 ⟨⟨v15, rfl⟩, x15, t15⟩; have X15 : Hid (TwX 65536 w s p b m 58 P 59 sz cb rc fp F lf fr c G w15) := x15; have R15 : Hid (Rd p b m cb q10 n G w15) := R14.out.tch t15; clear x15 t15 c31)
  clear X14 R14 c10 hw2 hdz2 h5 hm7 hm8 hz0 hz1
  have c13 := in_tw X15.out HC.out n hnb2.1
  unfold InZ at c13
  go_upto_region 24 with (go_at_call 13; refine c13.mono ?_; rintro _ w16 ⟨q16, d16, rfl, s16, b16, f16⟩; have X16 : Hid (TwX 65536 w s p b m 58 P 59 sz cb rc fp F lf fr c G w16) := X15.out.below b16; have R16 : Hid (Rd p b m cb q10 n G w16 ∧ See w16 .u8 q16 n G) := ⟨R15.out.below b16, s16⟩; clear s16 b16 f16 c13)
  clear X15 R15
  obtain ⟨h1, h2, Pe, ez, B3, L3, Fc3, lfc3, frc3, cc3, h3, h4, h5⟩ := X16.out
  have c36 := frames_sp h3.S hnd.1
  unfold FmP at c36
  rw [← HN1.out.1] at c36
  clear h1 h2 h3 h4 h5
  go_upto_region 25 with (go_at_call 36; refine c36.mono ?_; rintro _ w17 ⟨us, q17, c17', rfl, y1, o17, b17⟩; have c17 := bytes_same (ca := d10) (cb := d16) (by omega) (R16.out.1.below b17).1 (R16.out.2.below b17); have X17 : Hid (TwX 65536 w s p b m 58 P 59 sz cb rc fp F lf fr c G w17) := X16.out.below b17; have R17 : Hid (Rd p b m cb q10 n G w17) := R16.out.1.below b17; clear y1 o17 b17 c36)
  clear X16 R16
  go_upto_region 27 with first | (go_at_call 17; refine c17.mono ?_; rintro _ w18 ⟨rfl, b18⟩; have c34 := free_tw (X17.out.below b18); have R18 : Hid (Rd p b m cb q10 n G w18) := R17.out.below b18; clear b18 c17) | (go_at_call 34; refine c34.mono ?_; rintro _ w19 ⟨rfl, x19, t19⟩; have X19 : Hid (OnX w s p b m 58 P 59 sz fp F lf fr c G w19) := x19; have R19 : Hid (Rd p b m cb q10 n G w19) := R18.out.tch t19; clear x19 t19 c34)
  clear X17 R17 R18
  have c13 := in_on X19.out HC.out n hnb2.1
  unfold InZ at c13
  go_upto_region 28 with (go_at_call 13; refine c13.mono ?_; rintro _ w20 ⟨q20, d20, rfl, s20, b20, f20⟩; have c17 := bytes_same (ca := d10) (cb := d20) (by omega) (R19.out.below b20).1 s20; have X20 : Hid (OnX w s p b m 58 P 59 sz fp F lf fr c G w20) := X19.out.below b20; clear s20 b20 f20 c13)
  clear X19 R19
  go_wp2_with first | (go_at_call 17; refine c17.mono ?_; rintro _ w21 ⟨rfl, b21⟩; have X21 : Hid (OnX w s p b m 58 P 59 sz fp F lf fr c G w21) := X20.out.below b21; have c35 : Calls Tryz.prog 35 #[.pointer (some ⟨p, 0, .none⟩), .int .u64 (ad fp)] w21 fun e w' => e = .returned (.int .i64 0) ∧ Fra p b m w21 w' := (by obtain ⟨z1, B4, L4, z3, z4, z5⟩ := X21.out; exact (free_held fp z3.ram z4.1 z4.2.1 z4.2.2).mono fun e w' hh => ⟨hh.1, hh.2.2⟩); clear b21 c17) | (go_at_call 35; refine c35.mono ?_; rintro _ w22 ⟨rfl, f22⟩; have H22 : Hid (Fra p b m w21 w22) := f22; clear f22 c35)
  go_ret
  have hl := HL.out
  have z := X21.out.1
  exact ⟨rfl, z.trans ((Tch.of (x := s) H22.out).low z.size (by omega))⟩
end Go.Proofs.YtblmkkhiojbcjaaGreat
