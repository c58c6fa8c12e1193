import Derived.Test.YtblmkkhiojbcjaaGreatEs
import Derived.Maps.AppendAt
namespace Go.Proofs.YtblmkkhiojbcjaaGreat
open Go Go.RowKit Fz
set_option linter.unusedVariables false
set_option linter.unusedSimpArgs false
theorem own_bel {w w' : World} {base e size n : Nat} {v : Value} {xs : List Value} (h : w.ownsRow base e size v n xs) (b : Below w.heap.size w w') : w'.ownsRow base e size v n xs := by
  refine ⟨h.1, ?_⟩
  rcases h.2 with h1 | ⟨g, cap, cur, h1, h2, h3, h4⟩
  · exact .inl h1
  · have hg : g < w.heap.size := by
      rcases Nat.lt_or_ge g w.heap.size with hh | hh
      · exact hh
      · rw [Array.getElem?_eq_none hh] at h3; cases h3
    exact .inr ⟨g, cap, cur, h1, h2, (b.block g hg).trans h3, h4⟩
theorem infoB' : ∃ i, Tryz.prog.info? 5 = some i ∧ i.zero = some (.int .u8 0) ∧ i.size = 1 ∧ i.bytes = 1 := by
  have h : (Tryz.prog.info? 5).map (fun i => (i.zero, i.size, i.bytes)) = some (some (.int .u8 0), 1, 1) := by kernel_rfl
  cases hq : Tryz.prog.info? 5 with
  | none => rw [hq] at h; cases h
  | some i =>
    rw [hq] at h
    simp only [Option.map_some, Option.some.injEq, Prod.mk.injEq] at h
    exact ⟨i, rfl, h⟩
/-- The bytes of the pages that may be read. -/
def rdX (B : Nat → Int) (fr : Nat → Nat) (l : Nat → Int) : Nat → List Int
  | 0 => []
  | i + 1 => rdX B fr l i ++ (if bits .and .u64 (l i) 2 = 0 then [] else (List.range 4096).map fun j => btU B fr (4096 * i + j))
theorem rdX_len (B : Nat → Int) (fr : Nat → Nat) (l : Nat → Int) : ∀ i, (rdX B fr l i).length ≤ 4096 * i
  | 0 => by simp [rdX]
  | i + 1 => by
    have := rdX_len B fr l i
    unfold rdX
    rw [List.length_append]
    split <;> simp <;> omega
def RdX (w : World) (xs : List Int) (e : Ending) (w' : World) : Prop := ∃ q c, e = .returned (.slice q xs.length c) ∧ w'.ownsRow w.heap.size 5 1 (.slice q xs.length c) xs.length (xs.map fun x => .int .u8 x) ∧ Below w.heap.size w w'
def RRl (w : World) (B : Nat → Int) (fr : Nat → Nat) (l : Nat → Int) (ln : Nat) (v5 v6 : Value) (wr : World) : Prop := ∃ (i : Nat) (q : Option Addr) (c n : Nat), i ≤ ln ∧ n = (rdX B fr l i).length ∧ v5 = .slice q n c ∧ v6 = .int .i64 i ∧ wr.ownsRow w.heap.size 5 1 (.slice q n c) n ((rdX B fr l i).map fun x => .int .u8 x) ∧ Below w.heap.size w wr
section
variable {w : World} {s p b m N r P : Nat} {size : Int} {B : Nat → Int} {L : List Nat} {F : Nat → Option Nat} {lf : Nat → Nat → Int} {fr : Nat → Nat} {c : Nat → Int}
/-- A page that may be read, read. -/
def PgP (w : World) (B : Nat → Int) (fr : Nat → Nat) (i : Nat) (e : Ending) (w' : World) : Prop := ∃ g, e = .returned (.tuple #[.slice (some ⟨g, 0, .none⟩) 4096 4096, .bool true]) ∧ (∀ j, j < 4096 → w'.cell? ⟨g, j, .none⟩ = some (.int .u8 (btU B fr (4096 * i + j)))) ∧ w.heap.size ≤ g ∧ Below w.heap.size w w'
theorem in_page (h : SpU w s p b m N r P size B L F lf fr c) (i : Nat) (hi : i < P) (ha : accU c 1 (4096 * i) = true) : Calls Tryz.prog 13 #[.pointer (some ⟨s, 0, .none⟩), .int .u64 (4096 * (i : Int)), .int .i64 4096] w (PgP w B fr i) := by
  have := in_any h (4096 * i) 4096 (by omega) (by omega)
  rw [show ((4096 * i : Nat) : Int) = 4096 * (i : Int) by omega] at this
  refine this.mono fun e w' h9 => ?_
  obtain ⟨hb, ⟨_, g, hg, _, he, hc⟩ | ⟨⟨j, hj, hx⟩, _⟩⟩ := h9
  · exact ⟨g, he, hc, hg, hb⟩
  · unfold accU at ha hx
    rw [show (4096 * i + j) / 4096 = 4096 * i / 4096 by omega] at hx
    rw [ha] at hx
    cases hx
set_option maxRecDepth 100000 in
set_option maxHeartbeats 2000000 in
theorem readable_any (h : SpU w s p b m N r P size B L F lf fr c) (q : Option Addr) (ln cc : Nat) (l : Nat → Int) (hl : See w .u64 q ln l) (hln : ln ≤ P) (hac : ∀ i, i < ln → bits .and .u64 (l i) 2 ≠ 0 → accU c 1 (4096 * i) = true) :
    Calls Tryz.prog 14 #[.pointer (some ⟨s, 0, .none⟩), .slice q ln cc] w (RdX w (rdX B fr l ln)) := by
  obtain ⟨j0, hj0, hjz, hj1, hj2⟩ := infoB'
  have hpm := h.pm
  have HS : Hid (SpU w s p b m N r P size B L F lf fr c ∧ ∀ i, i < ln → bits .and .u64 (l i) 2 ≠ 0 → accU c 1 (4096 * i) = true) := ⟨h, hac⟩
  clear h hac
  go_enter Tryz.func14, Tryz.ntmps14
  go_wp2
  go_loopw [5, 6] (fun v5 v6 wr => RRl w B fr l ln v5 v6 wr) (fun _ v6 _ => ln - (intOf v6).toNat)
  case atStart => exact ⟨0, .none, 0, 0, by omega, rfl, rfl, rfl, World.ownsRow_nil _ _ _ _, Below.refl _ _⟩
  case round =>
    obtain ⟨i, q5, c5, n5, hi, hn5, rfl, rfl, hO, hB⟩ := hrel
    have HB : Hid (Below w.heap.size w wr) := hB
    have HO : Hid (wr.ownsRow w.heap.size 5 1 (.slice q5 n5 c5) n5 ((rdX B fr l i).map fun x => .int .u8 x)) := hO
    have hnb : n5 ≤ 4096 * i := by rw [hn5]; exact rdX_len B fr l i
    have HN : Hid (n5 = (rdX B fr l i).length) := hn5
    clear hn5
    by_cases hin : i < ln
    · rcases hl with h | ⟨g1, o1, rfl, hg1, r1⟩
      · omega
      have i1 : (i : Int) < ln := by omega
      have k0 := (hB.cell (p := ⟨g1, o1 + i, .none⟩) hg1).trans (r1 i hin)
      have HX : Hid (∃ x, x = l i) := ⟨_, rfl⟩
      obtain ⟨x, hx⟩ := HX.out
      have Hx : Hid (x = l i) := hx
      rw [← hx] at k0
      clear r1 hO hx HX
      by_cases h0 : bits .and .u64 x 2 = 0
      · clear hB
        go_wp2
        refine ⟨⟨i + 1, q5, c5, n5, by omega, ?_, rfl, by simp, ?_, HB.out⟩, by simp [intOf]; omega⟩
        · rw [HN.out, rdX, if_pos (by rw [← Hx.out]; exact h0), List.append_nil]
        · rw [rdX, if_pos (by rw [← Hx.out]; exact h0), List.append_nil]; exact HO.out
      · have h0' : (bits .and .u64 x 2 == 0) = false := by simpa using h0
        have c13 := in_page (HS.out.1.below hB) i (by omega) (HS.out.2 i hin (by rw [← Hx.out]; exact h0))
        clear hB
        go_upto_region 7 with (go_at_call 13; refine c13.mono ?_; rintro _ w4 ⟨g4, rfl, hc4, hg4, hb4⟩; have H4 : Hid (w4.ownsRow w.heap.size 5 1 (.slice q5 n5 c5) n5 ((rdX B fr l i).map fun x => .int .u8 x) ∧ Below w.heap.size w w4 ∧ (∀ j, j < 4096 → w4.cell? ⟨g4, j, .none⟩ = some (.int .u8 (btU B fr (4096 * i + j))))) := ⟨own_bel HO.out hb4, HB.out.trans (hb4.mono HB.out.size), hc4⟩; clear hc4 hb4)
        obtain ⟨nw, hnw⟩ : ∃ nw : List Value, nw = (List.range 4096).map fun j => Value.int .u8 (btU B fr (4096 * i + j)) := ⟨_, rfl⟩
        have HNW : Hid (nw = (List.range 4096).map fun j => Value.int .u8 (btU B fr (4096 * i + j))) := hnw
        have n1 : nw.length = 4096 * 1 := by rw [hnw, List.length_map, List.length_range]
        have n2 : ∀ j u, nw[j]? = some u → w4.cell? ((⟨g4, 0, .none⟩ : Addr).add j) = some u := fun j u hj => by
          have hjl : j < 4096 := by
            rcases Nat.lt_or_ge j 4096 with hh | hh
            · exact hh
            · rw [List.getElem?_eq_none (by rw [n1]; omega)] at hj; cases hj
          rw [hnw, List.getElem?_map, List.getElem?_range hjl] at hj
          have := H4.out.2.2 j hjl
          simp only [Option.map_some, Option.some.injEq] at hj
          rw [← hj, ← this]
          simp only [Addr.add]
          split
          · rename_i hz
            have hz : j = 0 := hz
            rw [hz]
          · simp
        have n3 : ∀ u ∈ nw, u.oneCell' = true := fun u hu => by
          rw [hnw, List.mem_map] at hu
          obtain ⟨j, _, rfl⟩ := hu
          rfl
        clear hnw
        have HP4 : Hid (i < P ∧ P ≤ 4096) := ⟨by omega, hpm⟩
        go_wp2_with (first | (at_builtin; refine wpList_append_own _ rfl _ _ 24 rfl w.heap.size 5 j0 (.int .u8 0) 1 1 Tryz.underlying24 hj0 hjz hj1 hj2 rfl (by decide) _ _ ((rdX B fr l i).map fun x => .int .u8 x) rfl H4.out.1 ⟨g4, 0, .none⟩ 4096 4096 nw rfl n1 n2 n3 (by unfold maxLen; have := HP4.out; omega) (by have := HP4.out; omega) H4.out.2.1.size ?_; intro v' w5 hown5 hgrow _) | fail)
        have hB5 : Below w.heap.size w w5 := H4.out.2.1.grown hgrow H4.out.2.1.size (fun k hk => ((H4.out.1.lt k hk)).1)
        obtain ⟨g2, cap2, rfl⟩ := ownsRow_some (k := n5 + 4095) hown5
        have hne : ¬ bits .and .u64 (l i) 2 = 0 := by rw [← Hx.out]; exact h0
        refine ⟨⟨i + 1, _, _, n5 + 4096, by omega, ?_, rfl, by simp, ?_, hB5⟩, by simp [intOf]; omega⟩
        · rw [rdX, if_neg hne, List.length_append, ← HN.out, List.length_map, List.length_range]
        · rw [rdX, if_neg hne, List.map_append, List.map_map]
          rw [HNW.out] at hown5
          exact hown5
    · have i1 : ¬ ((i : Int) < ln) := by omega
      clear hB hl hO
      have hin' : i = ln := by omega
      have HP : Hid (RdX w (rdX B fr l ln) (.returned (.slice q5 n5 c5)) wr) := by subst hin'; have := HN.out; subst this; exact ⟨q5, c5, rfl, HO.out, HB.out⟩
      clear hin'
      go_wp2
      go_ret
      exact HP.out
end
end Go.Proofs.YtblmkkhiojbcjaaGreat
namespace Go.Proofs.YtblmkkhiojbcjaaGreat
open Go Go.RowKit Fz
set_option linter.unusedVariables false
set_option linter.unusedSimpArgs false
section
variable {w W W' : World} {s p b m N r P K : Nat} {B : Nat → Int} {L : List Nat} {F : Nat → Option Nat} {lf : Nat → Nat → Int} {fr : Nat → Nat} {c l : Nat → Int}
theorem SpG.keep (h : SpG W s p b m N r P K B L F lf fr c) (hs : W'.heap[s]? = W.heap[s]?) (hp : W'.heap[p]? = W.heap[p]?) (hb : W'.heap[b]? = W.heap[b]?) (hm : W'.heap[m]? = W.heap[m]?) : SpG W' s p b m N r P K B L F lf fr c := by
  have cs : ∀ i, W'.cell? ⟨s, i, .none⟩ = W.cell? ⟨s, i, .none⟩ := fun i => by simp only [World.cell?, hs]
  have fs : ∀ i, W'.frozen? ⟨s, i, .none⟩ = W.frozen? ⟨s, i, .none⟩ := fun i => by simp only [World.frozen?, hs]
  have hR : Ram W' p b m N B L := by
    have := h.su.ram
    exact ⟨this.mem.keep hp hb hm, this.nd, this.lt, this.thr⟩
  exact ⟨⟨⟨(cs 0).trans h.su.sp.c0, (cs 1).trans h.su.sp.c1, (cs 2).trans h.su.sp.c2, fun k => (fs k).trans (h.su.sp.fr k)⟩, h.su.sz, h.su.pm, hR, h.su.pt, h.su.rt, h.su.ne, h.su.pag⟩, h.zr, h.nod, h.len, h.inj⟩
theorem own_blk {base e size n : Nat} {v : Value} {xs : List Value} (h : W.ownsRow base e size v n xs) (hk : ∀ g, v.ownBlock = some g → g < W.heap.size → W'.heap[g]? = W.heap[g]?) : W'.ownsRow base e size v n xs := by
  refine ⟨h.1, ?_⟩
  rcases h.2 with h1 | ⟨g, cap, cur, h1, h2, h3, h4⟩
  · exact .inl h1
  · have hg : g < W.heap.size := by
      rcases Nat.lt_or_ge g W.heap.size with hh | hh
      · exact hh
      · rw [Array.getElem?_eq_none hh] at h3; cases h3
    exact .inr ⟨g, cap, cur, h1, h2, (hk g (by rw [h1]; rfl) hg).trans h3, h4⟩
/-- A page's right as the law keeps it, and as the leaf has it. -/
def pgO (x y : Int) : Prop := (rgt x ∧ y = x + 208) ∨ (x = 0 ∧ ∃ z, rdb z y)
theorem pgO_rd {x y : Int} (h : pgO x y) : hs y (wnt 1) = decide (bits .and .u64 x 2 ≠ 0) := by
  rcases h with ⟨h1, rfl⟩ | ⟨rfl, z, h1⟩
  · rcases h1 with rfl | rfl | rfl | rfl | rfl <;> decide
  · rcases h1 with ⟨rfl, rfl⟩ | ⟨rfl, rfl⟩ | ⟨rfl, rfl⟩ | ⟨rfl, rfl⟩ <;> decide
theorem pgO_wr {x y : Int} (h : pgO x y) : hs y (wnt 2) = decide (bits .and .u64 x 4 ≠ 0) := by
  rcases h with ⟨h1, rfl⟩ | ⟨rfl, z, h1⟩
  · rcases h1 with rfl | rfl | rfl | rfl | rfl <;> decide
  · rcases h1 with ⟨rfl, rfl⟩ | ⟨rfl, rfl⟩ | ⟨rfl, rfl⟩ | ⟨rfl, rfl⟩ <;> decide
/-- What the law has: its space, and its row of rights. -/
structure SRS (w W : World) (s p b m r P : Nat) (v : Value) (l c : Nat → Int) : Prop where
  own : W.ownsRow w.heap.size 23 1 v P ((List.range P).map fun k => .int .u64 (l k))
  ap : ∀ g, v.ownBlock = some g → g ≠ s ∧ g ≠ p ∧ g ≠ b ∧ g ≠ m
  sp : ∃ B L F lf fr, SpG W s p b m 60 r P 55 B L F lf fr c
  bel : Below w.heap.size w W
  lb : w.heap.size ≤ s ∧ w.heap.size ≤ p ∧ w.heap.size ≤ b ∧ w.heap.size ≤ m
  pg : ∀ k, k < P → pgO (l k) (c k)
theorem own_see {q : Option Addr} {cap base : Nat} (h : W.ownsRow base 23 1 (.slice q P cap) P ((List.range P).map fun k => .int .u64 (l k))) : See W .u64 q P l := by
  by_cases h0 : P = 0
  · exact .inl h0
  rcases h.2 with h1 | ⟨g, cap', cur, h1, h2, h3, h4⟩
  · exact absurd h1.2 h0
  · have e : q = some ⟨g, 0, none⟩ ∧ cap = cap' := by simpa using h1
    obtain ⟨rfl, rfl⟩ := e
    have hg : g < W.heap.size := by
      rcases Nat.lt_or_ge g W.heap.size with hh | hh
      · exact hh
      · rw [Array.getElem?_eq_none hh] at h3; cases h3
    refine .inr ⟨g, 0, rfl, hg, fun i hi => ?_⟩
    have := h.cellAt i (by omega)
    rw [Nat.zero_add, this, List.getElem?_map, List.getElem?_range hi]
    rfl
/-- The space moved, the row did not. -/
theorem SRS.grow {q : Option Addr} {cap : Nat} {c' : Nat → Int} (h : SRS w W s p b m r P (.slice q P cap) l c) (hk : ∀ k, k < W.heap.size → k ≠ p → k ≠ b → k ≠ m → k ≠ s → W'.heap[k]? = W.heap[k]?) (hz : W.heap.size ≤ W'.heap.size) (ho : W'.os = W.os ∧ W'.tape = W.tape ∧ W'.output = W.output) :
    W'.ownsRow w.heap.size 23 1 (.slice q P cap) P ((List.range P).map fun k => .int .u64 (l k)) ∧ Below w.heap.size w W' := by
  refine ⟨own_blk h.own fun g hg hl => ?_, ?_⟩
  · have := h.ap g hg
    exact hk g hl this.2.1 this.2.2.1 this.2.2.2 this.1
  · have hlb := h.lb
    have hs := h.bel.size
    exact h.bel.trans ⟨ho.1, ho.2.1, ho.2.2, hz, fun k hk' => hk k (by omega) (by omega) (by omega) (by omega) (by omega)⟩
end
end Go.Proofs.YtblmkkhiojbcjaaGreat
