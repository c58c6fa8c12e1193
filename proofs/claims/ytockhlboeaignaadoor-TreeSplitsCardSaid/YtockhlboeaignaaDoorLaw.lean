import Derived.Test.YtockhlboeaignaaDoorPk2
import Derived.Test.YtockhlboeaignaaDoorFreeB
import Derived.Laws.StructEq
namespace Go.Proofs.YtockhlboeaignaaDoor
open Go.RowKit
set_option linter.unusedVariables false
set_option linter.unusedSimpArgs false
set_option maxRecDepth 10000
/-- A row stays where its block stays. -/
theorem own_stay {W W' : World} {base e n : Nat} {v : Value} {xs : List Value} (h : W.ownsRow base e 1 v n xs) (hk : ∀ g, v.ownBlock = some g → W'.heap[g]? = W.heap[g]?) : W'.ownsRow base e 1 v n xs := by
  refine ⟨h.1, ?_⟩
  rcases h.2 with h | ⟨g, cap, cur, rfl, hb, hg, hr⟩
  · exact .inl h
  · exact .inr ⟨g, cap, cur, rfl, hb, (hk g rfl).trans hg, hr⟩
theorem own_blk {W : World} {base e n g : Nat} {v : Value} {xs : List Value} (h : W.ownsRow base e 1 v n xs) (hg : v.ownBlock = some g) : base ≤ g ∧ g < W.heap.size := by
  rcases h.2 with ⟨rfl, _⟩ | ⟨g', cap, cur, rfl, hb, hh, hr⟩
  · cases hg
  · cases hg; exact ⟨hb, (Array.getElem?_eq_some_iff.1 hh).1⟩
theorem own_below {W W' : World} {base e n : Nat} {v : Value} {xs : List Value} (h : W.ownsRow base e 1 v n xs) (hb : Below W.heap.size W W') : W'.ownsRow base e 1 v n xs :=
  own_stay h fun g hg => hb.block g (own_blk h hg).2
open Classical in
/-- What Split gives: names, and whether there are any to be had. -/
noncomputable def spl (l : Bs) : List Bs × Bool := if bad l then ([], false) else (names l, true)
theorem spl_of {l : Bs} {w : World} {e : Ending} {w' : World} (h : SplP l w e w') : ∃ q c, e = .returned (.tuple #[.slice q (spl l).1.length c, .bool (spl l).2]) ∧ w'.ownsRow w.heap.size 9 1 (.slice q (spl l).1.length c) (spl l).1.length ((spl l).1.map sv) ∧ Below w.heap.size w w' := by
  obtain ⟨hb, ⟨h1, h2⟩ | ⟨h1, q, c, h2, h3⟩⟩ := h
  · rw [show spl l = ([], false) from if_pos h1]
    exact ⟨_, _, h2, World.ownsRow_nil _ _ _ _, hb⟩
  · rw [show spl l = (names l, true) from if_neg h1]
    exact ⟨q, c, h2, h3, hb⟩
theorem spl_len (l : Bs) : (spl l).1.length < 1000 := by
  unfold spl
  split
  · simp
  · rename_i h
    have h1 : l.length < 128 := by
      rcases Nat.lt_or_ge l.length 128 with e | e
      · exact e
      · exact absurd (.inl e) h
    have h2 := nms_len (pcs l)
    have h3 := pcs_len l
    show (names l).length < 1000
    unfold names
    omega
/-- The bytes of a list as numbers. -/
def nums (l : Bs) : List Int := l.map fun b => ((b.toNat : Nat) : Int)
theorem sl_byt {w : World} {p : Option Addr} {n c : Nat} {l : Bs} (h : Sl w p n c l) : Byt w p n c (nums l) := by
  obtain ⟨h1, h2, h3, h4⟩ := h
  refine ⟨by simp [nums, h1], h2, h3, ?_⟩
  rcases h4 with h4 | ⟨g, o, rfl, hg, hB⟩
  · exact .inl h4
  · refine .inr ⟨g, o, rfl, hg, fun i x hx => ?_⟩
    simp only [nums, List.getElem?_map, Option.map_eq_some_iff] at hx
    obtain ⟨b, hb, rfl⟩ := hx
    exact hB i b hb
theorem lent_sl {w : World} {base g c : Nat} {l : Bs} (h : Lent w base g c (nums l)) : Sl w (some ⟨g, 0, .none⟩) l.length c l := by
  have hc := own_cap h
  have hn : (nums l).length = l.length := by simp [nums]
  refine ⟨rfl, by omega, hc.2, .inr ⟨g, 0, rfl, (own_blk h rfl).2, fun i x hx => ?_⟩⟩
  have hlt := (List.getElem?_eq_some_iff.1 hx).1
  have := h.cells (g := g) rfl i (.int .u8 ((x.toNat : Nat) : Int)) (by
    refine by8_get ?_
    rw [List.getElem?_append_left (by omega)]
    simp [nums, hx])
  rwa [le_addr_add] at this
theorem Sl.below {w w' : World} {p : Option Addr} {n c : Nat} {l : Bs} (h : Sl w p n c l) (hb : Below w.heap.size w w') : Sl w' p n c l := by
  obtain ⟨h1, h2, h3, h4⟩ := h
  refine ⟨h1, h2, h3, ?_⟩
  rcases h4 with h4 | ⟨g, o, rfl, hg, hB⟩
  · exact .inl h4
  · exact .inr ⟨g, o, rfl, Nat.lt_of_lt_of_le hg hb.size, hB.below hb hg⟩
theorem Lent.below {w w' : World} {base g c : Nat} {xs : List Int} (h : Lent w base g c xs) (hb : Below w.heap.size w w') : Lent w' base g c xs := own_below h hb
/-- What Unpack gives, by its parts. -/
theorem unp_form (l : Bs) : ∃ (x : Int) (u : ByteArray) (b : Bool), unpV l = .tuple #[.agg #[.int .i64 x, .string u], .bool b] := by
  unfold unpV
  split
  · exact ⟨_, _, _, rfl⟩
  · exact ⟨_, _, _, rfl⟩
theorem fields23 : ∃ f g : Field, (Tryd.prog.fieldsOf 23).toList = [f, g] ∧ f.name ≠ "_" ∧ f.type = 3 ∧ f.offset = 0 ∧ g.name ≠ "_" ∧ g.type = 9 ∧ g.offset = 1 := by
  have h : (Tryd.prog.fieldsOf 23).toList.map (fun f => (f.name, f.type, f.offset)) = [("Ino", 3, 0), ("Name", 9, 1)] := by kernel_rfl
  generalize (Tryd.prog.fieldsOf 23).toList = L at h
  cases L with
  | nil => cases h
  | cons f L =>
    cases L with
    | nil => simp at h
    | cons g L =>
      cases L with
      | cons _ _ => simp at h
      | nil =>
        simp only [List.map_cons, List.map_nil, List.cons.injEq, Prod.mk.injEq, and_true] at h
        obtain ⟨⟨a1, a2, a3⟩, b1, b2, b3⟩ := h
        exact ⟨f, g, rfl, by rw [a1]; decide, a2, a3, by rw [b1]; decide, b2, b3⟩
theorem neq_dir (x : Int) (u : ByteArray) (w : World) : (binOp .neq 23 (.agg #[.int .i64 x, .string u]) (.agg #[.int .i64 x, .string u])).run Tryd.prog w = .ok (.bool false) w := by
  obtain ⟨f, g, e, a1, a2, a3, b1, b2, b3⟩ := fields23
  have p0 : ∀ w : World, (part 3 #[.int .i64 x, .string u] 0).run Tryd.prog w = .ok (.int .i64 x) w := fun w => by kernel_rfl
  have p1 : ∀ w : World, (part 9 #[.int .i64 x, .string u] 1).run Tryd.prog w = .ok (.string u) w := fun w => by kernel_rfl
  rw [run_neq_struct, show (10000 : Nat) = 9999 + 1 from rfl, run_equalIn_struct w 9999 23 _ _ (by kernel_rfl) (by kernel_rfl), e]
  simp [Op.eqFields, a1, a2, a3, b1, b2, b3, p0, p1, run_equalIn_int _ 9998 3 _ _ _ _ Tryd.underlying3, run_equalIn_string _ 9998 9 _ _ Tryd.underlying9]
theorem guard_dir (x y : Operand) (a b : Int) (u v : ByteArray) (w : World) : (eqGuard .neq 23 x y (.agg #[.int .i64 a, .string u]) (.agg #[.int .i64 b, .string v])).run Tryd.prog w = .ok () w := by kernel_rfl
attribute [local go_sem] neq_dir guard_dir
theorem own_drewN {W : World} {base e n : Nat} {v : Value} {xs : List Value} (h : W.ownsRow base e 1 v n xs) (k : Nat) : (W.drewN k).ownsRow base e 1 v n xs := own_stay h fun g _ => by rw [World.heap_drewN]
theorem byt_drewN {w : World} {p : Option Addr} {n c : Nat} {xs : List Int} (h : Byt w p n c xs) (k : Nat) : Byt (w.drewN k) p n c xs := by
  obtain ⟨h1, h2, h3, h4⟩ := h
  refine ⟨h1, h2, h3, ?_⟩
  rcases h4 with h4 | ⟨b, o, rfl, h5, h6⟩
  · exact .inl h4
  · exact .inr ⟨b, o, rfl, by rw [World.heap_drewN]; exact h5, fun i x hx => by rw [World.cell?_drewN]; exact h6 i x hx⟩
/-- What the law holds behind the sixth region. -/
structure G7 (w W : World) (l : Bs) (z : Int) (s : Bs) (p : Option Addr) (n c : Nat) (bs : Bs) (a0 : Nat) (v1 v2 v3 : Value) (g cg : Nat) : Prop where
  be : Below w.heap.size w W
  lo : w.heap.size < a0
  x0 : W.cell? ⟨w.heap.size, 0, .none⟩ = some (.int .i64 z)
  x1 : W.cell? ⟨w.heap.size, 1, .none⟩ = some (.string ⟨s.toArray⟩)
  r1 : W.ownsRow a0 9 1 v1 (spl l).1.length ((spl l).1.map sv)
  r2 : W.ownsRow a0 9 1 v2 (spl l).1.length ((spl l).1.map sv)
  r3 : W.ownsRow a0 9 1 v3 (spl l).1.length ((spl l).1.map sv)
  a2 : ∀ k, v1.ownBlock = some k → v2.ownBlock ≠ some k
  a3 : ∀ k, v1.ownBlock = some k → v3.ownBlock ≠ some k
  sl : Sl W p n c bs
  le : Lent W a0 g cg (nums bs)
/-- The same, with the first list written over. -/
structure G8 (w W : World) (l : Bs) (z : Int) (s : Bs) (a0 : Nat) (v1 v2 v3 : Value) : Prop where
  be : Below w.heap.size w W
  lo : w.heap.size < a0
  x0 : W.cell? ⟨w.heap.size, 0, .none⟩ = some (.int .i64 z)
  x1 : W.cell? ⟨w.heap.size, 1, .none⟩ = some (.string ⟨s.toArray⟩)
  r1 : ∃ ys, W.ownsRow a0 9 1 v1 (spl l).1.length ys
  r2 : W.ownsRow a0 9 1 v2 (spl l).1.length ((spl l).1.map sv)
  r3 : W.ownsRow a0 9 1 v3 (spl l).1.length ((spl l).1.map sv)
  a2 : ∀ k, v1.ownBlock = some k → v2.ownBlock ≠ some k
  a3 : ∀ k, v1.ownBlock = some k → v3.ownBlock ≠ some k
theorem G7.to8 {w W : World} {l : Bs} {z : Int} {s : Bs} {p : Option Addr} {n c : Nat} {bs : Bs} {a0 : Nat} {v1 v2 v3 : Value} {g cg : Nat} (h : G7 w W l z s p n c bs a0 v1 v2 v3 g cg) (k : Nat) : G8 w (W.drewN k) l z s a0 v1 v2 v3 :=
  ⟨h.be.trans ⟨rfl, rfl, rfl, Nat.le_refl _, fun _ _ => rfl⟩, h.lo, h.x0, h.x1, ⟨_, own_drewN h.r1 k⟩, own_drewN h.r2 k, own_drewN h.r3 k, h.a2, h.a3⟩
theorem G8.room {w W : World} {l : Bs} {z : Int} {s : Bs} {a0 c1 : Nat} {q1 : Option Addr} {v2 v3 : Value} (h : G8 w W l z s a0 (.slice q1 (spl l).1.length c1) v2 v3) {i : Nat} (hi : i < (spl l).1.length) :
    ∃ g1 u, q1 = some ⟨g1, 0, .none⟩ ∧ W.cell? ⟨g1, i, .none⟩ = some u ∧ W.frozen? ⟨g1, i, .none⟩ = false ∧ (spl l).1.length ≤ c1 ∧ c1 ≤ maxLen ∧ ∀ v, G8 w (W.setCell ⟨g1, i, .none⟩ v) l z s a0 (.slice q1 (spl l).1.length c1) v2 v3 := by
  obtain ⟨ys, hr⟩ := h.r1
  rcases hr.2 with ⟨_, h0⟩ | ⟨g1, cap, cur, hv, hb, hg, hn, hm, hs, ht⟩
  · omega
  · injection hv with e1 e2 e3
    subst e1 e3
    have hlt : i < cur.size := by omega
    have hlo := h.lo
    refine ⟨g1, cur[i], rfl, by simp only [World.cell?, hg]; simp [hlt], by simp [World.frozen?, hg], hn, hm, fun v => ?_⟩
    have hne : ∀ k, k ≠ g1 → (W.setCell ⟨g1, i, .none⟩ v).heap[k]? = W.heap[k]? := fun k hk => Below.heap_setCell _ _ _ _ hk
    refine ⟨h.be.setCell (p := ⟨g1, i, .none⟩) (by show w.heap.size ≤ g1; omega) _, h.lo, (World.cell?_of_block (hne _ (by show w.heap.size ≠ g1; omega))).trans h.x0, (World.cell?_of_block (hne _ (by show w.heap.size ≠ g1; omega))).trans h.x1, ?_, own_stay h.r2 fun k hk => hne k (fun e => h.a2 g1 rfl (e ▸ hk)), own_stay h.r3 fun k hk => hne k (fun e => h.a3 g1 rfl (e ▸ hk)), h.a2, h.a3⟩
    have hl : ((cur.setIfInBounds i v).toList.take ((spl l).1.length * 1)).length = (spl l).1.length * 1 := by rw [List.length_take]; simp; omega
    exact ⟨(cur.setIfInBounds i v).toList.take ((spl l).1.length * 1), hl, .inr ⟨g1, _, _, rfl, hb, heap_setCell_same W g1 i cur 9 v hg, hn, hm, by simpa using hs, rfl⟩⟩
/-- Two rows of sixteen bytes, and a third, through Free. -/
theorem free2 {C3 : World} {k c0 c1 c2 d1 d2 d3 : Nat} {p1 p2 p3 : Option Addr} {xs : List Value} (R1 : C3.ownsRow c0 5 1 (.slice p1 16 d1) 16 xs) (R2 : C3.ownsRow c1 5 1 (.slice p2 16 d2) 16 xs) (R3 : C3.ownsRow c2 5 1 (.slice p3 16 d3) 16 xs)
    (L1 : ∀ g, Value.ownBlock (.slice p1 16 d1) = some g → c0 ≤ g ∧ g < c1) (L2 : ∀ g, Value.ownBlock (.slice p2 16 d2) = some g → c1 ≤ g ∧ g < c2) (h01 : c0 ≤ c1) (h12 : c1 ≤ c2) :
    Calls Tryd.prog 14 #[.slice (some ⟨C3.heap.size, 0, .none⟩) 2 2] ((C3.drewN k).alloc (.cells #[.slice p1 16 d1, .slice p2 16 d2] 24)) fun e w' => e = .returned (.bool true) ∧ w'.ownsRow c2 5 1 (.slice p3 16 d3) 16 xs ∧ C3.heap.size ≤ w'.heap.size ∧ ∀ B, B ≤ c0 → B ≤ C3.heap.size → Below B C3 w' := by
  have hD : ((C3.drewN k).alloc (.cells #[.slice p1 16 d1, .slice p2 16 d2] 24)).heap.size = C3.heap.size + 1 := by simp
  have bD : Below C3.heap.size C3 ((C3.drewN k).alloc (.cells #[.slice p1 16 d1, .slice p2 16 d2] 24)) := by
    have h1 : Below C3.heap.size C3 (C3.drewN k) := ⟨rfl, rfl, rfl, Nat.le_refl _, fun _ _ => rfl⟩
    exact h1.alloc (Nat.le_refl _) _
  have k0 : ((C3.drewN k).alloc (.cells #[.slice p1 16 d1, .slice p2 16 d2] 24)).cell? ⟨C3.heap.size, 0, .none⟩ = some (.slice p1 16 d1) := (World.cell?_alloc_at (w := C3.drewN k) #[.slice p1 16 d1, .slice p2 16 d2] 24 C3.heap.size 0 rfl).trans rfl
  have k1 : ((C3.drewN k).alloc (.cells #[.slice p1 16 d1, .slice p2 16 d2] 24)).cell? ⟨C3.heap.size, 1, .none⟩ = some (.slice p2 16 d2) := (World.cell?_alloc_at (w := C3.drewN k) #[.slice p1 16 d1, .slice p2 16 d2] 24 C3.heap.size 1 rfl).trans rfl
  generalize ((C3.drewN k).alloc (.cells #[.slice p1 16 d1, .slice p2 16 d2] 24)) = D at *
  have hv : ∀ i, i < 2 → (if i = 0 then Value.slice p1 16 d1 else .slice p2 16 d2).ownBlock ≠ some C3.heap.size := fun i hi e => by
    split at e
    · have := (own_blk R1 e).2; omega
    · have := (own_blk R2 e).2; omega
  have F0 : Fs 5 2 (fun _ => 16) (fun i => if i = 0 then Value.slice p1 16 d1 else .slice p2 16 d2) D D (fun _ => xs) := ⟨fun i hi => by
    show D.ownsRow 0 5 1 (if i = 0 then _ else _) 16 xs
    split
    · exact rebase (own_below R1 bD) (Nat.zero_le _)
    · exact rebase (own_below R2 bD) (Nat.zero_le _), rfl, rfl, rfl, Nat.le_refl _, fun _ _ _ => rfl⟩
  have ap : Apart 2 (fun i => if i = 0 then Value.slice p1 16 d1 else .slice p2 16 d2) := fun i j hi hj hij g hg he => by
    dsimp only at hg he
    split at hg
    · rw [if_neg (by omega)] at he
      have := L1 g hg; have := L2 g he; omega
    · rw [if_pos (by omega)] at he
      have := L1 g he; have := L2 g hg; omega
  refine (freeB_any 2 C3.heap.size 2 (fun _ => 16) _ _ D (by omega) (fun _ _ => by show (16 : Nat) ≤ _; omega) F0 ap (by omega) hv (fun i hi => ?_)).mono ?_
  · show D.cell? _ = some (if i = 0 then _ else _)
    split
    · rename_i e; subst e; exact k0
    · obtain rfl : i = 1 := by omega
      exact k1
  · rintro e E ⟨rfl, ys, hF⟩
    have hs := hF.size
    refine ⟨rfl, own_stay (own_below R3 bD) (fun g hg => hF.block g (by have := (own_blk R3 hg).2; omega) (fun i hi e => ?_)), by omega, fun B h1 h4 => ?_⟩
    · have hg3 := (own_blk R3 hg).1
      split at e
      · have := L1 g e.symm; omega
      · have := L2 g e.symm; omega
    · refine (bD.mono h4).trans ⟨hF.os, hF.tape, hF.output, hF.size, fun g hg => hF.block g (by omega) (fun i hi e => ?_)⟩
      split at e
      · have := L1 g e.symm; omega
      · have := L2 g e.symm; omega
set_option maxHeartbeats 4000000 in
theorem law_any (l s bs : Bs) (z : Int) (p : Option Addr) (n c : Nat) (w : World) (hz : -9223372036854775808 ≤ z ∧ z < 9223372036854775808) (hs : s.length < 9223372036854775808) (hnm : n < 140737488355000) (hb : Sl w p n c bs) :
    Calls Tryd.prog 3 #[.string ⟨l.toArray⟩, .agg #[.int .i64 z, .string ⟨s.toArray⟩], .slice p n c] w fun e w' => e = .returned (.bool true) ∧ Below w.heap.size w w' := by
  have hbn : bs.length = n := hb.1
  have hm0 : n ≤ 9223372036854775807 := by omega
  have hB0 := below_past w (.cells #[.int .i64 z, .string ⟨s.toArray⟩] 23)
  have z0 : (w.alloc (.cells #[.int .i64 z, .string ⟨s.toArray⟩] 23)).cell? ⟨w.heap.size, 0, .none⟩ = some (.int .i64 z) := by rw [World.cell?_alloc_at _ _ _ _ rfl]; rfl
  have z1 : (w.alloc (.cells #[.int .i64 z, .string ⟨s.toArray⟩] 23)).cell? ⟨w.heap.size, 1, .none⟩ = some (.string ⟨s.toArray⟩) := by rw [World.cell?_alloc_at _ _ _ _ rfl]; rfl
  have zs : w.heap.size < (w.alloc (.cells #[.int .i64 z, .string ⟨s.toArray⟩] 23)).heap.size := by simp
  have hsl := hb.below hB0
  clear hb
  go_enter Tryd.func3, Tryd.ntmps3
  go_upto_region 1 with fail
  generalize (w.alloc (.cells #[.int .i64 z, .string ⟨s.toArray⟩] 23)) = A0 at *
  have H0 : Hid (Below w.heap.size w A0 ∧ A0.cell? ⟨w.heap.size, 0, .none⟩ = some (.int .i64 z) ∧ A0.cell? ⟨w.heap.size, 1, .none⟩ = some (.string ⟨s.toArray⟩) ∧ Sl A0 p n c bs) := ⟨hB0, z0, z1, hsl⟩
  have HL : Hid (bs.length = n) := hbn
  clear hB0 z0 z1 hsl hbn
  have HX : Hid (unpV bs = unpV bs) := rfl
  obtain ⟨x, u, fb, hun⟩ := unp_form bs
  have HU : Hid (unpV bs = .tuple #[.agg #[.int .i64 x, .string u], .bool fb]) := hun
  clear hun HX
  go_wp2_with fail
  go_at_call 4
  refine (split_any l A0).mono ?_
  intro e A1 h1
  obtain ⟨q1, c1, rfl, o1, b1⟩ := spl_of h1
  have H1 : Hid (A1.ownsRow A0.heap.size 9 1 (.slice q1 (spl l).1.length c1) (spl l).1.length ((spl l).1.map sv) ∧ Below A0.heap.size A0 A1) := ⟨o1, b1⟩
  clear h1 o1 b1
  go_wp2_with fail
  go_at_call 5
  refine (rsplit_any l A1).mono ?_
  intro e A2 h1
  obtain ⟨q2, c2, rfl, o1, b1⟩ := spl_of h1
  have H2 : Hid (A2.ownsRow A1.heap.size 9 1 (.slice q2 (spl l).1.length c2) (spl l).1.length ((spl l).1.map sv) ∧ Below A1.heap.size A1 A2) := ⟨o1, b1⟩
  clear h1 o1 b1
  have hA2 : Sl A2 p n c bs := (H0.out.2.2.2.below H1.out.2).below H2.out.2
  go_wp2_with fail
  go_at_call 6
  refine (lend_any (sl_byt hA2) hnm).mono ?_
  rintro e A3 ⟨g, cg, rfl, le, b1⟩
  have H3 : Hid (Lent A3 A2.heap.size g cg (nums bs) ∧ Below A2.heap.size A2 A3) := ⟨le, b1⟩
  have hx3 := lent_sl le
  rw [HL.out] at hx3
  clear le b1 hA2
  have c7 := unpack_any hx3
  rw [HU.out] at c7
  go_wp2_with fail
  go_at_call 7
  refine c7.mono ?_
  rintro e A4 ⟨rfl, b1⟩
  have H4 : Hid (Below A3.heap.size A3 A4) := b1
  clear b1 c7 hx3
  go_upto_region 5 with fail
  have b5 := below_past A4 (.cells #[.int .i64 x, .string u] 23)
  have y0 : (A4.alloc (.cells #[.int .i64 x, .string u] 23)).cell? ⟨A4.heap.size, 0, .none⟩ = some (.int .i64 x) := by rw [World.cell?_alloc_at _ _ _ _ rfl]; rfl
  have y1 : (A4.alloc (.cells #[.int .i64 x, .string u] 23)).cell? ⟨A4.heap.size, 1, .none⟩ = some (.string u) := by rw [World.cell?_alloc_at _ _ _ _ rfl]; rfl
  have ys : A4.heap.size < (A4.alloc (.cells #[.int .i64 x, .string u] 23)).heap.size := by simp
  have H5 : Hid (Below A4.heap.size A4 (A4.alloc (.cells #[.int .i64 x, .string u] 23)) ∧ (A4.alloc (.cells #[.int .i64 x, .string u] 23)).cell? ⟨A4.heap.size, 0, .none⟩ = some (.int .i64 x) ∧ (A4.alloc (.cells #[.int .i64 x, .string u] 23)).cell? ⟨A4.heap.size, 1, .none⟩ = some (.string u)) := ⟨b5, y0, y1⟩
  clear b5 y0 y1
  generalize (A4.alloc (.cells #[.int .i64 x, .string u] 23)) = A5 at *
  have hA5 : Sl A5 p n c bs := ((((H0.out.2.2.2.below H1.out.2).below H2.out.2).below H3.out.2).below H4.out).below H5.out.1
  have c8 := runpack_any hA5
  rw [HU.out] at c8
  clear hA5
  go_wp2_with fail
  go_at_call 8
  refine c8.mono ?_
  rintro e A6 ⟨rfl, b1⟩
  have H6 : Hid (Below A5.heap.size A5 A6) := b1
  clear b1 c8
  go_upto_region 6 with fail
  have b5 := below_past A6 (.cells #[.int .i64 x, .string u] 23)
  have w0 : (A6.alloc (.cells #[.int .i64 x, .string u] 23)).cell? ⟨A6.heap.size, 0, .none⟩ = some (.int .i64 x) := by rw [World.cell?_alloc_at _ _ _ _ rfl]; rfl
  have w1 : (A6.alloc (.cells #[.int .i64 x, .string u] 23)).cell? ⟨A6.heap.size, 1, .none⟩ = some (.string u) := by rw [World.cell?_alloc_at _ _ _ _ rfl]; rfl
  have ws : A6.heap.size < (A6.alloc (.cells #[.int .i64 x, .string u] 23)).heap.size := by simp
  have H7 : Hid (Below A6.heap.size A6 (A6.alloc (.cells #[.int .i64 x, .string u] 23)) ∧ (A6.alloc (.cells #[.int .i64 x, .string u] 23)).cell? ⟨A6.heap.size, 0, .none⟩ = some (.int .i64 x) ∧ (A6.alloc (.cells #[.int .i64 x, .string u] 23)).cell? ⟨A6.heap.size, 1, .none⟩ = some (.string u)) := ⟨b5, w0, w1⟩
  clear b5 w0 w1
  generalize (A6.alloc (.cells #[.int .i64 x, .string u] 23)) = A7 at *
  go_wp2_with fail
  go_at_call 4
  refine (split_any l A7).mono ?_
  intro e A8 h1
  obtain ⟨q3, c3, rfl, o1, b1⟩ := spl_of h1
  have H8 : Hid (A8.ownsRow A7.heap.size 9 1 (.slice q3 (spl l).1.length c3) (spl l).1.length ((spl l).1.map sv) ∧ Below A7.heap.size A7 A8) := ⟨o1, b1⟩
  clear h1 o1 b1
  -- all that is known, in the last world
  have e78 := H8.out.2
  have e68 := H7.out.1.trans (e78.mono H7.out.1.size)
  have e58 := H6.out.trans (e68.mono H6.out.size)
  have e48 := H5.out.1.trans (e58.mono H5.out.1.size)
  have e38 := H4.out.trans (e48.mono H4.out.size)
  have e28 := H3.out.2.trans (e38.mono H3.out.2.size)
  have e18 := H2.out.2.trans (e28.mono H2.out.2.size)
  have e08 := H1.out.2.trans (e18.mono H1.out.2.size)
  have t0 := (e58.cell (p := ⟨A4.heap.size, 0, .none⟩) ys).trans H5.out.2.1
  have t1 := (e58.cell (p := ⟨A4.heap.size, 1, .none⟩) ys).trans H5.out.2.2
  have t2 := (e78.cell (p := ⟨A6.heap.size, 0, .none⟩) ws).trans H7.out.2.1
  have t3 := (e78.cell (p := ⟨A6.heap.size, 1, .none⟩) ws).trans H7.out.2.2
  have hz1 := H1.out.2.size
  have hz2 := H2.out.2.size
  have hz3 := H3.out.2.size
  have hz4 := H4.out.size
  have hz5 := H5.out.1.size
  have hz6 := H6.out.size
  have hz7 := H7.out.1.size
  have HG : Hid (G7 w A8 l z s p n c bs A0.heap.size (.slice q1 (spl l).1.length c1) (.slice q2 (spl l).1.length c2) (.slice q3 (spl l).1.length c3) g cg) :=
    { be := H0.out.1.trans (e08.mono H0.out.1.size)
      lo := zs
      x0 := (e08.cell (p := ⟨w.heap.size, 0, .none⟩) zs).trans H0.out.2.1
      x1 := (e08.cell (p := ⟨w.heap.size, 1, .none⟩) zs).trans H0.out.2.2.1
      r1 := own_below H1.out.1 e18
      r2 := rebase (own_below H2.out.1 e28) hz1
      r3 := rebase H8.out.1 (by omega)
      a2 := fun k hk he => by have := (own_blk H1.out.1 hk).2; have := (own_blk H2.out.1 he).1; omega
      a3 := fun k hk he => by have := (own_blk H1.out.1 hk).2; have := (own_blk H8.out.1 he).1; omega
      sl := H0.out.2.2.2.below e08
      le := rebase (own_below H3.out.1 e38) (by omega) }
  clear e78 e68 e58 e48 e38 e28 e18 e08 H0 H1 H2 H3 H4 H5 H6 H7 H8 hz1 hz2 hz3 hz4 hz5 hz6 hz7 ys ws
  have hsl := spl_len l
  have cT1 := fun k => texts_any q1 q2 (spl l).1.length c1 c2 (spl l).1 (A8.drewN k) (by omega) (tex_own (own_drewN HG.out.r1 k)) (tex_own (own_drewN HG.out.r2 k))
  have cT3 := fun k => texts_any q3 q2 (spl l).1.length c3 c2 (spl l).1 (A8.drewN k) (by omega) (tex_own (own_drewN HG.out.r3 k)) (tex_own (own_drewN HG.out.r2 k))
  have cK := fun k => kept_any (c := c) (w := A8.drewN k) (byt_drewN (sl_byt HG.out.sl) k) hnm (own_drewN HG.out.le k)
  go_wp2_with fail
  go_at_call 9
  refine (cT1 0).mono ?_
  rintro _ B1 ⟨rfl, k1, rfl⟩
  simp only [World.drewN_drewN]
  clear cT1
  generalize 0 + k1 = k1 at *
  go_wp2_with fail
  go_at_call 9
  refine (cT3 k1).mono ?_
  rintro _ B1 ⟨rfl, k2, rfl⟩
  simp only [World.drewN_drewN]
  clear cT3
  generalize k1 + k2 = k1 at *
  go_wp2_with fail
  go_at_call 10
  refine (cK k1).mono ?_
  rintro _ B1 ⟨rfl, k2, rfl⟩
  simp only [World.drewN_drewN]
  clear cK
  generalize k1 + k2 = k1 at *
  have HQ : Hid (G8 w (A8.drewN k1) l z s A0.heap.size (.slice q1 (spl l).1.length c1) (.slice q2 (spl l).1.length c2) (.slice q3 (spl l).1.length c3)) := HG.out.to8 k1
  go_upto_region 9 with fail
  clear t0 t1 t2 t3 HG
  generalize A8.drewN k1 = B at *
  go_wp2
  go_loopw [18] (fun a W => ∃ i : Nat, i ≤ (spl l).1.length ∧ a = .int .i64 i ∧ G8 w W l z s A0.heap.size (.slice q1 (spl l).1.length c1) (.slice q2 (spl l).1.length c2) (.slice q3 (spl l).1.length c3)) (fun a _ => (spl l).1.length - (intOf a).toNat)
  case atStart => exact ⟨0, by omega, rfl, HQ.out⟩
  case round =>
    obtain ⟨i, hi, rfl, hG⟩ := hrel
    by_cases hlt : i < (spl l).1.length
    · obtain ⟨g1, u1, rfl, k0, f0, n1, n2, hN⟩ := hG.room hlt
      have HN : Hid (G8 w (wr.setCell ⟨g1, i, .none⟩ (.string ⟨#[47]⟩)) l z s A0.heap.size (.slice (some ⟨g1, 0, .none⟩) (spl l).1.length c1) (.slice q2 (spl l).1.length c2) (.slice q3 (spl l).1.length c3)) := hN _
      have n2' : c1 ≤ 9223372036854775807 := n2
      have j1 : (i : Int) < (spl l).1.length := by omega
      clear hN hG HQ
      go_wp2
      exact ⟨⟨i + 1, by omega, by simp, HN.out⟩, by simp [intOf]; omega⟩
    · have j1 : ¬ ((i : Int) < (spl l).1.length) := by omega
      have HQ2 : Hid (G8 w wr l z s A0.heap.size (.slice q1 (spl l).1.length c1) (.slice q2 (spl l).1.length c2) (.slice q3 (spl l).1.length c3)) := hG
      have cT := texts_any q3 q2 (spl l).1.length c3 c2 (spl l).1 wr (by omega) (tex_own hG.r3) (tex_own hG.r2)
      clear hG HQ
      go_upto_region 15 with (go_at_call 9; refine cT.mono ?_; rintro _ B1 ⟨rfl, k1, rfl⟩)
      have hbe : Below w.heap.size w (wr.drewN k1) := HQ2.out.be.trans ⟨rfl, rfl, rfl, Nat.le_refl _, fun _ _ => rfl⟩
      have hx0 : (wr.drewN k1).cell? ⟨w.heap.size, 0, .none⟩ = some (.int .i64 z) := HQ2.out.x0
      have hx1 : (wr.drewN k1).cell? ⟨w.heap.size, 1, .none⟩ = some (.string ⟨s.toArray⟩) := HQ2.out.x1
      have HC : Hid (Below w.heap.size w (wr.drewN k1) ∧ (wr.drewN k1).cell? ⟨w.heap.size, 0, .none⟩ = some (.int .i64 z) ∧ (wr.drewN k1).cell? ⟨w.heap.size, 1, .none⟩ = some (.string ⟨s.toArray⟩)) := ⟨hbe, hx0, hx1⟩
      clear cT HQ2 hbe
      generalize wr.drewN k1 = C0 at *
      have hX : (pkx z (padb s)).length = 16 := by rw [pkx_len, padb_len]
      have cP := fun W => pack_any z s W hz
      have cQ := fun W => rpack_any z s W hz hs
      generalize pkx z (padb s) = X at *
      go_wp2_with fail
      go_at_call 11
      refine (cP C0).mono ?_
      rintro e C1 ⟨p1, d1, rfl, o1, b1⟩
      rw [hX] at o1 ⊢
      have h0 := HC.out.1.size
      have zx : w.heap.size < C0.heap.size := lt_cell hx0
      have hx0 := (b1.cell (p := ⟨w.heap.size, 0, .none⟩) zx).trans hx0
      have hx1 := (b1.cell (p := ⟨w.heap.size, 1, .none⟩) zx).trans hx1
      have HP1 : Hid (C1.ownsRow C0.heap.size 5 1 (.slice p1 16 d1) 16 (by8 X) ∧ Below C0.heap.size C0 C1) := ⟨o1, b1⟩
      have zx1 : w.heap.size < C1.heap.size := lt_cell hx0
      clear o1 b1
      go_wp2_with fail
      go_at_call 11
      refine (cP C1).mono ?_
      rintro e C2 ⟨p2, d2, rfl, o1, b1⟩
      rw [hX] at o1 ⊢
      have hx0 := (b1.cell (p := ⟨w.heap.size, 0, .none⟩) zx1).trans hx0
      have hx1 := (b1.cell (p := ⟨w.heap.size, 1, .none⟩) zx1).trans hx1
      have HP2 : Hid (C2.ownsRow C1.heap.size 5 1 (.slice p2 16 d2) 16 (by8 X) ∧ Below C1.heap.size C1 C2) := ⟨o1, b1⟩
      have zx2 : w.heap.size < C2.heap.size := lt_cell hx0
      clear o1 b1
      go_wp2_with fail
      go_at_call 12
      refine (cQ C2).mono ?_
      rintro e C3 ⟨p3, d3, rfl, o1, b1⟩
      rw [hX] at o1 ⊢
      have hx0 := (b1.cell (p := ⟨w.heap.size, 0, .none⟩) zx2).trans hx0
      have hx1 := (b1.cell (p := ⟨w.heap.size, 1, .none⟩) zx2).trans hx1
      have HP3 : Hid (C3.ownsRow C2.heap.size 5 1 (.slice p3 16 d3) 16 (by8 X) ∧ Below C2.heap.size C2 C3) := ⟨o1, b1⟩
      have zx3 : w.heap.size < C3.heap.size := lt_cell hx0
      clear o1 b1 cQ
      have e23 := HP3.out.2
      have e13 := HP2.out.2.trans (e23.mono HP2.out.2.size)
      have R1 : Hid (C3.ownsRow C0.heap.size 5 1 (.slice p1 16 d1) 16 (by8 X)) := own_below HP1.out.1 e13
      have R2 : Hid (C3.ownsRow C1.heap.size 5 1 (.slice p2 16 d2) 16 (by8 X)) := own_below HP2.out.1 e23
      have R3 : Hid (C3.ownsRow C2.heap.size 5 1 (.slice p3 16 d3) 16 (by8 X)) := HP3.out.1
      have HB3 : Hid (Below w.heap.size w C3) := HC.out.1.trans ((HP1.out.2.trans (e13.mono HP1.out.2.size)).mono h0)
      have L1 : ∀ g, Value.ownBlock (.slice p1 16 d1) = some g → C0.heap.size ≤ g ∧ g < C1.heap.size := fun g hg => ⟨(own_blk HP1.out.1 hg).1, (own_blk HP1.out.1 hg).2⟩
      have L2 : ∀ g, Value.ownBlock (.slice p2 16 d2) = some g → C1.heap.size ≤ g ∧ g < C2.heap.size := fun g hg => ⟨(own_blk HP2.out.1 hg).1, (own_blk HP2.out.1 hg).2⟩
      have L3 : ∀ g, Value.ownBlock (.slice p3 16 d3) = some g → C2.heap.size ≤ g ∧ g < C3.heap.size := fun g hg => ⟨(own_blk HP3.out.1 hg).1, (own_blk HP3.out.1 hg).2⟩
      have HLs : Hid ((∀ g, Value.ownBlock (.slice p1 16 d1) = some g → C0.heap.size ≤ g ∧ g < C1.heap.size) ∧ (∀ g, Value.ownBlock (.slice p2 16 d2) = some g → C1.heap.size ≤ g ∧ g < C2.heap.size) ∧ (∀ g, Value.ownBlock (.slice p3 16 d3) = some g → C2.heap.size ≤ g ∧ g < C3.heap.size) ∧ w.heap.size < C0.heap.size ∧ C0.heap.size ≤ C1.heap.size ∧ C1.heap.size ≤ C2.heap.size ∧ C2.heap.size ≤ C3.heap.size) := ⟨L1, L2, L3, zx, HP1.out.2.size, HP2.out.2.size, HP3.out.2.size⟩
      clear e23 e13 L1 L2 L3 HP1 HP2 HP3 h0 zx zx1 zx2
      have c1 := bytes_any p1 p3 16 d1 d3 X C3 (by omega) (byt_own R1.out) (byt_own R3.out)
      have c2 := fun k => bytes_any p2 p3 16 d2 d3 X (C3.drewN k) (by omega) (byt_own (own_drewN R2.out k)) (byt_own (own_drewN R3.out k))
      go_wp2_with fail
      go_at_call 13
      refine c1.mono ?_
      rintro _ _ ⟨rfl, k1, rfl⟩
      go_wp2_with fail
      go_at_call 13
      refine (c2 k1).mono ?_
      rintro _ _ ⟨rfl, k2, rfl⟩
      simp only [World.drewN_drewN]
      generalize k1 + k2 = k1 at *
      clear c1 c2
      have cF := free2 (k := k1) R1.out R2.out R3.out HLs.out.1 HLs.out.2.1 HLs.out.2.2.2.2.1 HLs.out.2.2.2.2.2.1
      go_wp2_with fail
      go_at_call 14
      refine cF.mono ?_
      rintro _ E ⟨rfl, o3, hs3, hbe⟩
      have hBE := hbe (w.heap.size + 1) (by have := HLs.out.2.2.2.1; omega) (by omega)
      have HE : Hid (E.ownsRow C2.heap.size 5 1 (.slice p3 16 d3) 16 (by8 X) ∧ Below w.heap.size w E) := ⟨o3, HB3.out.trans (hBE.mono (by omega))⟩
      have hx0 := (hBE.cell (p := ⟨w.heap.size, 0, .none⟩) (by show w.heap.size < _; omega)).trans hx0
      have hx1 := (hBE.cell (p := ⟨w.heap.size, 1, .none⟩) (by show w.heap.size < _; omega)).trans hx1
      clear cF o3 hs3 hbe hBE R1 R2 R3 HB3 HLs
      go_wp2_with fail
      go_at_call 11
      refine (cP E).mono ?_
      rintro e E1 ⟨p4, d4, rfl, o1, b1⟩
      rw [hX] at o1 ⊢
      have c1 := bytes_any p4 p3 16 d4 d3 X E1 (by omega) (byt_own o1) (byt_own (own_below HE.out.1 b1))
      have HE1 : Hid (Below w.heap.size w E1) := HE.out.2.trans (b1.mono HE.out.2.size)
      clear o1 b1 cP
      go_wp2_with fail
      go_at_call 13
      refine c1.mono ?_
      rintro _ _ ⟨rfl, k3, rfl⟩
      go_wp2
      go_ret
      exact ⟨rfl, HE1.out.trans ⟨rfl, rfl, rfl, Nat.le_refl _, fun _ _ => rfl⟩⟩
end Go.Proofs.YtockhlboeaignaaDoor
