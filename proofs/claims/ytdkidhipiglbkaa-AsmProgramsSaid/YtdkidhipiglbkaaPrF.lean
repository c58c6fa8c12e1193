import Derived.Test.YtdkidhipiglbkaaPrE
import Derived.Deep.DeepCutAuto
namespace Go.Proofs.Ytdkidhipiglbkaa
open Go.RowKit
set_option linter.unusedVariables false
set_option linter.unusedSimpArgs false
/-- What a round reads: the two boxes, and an element of each row. -/
def Rd (B en g1 g2 n c1 c2 : Nat) (e : Int) (i : Nat) (s t : Sg) (w : World) : Prop := C2 w B (.int .u64 e) (.slice (some ⟨g1, 0, .none⟩) n c1) ∧ C2 w (B + 1) (.int .u64 e) (.slice (some ⟨g2, 0, .none⟩) n c2) ∧ At4 w g1 i s ∧ At4 w g2 i t
theorem rd_keep {B X en g1 g2 n c1 c2 : Nat} {e : Int} {i : Nat} {s t : Sg} {w w' : World} (h : Rd B en g1 g2 n c1 c2 e i s t w) (hb : Below X w w') (x0 : B + 1 < X) (x1 : g1 < X) (x2 : g2 < X) : Rd B en g1 g2 n c1 c2 e i s t w' :=
  ⟨c2_keep h.1 hb (by omega), c2_keep h.2.1 hb (by omega), at4_keep h.2.2.1 hb x1, at4_keep h.2.2.2 hb x2⟩
/-- A segment of nothing, in a block. -/
abbrev ZC : Obj := .cells #[.int .u64 0, .int .u32 0, .slice none 0 0, .int .u64 0] 37
/-- A segment in a block of its own. -/
def S4 (w : World) (b : Nat) (s : Sg) : Prop := w.cell? ⟨b, 0, .none⟩ = some (.int .u64 s.va) ∧ w.cell? ⟨b, 1, .none⟩ = some (.int .u32 s.fl) ∧ w.cell? ⟨b, 2, .none⟩ = some (.slice s.p s.n s.c) ∧ w.cell? ⟨b, 3, .none⟩ = some (.int .u64 s.mem)
theorem s4a (w : World) (s : Sg) (o : Obj) : S4 ((w.alloc (.cells #[.int .u64 s.va, .int .u32 s.fl, .slice s.p s.n s.c, .int .u64 s.mem] 37)).alloc o) w.heap.size s := by
  refine ⟨?_, ?_, ?_, ?_⟩ <;> simp
theorem s4b (w : World) (s : Sg) (o : Obj) : S4 ((w.alloc o).alloc (.cells #[.int .u64 s.va, .int .u32 s.fl, .slice s.p s.n s.c, .int .u64 s.mem] 37)) (w.heap.size + 1) s := by
  have e : (w.alloc o).heap.size = w.heap.size + 1 := by rw [World.size_alloc]
  rw [← e]
  refine ⟨?_, ?_, ?_, ?_⟩ <;> simp
set_option maxHeartbeats 8000000 in
set_option maxRecDepth 100000 in
theorem same_some (g1 g2 n c1 c2 : Nat) (e : Int) (w : World) (K : List (Int × Int × Int × List Int)) (hn : 0 < n) (hn2 : n ≤ 2) (k1 : n ≤ c1) (k2 : n ≤ c2) (m1 : c1 ≤ 9223372036854775807) (m2 : c2 ≤ 9223372036854775807) (l1 : g1 < w.heap.size) (l2 : g2 < w.heap.size) (hP : Pair w g1 g2 n K) :
    Calls Try.prog 7 #[.agg #[.int .u64 e, .slice (some ⟨g1, 0, .none⟩) n c1], .agg #[.int .u64 e, .slice (some ⟨g2, 0, .none⟩) n c2]] w fun e w' => e = .returned (.bool true) ∧ Below w.heap.size w w' := by
  have HP : Hid (Pair w g1 g2 n K) := hP
  clear hP
  go_enter Try.func7, Try.ntmps7
  go_wp2
  generalize hW1 : (w.alloc (.cells #[.int .u64 e, .slice (some ⟨g1, 0, .none⟩) n c1] 30)).alloc (.cells #[.int .u64 e, .slice (some ⟨g2, 0, .none⟩) n c2] 30) = W1
  have HZ : Hid (W1.heap.size = w.heap.size + 2 ∧ Below w.heap.size w W1 ∧ C2 W1 w.heap.size (.int .u64 e) (.slice (some ⟨g1, 0, .none⟩) n c1) ∧ C2 W1 (w.heap.size + 1) (.int .u64 e) (.slice (some ⟨g2, 0, .none⟩) n c2)) := by
    rw [← hW1]
    refine ⟨by simp only [World.size_alloc], ((Below.refl _ _).alloc (Nat.le_refl _) _).alloc (by simp only [World.size_alloc]; omega) _, ⟨?_, ?_⟩, ?_, ?_⟩ <;> simp
  clear hW1
  go_loopw [5] (fun v wr => ∃ i : Nat, i ≤ n ∧ v = .int .i64 i ∧ Hid (Below (w.heap.size + 2) W1 wr)) (fun v _ => (n - intOf v).toNat)
  case atStart => exact ⟨0, by omega, rfl, Below.refl _ _⟩
  case round =>
    obtain ⟨i, hi, rfl, HB⟩ := hrel
    have HW : Hid (Below w.heap.size w wr) := HZ.out.2.1.trans (HB.out.mono (by omega))
    have zr : w.heap.size + 2 ≤ wr.heap.size := by have := HB.out.size; have := HZ.out.1; omega
    have HC1 := c2_keep HZ.out.2.2.1 HB.out (by omega)
    have HC2 := c2_keep HZ.out.2.2.2 HB.out (by omega)
    have a1 := HC1.2
    by_cases hlt : i < n
    · have g0 : (i : Int) < n := by omega
      obtain ⟨s, t, A1, A2, B1, B2, hk, hs⟩ := HP.out i hlt
      have HR : Rd w.heap.size 0 g1 g2 n c1 c2 e i s t wr.drew := ⟨HC1, HC2, at4_keep A1 HW.out.drew l1, at4_keep A2 HW.out.drew l2⟩
      have HB1 : Hid (Byt wr s.p s.n s.c s.xs ∧ Byt wr t.p t.n t.c t.xs ∧ s.key = t.key) := ⟨byt_keep' B1 HW.out (Nat.le_refl _), byt_keep' B2 HW.out (Nat.le_refl _), hk⟩
      have zd : w.heap.size + 2 ≤ wr.drew.heap.size := zr
      have HBd : Hid (Below (w.heap.size + 2) W1 wr.drew) := HB.out.drew
      have HR1 : Hid (∀ o, Rd w.heap.size 0 g1 g2 n c1 c2 e i s t (wr.drew.alloc o)) := fun o => rd_keep HR ((Below.refl _ _).alloc (Nat.le_refl _) o) (by omega) (by omega) (by omega)
      have HR2 : Hid (∀ o o', Rd w.heap.size 0 g1 g2 n c1 c2 e i s t ((wr.drew.alloc o).alloc o')) := fun o o' => rd_keep (HR1.out o) ((Below.refl _ _).alloc (Nat.le_refl _) o') (by simp only [World.size_alloc]; omega) (by simp only [World.size_alloc]; omega) (by simp only [World.size_alloc]; omega)
      have HX : Hid (∀ o o', Below wr.heap.size wr ((wr.drew.alloc o).alloc o')) := fun o o' => ((Below.refl _ _).drew.alloc (Nat.le_refl _) o).alloc (by simp only [World.size_alloc]; exact Nat.le_succ _) o'
      clear A1 A2 B1 B2 hk
      go_upto_region 6 with fail
      go_cut [6, 7] (fun s6 s7 W => ∃ P Q, s6 = .pointer (some ⟨P, 0, .none⟩) ∧ s7 = .pointer (some ⟨Q, 0, .none⟩) ∧ Hid (S4 W P s ∧ S4 W Q t ∧ Below wr.heap.size wr W))
      case first =>
        refine wp_region_held_drew (S := Rd w.heap.size 0 g1 g2 n c1 c2 e i s t) (by kernel_rfl) HR (fun hHeld => ?_)
        generalize wr.drew = W0 at *
        refine wpAnyH_take (i := 0) (v := (.pointer (some ⟨w.heap.size, 1, .none⟩))) rfl (by kernel_rfl) (by kernel_rfl) (by kernel_rfl) (fun _ _ _ h => h) (Or.inl ⟨by rfl, fun ww hSw => by (try dsimp only at hSw); go_simp⟩) (by assumption) ?_
        simp only [Act.put, List.setIfInBounds_toArray, List.set_cons_zero, List.set_cons_succ, List.getElem_toArray, List.getElem_cons_succ, List.getElem_cons_zero]
        refine wpAnyH_take (i := 1) (v := (.slice (some ⟨g1, 0, .none⟩) n c1)) rfl (by kernel_rfl) (by kernel_rfl) (by kernel_rfl) (fun _ _ _ h => h) (Or.inl ⟨by rfl, fun ww hSw => by (try dsimp only at hSw); obtain ⟨⟨a0, a1⟩, ⟨b0, b1⟩, ⟨d0, d1, d2, d3⟩, e0, e1, e2, e3⟩ := hSw; go_simp⟩) (by assumption) ?_
        simp only [Act.put, List.setIfInBounds_toArray, List.set_cons_zero, List.set_cons_succ, List.getElem_toArray, List.getElem_cons_succ, List.getElem_cons_zero]
        refine wpAnyH_take (i := 2) (v := (.int .i64 (i : Int))) rfl (by kernel_rfl) (by kernel_rfl) (by kernel_rfl) (fun _ _ _ h => h) (Or.inl ⟨by rfl, fun ww hSw => by (try dsimp only at hSw); go_simp⟩) (by assumption) ?_
        simp only [Act.put, List.setIfInBounds_toArray, List.set_cons_zero, List.set_cons_succ, List.getElem_toArray, List.getElem_cons_succ, List.getElem_cons_zero]
        refine wpAnyH_take (i := 3) (v := (.pointer (some ⟨g1, i * 4, .none⟩))) rfl (by kernel_rfl) (by kernel_rfl) (by kernel_rfl) (fun _ _ _ h => h) (Or.inl ⟨by rfl, fun ww hSw => by (try dsimp only at hSw); go_simp⟩) (by assumption) ?_
        simp only [Act.put, List.setIfInBounds_toArray, List.set_cons_zero, List.set_cons_succ, List.getElem_toArray, List.getElem_cons_succ, List.getElem_cons_zero]
        refine wpAnyH_take (i := 4) (v := (.agg #[.int .u64 s.va, .int .u32 s.fl, .slice s.p s.n s.c, .int .u64 s.mem])) rfl (by kernel_rfl) (by kernel_rfl) (by kernel_rfl) (fun _ _ _ h => h) (Or.inl ⟨by rfl, fun ww hSw => by (try dsimp only at hSw); obtain ⟨⟨a0, a1⟩, ⟨b0, b1⟩, ⟨d0, d1, d2, d3⟩, e0, e1, e2, e3⟩ := hSw; go_simp⟩) (by assumption) ?_
        simp only [Act.put, List.setIfInBounds_toArray, List.set_cons_zero, List.set_cons_succ, List.getElem_toArray, List.getElem_cons_succ, List.getElem_cons_zero]
        refine wpAnyH_take (i := 5) (v := (.pointer (some ⟨w.heap.size + 1, 1, .none⟩))) rfl (by kernel_rfl) (by kernel_rfl) (by kernel_rfl) (fun _ _ _ h => h) (Or.inl ⟨by rfl, fun ww hSw => by (try dsimp only at hSw); go_simp⟩) (by assumption) ?_
        simp only [Act.put, List.setIfInBounds_toArray, List.set_cons_zero, List.set_cons_succ, List.getElem_toArray, List.getElem_cons_succ, List.getElem_cons_zero]
        refine wpAnyH_take (i := 6) (v := (.slice (some ⟨g2, 0, .none⟩) n c2)) rfl (by kernel_rfl) (by kernel_rfl) (by kernel_rfl) (fun _ _ _ h => h) (Or.inl ⟨by rfl, fun ww hSw => by (try dsimp only at hSw); obtain ⟨⟨a0, a1⟩, ⟨b0, b1⟩, ⟨d0, d1, d2, d3⟩, e0, e1, e2, e3⟩ := hSw; go_simp⟩) (by assumption) ?_
        simp only [Act.put, List.setIfInBounds_toArray, List.set_cons_zero, List.set_cons_succ, List.getElem_toArray, List.getElem_cons_succ, List.getElem_cons_zero]
        refine wpAnyH_take (i := 7) (v := (.int .i64 (i : Int))) rfl (by kernel_rfl) (by kernel_rfl) (by kernel_rfl) (fun _ _ _ h => h) (Or.inl ⟨by rfl, fun ww hSw => by (try dsimp only at hSw); go_simp⟩) (by assumption) ?_
        simp only [Act.put, List.setIfInBounds_toArray, List.set_cons_zero, List.set_cons_succ, List.getElem_toArray, List.getElem_cons_succ, List.getElem_cons_zero]
        refine wpAnyH_take (i := 8) (v := (.pointer (some ⟨g2, i * 4, .none⟩))) rfl (by kernel_rfl) (by kernel_rfl) (by kernel_rfl) (fun _ _ _ h => h) (Or.inl ⟨by rfl, fun ww hSw => by (try dsimp only at hSw); go_simp⟩) (by assumption) ?_
        simp only [Act.put, List.setIfInBounds_toArray, List.set_cons_zero, List.set_cons_succ, List.getElem_toArray, List.getElem_cons_succ, List.getElem_cons_zero]
        refine wpAnyH_take (i := 9) (v := (.agg #[.int .u64 t.va, .int .u32 t.fl, .slice t.p t.n t.c, .int .u64 t.mem])) rfl (by kernel_rfl) (by kernel_rfl) (by kernel_rfl) (fun _ _ _ h => h) (Or.inl ⟨by rfl, fun ww hSw => by (try dsimp only at hSw); obtain ⟨⟨a0, a1⟩, ⟨b0, b1⟩, ⟨d0, d1, d2, d3⟩, e0, e1, e2, e3⟩ := hSw; go_simp⟩) (by assumption) ?_
        simp only [Act.put, List.setIfInBounds_toArray, List.set_cons_zero, List.set_cons_succ, List.getElem_toArray, List.getElem_cons_succ, List.getElem_cons_zero]
        refine wpAnyH_ready (rs := [10, 11]) (by kernel_rfl) (by simp) ?_
        refine AllReadyH.cons rfl (fun K hK => ?_) (AllReadyH.cons rfl (fun K hK => ?_) AllReadyH.nil)
        · go_simp
          refine hK.out _ _ (HR1.out _) (fun hHeld => ?_)
          clear hK K
          try simp only [Act.put, List.setIfInBounds_toArray, List.set_cons_zero, List.set_cons_succ, List.getElem_toArray, List.getElem_cons_succ, List.getElem_cons_zero]
          refine wpAnyH_ready (rs := [11]) (by kernel_rfl) (by simp) ?_
          refine AllReadyH.cons rfl (fun K hK => ?_) AllReadyH.nil
          go_simp
          refine hK.out _ _ (HR2.out _ _) (fun hHeld => ?_)
          clear hK K
          try simp only [Act.put, List.setIfInBounds_toArray, List.set_cons_zero, List.set_cons_succ, List.getElem_toArray, List.getElem_cons_succ, List.getElem_cons_zero]
          refine wpAnyH_ready (rs := [12]) (by kernel_rfl) (by simp) ?_
          refine AllReadyH.cons rfl (fun K hK => ?_) AllReadyH.nil
          go_simp
          refine hK.out _ _ (HR2.out _ _) (fun hHeld => ?_)
          clear hK K
          try simp only [Act.put, List.setIfInBounds_toArray, List.set_cons_zero, List.set_cons_succ, List.getElem_toArray, List.getElem_cons_succ, List.getElem_cons_zero]
          refine wpAnyH_ready (rs := [13]) (by kernel_rfl) (by simp) ?_
          refine AllReadyH.cons rfl (fun K hK => ?_) AllReadyH.nil
          go_simp
          refine hK.out _ _ (HR2.out _ _) (fun hHeld => ?_)
          clear hK K
          try simp only [Act.put, List.setIfInBounds_toArray, List.set_cons_zero, List.set_cons_succ, List.getElem_toArray, List.getElem_cons_succ, List.getElem_cons_zero]
          refine wpAnyH_done (by kernel_rfl) ?_ _
          go_wp2_with fail
          go_meet
          exact ⟨W0.heap.size, W0.heap.size + 1, rfl, rfl, s4a _ _ _, s4b _ _ _, HX.out _ _⟩
        · go_simp
          refine hK.out _ _ (HR1.out _) (fun hHeld => ?_)
          clear hK K
          try simp only [Act.put, List.setIfInBounds_toArray, List.set_cons_zero, List.set_cons_succ, List.getElem_toArray, List.getElem_cons_succ, List.getElem_cons_zero]
          refine wpAnyH_ready (rs := [10]) (by kernel_rfl) (by simp) ?_
          refine AllReadyH.cons rfl (fun K hK => ?_) AllReadyH.nil
          go_simp
          refine hK.out _ _ (HR2.out _ _) (fun hHeld => ?_)
          clear hK K
          try simp only [Act.put, List.setIfInBounds_toArray, List.set_cons_zero, List.set_cons_succ, List.getElem_toArray, List.getElem_cons_succ, List.getElem_cons_zero]
          refine wpAnyH_ready (rs := [12]) (by kernel_rfl) (by simp) ?_
          refine AllReadyH.cons rfl (fun K hK => ?_) AllReadyH.nil
          go_simp
          refine hK.out _ _ (HR2.out _ _) (fun hHeld => ?_)
          clear hK K
          try simp only [Act.put, List.setIfInBounds_toArray, List.set_cons_zero, List.set_cons_succ, List.getElem_toArray, List.getElem_cons_succ, List.getElem_cons_zero]
          refine wpAnyH_ready (rs := [13]) (by kernel_rfl) (by simp) ?_
          refine AllReadyH.cons rfl (fun K hK => ?_) AllReadyH.nil
          go_simp
          refine hK.out _ _ (HR2.out _ _) (fun hHeld => ?_)
          clear hK K
          try simp only [Act.put, List.setIfInBounds_toArray, List.set_cons_zero, List.set_cons_succ, List.getElem_toArray, List.getElem_cons_succ, List.getElem_cons_zero]
          refine wpAnyH_done (by kernel_rfl) ?_ _
          go_wp2_with fail
          go_meet
          exact ⟨W0.heap.size + 1, W0.heap.size, rfl, rfl, s4b _ _ _, s4a _ _ _, HX.out _ _⟩
      case rest =>
        obtain ⟨P, Q, rfl, rfl, H4⟩ := hcut
        obtain ⟨⟨d0, d1, d2, d3⟩, ⟨e0, e1, e2, e3⟩, hb⟩ := H4.out
        obtain ⟨y1, y2, hk⟩ := HB1.out
        have z2 := hb.size
        have x1 := byt_keep' y1 hb (Nat.le_refl _)
        have x2 := byt_keep' y2 hb (Nat.le_refl _)
        have HBn : Hid (Below (w.heap.size + 2) W1 wc) := HB.out.trans (hb.mono zr)
        clear y1 y2 hb H4 HR HC1 HC2 a1 HBd HB1 zd
        obtain ⟨va, fl, mem, sp, sn, sc, xs⟩ := s
        obtain ⟨va', fl', mem', tp, tn, tc, xs'⟩ := t
        simp only [Sg.key, Prod.mk.injEq] at hk
        obtain ⟨rfl, rfl, rfl, rfl⟩ := hk
        simp only at x1 x2 d0 d1 d2 d3 e0 e1 e2 e3 hs
        obtain rfl : sn = tn := x1.1.symm.trans x2.1
        have cB := bytes_any sp tp sn sc tc xs wc hs x1 x2
        clear x1 x2
        go_wp2_with fail
        refine cB.mono ?_
        rintro e w5 ⟨rfl, k, rfl⟩
        clear cB
        go_wp2
        exact ⟨⟨i + 1, by omega, rfl, below_drewN HBn.out k⟩, by simp only [intOf]; omega⟩
    · obtain rfl : i = n := by omega
      clear hi hlt
      go_wp2
      go_ret
      exact ⟨rfl, HW.out⟩
theorem same_none (p1 p2 : Option Addr) (c1 c2 : Nat) (e : Int) (w : World) :
    Calls Try.prog 7 #[.agg #[.int .u64 e, .slice p1 0 c1], .agg #[.int .u64 e, .slice p2 0 c2]] w fun e w' => e = .returned (.bool true) ∧ Below w.heap.size w w' := by
  go_enter Try.func7, Try.ntmps7
  go_wp2
  generalize hW1 : (w.alloc (.cells #[.int .u64 e, .slice p1 0 c1] 30)).alloc (.cells #[.int .u64 e, .slice p2 0 c2] 30) = W1
  have HZ : Hid (Below w.heap.size w W1 ∧ C2 W1 w.heap.size (.int .u64 e) (.slice p1 0 c1)) := by
    rw [← hW1]
    refine ⟨((Below.refl _ _).alloc (Nat.le_refl _) _).alloc (by simp only [World.size_alloc]; omega) _, ?_, ?_⟩ <;> simp
  clear hW1
  go_loopw [5] (fun v wr => v = .int .i64 0 ∧ wr = W1) (fun _ _ => 0)
  case atStart => exact ⟨rfl, rfl⟩
  case round =>
    obtain ⟨rfl, rfl⟩ := hrel
    have a1 := HZ.out.2.2
    go_wp2
    go_ret
    exact ⟨rfl, HZ.out.1⟩
theorem same_any {w : World} {b1 b2 n1 n2 c1 c2 : Nat} {p1 p2 : Option Addr} {L1 L2 : List Sg} {e : Int} (h1 : Segs w b1 p1 n1 c1 L1) (h2 : Segs w b2 p2 n2 c2 L2) (hk : L1.map Sg.key = L2.map Sg.key) (hn : n1 ≤ 2) (hx : ∀ k ∈ L1.map Sg.key, k.2.2.2.length < 1000000) :
    Calls Try.prog 7 #[.agg #[.int .u64 e, .slice p1 n1 c1], .agg #[.int .u64 e, .slice p2 n2 c2]] w fun e w' => e = .returned (.bool true) ∧ Below w.heap.size w w' := by
  have el : L1.length = L2.length := by have := congrArg List.length hk; simpa using this
  obtain rfl : n1 = n2 := by rw [← h1.2.1, ← h2.2.1, el]
  by_cases h0 : n1 = 0
  · subst h0
    exact same_none p1 p2 c1 c2 e w
  · obtain ⟨g1, rfl, k1, m1, l1, A1⟩ := segs_at h1 (by omega)
    obtain ⟨g2, rfl, k2, m2, l2, A2⟩ := segs_at h2 (by omega)
    refine same_some g1 g2 n1 c1 c2 e w [] (by omega) hn k1 k2 m1 m2 l1 l2 ?_
    intro i hi
    have j1 : i < L1.length := by rw [h1.2.1]; exact hi
    have j2 : i < L2.length := by omega
    obtain ⟨x1, y1⟩ := A1 i L1[i] (by simp)
    obtain ⟨x2, y2⟩ := A2 i L2[i] (by simp)
    have ek : L1[i].key = L2[i].key := by
      have := congrArg (·[i]?) hk
      simpa [j1, j2] using this
    refine ⟨L1[i], L2[i], x1, x2, y1, y2, ek, ?_⟩
    have := hx L1[i].key (List.mem_map_of_mem (List.getElem_mem j1))
    rw [← y1.1]
    exact this
end Go.Proofs.Ytdkidhipiglbkaa
