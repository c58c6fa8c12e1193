import Derived.Test.YthdahigckflohabZRWrites
import Derived.Test.YthdahigckflohabZInts
import Derived.Deep.RegionHeld3
namespace Go.Proofs.Ythdahigckflohab
open Go.RowKit
set_option linter.unusedVariables false
set_option linter.unusedSimpArgs false
theorem owns_base {w : World} {base base' e n : Nat} {v : Value} {xs : List Value} (h : w.ownsRow base e 1 v n xs) (hb : base' ≤ base) : w.ownsRow base' e 1 v n xs := by
  refine ⟨h.1, ?_⟩
  rcases h.2 with h0 | ⟨g, cap, cur, hv, hg, rest⟩
  · exact .inl h0
  · exact .inr ⟨g, cap, cur, hv, Nat.le_trans hb hg, rest⟩
theorem owns_below {w w' : World} {base e n : Nat} {v : Value} {xs : List Value} (h : w.ownsRow base e 1 v n xs) (k : Below w.heap.size w w') : w'.ownsRow base e 1 v n xs :=
  h.kept (row := none) ⟨k.os, k.tape, k.output, k.size, fun b hb _ => k.block b hb⟩ (by cases v.ownBlock <;> simp)
theorem hasInts_keep {W w' : World} {p : Option Addr} {L : List Int} (h : HasInts W p L) (k : Below W.heap.size W w') : HasInts w' p L := by
  rcases h with h | ⟨g, hp, hg, hc⟩
  · exact .inl h
  · exact .inr ⟨g, hp, Nat.lt_of_lt_of_le hg k.size, fun j u hj => (k.cell (p := ⟨g, j, .none⟩) hg).trans (hc j u hj)⟩
theorem below_drewN' (w : World) (m : Nat) : Below w.heap.size w (w.drewN m) := below_drewN (Below.refl _ _) m
theorem ints_S (X : World) (B0 : Nat) (op rd rs1 rs2 imm csr : Int) (L : List Int) (p1 p2 : Option Addr) (c1 c2 : Nat) (w : World) (hl : L.length ≤ 1000) (h1 : HasInts X p1 L) (h2 : HasInts X p2 L) (h : (w.cell? ⟨B0, 0, .none⟩ = some (.int .i64 op) ∧ w.cell? ⟨B0, 1, .none⟩ = some (.int .i64 rd) ∧ w.cell? ⟨B0, 2, .none⟩ = some (.int .i64 rs1) ∧ w.cell? ⟨B0, 3, .none⟩ = some (.int .i64 rs2) ∧ w.cell? ⟨B0, 4, .none⟩ = some (.int .i64 imm) ∧ w.cell? ⟨B0, 5, .none⟩ = some (.int .i64 csr) ∧ Below X.heap.size X w)) :
    Calls Try.prog 30 #[.slice p1 L.length c1, .slice p2 L.length c2] w fun e w' => e = .returned (.bool true) ∧ (w'.cell? ⟨B0, 0, .none⟩ = some (.int .i64 op) ∧ w'.cell? ⟨B0, 1, .none⟩ = some (.int .i64 rd) ∧ w'.cell? ⟨B0, 2, .none⟩ = some (.int .i64 rs1) ∧ w'.cell? ⟨B0, 3, .none⟩ = some (.int .i64 rs2) ∧ w'.cell? ⟨B0, 4, .none⟩ = some (.int .i64 imm) ∧ w'.cell? ⟨B0, 5, .none⟩ = some (.int .i64 csr) ∧ Below X.heap.size X w') := by
  obtain ⟨a0, a1, a2, a3, a4, a5, hb⟩ := h
  refine (ints_any L p1 p2 c1 c2 w hl (hasInts_keep h1 hb) (hasInts_keep h2 hb)).mono ?_
  rintro e w' ⟨he, m, rfl⟩
  exact ⟨he, by simpa using a0, by simpa using a1, by simpa using a2, by simpa using a3, by simpa using a4, by simpa using a5, bseq hb (below_drewN' w m)⟩
theorem call_S (X : World) (B0 f : Nat) (op rd rs1 rs2 imm csr V : Int) (w : World) (hB : B0 < X.heap.size)
    (c : Calls Try.prog f #[.agg #[.int .i64 op, .int .i64 rd, .int .i64 rs1, .int .i64 rs2, .int .i64 imm, .int .i64 csr]] w fun e w' => e = .returned (.int .i64 V) ∧ Below w.heap.size w w') (h : (w.cell? ⟨B0, 0, .none⟩ = some (.int .i64 op) ∧ w.cell? ⟨B0, 1, .none⟩ = some (.int .i64 rd) ∧ w.cell? ⟨B0, 2, .none⟩ = some (.int .i64 rs1) ∧ w.cell? ⟨B0, 3, .none⟩ = some (.int .i64 rs2) ∧ w.cell? ⟨B0, 4, .none⟩ = some (.int .i64 imm) ∧ w.cell? ⟨B0, 5, .none⟩ = some (.int .i64 csr) ∧ Below X.heap.size X w)) :
    Calls Try.prog f #[.agg #[.int .i64 op, .int .i64 rd, .int .i64 rs1, .int .i64 rs2, .int .i64 imm, .int .i64 csr]] w fun e w' => e = .returned (.int .i64 V) ∧ (w'.cell? ⟨B0, 0, .none⟩ = some (.int .i64 op) ∧ w'.cell? ⟨B0, 1, .none⟩ = some (.int .i64 rd) ∧ w'.cell? ⟨B0, 2, .none⟩ = some (.int .i64 rs1) ∧ w'.cell? ⟨B0, 3, .none⟩ = some (.int .i64 rs2) ∧ w'.cell? ⟨B0, 4, .none⟩ = some (.int .i64 imm) ∧ w'.cell? ⟨B0, 5, .none⟩ = some (.int .i64 csr) ∧ Below X.heap.size X w') := by
  obtain ⟨a0, a1, a2, a3, a4, a5, hb⟩ := h
  refine c.mono ?_
  rintro e w' ⟨he, hk⟩
  have hz : B0 < w.heap.size := Nat.lt_of_lt_of_le hB hb.size
  exact ⟨he, cell_keep hk hz a0, cell_keep hk hz a1, cell_keep hk hz a2, cell_keep hk hz a3, cell_keep hk hz a4, cell_keep hk hz a5, bseq hb hk⟩
theorem rl_len (a b : Int) : (rl a b).length ≤ 2 := by unfold rl; split <;> split <;> (try split) <;> simp
/-- Behind FreeInts. -/
theorem Fr.hasInts {base n : Nat} {va vb : Value} {w wr : World} {xs ys : List Value} (h : Fr base n va vb w wr xs ys) {p : Option Addr} {L : List Int} (hi : HasInts w p L) (ha : ∀ g, p = some ⟨g, 0, .none⟩ → va.ownBlock ≠ some g ∧ vb.ownBlock ≠ some g) : HasInts wr p L := by
  rcases hi with hi | ⟨g, hp, hg, hc⟩
  · exact .inl hi
  · exact .inr ⟨g, hp, Nat.lt_of_lt_of_le hg h.size, fun j u hj => (h.cell g j hg (ha g hp).1 (ha g hp).2).trans (hc j u hj)⟩
theorem Fr.below {base n : Nat} {va vb : Value} {w wr : World} {xs ys : List Value} (h : Fr base n va vb w wr xs ys) (B : Nat) (hB : B ≤ w.heap.size) (ha : ∀ g, va.ownBlock = some g → B ≤ g) (hb : ∀ g, vb.ownBlock = some g → B ≤ g) : Below B w wr :=
  ⟨h.os, h.tape, h.output, h.size, fun k hk => h.block k (by omega) (fun e => by have := ha k e.symm; omega) (fun e => by have := hb k e.symm; omega)⟩
set_option maxHeartbeats 8000000 in
set_option maxRecDepth 100000 in
theorem regs_any (op rd rs1 rs2 imm csr : Int) (w : World) :
    Calls Try.prog 17 #[.agg #[.int .i64 op, .int .i64 rd, .int .i64 rs1, .int .i64 rs2, .int .i64 imm, .int .i64 csr]] w fun e w' => e = .returned (.bool true) ∧ Below w.heap.size w w' := by
  have c1 := rreads_any op rd rs1 rs2 imm csr
  have c2 := reads_any op rd rs1 rs2 imm csr
  have c3 := writes_any op rd rs1 rs2 imm csr
  have c4 := rwrites_any op rd rs1 rs2 imm csr
  have hl : (if uses op rd rs1 rs2 imm csr then rl rs1 rs2 else []).length ≤ 2 := by
    split
    · exact rl_len _ _
    · exact Nat.zero_le _
  generalize (if uses op rd rs1 rs2 imm csr then rl rs1 rs2 else []) = L at *
  generalize (if uses op rd rs1 rs2 imm csr then rd else 0) = V at *
  go_enter Try.func17, Try.ntmps17
  go_wp2_with fail
  refine (c1 _).mono ?_
  rintro e w1 ⟨⟨pw, cw, rfl, oW⟩, hb1⟩
  clear c1
  have z1 := hb1.size
  simp only [World.size_alloc] at z1 oW
  have K1 : Hid (Row6 w1 w.heap.size (.int .i64 op) (.int .i64 rd) (.int .i64 rs1) (.int .i64 rs2) (.int .i64 imm) (.int .i64 csr)) := row6_keep hb1 (by simp only [World.size_alloc]; omega) (row6_new w (.int .i64 op) (.int .i64 rd) (.int .i64 rs1) (.int .i64 rs2) (.int .i64 imm) (.int .i64 csr) 49)
  have HB1 : Hid (Below w.heap.size w w1) := (below_past _ _).trans (hb1.mono (by simp only [World.size_alloc]; omega))
  have HW1 : Hid (w1.ownsRow (w.heap.size + 1) 3 1 (.slice pw L.length cw) L.length (L.map (.int .i64))) := oW
  have y1 : w.heap.size < w1.heap.size := by omega
  clear hb1 oW
  obtain ⟨k0, k1, k2, k3, k4, k5⟩ := K1.out
  go_wp2_with fail
  clear k0 k1 k2 k3 k4 k5
  refine (c2 _).mono ?_
  rintro e w2 ⟨⟨pa, ca, rfl, oA⟩, hb2⟩
  have z2 := hb2.size
  have K2 : Hid (Row6 w2 w.heap.size (.int .i64 op) (.int .i64 rd) (.int .i64 rs1) (.int .i64 rs2) (.int .i64 imm) (.int .i64 csr)) := row6_keep hb2 y1 K1.out
  have HB2 : Hid (Below w.heap.size w w2) := bseq HB1.out hb2
  have HW2 : Hid (w2.ownsRow (w.heap.size + 1) 3 1 (.slice pw L.length cw) L.length (L.map (.int .i64))) := owns_below HW1.out hb2
  have HA2 : Hid (w2.ownsRow w1.heap.size 3 1 (.slice pa L.length ca) L.length (L.map (.int .i64))) := oA
  have y2 : w.heap.size < w2.heap.size := by omega
  clear hb2 oA K1 HB1
  obtain ⟨k0, k1, k2, k3, k4, k5⟩ := K2.out
  go_wp2_with fail
  clear k0 k1 k2 k3 k4 k5
  refine (c2 _).mono ?_
  rintro e w3 ⟨⟨pb, cb, rfl, oB⟩, hb3⟩
  have z3 := hb3.size
  have K3 : Hid (Row6 w3 w.heap.size (.int .i64 op) (.int .i64 rd) (.int .i64 rs1) (.int .i64 rs2) (.int .i64 imm) (.int .i64 csr)) := row6_keep hb3 y2 K2.out
  have HB3 : Hid (Below w.heap.size w w3) := bseq HB2.out hb3
  have HW3 : Hid (w3.ownsRow (w.heap.size + 1) 3 1 (.slice pw L.length cw) L.length (L.map (.int .i64))) := owns_below HW2.out hb3
  have HA3 : Hid (w3.ownsRow w1.heap.size 3 1 (.slice pa L.length ca) L.length (L.map (.int .i64))) := owns_below HA2.out hb3
  have HBb : Hid (w3.ownsRow w2.heap.size 3 1 (.slice pb L.length cb) L.length (L.map (.int .i64))) := oB
  have HwL : Hid (∀ g, Value.ownBlock (.slice pw L.length cw) = some g → g < w1.heap.size) := fun g hg => (HW1.out.lt g hg).2
  have HaL : Hid (∀ g, Value.ownBlock (.slice pa L.length ca) = some g → w1.heap.size ≤ g ∧ g < w2.heap.size) := fun g hg => HA2.out.lt g hg
  have HbL : Hid (∀ g, Value.ownBlock (.slice pb L.length cb) = some g → w2.heap.size ≤ g ∧ g < w3.heap.size) := fun g hg => HBb.out.lt g hg
  have y3 : w.heap.size < w3.heap.size := by omega
  clear hb3 oB K2 HB2 HW2 HW1 HA2
  have hiW := hasInts_of HW3.out
  have hiA := hasInts_of HA3.out
  have hiB := hasInts_of HBb.out
  have i1 := fun w' h => ints_S w3 w.heap.size op rd rs1 rs2 imm csr L pa pw ca cw w' (by omega) hiA hiW h
  have i2 := fun w' h => ints_S w3 w.heap.size op rd rs1 rs2 imm csr L pb pw cb cw w' (by omega) hiB hiW h
  have i3 := fun w' h => call_S w3 w.heap.size 31 op rd rs1 rs2 imm csr V w' y3 (c3 w') h
  have i4 := fun w' h => call_S w3 w.heap.size 32 op rd rs1 rs2 imm csr V w' y3 (c4 w') h
  have HiW : Hid (HasInts w3 pw L) := hiW
  clear c3 c4 hiA hiB hiW
  generalize hn : L.length = n at *
  have HN : Hid (L.length = n) := hn
  clear hn
  obtain ⟨k0, k1, k2, k3, k4, k5⟩ := K3.out
  have s0 : (w3.drew.cell? ⟨w.heap.size, 0, .none⟩ = some (.int .i64 op) ∧ w3.drew.cell? ⟨w.heap.size, 1, .none⟩ = some (.int .i64 rd) ∧ w3.drew.cell? ⟨w.heap.size, 2, .none⟩ = some (.int .i64 rs1) ∧ w3.drew.cell? ⟨w.heap.size, 3, .none⟩ = some (.int .i64 rs2) ∧ w3.drew.cell? ⟨w.heap.size, 4, .none⟩ = some (.int .i64 imm) ∧ w3.drew.cell? ⟨w.heap.size, 5, .none⟩ = some (.int .i64 csr) ∧ Below w3.heap.size w3 w3.drew) := ⟨k0, k1, k2, k3, k4, k5, (Below.refl _ _).drew⟩
  go_upto_region 4 with fail
  go_region_held3 (fun w' => w'.cell? ⟨w.heap.size, 0, .none⟩ = some (.int .i64 op) ∧ w'.cell? ⟨w.heap.size, 1, .none⟩ = some (.int .i64 rd) ∧ w'.cell? ⟨w.heap.size, 2, .none⟩ = some (.int .i64 rs1) ∧ w'.cell? ⟨w.heap.size, 3, .none⟩ = some (.int .i64 rs2) ∧ w'.cell? ⟨w.heap.size, 4, .none⟩ = some (.int .i64 imm) ∧ w'.cell? ⟨w.heap.size, 5, .none⟩ = some (.int .i64 csr) ∧ Below w3.heap.size w3 w') (first | assumption | exact ⟨k0, k1, k2, k3, k4, k5, (Below.refl _ _).drew⟩)
    (first
      | (go_at_call_of 30 (Value.slice pa n ca); refine (i1 _ (by assumption)).mono ?_; rintro e w' ⟨rfl, hS⟩)
      | (go_at_call_of 30 (Value.slice pb n cb); refine (i2 _ (by assumption)).mono ?_; rintro e w' ⟨rfl, hS⟩)
      | (go_at_call 31; refine (i3 _ (by assumption)).mono ?_; rintro e w' ⟨rfl, hS⟩)
      | (go_at_call 32; refine (i4 _ (by assumption)).mono ?_; rintro e w' ⟨rfl, hS⟩))
  obtain ⟨m0, m1, m2, m3, m4, m5, hX⟩ := hS
  have HM : Hid (Row6 w' w.heap.size (.int .i64 op) (.int .i64 rd) (.int .i64 rs1) (.int .i64 rs2) (.int .i64 imm) (.int .i64 csr)) := ⟨m0, m1, m2, m3, m4, m5⟩
  have HX : Hid (Below w3.heap.size w3 w') := hX
  have z4 := hX.size
  clear hX m0 m1 m2 m3 m4 m5 k0 k1 k2 k3 k4 k5 s0 i1 i2 i3 i4
  have hp := below_past w' (.cells #[.slice pa n ca, .slice pb n cb] 29)
  have HF := free_any w.heap.size n w'.heap.size ca cb pa pb (L.map (.int .i64)) (L.map (.int .i64)) (w'.alloc (.cells #[.slice pa n ca, .slice pb n cb] 29)) (by omega) (by simp only [World.size_alloc]; omega)
    (owns_base ((owns_below HA3.out HX.out).alloc _) (by omega)) (owns_base ((owns_below HBb.out HX.out).alloc _) (by omega))
    (fun g hg hg' => by have := HaL.out g hg; have := HbL.out g hg'; omega) (by simp) (fun hg => by have := HaL.out _ hg; omega) (fun hg => by have := HbL.out _ hg; omega) (by simp) (by simp)
  have HD : Hid (Below w.heap.size w (w'.alloc (.cells #[.slice pa n ca, .slice pb n cb] 29))) := bseq (bseq HB3.out HX.out) hp
  have HM2 : Hid (Row6 (w'.alloc (.cells #[.slice pa n ca, .slice pb n cb] 29)) w.heap.size (.int .i64 op) (.int .i64 rd) (.int .i64 rs1) (.int .i64 rs2) (.int .i64 imm) (.int .i64 csr)) := row6_keep hp (by omega) HM.out
  have HW2 : Hid (HasInts (w'.alloc (.cells #[.slice pa n ca, .slice pb n cb] 29)) pw L) := hasInts_keep HiW.out (bseq HX.out hp)
  have HZ : Hid ((w'.alloc (.cells #[.slice pa n ca, .slice pb n cb] 29)).heap.size = w'.heap.size + 1) := (by simp : (w'.alloc (.cells #[.slice pa n ca, .slice pb n cb] 29)).heap.size = w'.heap.size + 1)
  clear hp
  go_wp2_with fail
  refine HF.mono ?_
  rintro e w6 ⟨rfl, xs, ys, hFr⟩
  clear HF
  generalize (w'.alloc (.cells #[.slice pa n ca, .slice pb n cb] 29)) = w5 at *
  have z5 := HZ.out
  have z6 := hFr.size
  have na : ∀ b, b < w1.heap.size → Value.ownBlock (.slice pa n ca) ≠ some b := fun b hb e => by have := HaL.out b e; omega
  have nb : ∀ b, b < w2.heap.size → Value.ownBlock (.slice pb n cb) ≠ some b := fun b hb e => by have := HbL.out b e; omega
  obtain ⟨q0, q1, q2, q3, q4, q5⟩ := HM2.out
  have r0 := (hFr.cell w.heap.size 0 (by omega) (na _ (by omega)) (nb _ (by omega))).trans q0
  have r1 := (hFr.cell w.heap.size 1 (by omega) (na _ (by omega)) (nb _ (by omega))).trans q1
  have r2 := (hFr.cell w.heap.size 2 (by omega) (na _ (by omega)) (nb _ (by omega))).trans q2
  have r3 := (hFr.cell w.heap.size 3 (by omega) (na _ (by omega)) (nb _ (by omega))).trans q3
  have r4 := (hFr.cell w.heap.size 4 (by omega) (na _ (by omega)) (nb _ (by omega))).trans q4
  have r5 := (hFr.cell w.heap.size 5 (by omega) (na _ (by omega)) (nb _ (by omega))).trans q5
  have HW6 : Hid (HasInts w6 pw L) := hFr.hasInts HW2.out (fun g hg => by
    have hw := HwL.out g (by rw [hg]; rfl)
    exact ⟨na g hw, nb g (by omega)⟩)
  have HB6 : Hid (Below w.heap.size w w6) := HD.out.trans (hFr.below w.heap.size (by omega) (fun g hg => by have := HaL.out g hg; omega) (fun g hg => by have := HbL.out g hg; omega))
  have y6 : w.heap.size < w6.heap.size := by omega
  clear hFr na nb q0 q1 q2 q3 q4 q5
  go_wp2_with fail
  clear r0 r1 r2 r3 r4 r5
  refine (c2 _).mono ?_
  rintro e w7 ⟨⟨pd, cd, rfl, oD⟩, hb7⟩
  clear c2
  have I := ints_any L pd pw cd cw w7 (by have := HN.out; omega) (hasInts_of oD) (hasInts_keep HW6.out hb7)
  have HB7 : Hid (Below w.heap.size w w7) := bseq HB6.out hb7
  clear oD hb7
  rw [HN.out] at I ⊢
  go_wp2_with fail
  refine I.mono ?_
  rintro e w8 ⟨rfl, m, rfl⟩
  clear I
  go_wp2
  go_ret
  exact ⟨rfl, below_drewN HB7.out m⟩
end Go.Proofs.Ythdahigckflohab
