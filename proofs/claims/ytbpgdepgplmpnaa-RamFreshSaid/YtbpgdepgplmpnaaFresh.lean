import Derived.Test.YtbpgdepgplmpnaaFreshF
import Derived.Deep.RegionHeld3
namespace Go.Proofs.Ytbpgdepgplmpnaa
open Go.RowKit
set_option linter.unusedVariables false
set_option linter.unusedSimpArgs false
set_option maxHeartbeats 8000000 in
set_option maxRecDepth 100000 in
theorem fresh_walk (pa n : Int) (sa : Option Addr) (len cap : Nat) (w : World) (hp : 0 ≤ pa ∧ pa < 18446744073709551616) (hlc : len ≤ cap) (hc : cap ≤ 9223372036854775807) (hs : len = 0 ∨ ∃ (g k : Nat) (R : Nat → Int), sa = some ⟨g, k, .none⟩ ∧ (∀ i, 0 ≤ R i ∧ R i < 256) ∧ ∀ i, i < len → w.cell? ⟨g, k + i, .none⟩ = some (.int .u8 (R i))) :
    Calls Try.prog 7 #[.int .u64 pa, .int .i64 n, .slice sa len cap] w fun e w' => e = .returned (.bool true) ∧ Below w.heap.size w w' := by
  have c9 := new_any 5 (by omega) (by omega) w
  rw [show ((5 : Nat) : Int) = 5 from rfl] at c9
  go_enter Try.func7, Try.ntmps7
  go_wp2_with (first | (go_at_call 9; refine c9.mono ?_; rintro e w1 ⟨p, b, m, hp1, hb1, hm1, rfl, R1, B1⟩; have c10 := alloc_some 4 (l := [3, 2, 1]) R1; rw [show (2147483648 + ((4 : Nat) : Int) * 4096) = 2147500032 from rfl] at c10) | (go_at_call 10; refine c10.mono ?_; rintro e w2 ⟨rfl, R2, F2⟩) | fail)
  have hs2 : len % 4097 = 0 ∨ ∃ (g k : Nat) (R : Nat → Int), sa = some ⟨g, k, .none⟩ ∧ (∀ i, 0 ≤ R i ∧ R i < 256) ∧ ∀ i, i < len % 4097 → w2.cell? ⟨g, k + i, .none⟩ = some (.int .u8 (R i)) := by
    rcases hs with h0 | ⟨g, k, R, e, hR, hcell⟩
    · exact .inl (by rw [h0])
    · by_cases hz : len % 4097 = 0
      · exact .inl hz
      · refine .inr ⟨g, k, R, e, hR, fun i hi => ?_⟩
        have hle := Nat.mod_le len 4097
        have h1 := hcell i (by omega)
        have hg : g < w.heap.size := lt_of_cell h1
        have hg1 : g < w1.heap.size := Nat.lt_of_lt_of_le hg B1.size
        exact (F2.cell (x := ⟨g, k + i, .none⟩) hg1 (by show g ≠ p; omega) (by show g ≠ b; omega) (by show g ≠ m; omega)).trans ((B1.cell (p := ⟨g, k + i, .none⟩) hg).trans h1)
  have c14 := write_row R2 sa (len % 4097) cap (by have := Nat.mod_lt len (show 4097 > 0 by omega); omega) hs2
  refine c14.mono ?_
  rintro e w3 ⟨rfl, ⟨B, R3⟩, F3⟩
  have HB3 : Hid (Below w.heap.size w w3) := B1.trans ((F2.trans F3).toBelow B1.size (by omega) (by omega) (by omega))
  have HR3 : Hid (Ram w3 p b m 5 B [3, 2, 1]) := R3
  clear c9 c10 c14 hs2 hs R1 R2 F2 F3 B1 hp1 hb1 hm1 R3
  have m1 : 0 ≤ pa % 4096 ∧ pa % 4096 < 4096 := by omega
  obtain ⟨kk, hkk⟩ : ∃ kk : Nat, (kk : Int) = pa % 4096 := ⟨(pa % 4096).toNat, by omega⟩
  obtain ⟨s0, hs0⟩ : ∃ s0 : Nat, (s0 : Int) = n % 4294967296 % (4096 - pa % 4096) := ⟨(n % 4294967296 % (4096 - pa % 4096)).toNat, by have := Int.emod_nonneg (n % 4294967296) (show 4096 - pa % 4096 ≠ 0 by omega); omega⟩
  have hs1 : s0 + kk ≤ 4096 := by have := Int.emod_lt_of_pos (n % 4294967296) (show 0 < 4096 - pa % 4096 by omega); omega
  have hsz : wrap64 (n % 4294967296 % (4096 - pa % 4096)) = (s0 : Int) := by rw [← hs0]; unfold wrap64; omega
  have c25 := image_row HR3.out kk
  go_wp2_with (first | (go_at_call 25; refine c25.mono ?_; rintro e w4 ⟨qf, cf, q2, c2, g3, g4, rfl, hf, hr, r3, r4, hg, hb4⟩) | fail)
  have c28 := twin_any (N := 5) (cf := cf) (ch := c2) (by omega) (by omega) (fun i hi => by show 4096 ≤ 1000000; omega) (seeF_of hf) (seeH_of hr r3 r4)
  have hBt : Below w.heap.size w w4 := HB3.out.trans (hb4.mono HB3.out.size)
  clear hf hr r3 r4 hg
  go_wp2_with (first | (go_at_call 28; refine c28.mono ?_; rintro e w5 ⟨qf2, cf2, qh2, ch2, rfl, hF5, hH5, hb5⟩) | fail)
  have b35 : Below w3.heap.size w3 (w5.alloc (.cells #[.int .i64 5, .slice qf2 3 cf2, .slice qh2 2 ch2] 67)) := (hb4.trans (hb5.mono hb4.size)).trans ((below_past w5 _).mono (Nat.le_trans hb4.size hb5.size))
  have R5 : Ram (w5.alloc (.cells #[.int .i64 5, .slice qf2 3 cf2, .slice qh2 2 ch2] 67)) p b m 5 B [3, 2, 1] := HR3.out.mem' (HR3.out.mem.below b35)
  have hbw : Below w.heap.size w (w5.alloc (.cells #[.int .i64 5, .slice qf2 3 cf2, .slice qh2 2 ch2] 67)) := HB3.out.trans (b35.mono HB3.out.size)
  have F5 := hF5.below (below_past w5 (.cells #[.int .i64 5, .slice qf2 3 cf2, .slice qh2 2 ch2] 67))
  have H5 := hH5.below (below_past w5 (.cells #[.int .i64 5, .slice qf2 3 cf2, .slice qh2 2 ch2] 67))
  have C5 := C3.new w5 (.int .i64 5) (.slice qf2 3 cf2) (.slice qh2 2 ch2) 67
  generalize hA : w5.heap.size = A at *
  clear hA c25 c28 hb4 hBt hF5 hH5 hb5 b35
  generalize (w5.alloc (.cells #[.int .i64 5, .slice qf2 3 cf2, .slice qh2 2 ch2] 67)) = W0 at *
  clear HR3 HB3
  rw [← hs0]
  have HR5 : Hid (Ram W0 p b m 5 B [3, 2, 1]) := R5
  have HW : Hid (Below w.heap.size w W0 ∧ See W0 .u64 qf2 3 FF ∧ SeeH W0 qh2 2 PP (fun _ => 4096) (fun j => RRF B kk (3 + j)) ∧ C3 W0 A (.int .i64 5) (.slice qf2 3 cf2) (.slice qh2 2 ch2)) := ⟨hbw, F5, H5, C5⟩
  have hX0 : ∃ X, X = W0.heap.size := ⟨_, rfl⟩
  obtain ⟨X, hX⟩ := hX0
  have HX : Hid (X = W0.heap.size) := hX
  have hz := LR.zero W0 s0 B kk
  rw [← hX] at hz
  have HZ : Hid (LR W0 X 0 W0 s0 B kk (fun _ => .none) (fun _ => 0) (fun _ => .none) (fun _ => 0) (fun _ => .none) (fun _ => 0) .none 0 .none 0) := hz
  clear R5 hbw F5 H5 C5 hX hz hsz hs0
  obtain ⟨j31, hj0, hjz, hj1, hj2⟩ := info31
  obtain ⟨j67, hk0, hkz, hk1, hk2⟩ := info67
  go_loopw [14, 16, 17] (fun l td k wr => ∃ (t : Nat) (q : Nat → Option Addr) (c : Nat → Nat) (fq : Nat → Option Addr) (fc : Nat → Nat) (hq : Nat → Option Addr) (hc : Nat → Nat) (ql : Option Addr) (cl : Nat) (qt : Option Addr) (ct : Nat), t ≤ 2 ∧ k = .int .i64 t ∧ l = .slice ql ((5 * t : Nat)) cl ∧ td = .slice qt t ct ∧ LR W0 X t wr s0 B kk q c fq fc hq hc ql cl qt ct) (fun _ _ k _ => 2 - (intOf k).toNat)
  case atStart => exact ⟨0, _, _, _, _, _, _, .none, 0, .none, 0, by omega, rfl, rfl, rfl, HZ.out⟩
  case round =>
    obtain ⟨t, q, c, fq, fc, hq, hc, ql, cl, qt, ct, ht, rfl, rfl, rfl, hLR⟩ := hrel
    have HL : Hid (LR W0 X t wr s0 B kk q c fq fc hq hc ql cl qt ct) := hLR
    by_cases htn : t < 2
    · have i1 : (t : Int) < 2 := by omega
      have RW : ∀ W, Below X W0 W → Ram W p b m 5 B [3, 2, 1] := fun W hb => HR5.out.mem' (HR5.out.mem.below (by rw [HX.out] at hb; exact hb))
      have c12 := read_row (RW wr hLR.be) pa hp.1 s0 kk hkk hs1
      clear hLR
      go_wp2_with (first | (go_at_call 12; refine c12.mono ?_; rintro e V1 ⟨q0, c0, rfl, r0, b1⟩; have HB1 : Hid (Below X W0 V1) := HL.out.be.trans (b1.mono HL.out.xs); have c24 := raw_row (RW V1 HB1.out) 4 (.inr rfl) (RRF B kk 1) (fun j => by simp [RRF]) 2147500032 rfl; have Hr0 : Hid (V1.ownsRow wr.heap.size 5 1 (.slice q0 s0 c0) s0 (rowB s0 (RRF B kk 0)) ∧ Below wr.heap.size wr V1) := ⟨r0, b1⟩; clear r0 b1 c12) | (go_at_call 24; refine c24.mono ?_; rintro e V2 ⟨q1, c1, rfl, r1, b2⟩; have HB2 : Hid (Below X W0 V2) := HB1.out.trans (b2.mono (Nat.le_trans HL.out.xs Hr0.out.2.size)); have c24b := raw_row (RW V2 HB2.out) 3 (.inl rfl) (RRF B kk 2) (fun j => by simp [RRF]) 2147495936 rfl; have Hr1 : Hid (V2.ownsRow V1.heap.size 5 1 (.slice q1 4096 c1) 4096 (rowB 4096 (RRF B kk 1)) ∧ Below V1.heap.size V1 V2) := ⟨r1, b2⟩; clear r1 b2 c24) | (go_at_call 24; refine c24b.mono ?_; rintro e V3 ⟨q2, c2, rfl, r2, b3⟩; have HB3 : Hid (Below X W0 V3) := HB2.out.trans (b3.mono (Nat.le_trans (Nat.le_trans HL.out.xs Hr0.out.2.size) Hr1.out.2.size)); have c25 := image_row (RW V3 HB3.out) kk; have Hr2 : Hid (V3.ownsRow V2.heap.size 5 1 (.slice q2 4096 c2) 4096 (rowB 4096 (RRF B kk 2)) ∧ Below V2.heap.size V2 V3) := ⟨r2, b3⟩; clear r2 b3 c24b) | (go_at_call 25; refine c25.mono ?_; rintro e V4 ⟨qf', cf', qh', ch', g3, g4, rfl, hf, hr, r3, r4, hg, b4⟩; clear c25) | fail)
      obtain ⟨gh, rfl⟩ : ∃ gh, qh' = some ⟨gh, 0, .none⟩ := by
        rcases hr.2 with ⟨_, h0⟩ | ⟨g, cap, cur, e, _⟩
        · omega
        · injection e with e _ _
          exact ⟨g, e⟩
      have T := turn_rows Hr0.out.2 Hr1.out.2 Hr2.out.2 b4 Hr0.out.1 Hr1.out.1 Hr2.out.1 r3 r4 hg
      have hgh := hr.lt gh rfl
      have s3 : wr.heap.size ≤ V3.heap.size := Nat.le_trans (Nat.le_trans Hr0.out.2.size Hr1.out.2.size) Hr2.out.2.size
      have z0 := hr.cellAt 1 (by omega)
      have z1 := hr.cellAt 3 (by omega)
      have HTT : Hid ((∀ i, i < 5 → V4.ownsRow wr.heap.size 5 1 (.slice (q5 q0 q1 q2 (some ⟨g3, 0, .none⟩) (some ⟨g4, 0, .none⟩) i) (nnF s0 i) (c5 c0 c1 c2 4096 4096 i)) (nnF s0 i) (rowB (nnF s0 i) (RRF B kk i))) ∧ Apart 5 (fun i => .slice (q5 q0 q1 q2 (some ⟨g3, 0, .none⟩) (some ⟨g4, 0, .none⟩) i) (nnF s0 i) (c5 c0 c1 c2 4096 4096 i)) ∧ Below wr.heap.size wr V4 ∧ V4.ownsRow wr.heap.size 22 1 (.slice qf' 3 cf') 3 [.int .u64 (FF 0), .int .u64 (FF 1), .int .u64 (FF 2)] ∧ V4.ownsRow wr.heap.size 76 2 (.slice (some ⟨gh, 0, .none⟩) 2 ch') 2 [.int .u64 (PP 0), .slice (some ⟨g3, 0, .none⟩) 4096 4096, .int .u64 (PP 1), .slice (some ⟨g4, 0, .none⟩) 4096 4096]) := ⟨T.1, T.2.1, T.2.2, ownsRow_base hf s3, ownsRow_base hr s3⟩
      have hVw : wr.heap.size ≤ V4.heap.size := T.2.2.size
      have bV := below_past V4 (.cells #[.int .i64 5, .slice qf' 3 cf', .slice (some ⟨gh, 0, .none⟩) 2 ch'] 67)
      have C6 := C3.new V4 (.int .i64 5) (.slice qf' 3 cf') (.slice (some ⟨gh, 0, .none⟩) 2 ch') 67
      have y0 := (bV.cell (p := ⟨gh, 1, .none⟩) hgh.2).trans z0
      have y1 := (bV.cell (p := ⟨gh, 3, .none⟩) hgh.2).trans z1
      have hsz5 : (V4.alloc (.cells #[.int .i64 5, .slice qf' 3 cf', .slice (some ⟨gh, 0, .none⟩) 2 ch'] 67)).heap.size = V4.heap.size + 1 := World.size_alloc _ _
      clear T hf hr r3 r4 hg b4 z0 z1 Hr0 Hr1 Hr2
      have HbV : Hid (Below V4.heap.size V4 (V4.alloc (.cells #[.int .i64 5, .slice qf' 3 cf', .slice (some ⟨gh, 0, .none⟩) 2 ch'] 67))) := bV
      have HC6 : Hid (C3 (V4.alloc (.cells #[.int .i64 5, .slice qf' 3 cf', .slice (some ⟨gh, 0, .none⟩) 2 ch'] 67)) V4.heap.size (.int .i64 5) (.slice qf' 3 cf') (.slice (some ⟨gh, 0, .none⟩) 2 ch')) := C6
      clear bV C6
      generalize (V4.alloc (.cells #[.int .i64 5, .slice qf' 3 cf', .slice (some ⟨gh, 0, .none⟩) 2 ch'] 67)) = V5 at *
      obtain ⟨Z, hZ⟩ : ∃ Z, Z = V4.heap.size := ⟨_, rfl⟩
      rw [← hZ] at HC6 ⊢
      have HZs : Hid (Z = V4.heap.size ∧ V5.heap.size = V4.heap.size + 1) := ⟨hZ, hsz5⟩
      clear hZ hsz5
      have j0 : (V5.drew.cell? ⟨Z, 2, .none⟩ = some (.slice (some ⟨gh, 0, .none⟩) 2 ch') ∧ V5.drew.cell? ⟨gh, 1, .none⟩ = some (.slice (some ⟨g3, 0, .none⟩) 4096 4096) ∧ V5.drew.cell? ⟨gh, 3, .none⟩ = some (.slice (some ⟨g4, 0, .none⟩) 4096 4096)) := ⟨HC6.out.2.2.1, y0, y1⟩
      have jA : ((V5.drew.alloc (.cells #[.slice q0 s0 c0, .slice q1 4096 c1, .slice q2 4096 c2, .slice (some ⟨g3, 0, .none⟩) 4096 4096, .slice (some ⟨g4, 0, .none⟩) 4096 4096] 31)).cell? ⟨Z, 2, .none⟩ = some (.slice (some ⟨gh, 0, .none⟩) 2 ch') ∧ (V5.drew.alloc (.cells #[.slice q0 s0 c0, .slice q1 4096 c1, .slice q2 4096 c2, .slice (some ⟨g3, 0, .none⟩) 4096 4096, .slice (some ⟨g4, 0, .none⟩) 4096 4096] 31)).cell? ⟨gh, 1, .none⟩ = some (.slice (some ⟨g3, 0, .none⟩) 4096 4096) ∧ (V5.drew.alloc (.cells #[.slice q0 s0 c0, .slice q1 4096 c1, .slice q2 4096 c2, .slice (some ⟨g3, 0, .none⟩) 4096 4096, .slice (some ⟨g4, 0, .none⟩) 4096 4096] 31)).cell? ⟨gh, 3, .none⟩ = some (.slice (some ⟨g4, 0, .none⟩) 4096 4096)) := by
        have bA : Below V5.heap.size V5 (V5.drew.alloc (.cells #[.slice q0 s0 c0, .slice q1 4096 c1, .slice q2 4096 c2, .slice (some ⟨g3, 0, .none⟩) 4096 4096, .slice (some ⟨g4, 0, .none⟩) 4096 4096] 31)) := ((Below.refl V5.heap.size V5).drew).alloc (Nat.le_refl _) _
        have e1 := HZs.out.1
        have e2 := HZs.out.2
        exact ⟨(bA.cell (p := ⟨Z, 2, .none⟩) (by show Z < V5.heap.size; omega)).trans HC6.out.2.2.1, (bA.cell (p := ⟨gh, 1, .none⟩) (by show gh < V5.heap.size; omega)).trans y0, (bA.cell (p := ⟨gh, 3, .none⟩) (by show gh < V5.heap.size; omega)).trans y1⟩
      have HLA : Hid ((V5.drew.alloc (.cells #[.slice q0 s0 c0, .slice q1 4096 c1, .slice q2 4096 c2, .slice (some ⟨g3, 0, .none⟩) 4096 4096, .slice (some ⟨g4, 0, .none⟩) 4096 4096] 31)).ownsRow X 31 1 (.slice ql (5 * t) cl) (5 * t) (lc s0 q c (5 * t)) ∧ X ≤ (V5.drew.alloc (.cells #[.slice q0 s0 c0, .slice q1 4096 c1, .slice q2 4096 c2, .slice (some ⟨g3, 0, .none⟩) 4096 4096, .slice (some ⟨g4, 0, .none⟩) 4096 4096] 31)).heap.size) := by
        have bA : Below V5.heap.size V5 (V5.drew.alloc (.cells #[.slice q0 s0 c0, .slice q1 4096 c1, .slice q2 4096 c2, .slice (some ⟨g3, 0, .none⟩) 4096 4096, .slice (some ⟨g4, 0, .none⟩) 4096 4096] 31)) := ((Below.refl V5.heap.size V5).drew).alloc (Nat.le_refl _) _
        have b5 : Below wr.heap.size wr V5 := HTT.out.2.2.1.trans (HbV.out.mono hVw)
        exact ⟨owns_below (owns_below HL.out.l b5) bA, Nat.le_trans (Nat.le_trans HL.out.xs b5.size) bA.size⟩
      have AP : Hid (∀ W6, (V5.drew.alloc (.cells #[.slice q0 s0 c0, .slice q1 4096 c1, .slice q2 4096 c2, .slice (some ⟨g3, 0, .none⟩) 4096 4096, .slice (some ⟨g4, 0, .none⟩) 4096 4096] 31)).grownBy W6 (Value.ownBlock (.slice ql (5 * t) cl)) → (W6.cell? ⟨Z, 2, .none⟩ = some (.slice (some ⟨gh, 0, .none⟩) 2 ch') ∧ W6.cell? ⟨gh, 1, .none⟩ = some (.slice (some ⟨g3, 0, .none⟩) 4096 4096) ∧ W6.cell? ⟨gh, 3, .none⟩ = some (.slice (some ⟨g4, 0, .none⟩) 4096 4096)) ∧ C3 W6 Z (.int .i64 5) (.slice qf' 3 cf') (.slice (some ⟨gh, 0, .none⟩) 2 ch')) := by
        intro W6 g6
        have e1 := HZs.out.1
        have e2 := HZs.out.2
        have lt6 : ∀ k, Value.ownBlock (.slice ql (5 * t) cl) = some k → k < wr.heap.size := fun k hk => (HL.out.l.lt k hk).2
        have bl : ∀ k, wr.heap.size ≤ k → k < V5.heap.size → W6.heap[k]? = V5.heap[k]? := fun k h1 h2 => (g6.block k (by simp only [World.size_alloc, World.size_drew]; omega) (fun e => by have := lt6 k e.symm; omega)).trans (Below.heap_alloc V5.drew _ k h2)
        have eZ := bl Z (by omega) (by omega)
        have eG := bl gh (by omega) (by omega)
        obtain ⟨a0, a1, a2, f0, f1, f2⟩ := HC6.out
        exact ⟨⟨(World.cell?_of_block eZ).trans a2, (World.cell?_of_block eG).trans y0, (World.cell?_of_block eG).trans y1⟩, (World.cell?_of_block eZ).trans a0, (World.cell?_of_block eZ).trans a1, (World.cell?_of_block eZ).trans a2, (World.frozen?_of_block eZ).trans f0, (World.frozen?_of_block eZ).trans f1, (World.frozen?_of_block eZ).trans f2⟩
      have hm1 : 5 * t + 5 ≤ maxLen := by unfold maxLen; omega
      have hm2 : (5 * t + 5) * 24 ≤ 140737488355328 := by omega
      clear y0 y1 hgh s3 hVw RW
      go_region_held3 (fun W => (W.cell? ⟨Z, 2, .none⟩ = some (.slice (some ⟨gh, 0, .none⟩) 2 ch') ∧ W.cell? ⟨gh, 1, .none⟩ = some (.slice (some ⟨g3, 0, .none⟩) 4096 4096) ∧ W.cell? ⟨gh, 3, .none⟩ = some (.slice (some ⟨g4, 0, .none⟩) 4096 4096))) (first | assumption | exact j0 | exact jA) (first | (refine step_append_at rfl (.tmp 112) (.tmp 126) 73 rfl X 31 j31 (.slice .none 0 0) 1 24 Try.underlying73 hj0 hjz hj1 hj2 rfl (by decide) (.slice ql (5 * t) cl) (5 * t) (lc s0 q c (5 * t)) (by simp [Act.eval, Act.put]) HLA.out.1 ⟨V5.drew.heap.size, 0, .none⟩ 5 5 [.slice q0 s0 c0, .slice q1 4096 c1, .slice q2 4096 c2, .slice (some ⟨g3, 0, .none⟩) 4096 4096, .slice (some ⟨g4, 0, .none⟩) 4096 4096] (by simp [Act.eval, Act.put]) rfl (cells_new _ _ _) (by simp [Value.oneCell']) hm1 hm2 HLA.out.2 ?_; intro v6 W6 hl6 g6 _; obtain ⟨g1, cap1, rfl⟩ := ownsRow_some hl6; obtain ⟨s6, C6⟩ := AP.out W6 g6))
      have b5d : Below V4.heap.size V4 V5.drew := HbV.out.trans ((Below.refl _ V5).drew)
      have b5w : Below wr.heap.size wr V5.drew := HTT.out.2.2.1.trans (b5d.mono HTT.out.2.2.1.size)
      have HOT : Hid (∀ o, (W6.alloc o).ownsRow X 67 3 (.slice qt t ct) t (tc fq fc hq hc t) ∧ X ≤ (W6.alloc o).heap.size) := fun o => by
        have t5 := (owns_below HL.out.td b5w).alloc (.cells #[.slice q0 s0 c0, .slice q1 4096 c1, .slice q2 4096 c2, .slice (some ⟨g3, 0, .none⟩) 4096 4096, .slice (some ⟨g4, 0, .none⟩) 4096 4096] 31)
        have l5 := (owns_below HL.out.l b5w).alloc (.cells #[.slice q0 s0 c0, .slice q1 4096 c1, .slice q2 4096 c2, .slice (some ⟨g3, 0, .none⟩) 4096 4096, .slice (some ⟨g4, 0, .none⟩) 4096 4096] 31)
        have t6 := t5.kept g6 (kinds_apart t5 l5 (by decide))
        refine ⟨t6.alloc o, ?_⟩
        have h1 : V5.drew.heap.size ≤ W6.heap.size := Nat.le_trans (by show V5.heap.size ≤ (V5.alloc _).heap.size; rw [World.size_alloc]; exact Nat.le_succ _) g6.size
        rw [World.size_alloc]
        exact Nat.le_succ_of_le (Nat.le_trans HL.out.xs (Nat.le_trans b5w.size h1))
      have H6 : Hid (W6.ownsRow X 31 1 (.slice (some ⟨g1, 0, .none⟩) (5 * t + 5) cap1) (5 * t + 5) (lc s0 q c (5 * t) ++ [.slice q0 s0 c0, .slice q1 4096 c1, .slice q2 4096 c2, .slice (some ⟨g3, 0, .none⟩) 4096 4096, .slice (some ⟨g4, 0, .none⟩) 4096 4096]) ∧ (V5.drew.alloc (.cells #[.slice q0 s0 c0, .slice q1 4096 c1, .slice q2 4096 c2, .slice (some ⟨g3, 0, .none⟩) 4096 4096, .slice (some ⟨g4, 0, .none⟩) 4096 4096] 31)).grownBy W6 (Value.ownBlock (.slice ql (5 * t) cl)) ∧ Below V4.heap.size V4 V5.drew) := ⟨hl6, g6, b5d⟩
      obtain ⟨a0, a1, a2, f0, f1, f2⟩ := C6
      have hm3 : t + 1 ≤ maxLen := by unfold maxLen; omega
      have hm4 : (t + 1) * 56 ≤ 140737488355328 := by omega
      rename_i hHeld
      clear hl6 g6 s6 hHeld j0 jA HLA AP hm1 hm2 b5d b5w HC6 HbV
      go_wp2_with (first | (at_builtin; refine wpList_append_own _ rfl _ _ 74 rfl X 67 j67 (.agg #[.int .i64 0, .slice .none 0 0, .slice .none 0 0]) 3 56 Try.underlying74 hk0 hkz hk1 hk2 rfl (by decide) _ _ (tc fq fc hq hc t) rfl (HOT.out _).1 ⟨W6.heap.size, 0, .none⟩ 1 1 [.int .i64 5, .slice qf' 3 cf', .slice (some ⟨gh, 0, .none⟩) 2 ch'] rfl rfl (cells_new _ _ _) (by simp [Value.oneCell']) hm3 hm4 (HOT.out _).2 ?_; intro v7 W7 ht7 g7 _; obtain ⟨g9, cap9, rfl⟩ := ownsRow_some ht7) | fail)
      exact ⟨⟨t + 1, _, _, _, _, _, _, some ⟨g1, 0, .none⟩, cap1, some ⟨g9, 0, .none⟩, cap9, by omega, by simp, rfl, rfl, HL.out.next HTT.out.2.2.1 H6.out.2.2 HTT.out.1 HTT.out.2.1 HTT.out.2.2.2.1 HTT.out.2.2.2.2 H6.out.1 H6.out.2.1 ht7 g7⟩, by simp [intOf]; omega⟩
    · have i1 : ¬ ((t : Int) < 2) := by omega
      obtain rfl : t = 2 := by omega
      clear hLR
      obtain ⟨Wl, hWl⟩ : ∃ Wl, Wl = wr := ⟨_, rfl⟩
      subst hWl
      obtain ⟨gl, rfl⟩ : ∃ gl, ql = some ⟨gl, 0, .none⟩ := by
        rcases HL.out.l.2 with ⟨_, h0⟩ | ⟨g, cap, cur, e, _⟩
        · omega
        · injection e with e _ _
          exact ⟨g, e⟩
      have hz := KR.zero Wl s0 B kk
      obtain ⟨K, hK⟩ : ∃ K, K = Wl.heap.size := ⟨_, rfl⟩
      rw [← hK] at hz
      have HK : Hid (K = Wl.heap.size) := hK
      have HZ2 : Hid (KR Wl K 0 Wl s0 B kk (fun _ => .none) (fun _ => 0) .none 0) := hz
      have hgl : gl < Wl.heap.size := (HL.out.l.lt gl rfl).2
      have HGL : Hid (gl < Wl.heap.size) := hgl
      clear hK hz hgl
      go_wp2
      go_loopw [15, 25] (fun kp i wr2 => ∃ (j : Nat) (kq : Nat → Option Addr) (kc : Nat → Nat) (qk : Option Addr) (ck : Nat), j ≤ 5 ∧ i = .int .i64 j ∧ kp = .slice qk j ck ∧ KR Wl K j wr2 s0 B kk kq kc qk ck) (fun _ i _ => 5 - (intOf i).toNat)
      case atStart => exact ⟨0, _, _, .none, 0, by omega, rfl, rfl, HZ2.out⟩
      case round =>
        obtain ⟨j, kq, kc, qk, ck, hj, rfl, rfl, hKR⟩ := hrel
        have HKR : Hid (KR Wl K j wr s0 B kk kq kc qk ck) := hKR
        by_cases hjn : j < 5
        · have i2 : (j : Int) < 5 := by omega
          have bw : Below Wl.heap.size Wl wr := by have := hKR.be; rw [HK.out] at this; exact this
          have l2 := HL.out.below bw
          have z0 := (l2.l.cellAt j (by omega)).trans (lc_at s0 (5 * 2) j q c (by omega))
          rw [show j % 5 = j by omega] at z0
          have c29 := copyB_any (ca := c j) (nnF_le s0 (j % 5) (by omega)) (l2.rl.see (i := j) (by omega))
          rw [show j % 5 = j by omega] at c29
          have HOA : Hid (∀ W1 o, Below wr.heap.size wr W1 → (W1.alloc o).ownsRow K 31 1 (.slice qk j ck) j (kc5 s0 kq kc j) ∧ K ≤ (W1.alloc o).heap.size) := fun W1 o hb => ⟨(owns_below HKR.out.row hb).alloc o, by rw [World.size_alloc]; exact Nat.le_succ_of_le (Nat.le_trans HKR.out.xs hb.size)⟩
          have hm3 : j + 1 ≤ maxLen := by unfold maxLen; omega
          have hm4 : (j + 1) * 24 ≤ 140737488355328 := by omega
          obtain ⟨nj, hnj⟩ : ∃ nj, nj = nnF s0 j := ⟨_, rfl⟩
          rw [← hnj] at z0 c29
          have HN : Hid (nj = nnF s0 j) := hnj
          clear l2 bw hKR hnj
          go_wp2_with (first | (go_at_call 29; refine c29.mono ?_; rintro e V6 ⟨a6, b6, rfl, r6, bb6⟩) | (at_builtin; refine wpList_append_own _ rfl _ _ 73 rfl K 31 j31 (.slice .none 0 0) 1 24 Try.underlying73 hj0 hjz hj1 hj2 rfl (by decide) _ _ (kc5 s0 kq kc j) rfl (HOA.out V6 _ bb6).1 ⟨V6.heap.size, 0, .none⟩ 1 1 [.slice a6 nj b6] rfl rfl (cells_new _ _ _) (by simp [Value.oneCell']) hm3 hm4 (HOA.out V6 _ bb6).2 ?_; intro v7 V7 hk7 g7 _; obtain ⟨g9, cap9, rfl⟩ := ownsRow_some hk7) | fail)
          rw [HN.out] at r6 hk7
          exact ⟨⟨j + 1, _, _, some ⟨g9, 0, .none⟩, cap9, by omega, by simp, rfl, HKR.out.next bb6 r6 hk7 g7⟩, by simp [intOf]; omega⟩
        · have i2 : ¬ ((j : Int) < 5) := by omega
          obtain rfl : j = 5 := by omega
          obtain ⟨Wk, hWk⟩ : ∃ Wk, Wk = wr := ⟨_, rfl⟩
          subst hWk
          obtain ⟨gk, rfl⟩ : ∃ gk, qk = some ⟨gk, 0, .none⟩ := by
            rcases HKR.out.row.2 with ⟨_, h0⟩ | ⟨g, cap, cur, e, _⟩
            · omega
            · injection e with e _ _
              exact ⟨g, e⟩
          have bw : Below Wl.heap.size Wl Wk := by have := hKR.be; rw [HK.out] at this; exact this
          have HL2 : Hid (LR W0 X 2 Wk s0 B kk q c fq fc hq hc (some ⟨gl, 0, .none⟩) cl qt ct) := HL.out.below bw
          have hgl : gl < Wk.heap.size := (HL2.out.l.lt gl rfl).2
          have hgk : gk < Wk.heap.size := (HKR.out.row.lt gk rfl).2
          have HG : Hid (gl < Wk.heap.size ∧ gk < Wk.heap.size) := ⟨hgl, hgk⟩
          clear hKR bw hgl hgk HL HZ2 HGL
          go_wp2
          go_loopw [26] (fun i wr3 => ∃ (j : Nat), j ≤ 5 ∧ i = .int .i64 j ∧ Below Wk.heap.size Wk wr3) (fun i _ => 5 - (intOf i).toNat)
          case atStart => exact ⟨0, by omega, rfl, Below.refl _ _⟩
          case round =>
            obtain ⟨j, hj, rfl, hBk⟩ := hrel
            have HBk : Hid (Below Wk.heap.size Wk wr) := hBk
            by_cases hjn : j < 5
            · have i2 : (j : Int) < 5 := by omega
              have z0 := (HL2.out.l.cellAt (5 + j) (by omega)).trans (lc_at s0 (5 * 2) (5 + j) q c (by omega))
              have z1 := (HKR.out.row.cellAt j (by omega)).trans (kc5_at s0 5 j kq kc hjn)
              have e5 : (5 + j) % 5 = j := by omega
              rw [e5] at z0
              have y0 := HL2.out.rl.see (i := 5 + j) (by omega)
              rw [e5] at y0
              have y1 := see_own (HKR.out.cp j hjn)
              have hle := nnF_le s0 j (by omega)
              obtain ⟨nj, hnj⟩ : ∃ nj, nj = nnF s0 j := ⟨_, rfl⟩
              rw [← hnj] at z0 z1 y0 y1 hle
              have mk : ∀ W, Below Wk.heap.size Wk W → (W.cell? ⟨gl, 5 + j, .none⟩ = some (.slice (q (5 + j)) nj (c (5 + j))) ∧ W.cell? ⟨gk, j, .none⟩ = some (.slice (kq j) nj (kc j)) ∧ Below Wk.heap.size Wk W) := fun W hb => ⟨(hb.cell (p := ⟨gl, 5 + j, .none⟩) HG.out.1).trans z0, (hb.cell (p := ⟨gk, j, .none⟩) HG.out.2).trans z1, hb⟩
              have s30 : ∀ W, (W.cell? ⟨gl, 5 + j, .none⟩ = some (.slice (q (5 + j)) nj (c (5 + j))) ∧ W.cell? ⟨gk, j, .none⟩ = some (.slice (kq j) nj (kc j)) ∧ Below Wk.heap.size Wk W) → Calls Try.prog 30 #[.slice (q (5 + j)) nj (c (5 + j)), .slice (kq j) nj (kc j)] W fun e W' => e = .returned (.bool true) ∧ (W'.cell? ⟨gl, 5 + j, .none⟩ = some (.slice (q (5 + j)) nj (c (5 + j))) ∧ W'.cell? ⟨gk, j, .none⟩ = some (.slice (kq j) nj (kc j)) ∧ Below Wk.heap.size Wk W') := fun W hs => by
                refine (bytes_same hle (y0.below hs.2.2) (y1.below hs.2.2)).mono ?_
                rintro e W' ⟨he, hb⟩
                exact ⟨he, mk W' (hs.2.2.trans (hb.mono hs.2.2.size))⟩
              have j0 := mk wr.drew hBk.drew
              have w55 : IntKind.i64.wrap (5 + (j : Int)) = 5 + (j : Int) := by
                have h1 : j = 0 ∨ j = 1 ∨ j = 2 ∨ j = 3 ∨ j = 4 := by omega
                rcases h1 with rfl | rfl | rfl | rfl | rfl <;> rfl
              have w56 : (0 : Int) ≤ 5 + (j : Int) := by omega
              have w57 : 5 + (j : Int) < 10 := by omega
              have w58 : (5 + (j : Int)).toNat = 5 + j := by omega
              clear z0 z1 y0 y1 mk hnj hBk
              go_upto_region 31 with fail
              go_region_held3 (fun W => (W.cell? ⟨gl, 5 + j, .none⟩ = some (.slice (q (5 + j)) nj (c (5 + j))) ∧ W.cell? ⟨gk, j, .none⟩ = some (.slice (kq j) nj (kc j)) ∧ Below Wk.heap.size Wk W)) (first | assumption | exact j0) (first | (go_at_call 30; refine (s30 _ (by assumption)).mono ?_; rintro e V8 ⟨rfl, hS8⟩))
              have HS8 : Hid (Below Wk.heap.size Wk V8) := hS8.2.2
              rename_i hHeld
              clear hS8 hHeld s30 j0
              go_wp2
              exact ⟨⟨j + 1, by omega, by simp, HS8.out⟩, by simp [intOf]; omega⟩
            · have i2 : ¬ ((j : Int) < 5) := by omega
              obtain rfl : j = 5 := by omega
              obtain ⟨Wm, hWm⟩ : ∃ Wm, Wm = wr := ⟨_, rfl⟩
              subst hWm
              have L3 := HL2.out.below HBk.out
              have HL3 : Hid (LR W0 X 2 Wm s0 B kk q c fq fc hq hc (some ⟨gl, 0, .none⟩) cl qt ct) := L3
              obtain ⟨gt, rfl⟩ : ∃ gt, qt = some ⟨gt, 0, .none⟩ := by
                rcases L3.td.2 with ⟨_, h0⟩ | ⟨g, cap, cur, e, _⟩
                · omega
                · injection e with e _ _
                  exact ⟨g, e⟩
              obtain ⟨h0, h1, eh0, eh1, hne, F20⟩ := L3.apart
              have hXm : X ≤ Wm.heap.size := L3.xs
              have hAX : A < X := by rw [HX.out]; exact lt_of_cell HW.out.2.2.2.1
              have KS : ∀ W, KpF Wm X W → (W.cell? ⟨gt, 0, .none⟩ = some (.int .i64 5) ∧ W.cell? ⟨gt, 1, .none⟩ = some (.slice (fq 0) 3 (fc 0)) ∧ W.cell? ⟨gt, 2, .none⟩ = some (.slice (some ⟨h0, 0, .none⟩) 2 (hc 0)) ∧ W.cell? ⟨gt, 3, .none⟩ = some (.int .i64 5) ∧ W.cell? ⟨gt, 4, .none⟩ = some (.slice (fq 1) 3 (fc 1)) ∧ W.cell? ⟨gt, 5, .none⟩ = some (.slice (some ⟨h1, 0, .none⟩) 2 (hc 1)) ∧ W.cell? ⟨A, 0, .none⟩ = some (.int .i64 5) ∧ W.cell? ⟨A, 1, .none⟩ = some (.slice qf2 3 cf2) ∧ W.cell? ⟨A, 2, .none⟩ = some (.slice qh2 2 ch2)) := fun W kp => by
                have hgt := (L3.td.lt gt rfl).2
                have eT := kp.block gt hgt (own_notExc L3.td (by decide) rfl)
                have eA := kp.block A (by omega) (fun e => by have := e.1; omega)
                have C := HW.out.2.2.2.below (w' := Wm) (by have := L3.be; rw [HX.out] at this; exact this)
                have t0 := L3.td.cellAt 0 (by omega)
                have t1 := L3.td.cellAt 1 (by omega)
                have t2 := L3.td.cellAt 2 (by omega)
                have t3 := L3.td.cellAt 3 (by omega)
                have t4 := L3.td.cellAt 4 (by omega)
                have t5 := L3.td.cellAt 5 (by omega)
                rw [← eh0, ← eh1]
                exact ⟨(World.cell?_of_block eT).trans t0, (World.cell?_of_block eT).trans t1, (World.cell?_of_block eT).trans t2, (World.cell?_of_block eT).trans t3, (World.cell?_of_block eT).trans t4, (World.cell?_of_block eT).trans t5, (World.cell?_of_block eA).trans C.1, (World.cell?_of_block eA).trans C.2.1, (World.cell?_of_block eA).trans C.2.2.1⟩
              have seeW : ∀ W, Below X W0 W → See W .u64 qf2 3 FF ∧ SeeH W qh2 2 PP (fun _ => 4096) (fun j => RRF B kk (3 + j)) := fun W hb => by
                rw [HX.out] at hb
                exact ⟨HW.out.2.1.below hb, HW.out.2.2.1.below hb⟩
              have c26a : ∀ W, Below Wm.heap.size Wm W → Calls Try.prog 26 #[.agg #[.int .i64 5, .slice (fq 0) 3 (fc 0), .slice (some ⟨h0, 0, .none⟩) 2 (hc 0)], .agg #[.int .i64 5, .slice qf2 3 cf2, .slice qh2 2 ch2]] W fun e W' => e = .returned (.bool true) ∧ Below Wm.heap.size Wm W' ∧ KpF Wm X W' := fun W hb => by
                have L := HL3.out.below hb
                have sw := seeW W L.be
                rw [← eh0]
                refine (images_same (N := 5) (by omega) (by omega) (fun i hi => by show 4096 ≤ 1000000; omega) (L.rl.seeF (j := 0) (by omega)) sw.1 (L.rl.seeH (j := 0) (by omega) rfl rfl) sw.2).mono ?_
                rintro e W' ⟨he, hb2⟩
                have hb3 := hb.trans (hb2.mono hb.size)
                exact ⟨he, hb3, KpF.of hb3⟩
              have c26b : ∀ W, Below Wm.heap.size Wm W → Calls Try.prog 26 #[.agg #[.int .i64 5, .slice (fq 1) 3 (fc 1), .slice (some ⟨h1, 0, .none⟩) 2 (hc 1)], .agg #[.int .i64 5, .slice qf2 3 cf2, .slice qh2 2 ch2]] W fun e W' => e = .returned (.bool true) ∧ Below Wm.heap.size Wm W' ∧ KpF Wm X W' := fun W hb => by
                have L := HL3.out.below hb
                have sw := seeW W L.be
                rw [← eh1]
                refine (images_same (N := 5) (by omega) (by omega) (fun i hi => by show 4096 ≤ 1000000; omega) (L.rl.seeF (j := 1) (by omega)) sw.1 (L.rl.seeH (j := 1) (by omega) rfl rfl) sw.2).mono ?_
                rintro e W' ⟨he, hb2⟩
                have hb3 := hb.trans (hb2.mono hb.size)
                exact ⟨he, hb3, KpF.of hb3⟩
              have c31 : ∀ W, Below Wm.heap.size Wm W → Calls Try.prog 31 #[.slice (some ⟨h0, 0, .none⟩) 2 (hc 0), .slice (some ⟨h1, 0, .none⟩) 2 (hc 1)] W fun e W' => e = .returned (.bool true) ∧ KpF Wm X W' ∧ Hid ((∀ i, i < 10 → W'.ownsRow 0 5 1 (.slice (q i) (nnF s0 (i % 5)) (c i)) (nnF s0 (i % 5)) (rowB (nnF s0 (i % 5)) (RRF B kk (i % 5)))) ∧ (∀ j, j < 2 → W'.ownsRow 0 22 1 (.slice (fq j) 3 (fc j)) 3 [.int .u64 (FF 0), .int .u64 (FF 1), .int .u64 (FF 2)])) := fun W hb => by
                have L := HL3.out.below hb
                obtain ⟨g1, g2, e1, e2, hn, F⟩ := L.apart
                obtain rfl : g1 = h0 := by rw [eh0] at e1; injection e1 with e1; injection e1 with e1 _ _; exact e1.symm
                obtain rfl : g2 = h1 := by rw [eh1] at e2; injection e2 with e2; injection e2 with e2 _ _; exact e2.symm
                refine (apart_any 2 2 g1 g2 (hc 0) (hc 1) _ _ W (by omega) (by omega) hn F).mono ?_
                rintro e W' ⟨he, xs, ys, F'⟩
                have ra := L.rl.hel 0 (by omega)
                have rb := L.rl.hel 1 (by omega)
                have ra0 := HL3.out.rl.hel 0 (by omega)
                have rb0 := HL3.out.rl.hel 1 (by omega)
                rw [e1] at ra ra0
                rw [e2] at rb rb0
                exact ⟨he, (KpF.of hb).f2 F' (fun g hg => own_exc ra0 (.inr (.inr rfl)) hg) (fun g hg => own_exc rb0 (.inr (.inr rfl)) hg), L.rows3 (ca := 0) (cb := 0) ra rb F'⟩
              have c32 : ∀ W, KpF Wm X W → Hid ((∀ i, i < 10 → W.ownsRow 0 5 1 (.slice (q i) (nnF s0 (i % 5)) (c i)) (nnF s0 (i % 5)) (rowB (nnF s0 (i % 5)) (RRF B kk (i % 5)))) ∧ (∀ j, j < 2 → W.ownsRow 0 22 1 (.slice (fq j) 3 (fc j)) 3 [.int .u64 (FF 0), .int .u64 (FF 1), .int .u64 (FF 2)])) → Calls Try.prog 32 #[.slice (some ⟨gl, 0, .none⟩) 10 cl] W fun e W' => e = .returned (.bool true) ∧ KpF Wm X W' ∧ KpF Wm X (W'.alloc (.cells #[.slice (fq 0) 3 (fc 0), .slice (fq 1) 3 (fc 1)] 46)) ∧ Hid (∀ j, j < 2 → W'.ownsRow 0 22 1 (.slice (fq j) 3 (fc j)) 3 [.int .u64 (FF 0), .int .u64 (FF 1), .int .u64 (FF 2)]) := fun W kp hr => by
                have hgl := (L3.l.lt gl rfl).2
                have eL := kp.block gl hgl (own_notExc L3.l (by decide) rfl)
                refine (freeB_any 10 gl cl (fun i => nnF s0 (i % 5)) (fun i => .slice (q i) (nnF s0 (i % 5)) (c i)) (fun i => rowB (nnF s0 (i % 5)) (RRF B kk (i % 5))) W (by omega) (fun i hi => nnF_le s0 (i % 5) (by omega)) ⟨hr.out.1, rfl, rfl, rfl, Nat.le_refl _, fun _ _ _ => rfl⟩ L3.rl.rap (Nat.lt_of_lt_of_le hgl kp.size) (fun i hi => kinds_ne (v1 := .slice (some ⟨gl, 0, .none⟩) 10 cl) L3.l (L3.rl.row i (by omega)) (by decide) rfl) (fun i hi => (World.cell?_of_block eL).trans ((L3.l.cellAt i (by omega)).trans (lc_at s0 (5 * 2) i q c (by omega))))).mono ?_
                rintro e W' ⟨he, xs, F'⟩
                have kp' := kp.fs F' (fun i hi g hg => own_exc (L3.rl.row i (by omega)) (.inl rfl) hg)
                refine ⟨he, kp', kp'.below (below_past W' _), fun j hj => ?_⟩
                have r := hr.out.2 j hj
                exact own_of_block r (fun g hg => F'.block g (r.lt g hg).2 (fun i hi e => kinds_ne (L3.rl.fre j hj) (L3.rl.row i (by omega)) (by decide) hg e.symm))
              have c33 : ∀ W, Hid (∀ j, j < 2 → W.ownsRow 0 22 1 (.slice (fq j) 3 (fc j)) 3 [.int .u64 (FF 0), .int .u64 (FF 1), .int .u64 (FF 2)]) → KpF Wm X W → Calls Try.prog 33 #[.slice (some ⟨W.heap.size, 0, .none⟩) 2 2] (W.alloc (.cells #[.slice (fq 0) 3 (fc 0), .slice (fq 1) 3 (fc 1)] 46)) fun e W' => e = .returned (.bool true) ∧ KpF Wm X W' := fun W hr kp => by
                have hc2 : ∀ i, i < 2 → (W.alloc (.cells #[.slice (fq 0) 3 (fc 0), .slice (fq 1) 3 (fc 1)] 46)).cell? ⟨W.heap.size, i, .none⟩ = some (.slice (fq i) 3 (fc i)) := fun i hi => by
                  have : i = 0 ∨ i = 1 := by omega
                  rcases this with rfl | rfl
                  · rw [World.cell?_alloc_at _ _ _ _ rfl]; rfl
                  · rw [World.cell?_alloc_at _ _ _ _ rfl]; rfl
                refine (freeW_any 2 W.heap.size 2 (fun _ => 3) (fun j => .slice (fq j) 3 (fc j)) (fun _ => [.int .u64 (FF 0), .int .u64 (FF 1), .int .u64 (FF 2)]) (W.alloc (.cells #[.slice (fq 0) 3 (fc 0), .slice (fq 1) 3 (fc 1)] 46)) (by omega) (fun i hi => by show 3 ≤ 1000000; omega) ⟨fun j hj => (hr.out j hj).alloc _, rfl, rfl, rfl, Nat.le_refl _, fun _ _ _ => rfl⟩ L3.rl.fap (by rw [World.size_alloc]; exact Nat.lt_succ_self _) (fun i hi e => by have := ((hr.out i hi).lt _ e).2; omega) hc2).mono ?_
                rintro e W' ⟨he, xs, F'⟩
                exact ⟨he, (kp.below (below_past W _)).fs F' (fun j hj g hg => own_exc (L3.rl.fre j hj) (.inr (.inl rfl)) hg)⟩
              have c25 : ∀ W, KpF Wm X W → Calls Try.prog 25 #[.pointer (some ⟨p, 0, .none⟩)] W fun e W' => ∃ qf' cf' qh' ch', e = .returned (.agg #[.int .i64 5, .slice qf' 3 cf', .slice qh' 2 ch']) ∧ KpF Wm X W' ∧ Hid (See W' .u64 qf' 3 FF ∧ SeeH W' qh' 2 PP (fun _ => 4096) (fun j => RRF B kk (3 + j))) := fun W kp => by
                have hbx : Below X W0 W := L3.be.trans (kp.toBelow hXm)
                refine (image_row (HR5.out.mem' (HR5.out.mem.below (by rw [HX.out] at hbx; exact hbx))) kk).mono ?_
                rintro e W' ⟨qf', cf', q2', c2', g3', g4', he, hf, hr, r3, r4, hg, hb⟩
                exact ⟨qf', cf', q2', c2', he, kp.below hb, seeF_of hf, seeH_of hr r3 r4⟩
              have c26c : ∀ W qf' cf' qh' ch', KpF Wm X W → Hid (See W .u64 qf' 3 FF ∧ SeeH W qh' 2 PP (fun _ => 4096) (fun j => RRF B kk (3 + j))) → Calls Try.prog 26 #[.agg #[.int .i64 5, .slice qf' 3 cf', .slice qh' 2 ch'], .agg #[.int .i64 5, .slice qf2 3 cf2, .slice qh2 2 ch2]] W fun e W' => e = .returned (.bool true) ∧ KpF Wm X W' := fun W qf' cf' qh' ch' kp hs => by
                have hbx : Below X W0 W := L3.be.trans (kp.toBelow hXm)
                have sw := seeW W hbx
                refine (images_same (N := 5) (by omega) (by omega) (fun i hi => by show 4096 ≤ 1000000; omega) hs.out.1 sw.1 hs.out.2 sw.2).mono ?_
                rintro e W' ⟨he, hb2⟩
                exact ⟨he, kp.below hb2⟩
              have HE : Hid (∀ W, KpF Wm X W → Below w.heap.size w W) := fun W kp => by
                have hbx : Below X W0 W := L3.be.trans (kp.toBelow hXm)
                have s1 := HW.out.1.size
                exact HW.out.1.trans (hbx.mono (by rw [HX.out]; exact s1))
              have HKS : Hid (∀ W, KpF Wm X W → (W.cell? ⟨gt, 0, .none⟩ = some (.int .i64 5) ∧ W.cell? ⟨gt, 1, .none⟩ = some (.slice (fq 0) 3 (fc 0)) ∧ W.cell? ⟨gt, 2, .none⟩ = some (.slice (some ⟨h0, 0, .none⟩) 2 (hc 0)) ∧ W.cell? ⟨gt, 3, .none⟩ = some (.int .i64 5) ∧ W.cell? ⟨gt, 4, .none⟩ = some (.slice (fq 1) 3 (fc 1)) ∧ W.cell? ⟨gt, 5, .none⟩ = some (.slice (some ⟨h1, 0, .none⟩) 2 (hc 1)) ∧ W.cell? ⟨A, 0, .none⟩ = some (.int .i64 5) ∧ W.cell? ⟨A, 1, .none⟩ = some (.slice qf2 3 cf2) ∧ W.cell? ⟨A, 2, .none⟩ = some (.slice qh2 2 ch2))) := KS
              have b0 : Below Wm.heap.size Wm Wm.drew := (Below.refl _ _).drew
              have kp0 : KpF Wm X Wm.drew := KpF.of b0
              clear KS seeW F20 L3 hne hXm hAX HBk HL2 HKR HG
              go_upto_region 33 with fail
              refine wp_region_noPanic ?_
              go_region_held3 (fun W => (W.cell? ⟨gt, 0, .none⟩ = some (.int .i64 5) ∧ W.cell? ⟨gt, 1, .none⟩ = some (.slice (fq 0) 3 (fc 0)) ∧ W.cell? ⟨gt, 2, .none⟩ = some (.slice (some ⟨h0, 0, .none⟩) 2 (hc 0)) ∧ W.cell? ⟨gt, 3, .none⟩ = some (.int .i64 5) ∧ W.cell? ⟨gt, 4, .none⟩ = some (.slice (fq 1) 3 (fc 1)) ∧ W.cell? ⟨gt, 5, .none⟩ = some (.slice (some ⟨h1, 0, .none⟩) 2 (hc 1)) ∧ W.cell? ⟨A, 0, .none⟩ = some (.int .i64 5) ∧ W.cell? ⟨A, 1, .none⟩ = some (.slice qf2 3 cf2) ∧ W.cell? ⟨A, 2, .none⟩ = some (.slice qh2 2 ch2))) (first | assumption | exact HKS.out _ (by assumption)) (first | (go_at_call 26; refine (c26a _ (by assumption)).mono ?_; rintro e V1 ⟨rfl, bb1, kp1⟩; clear c26a) | (go_at_call 26; refine (c26b _ (by assumption)).mono ?_; rintro e V2 ⟨rfl, bb2, kp2⟩; clear c26b) | (go_at_call 31; refine (c31 _ (by assumption)).mono ?_; rintro e V3 ⟨rfl, kp3, hr3⟩; clear c31) | (go_at_call 32; refine (c32 _ (by assumption) (by assumption)).mono ?_; rintro e V4 ⟨rfl, kp4, kp4a, hr4⟩; clear c32) | (go_at_call 33; refine (c33 _ (by assumption) (by assumption)).mono ?_; rintro e V5 ⟨rfl, kp5⟩; clear c33))
              all_goals (refine NoPanic.normal ?_)
              go_upto_region 35 with fail
              have HKA : Hid (∀ W, KpF Wm X W → (W.cell? ⟨A, 0, .none⟩ = some (.int .i64 5) ∧ W.cell? ⟨A, 1, .none⟩ = some (.slice qf2 3 cf2) ∧ W.cell? ⟨A, 2, .none⟩ = some (.slice qh2 2 ch2))) := fun W kp => by
                obtain ⟨_, _, _, _, _, _, r6, r7, r8⟩ := HKS.out W kp
                exact ⟨r6, r7, r8⟩
              have kp6 : KpF Wm X V5.drew := ⟨kp5.os, kp5.tape, kp5.output, kp5.size, kp5.block⟩
              clear HKS kp0 b0 bb1 bb2 kp1 kp2 kp3 kp4 kp4a hr3 hr4 kp5
              refine wp_region_noPanic ?_
              go_region_held3 (fun W => (W.cell? ⟨A, 0, .none⟩ = some (.int .i64 5) ∧ W.cell? ⟨A, 1, .none⟩ = some (.slice qf2 3 cf2) ∧ W.cell? ⟨A, 2, .none⟩ = some (.slice qh2 2 ch2))) (first | assumption | exact HKA.out _ (by assumption)) (first | (go_at_call 25; refine (c25 _ (by assumption)).mono ?_; rintro e V6 ⟨qf9, cf9, qh9, ch9, rfl, kp7, hs7⟩; clear c25) | (go_at_call 26; refine (c26c _ _ _ _ _ (by assumption) (by assumption)).mono ?_; rintro e V7 ⟨rfl, kp8⟩; clear c26c))
              all_goals (refine NoPanic.normal ?_)
              all_goals go_wp2
              all_goals go_ret
              all_goals exact ⟨rfl, HE.out _ kp8⟩
end Go.Proofs.Ytbpgdepgplmpnaa
