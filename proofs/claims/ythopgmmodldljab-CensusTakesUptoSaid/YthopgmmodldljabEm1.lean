import Derived.Test.YthopgmmodldljabNy
namespace Go.Proofs.Ythopgmmodldljab
open Go Go.RowKit
set_option linter.unusedVariables false
set_option linter.unusedSimpArgs false
set_option maxRecDepth 100000 in
set_option maxHeartbeats 8000000 in
theorem is75_1 {w : World} {s m1 m2 : Nat} {L : Lk} {fr : List Int} {N : Nat} {pv fv iv qv rv lv nv gv : Value} {pf nf : Th → Option Int} (h : Sy w s m1 m2 L fr N pv fv iv qv rv lv nv gv pf nf) (i : Nat) (x : Pc) (hx : L.procs[i]? = some x) (hk : x.c 2 = 1) : Calls Try.prog 53 #[.pointer (some ⟨s, 0, .none⟩), .int .i64 i] w fun e w' => e = .returned (.bool (okP L pf i x)) ∧ Below w.heap.size w w' := by
 obtain ⟨pp, pc, hpv⟩ := h.lk.ps.form
 have hin : i < L.procs.length := (List.getElem?_eq_some_iff.1 hx).1
 obtain ⟨n, hn⟩ : ∃ n, n = L.procs.length := ⟨_, rfl⟩
 rw [← hn] at hpv hin
 have hsl := h.lk.ps
 rw [hpv] at hsl
 obtain ⟨-, b, o, y, cs, hpe, hbX, hy, ⟨nv2, gv2, rfl, hN2, hG2⟩, hcl, hr⟩ := hsl.at hin
 obtain rfl : x = y := by rw [hx] at hy; injection hy
 subst hpe
 have k1 := h.cell 1 _ rfl
 rw [hpv] at k1
 have i1 : (i : Int) < n := by omega
 have bn : n ≤ 1048576 := by have := h.rg.pl; omega
 have HX1 : Hid (∀ u ∈ x.l nv2 gv2, u.oneCell' = true) := pcl_one x hN2.one hG2.one
 have HSY : Hid (Sy w s m1 m2 L fr N pv fv iv qv rv lv nv gv pf nf) := h
 have HC1 : Hid (∀ V, Below w.heap.size w V → Calls Try.prog 69 #[.slice (some ⟨b, o, .none⟩) n pc, .int .i64 i, .func (.func 68) #[] #[], .int .i64 0, .int .i64 63] V fun e w' => e = .returned (.bool (numB (fun p : Pc => p.c 0) L.procs i 0 63)) ∧ Below V.heap.size V w') := fun V hV => by
  have h2 := (h.keep hV).lk.ps
  rw [hpv] at h2
  exact isn87_any h2 (Nat.le_refl _) (by omega) i (by omega) _ _
 obtain ⟨nb, hnb⟩ : ∃ nb, nb = numB (fun p : Pc => p.c 0) L.procs i 0 63 := ⟨_, rfl⟩
 rw [← hnb] at HC1
 have kk1 : ∀ V, Below w.heap.size w V → V.cell? ⟨s, 1, .none⟩ = some (.slice (some ⟨b, o, .none⟩) n pc) := fun V hV => (hV.cell (p := ⟨s, 1, .none⟩) h.sv.lt.1).trans k1
 have HRX := h.rg.p x (List.mem_of_getElem? hx)
 obtain ⟨st, hst⟩ : ∃ st, st = x.c 2 := ⟨_, rfl⟩
 obtain ⟨pid, hpid⟩ : ∃ pid, pid = x.c 1 := ⟨_, rfl⟩
 obtain ⟨par, hpar⟩ : ∃ par, par = x.c 3 := ⟨_, rfl⟩
 obtain ⟨nx, hnx⟩ : ∃ nx, nx = L.next := ⟨_, rfl⟩
 obtain ⟨c, hc⟩ : ∃ c, c = (pf (1, pid)).getD 0 := ⟨_, rfl⟩
 obtain ⟨hb, hhb⟩ : ∃ hb, hb = (pf (0, par)).isSome := ⟨_, rfl⟩
 have HQ : Hid (okP L pf i x = (nb && ((st == 1 || (st == 2 || st == 3)) && (decide (1 ≤ pid) && (decide (pid < nx) && ((c == (i : Int)) && hb)))))) := by show _ = _; rw [hhb, hc, hnx, hpar, hpid, hst, hnb]; rfl
 have HT1 : Hid (ThR (1, pid)) := by rw [hpid]; exact ⟨lit64 1 (by omega), HRX.c 1 _ (by simp [k55])⟩
 have HT0 : Hid (ThR (0, par)) := by rw [hpar]; exact ⟨lit64 0 (by omega), HRX.c 3 _ (by simp [k55])⟩
 have e1 : (st == 1) = true := by rw [hst]; simp [hk]
 clear hk
 have HKK : Hid (∀ V, Below w.heap.size w V → V.cell? ⟨s, 1, .none⟩ = some (.slice (some ⟨b, o, .none⟩) n pc)) := kk1
 clear h hx hy hbX hcl hsl kk1 hpv hn hN2 hG2
 go_enter Try.func53, Try.ntmps53
 go_upto_region 3 with (first
  | (refine wpList_is (.load 60 (.tmp 13)) rfl ?_; refine wpList_loadG 60 70 584 info55 _ Try.underlying60 rfl (x.l nv2 gv2) rfl b (o + i * 70) (.tmp 13) rfl rfl rfl hr (some 14) rfl ?_; clear hr k1)
  | (refine wpList_is (.alloc 60) rfl ?_; refine wpList_laidG 60 70 584 info55 (x.l nv2 gv2) rfl HX1.out 5 (.tmp 14) _ _ rfl rfl rfl rfl rfl rfl rfl rfl ?_; intro W1 hW1 hB1 hs1)
  | fail)
 obtain ⟨g, hg⟩ : ∃ g, g = w.heap.size := ⟨_, rfl⟩
 rw [← hg] at hW1
 try rw [← hg]
 have HFB : Hid (∀ V, Below W1.heap.size W1 V → Below w.heap.size w V) := fun V hV => hB1.trans (hV.mono (by omega))
 have HC2 : Hid (∀ V, Below W1.heap.size W1 V → Calls Try.prog 69 #[.slice (some ⟨b, o, .none⟩) n pc, .int .i64 i, .func (.func 68) #[] #[], .int .i64 0, .int .i64 63] V fun e w' => e = .returned (.bool nb) ∧ Below V.heap.size V w') := fun V hV => HC1.out V (HFB.out V hV)
 have HSV : Hid (∀ V, Below W1.heap.size W1 V → Sv V s m1 m2 (svL L pv fv iv qv rv lv fr.length nv gv m1 m2) pf nf) := fun V hV => (HSY.out.keep (HFB.out V hV)).sv
 have hgl : g < W1.heap.size := by omega
 have HK : Hid (∀ V, Below W1.heap.size W1 V → V.cell? ⟨s, 1, .none⟩ = some (.slice (some ⟨b, o, .none⟩) n pc) ∧ V.cell? ⟨s, 8, .none⟩ = some (.int .i64 nx) ∧ V.cell? ⟨s, 13, .none⟩ = some (.map (some m1)) ∧ V.cell? ⟨g, 1, .none⟩ = some (.int .i64 pid) ∧ V.cell? ⟨g, 2, .none⟩ = some (.int .i64 st) ∧ V.cell? ⟨g, 3, .none⟩ = some (.int .i64 par) ∧ (Instr.lookup 77 (.map (some m1)) (.agg #[.int .i64 1, .int .i64 pid]) false).run Try.prog V = .ok (.int .i64 c) V) := fun V hV => ⟨HKK.out V (HFB.out V hV), (HSY.out.keep (HFB.out V hV)).cell 8 _ (by rw [hnx]; rfl), (HSV.out V hV).cell13.1, by rw [hpid]; exact cell_heap (o := 1) ((hV.block g hgl).trans hW1), by rw [hst]; exact cell_heap (o := 2) ((hV.block g hgl).trans hW1), by rw [hpar]; exact cell_heap (o := 3) ((hV.block g hgl).trans hW1), by rw [hc]; exact ((HSV.out V hV).mp.look HT1.out).1⟩
 have HBd : Hid (Below W1.heap.size W1 W1.drew) := (Below.refl _ _).drew
 have hS : (fun V : World => V.cell? ⟨s, 1, .none⟩ = some (.slice (some ⟨b, o, .none⟩) n pc) ∧ V.cell? ⟨s, 8, .none⟩ = some (.int .i64 nx) ∧ V.cell? ⟨s, 13, .none⟩ = some (.map (some m1)) ∧ V.cell? ⟨g, 1, .none⟩ = some (.int .i64 pid) ∧ V.cell? ⟨g, 2, .none⟩ = some (.int .i64 st) ∧ V.cell? ⟨g, 3, .none⟩ = some (.int .i64 par) ∧ (Instr.lookup 77 (.map (some m1)) (.agg #[.int .i64 1, .int .i64 pid]) false).run Try.prog V = .ok (.int .i64 c) V) W1.drew := HK.out _ HBd.out
 refine region_good 57 (by kernel_rfl) ?_
 intro HG
 clear hW1 hB1 hs1 hg hgl HKK HC1 HRX HSY HX1 hnb hst hpid hpar hnx hc HT1
 have HHB : Hid (hb = (pf (0, par)).isSome) := hhb
 clear hhb
 cases nb
 ·as_aux_lemma =>
   refine region_one (fun V => V.cell? ⟨s, 1, .none⟩ = some (.slice (some ⟨b, o, .none⟩) n pc) ∧ V.cell? ⟨s, 8, .none⟩ = some (.int .i64 nx) ∧ V.cell? ⟨s, 13, .none⟩ = some (.map (some m1)) ∧ V.cell? ⟨g, 1, .none⟩ = some (.int .i64 pid) ∧ V.cell? ⟨g, 2, .none⟩ = some (.int .i64 st) ∧ V.cell? ⟨g, 3, .none⟩ = some (.int .i64 par) ∧ (Instr.lookup 77 (.map (some m1)) (.agg #[.int .i64 1, .int .i64 pid]) false).run Try.prog V = .ok (.int .i64 c) V) 57 (by kernel_rfl) ?_
   change wpSet _ _ _ _ _ _ _ (pre (57 + 1) 0) _ _
   refine oT 0 15 (.pointer (some ⟨s, 0, .none⟩)) HG hS rfl ?_
   simp only [x0,x1,x2,x3]
   refine oT 1 16 (.pointer (some ⟨s, 0, .none⟩)) HG hS rfl ?_
   simp only [x0,x1,x2,x3]
   refine oT 2 17 (.pointer (some ⟨s, 0, .none⟩)) HG hS rfl ?_
   simp only [x0,x1,x2,x3]
   refine oT 3 18 (.pointer (some ⟨s, 1, .none⟩)) HG hS rfl ?_
   simp only [x0,x1,x2,x3]
   refine oT 4 19 (.slice (some ⟨b, o, .none⟩) n pc) HG hS rfl ?_ (fun ww hSw => by obtain ⟨q1, q2, q3, q4, q5, q6, q7⟩ := hSw; go_simp)
   simp only [x0,x1,x2,x3]
   refine oT 5 20 (.int .i64 i) HG hS rfl ?_
   simp only [x0,x1,x2,x3]
   refine oT 6 21 (.func (.func 68) #[] #[]) HG hS rfl ?_
   simp only [x0,x1,x2,x3]
   refine one_only (k := 7) (by kernel_rfl) (by decide) rfl (by rfl) (fun K hK => ?_)
   go_simp
   go_at_call 69
   refine (HC2.out _ HBd.out).mono ?_
   rintro e V1 ⟨rfl, hv1⟩
   have HB1 : Hid (Below W1.heap.size W1 V1) := HBd.out.trans (hv1.mono HBd.out.size)
   have hS1 := HK.out _ HB1.out
   clear hS hv1
   refine hK.out _ _ (fun _ => hS1) ?_
   clear hK K
   try simp only [x0,x1,x2,x3,x4,x5,x6]
   refine oT 8 23 (.bool false) HG hS1 rfl ?_
   simp only [x0,x1,x2,x3]
   refine oS 9 24 HG hS1 rfl ?_
   simp only [x0,x1,x2,x3]
   refine oS 10 25 HG hS1 rfl ?_
   simp only [x0,x1,x2,x3]
   refine oS 11 26 HG hS1 rfl ?_
   simp only [x0,x1,x2,x3]
   refine oS 12 27 HG hS1 rfl ?_
   simp only [x0,x1,x2,x3]
   refine oS 13 28 HG hS1 rfl ?_
   simp only [x0,x1,x2,x3]
   refine oS 14 29 HG hS1 rfl ?_
   simp only [x0,x1,x2,x3]
   refine oS 15 30 HG hS1 rfl ?_
   simp only [x0,x1,x2,x3]
   refine oS 16 31 HG hS1 rfl ?_
   simp only [x0,x1,x2,x3]
   refine oS 17 32 HG hS1 rfl ?_
   simp only [x0,x1,x2,x3]
   refine oS 18 33 HG hS1 rfl ?_
   simp only [x0,x1,x2,x3]
   refine oS 19 34 HG hS1 rfl ?_
   simp only [x0,x1,x2,x3]
   refine oS 20 35 HG hS1 rfl ?_
   simp only [x0,x1,x2,x3]
   refine oS 21 36 HG hS1 rfl ?_
   simp only [x0,x1,x2,x3]
   refine oT 22 37 (.bool false) HG hS1 rfl ?_
   simp only [x0,x1,x2,x3]
   refine oT 23 38 (.bool false) HG hS1 rfl ?_
   simp only [x0,x1,x2,x3]
   refine oS 24 39 HG hS1 rfl ?_
   simp only [x0,x1,x2,x3]
   refine oS 25 40 HG hS1 rfl ?_
   simp only [x0,x1,x2,x3]
   refine oS 26 41 HG hS1 rfl ?_
   simp only [x0,x1,x2,x3]
   refine oT 27 42 (.bool false) HG hS1 rfl ?_
   simp only [x0,x1,x2,x3]
   refine oT 28 43 (.bool false) HG hS1 rfl ?_
   simp only [x0,x1,x2,x3]
   refine oS 29 44 HG hS1 rfl ?_
   simp only [x0,x1,x2,x3]
   refine oS 30 45 HG hS1 rfl ?_
   simp only [x0,x1,x2,x3]
   refine oS 31 46 HG hS1 rfl ?_
   simp only [x0,x1,x2,x3]
   refine oS 32 47 HG hS1 rfl ?_
   simp only [x0,x1,x2,x3]
   refine oS 33 48 HG hS1 rfl ?_
   simp only [x0,x1,x2,x3]
   refine oS 34 49 HG hS1 rfl ?_
   simp only [x0,x1,x2,x3]
   refine oS 35 50 HG hS1 rfl ?_
   simp only [x0,x1,x2,x3]
   refine oS 36 51 HG hS1 rfl ?_
   simp only [x0,x1,x2,x3]
   refine oT 37 52 (.bool false) HG hS1 rfl ?_
   simp only [x0,x1,x2,x3]
   refine oT 38 53 (.bool false) HG hS1 rfl ?_
   simp only [x0,x1,x2,x3]
   refine oS 39 54 HG hS1 rfl ?_
   simp only [x0,x1,x2,x3]
   refine oS 40 55 HG hS1 rfl ?_
   simp only [x0,x1,x2,x3]
   refine oS 41 56 HG hS1 rfl ?_
   simp only [x0,x1,x2,x3]
   refine oS 42 57 HG hS1 rfl ?_
   simp only [x0,x1,x2,x3]
   refine oS 43 58 HG hS1 rfl ?_
   simp only [x0,x1,x2,x3]
   refine oS 44 59 HG hS1 rfl ?_
   simp only [x0,x1,x2,x3]
   refine oS 45 60 HG hS1 rfl ?_
   simp only [x0,x1,x2,x3]
   refine oS 46 61 HG hS1 rfl ?_
   simp only [x0,x1,x2,x3]
   refine oS 47 62 HG hS1 rfl ?_
   simp only [x0,x1,x2,x3]
   refine oS 48 63 HG hS1 rfl ?_
   simp only [x0,x1,x2,x3]
   refine oT 49 64 (.bool false) HG hS1 rfl ?_
   simp only [x0,x1,x2,x3]
   refine oT 50 65 (.bool false) HG hS1 rfl ?_
   simp only [x0,x1,x2,x3]
   refine oS 51 66 HG hS1 rfl ?_
   simp only [x0,x1,x2,x3]
   refine oS 52 67 HG hS1 rfl ?_
   simp only [x0,x1,x2,x3]
   refine oS 53 68 HG hS1 rfl ?_
   simp only [x0,x1,x2,x3]
   refine oS 54 69 HG hS1 rfl ?_
   simp only [x0,x1,x2,x3]
   refine oS 55 70 HG hS1 rfl ?_
   simp only [x0,x1,x2,x3]
   refine oT 56 71 (.bool false) HG hS1 rfl ?_
   simp only [x0,x1,x2,x3]
   refine set_tail 1 57 _ _ _ _ (by kernel_rfl) (by decide) ?_
   simp only [List.toList_toArray, List.drop_succ_cons, List.drop_zero]
   clear hS1
   go_wp2
   go_ret
   exact ⟨by rw [HQ.out]; show Ending.returned (.bool false) = _; simp [], HFB.out _ HB1.out⟩
 ·skip
  by_cases g1 : 1 ≤ pid
  case neg => as_aux_lemma =>
   refine region_one (fun V => V.cell? ⟨s, 1, .none⟩ = some (.slice (some ⟨b, o, .none⟩) n pc) ∧ V.cell? ⟨s, 8, .none⟩ = some (.int .i64 nx) ∧ V.cell? ⟨s, 13, .none⟩ = some (.map (some m1)) ∧ V.cell? ⟨g, 1, .none⟩ = some (.int .i64 pid) ∧ V.cell? ⟨g, 2, .none⟩ = some (.int .i64 st) ∧ V.cell? ⟨g, 3, .none⟩ = some (.int .i64 par) ∧ (Instr.lookup 77 (.map (some m1)) (.agg #[.int .i64 1, .int .i64 pid]) false).run Try.prog V = .ok (.int .i64 c) V) 57 (by kernel_rfl) ?_
   change wpSet _ _ _ _ _ _ _ (pre (57 + 1) 0) _ _
   refine oT 0 15 (.pointer (some ⟨s, 0, .none⟩)) HG hS rfl ?_
   simp only [x0,x1,x2,x3]
   refine oT 1 16 (.pointer (some ⟨s, 0, .none⟩)) HG hS rfl ?_
   simp only [x0,x1,x2,x3]
   refine oT 2 17 (.pointer (some ⟨s, 0, .none⟩)) HG hS rfl ?_
   simp only [x0,x1,x2,x3]
   refine oT 3 18 (.pointer (some ⟨s, 1, .none⟩)) HG hS rfl ?_
   simp only [x0,x1,x2,x3]
   refine oT 4 19 (.slice (some ⟨b, o, .none⟩) n pc) HG hS rfl ?_ (fun ww hSw => by obtain ⟨q1, q2, q3, q4, q5, q6, q7⟩ := hSw; go_simp)
   simp only [x0,x1,x2,x3]
   refine oT 5 20 (.int .i64 i) HG hS rfl ?_
   simp only [x0,x1,x2,x3]
   refine oT 6 21 (.func (.func 68) #[] #[]) HG hS rfl ?_
   simp only [x0,x1,x2,x3]
   refine one_only (k := 7) (by kernel_rfl) (by decide) rfl (by rfl) (fun K hK => ?_)
   go_simp
   go_at_call 69
   refine (HC2.out _ HBd.out).mono ?_
   rintro e V1 ⟨rfl, hv1⟩
   have HB1 : Hid (Below W1.heap.size W1 V1) := HBd.out.trans (hv1.mono HBd.out.size)
   have hS1 := HK.out _ HB1.out
   clear hS hv1
   refine hK.out _ _ (fun _ => hS1) ?_
   clear hK K
   try simp only [x0,x1,x2,x3,x4,x5,x6]
   refine oT 8 23 (.bool true) HG hS1 rfl ?_
   simp only [x0,x1,x2,x3]
   refine oT 9 24 (.pointer (some ⟨g, 2, .none⟩)) HG hS1 rfl ?_
   simp only [x0,x1,x2,x3]
   refine oT 10 25 (.int .i64 st) HG hS1 rfl ?_ (fun ww hSw => by obtain ⟨q1, q2, q3, q4, q5, q6, q7⟩ := hSw; go_simp)
   simp only [x0,x1,x2,x3]
   refine oT 11 26 (.bool true) HG hS1 rfl ?_
   simp only [x0,x1,x2,x3]
   refine oT 12 27 (.bool true) HG hS1 rfl ?_
   simp only [x0,x1,x2,x3]
   refine oS 13 28 HG hS1 rfl ?_
   simp only [x0,x1,x2,x3]
   refine oS 14 29 HG hS1 rfl ?_
   simp only [x0,x1,x2,x3]
   refine oS 15 30 HG hS1 rfl ?_
   simp only [x0,x1,x2,x3]
   refine oT 16 31 (.bool true) HG hS1 rfl ?_
   simp only [x0,x1,x2,x3]
   refine oT 17 32 (.bool true) HG hS1 rfl ?_
   simp only [x0,x1,x2,x3]
   refine oS 18 33 HG hS1 rfl ?_
   simp only [x0,x1,x2,x3]
   refine oS 19 34 HG hS1 rfl ?_
   simp only [x0,x1,x2,x3]
   refine oS 20 35 HG hS1 rfl ?_
   simp only [x0,x1,x2,x3]
   refine oT 21 36 (.bool true) HG hS1 rfl ?_
   simp only [x0,x1,x2,x3]
   refine oT 22 37 (.bool true) HG hS1 rfl ?_
   simp only [x0,x1,x2,x3]
   refine oT 23 38 (.bool true) HG hS1 rfl ?_
   simp only [x0,x1,x2,x3]
   refine oT 24 39 (.pointer (some ⟨g, 1, .none⟩)) HG hS1 rfl ?_
   simp only [x0,x1,x2,x3]
   refine oT 25 40 (.int .i64 pid) HG hS1 rfl ?_ (fun ww hSw => by obtain ⟨q1, q2, q3, q4, q5, q6, q7⟩ := hSw; go_simp)
   simp only [x0,x1,x2,x3]
   refine oT 26 41 (.bool false) HG hS1 rfl ?_
   simp only [x0,x1,x2,x3]
   refine oT 27 42 (.bool false) HG hS1 rfl ?_
   simp only [x0,x1,x2,x3]
   refine oT 28 43 (.bool false) HG hS1 rfl ?_
   simp only [x0,x1,x2,x3]
   refine oS 29 44 HG hS1 rfl ?_
   simp only [x0,x1,x2,x3]
   refine oS 30 45 HG hS1 rfl ?_
   simp only [x0,x1,x2,x3]
   refine oS 31 46 HG hS1 rfl ?_
   simp only [x0,x1,x2,x3]
   refine oS 32 47 HG hS1 rfl ?_
   simp only [x0,x1,x2,x3]
   refine oS 33 48 HG hS1 rfl ?_
   simp only [x0,x1,x2,x3]
   refine oS 34 49 HG hS1 rfl ?_
   simp only [x0,x1,x2,x3]
   refine oS 35 50 HG hS1 rfl ?_
   simp only [x0,x1,x2,x3]
   refine oS 36 51 HG hS1 rfl ?_
   simp only [x0,x1,x2,x3]
   refine oT 37 52 (.bool false) HG hS1 rfl ?_
   simp only [x0,x1,x2,x3]
   refine oT 38 53 (.bool false) HG hS1 rfl ?_
   simp only [x0,x1,x2,x3]
   refine oS 39 54 HG hS1 rfl ?_
   simp only [x0,x1,x2,x3]
   refine oS 40 55 HG hS1 rfl ?_
   simp only [x0,x1,x2,x3]
   refine oS 41 56 HG hS1 rfl ?_
   simp only [x0,x1,x2,x3]
   refine oS 42 57 HG hS1 rfl ?_
   simp only [x0,x1,x2,x3]
   refine oS 43 58 HG hS1 rfl ?_
   simp only [x0,x1,x2,x3]
   refine oS 44 59 HG hS1 rfl ?_
   simp only [x0,x1,x2,x3]
   refine oS 45 60 HG hS1 rfl ?_
   simp only [x0,x1,x2,x3]
   refine oS 46 61 HG hS1 rfl ?_
   simp only [x0,x1,x2,x3]
   refine oS 47 62 HG hS1 rfl ?_
   simp only [x0,x1,x2,x3]
   refine oS 48 63 HG hS1 rfl ?_
   simp only [x0,x1,x2,x3]
   refine oT 49 64 (.bool false) HG hS1 rfl ?_
   simp only [x0,x1,x2,x3]
   refine oT 50 65 (.bool false) HG hS1 rfl ?_
   simp only [x0,x1,x2,x3]
   refine oS 51 66 HG hS1 rfl ?_
   simp only [x0,x1,x2,x3]
   refine oS 52 67 HG hS1 rfl ?_
   simp only [x0,x1,x2,x3]
   refine oS 53 68 HG hS1 rfl ?_
   simp only [x0,x1,x2,x3]
   refine oS 54 69 HG hS1 rfl ?_
   simp only [x0,x1,x2,x3]
   refine oS 55 70 HG hS1 rfl ?_
   simp only [x0,x1,x2,x3]
   refine oT 56 71 (.bool false) HG hS1 rfl ?_
   simp only [x0,x1,x2,x3]
   refine set_tail 1 57 _ _ _ _ (by kernel_rfl) (by decide) ?_
   simp only [List.toList_toArray, List.drop_succ_cons, List.drop_zero]
   clear hS1
   go_wp2
   go_ret
   exact ⟨by rw [HQ.out]; show Ending.returned (.bool false) = _; simp [e1, show ¬ 1 ≤ pid by omega], HFB.out _ HB1.out⟩
  by_cases g2 : pid < nx
  case neg => as_aux_lemma =>
   refine region_one (fun V => V.cell? ⟨s, 1, .none⟩ = some (.slice (some ⟨b, o, .none⟩) n pc) ∧ V.cell? ⟨s, 8, .none⟩ = some (.int .i64 nx) ∧ V.cell? ⟨s, 13, .none⟩ = some (.map (some m1)) ∧ V.cell? ⟨g, 1, .none⟩ = some (.int .i64 pid) ∧ V.cell? ⟨g, 2, .none⟩ = some (.int .i64 st) ∧ V.cell? ⟨g, 3, .none⟩ = some (.int .i64 par) ∧ (Instr.lookup 77 (.map (some m1)) (.agg #[.int .i64 1, .int .i64 pid]) false).run Try.prog V = .ok (.int .i64 c) V) 57 (by kernel_rfl) ?_
   change wpSet _ _ _ _ _ _ _ (pre (57 + 1) 0) _ _
   refine oT 0 15 (.pointer (some ⟨s, 0, .none⟩)) HG hS rfl ?_
   simp only [x0,x1,x2,x3]
   refine oT 1 16 (.pointer (some ⟨s, 0, .none⟩)) HG hS rfl ?_
   simp only [x0,x1,x2,x3]
   refine oT 2 17 (.pointer (some ⟨s, 0, .none⟩)) HG hS rfl ?_
   simp only [x0,x1,x2,x3]
   refine oT 3 18 (.pointer (some ⟨s, 1, .none⟩)) HG hS rfl ?_
   simp only [x0,x1,x2,x3]
   refine oT 4 19 (.slice (some ⟨b, o, .none⟩) n pc) HG hS rfl ?_ (fun ww hSw => by obtain ⟨q1, q2, q3, q4, q5, q6, q7⟩ := hSw; go_simp)
   simp only [x0,x1,x2,x3]
   refine oT 5 20 (.int .i64 i) HG hS rfl ?_
   simp only [x0,x1,x2,x3]
   refine oT 6 21 (.func (.func 68) #[] #[]) HG hS rfl ?_
   simp only [x0,x1,x2,x3]
   refine one_only (k := 7) (by kernel_rfl) (by decide) rfl (by rfl) (fun K hK => ?_)
   go_simp
   go_at_call 69
   refine (HC2.out _ HBd.out).mono ?_
   rintro e V1 ⟨rfl, hv1⟩
   have HB1 : Hid (Below W1.heap.size W1 V1) := HBd.out.trans (hv1.mono HBd.out.size)
   have hS1 := HK.out _ HB1.out
   clear hS hv1
   refine hK.out _ _ (fun _ => hS1) ?_
   clear hK K
   try simp only [x0,x1,x2,x3,x4,x5,x6]
   refine oT 8 23 (.bool true) HG hS1 rfl ?_
   simp only [x0,x1,x2,x3]
   refine oT 9 24 (.pointer (some ⟨g, 2, .none⟩)) HG hS1 rfl ?_
   simp only [x0,x1,x2,x3]
   refine oT 10 25 (.int .i64 st) HG hS1 rfl ?_ (fun ww hSw => by obtain ⟨q1, q2, q3, q4, q5, q6, q7⟩ := hSw; go_simp)
   simp only [x0,x1,x2,x3]
   refine oT 11 26 (.bool true) HG hS1 rfl ?_
   simp only [x0,x1,x2,x3]
   refine oT 12 27 (.bool true) HG hS1 rfl ?_
   simp only [x0,x1,x2,x3]
   refine oS 13 28 HG hS1 rfl ?_
   simp only [x0,x1,x2,x3]
   refine oS 14 29 HG hS1 rfl ?_
   simp only [x0,x1,x2,x3]
   refine oS 15 30 HG hS1 rfl ?_
   simp only [x0,x1,x2,x3]
   refine oT 16 31 (.bool true) HG hS1 rfl ?_
   simp only [x0,x1,x2,x3]
   refine oT 17 32 (.bool true) HG hS1 rfl ?_
   simp only [x0,x1,x2,x3]
   refine oS 18 33 HG hS1 rfl ?_
   simp only [x0,x1,x2,x3]
   refine oS 19 34 HG hS1 rfl ?_
   simp only [x0,x1,x2,x3]
   refine oS 20 35 HG hS1 rfl ?_
   simp only [x0,x1,x2,x3]
   refine oT 21 36 (.bool true) HG hS1 rfl ?_
   simp only [x0,x1,x2,x3]
   refine oT 22 37 (.bool true) HG hS1 rfl ?_
   simp only [x0,x1,x2,x3]
   refine oT 23 38 (.bool true) HG hS1 rfl ?_
   simp only [x0,x1,x2,x3]
   refine oT 24 39 (.pointer (some ⟨g, 1, .none⟩)) HG hS1 rfl ?_
   simp only [x0,x1,x2,x3]
   refine oT 25 40 (.int .i64 pid) HG hS1 rfl ?_ (fun ww hSw => by obtain ⟨q1, q2, q3, q4, q5, q6, q7⟩ := hSw; go_simp)
   simp only [x0,x1,x2,x3]
   refine oT 26 41 (.bool true) HG hS1 rfl ?_
   simp only [x0,x1,x2,x3]
   refine oT 27 42 (.bool true) HG hS1 rfl ?_
   simp only [x0,x1,x2,x3]
   refine oT 28 43 (.bool true) HG hS1 rfl ?_
   simp only [x0,x1,x2,x3]
   refine oT 29 44 (.pointer (some ⟨g, 1, .none⟩)) HG hS1 rfl ?_
   simp only [x0,x1,x2,x3]
   refine oT 30 45 (.int .i64 pid) HG hS1 rfl ?_ (fun ww hSw => by obtain ⟨q1, q2, q3, q4, q5, q6, q7⟩ := hSw; go_simp)
   simp only [x0,x1,x2,x3]
   refine oT 31 46 (.pointer (some ⟨s, 0, .none⟩)) HG hS1 rfl ?_
   simp only [x0,x1,x2,x3]
   refine oT 32 47 (.pointer (some ⟨s, 0, .none⟩)) HG hS1 rfl ?_
   simp only [x0,x1,x2,x3]
   refine oT 33 48 (.pointer (some ⟨s, 0, .none⟩)) HG hS1 rfl ?_
   simp only [x0,x1,x2,x3]
   refine oT 34 49 (.pointer (some ⟨s, 8, .none⟩)) HG hS1 rfl ?_
   simp only [x0,x1,x2,x3]
   refine oT 35 50 (.int .i64 nx) HG hS1 rfl ?_ (fun ww hSw => by obtain ⟨q1, q2, q3, q4, q5, q6, q7⟩ := hSw; go_simp)
   simp only [x0,x1,x2,x3]
   refine oT 36 51 (.bool false) HG hS1 rfl ?_
   simp only [x0,x1,x2,x3]
   refine oT 37 52 (.bool false) HG hS1 rfl ?_
   simp only [x0,x1,x2,x3]
   refine oT 38 53 (.bool false) HG hS1 rfl ?_
   simp only [x0,x1,x2,x3]
   refine oS 39 54 HG hS1 rfl ?_
   simp only [x0,x1,x2,x3]
   refine oS 40 55 HG hS1 rfl ?_
   simp only [x0,x1,x2,x3]
   refine oS 41 56 HG hS1 rfl ?_
   simp only [x0,x1,x2,x3]
   refine oS 42 57 HG hS1 rfl ?_
   simp only [x0,x1,x2,x3]
   refine oS 43 58 HG hS1 rfl ?_
   simp only [x0,x1,x2,x3]
   refine oS 44 59 HG hS1 rfl ?_
   simp only [x0,x1,x2,x3]
   refine oS 45 60 HG hS1 rfl ?_
   simp only [x0,x1,x2,x3]
   refine oS 46 61 HG hS1 rfl ?_
   simp only [x0,x1,x2,x3]
   refine oS 47 62 HG hS1 rfl ?_
   simp only [x0,x1,x2,x3]
   refine oS 48 63 HG hS1 rfl ?_
   simp only [x0,x1,x2,x3]
   refine oT 49 64 (.bool false) HG hS1 rfl ?_
   simp only [x0,x1,x2,x3]
   refine oT 50 65 (.bool false) HG hS1 rfl ?_
   simp only [x0,x1,x2,x3]
   refine oS 51 66 HG hS1 rfl ?_
   simp only [x0,x1,x2,x3]
   refine oS 52 67 HG hS1 rfl ?_
   simp only [x0,x1,x2,x3]
   refine oS 53 68 HG hS1 rfl ?_
   simp only [x0,x1,x2,x3]
   refine oS 54 69 HG hS1 rfl ?_
   simp only [x0,x1,x2,x3]
   refine oS 55 70 HG hS1 rfl ?_
   simp only [x0,x1,x2,x3]
   refine oT 56 71 (.bool false) HG hS1 rfl ?_
   simp only [x0,x1,x2,x3]
   refine set_tail 1 57 _ _ _ _ (by kernel_rfl) (by decide) ?_
   simp only [List.toList_toArray, List.drop_succ_cons, List.drop_zero]
   clear hS1
   go_wp2
   go_ret
   exact ⟨by rw [HQ.out]; show Ending.returned (.bool false) = _; simp [e1, show 1 ≤ pid by omega, show ¬ pid < nx by omega], HFB.out _ HB1.out⟩
  by_cases g3 : c = (i : Int)
  case neg => as_aux_lemma =>
   have e4 : (c == (i : Int)) = false := by simp [g3]
   clear g3
   refine region_one (fun V => V.cell? ⟨s, 1, .none⟩ = some (.slice (some ⟨b, o, .none⟩) n pc) ∧ V.cell? ⟨s, 8, .none⟩ = some (.int .i64 nx) ∧ V.cell? ⟨s, 13, .none⟩ = some (.map (some m1)) ∧ V.cell? ⟨g, 1, .none⟩ = some (.int .i64 pid) ∧ V.cell? ⟨g, 2, .none⟩ = some (.int .i64 st) ∧ V.cell? ⟨g, 3, .none⟩ = some (.int .i64 par) ∧ (Instr.lookup 77 (.map (some m1)) (.agg #[.int .i64 1, .int .i64 pid]) false).run Try.prog V = .ok (.int .i64 c) V) 57 (by kernel_rfl) ?_
   change wpSet _ _ _ _ _ _ _ (pre (57 + 1) 0) _ _
   refine oT 0 15 (.pointer (some ⟨s, 0, .none⟩)) HG hS rfl ?_
   simp only [x0,x1,x2,x3]
   refine oT 1 16 (.pointer (some ⟨s, 0, .none⟩)) HG hS rfl ?_
   simp only [x0,x1,x2,x3]
   refine oT 2 17 (.pointer (some ⟨s, 0, .none⟩)) HG hS rfl ?_
   simp only [x0,x1,x2,x3]
   refine oT 3 18 (.pointer (some ⟨s, 1, .none⟩)) HG hS rfl ?_
   simp only [x0,x1,x2,x3]
   refine oT 4 19 (.slice (some ⟨b, o, .none⟩) n pc) HG hS rfl ?_ (fun ww hSw => by obtain ⟨q1, q2, q3, q4, q5, q6, q7⟩ := hSw; go_simp)
   simp only [x0,x1,x2,x3]
   refine oT 5 20 (.int .i64 i) HG hS rfl ?_
   simp only [x0,x1,x2,x3]
   refine oT 6 21 (.func (.func 68) #[] #[]) HG hS rfl ?_
   simp only [x0,x1,x2,x3]
   refine one_only (k := 7) (by kernel_rfl) (by decide) rfl (by rfl) (fun K hK => ?_)
   go_simp
   go_at_call 69
   refine (HC2.out _ HBd.out).mono ?_
   rintro e V1 ⟨rfl, hv1⟩
   have HB1 : Hid (Below W1.heap.size W1 V1) := HBd.out.trans (hv1.mono HBd.out.size)
   have hS1 := HK.out _ HB1.out
   clear hS hv1
   refine hK.out _ _ (fun _ => hS1) ?_
   clear hK K
   try simp only [x0,x1,x2,x3,x4,x5,x6]
   refine oT 8 23 (.bool true) HG hS1 rfl ?_
   simp only [x0,x1,x2,x3]
   refine oT 9 24 (.pointer (some ⟨g, 2, .none⟩)) HG hS1 rfl ?_
   simp only [x0,x1,x2,x3]
   refine oT 10 25 (.int .i64 st) HG hS1 rfl ?_ (fun ww hSw => by obtain ⟨q1, q2, q3, q4, q5, q6, q7⟩ := hSw; go_simp)
   simp only [x0,x1,x2,x3]
   refine oT 11 26 (.bool true) HG hS1 rfl ?_
   simp only [x0,x1,x2,x3]
   refine oT 12 27 (.bool true) HG hS1 rfl ?_
   simp only [x0,x1,x2,x3]
   refine oS 13 28 HG hS1 rfl ?_
   simp only [x0,x1,x2,x3]
   refine oS 14 29 HG hS1 rfl ?_
   simp only [x0,x1,x2,x3]
   refine oS 15 30 HG hS1 rfl ?_
   simp only [x0,x1,x2,x3]
   refine oT 16 31 (.bool true) HG hS1 rfl ?_
   simp only [x0,x1,x2,x3]
   refine oT 17 32 (.bool true) HG hS1 rfl ?_
   simp only [x0,x1,x2,x3]
   refine oS 18 33 HG hS1 rfl ?_
   simp only [x0,x1,x2,x3]
   refine oS 19 34 HG hS1 rfl ?_
   simp only [x0,x1,x2,x3]
   refine oS 20 35 HG hS1 rfl ?_
   simp only [x0,x1,x2,x3]
   refine oT 21 36 (.bool true) HG hS1 rfl ?_
   simp only [x0,x1,x2,x3]
   refine oT 22 37 (.bool true) HG hS1 rfl ?_
   simp only [x0,x1,x2,x3]
   refine oT 23 38 (.bool true) HG hS1 rfl ?_
   simp only [x0,x1,x2,x3]
   refine oT 24 39 (.pointer (some ⟨g, 1, .none⟩)) HG hS1 rfl ?_
   simp only [x0,x1,x2,x3]
   refine oT 25 40 (.int .i64 pid) HG hS1 rfl ?_ (fun ww hSw => by obtain ⟨q1, q2, q3, q4, q5, q6, q7⟩ := hSw; go_simp)
   simp only [x0,x1,x2,x3]
   refine oT 26 41 (.bool true) HG hS1 rfl ?_
   simp only [x0,x1,x2,x3]
   refine oT 27 42 (.bool true) HG hS1 rfl ?_
   simp only [x0,x1,x2,x3]
   refine oT 28 43 (.bool true) HG hS1 rfl ?_
   simp only [x0,x1,x2,x3]
   refine oT 29 44 (.pointer (some ⟨g, 1, .none⟩)) HG hS1 rfl ?_
   simp only [x0,x1,x2,x3]
   refine oT 30 45 (.int .i64 pid) HG hS1 rfl ?_ (fun ww hSw => by obtain ⟨q1, q2, q3, q4, q5, q6, q7⟩ := hSw; go_simp)
   simp only [x0,x1,x2,x3]
   refine oT 31 46 (.pointer (some ⟨s, 0, .none⟩)) HG hS1 rfl ?_
   simp only [x0,x1,x2,x3]
   refine oT 32 47 (.pointer (some ⟨s, 0, .none⟩)) HG hS1 rfl ?_
   simp only [x0,x1,x2,x3]
   refine oT 33 48 (.pointer (some ⟨s, 0, .none⟩)) HG hS1 rfl ?_
   simp only [x0,x1,x2,x3]
   refine oT 34 49 (.pointer (some ⟨s, 8, .none⟩)) HG hS1 rfl ?_
   simp only [x0,x1,x2,x3]
   refine oT 35 50 (.int .i64 nx) HG hS1 rfl ?_ (fun ww hSw => by obtain ⟨q1, q2, q3, q4, q5, q6, q7⟩ := hSw; go_simp)
   simp only [x0,x1,x2,x3]
   refine oT 36 51 (.bool true) HG hS1 rfl ?_
   simp only [x0,x1,x2,x3]
   refine oT 37 52 (.bool true) HG hS1 rfl ?_
   simp only [x0,x1,x2,x3]
   refine oT 38 53 (.bool true) HG hS1 rfl ?_
   simp only [x0,x1,x2,x3]
   refine oT 39 54 (.pointer (some ⟨s, 0, .none⟩)) HG hS1 rfl ?_
   simp only [x0,x1,x2,x3]
   refine oT 40 55 (.pointer (some ⟨s, 0, .none⟩)) HG hS1 rfl ?_
   simp only [x0,x1,x2,x3]
   refine oT 41 56 (.pointer (some ⟨s, 13, .none⟩)) HG hS1 rfl ?_
   simp only [x0,x1,x2,x3]
   refine oT 42 57 (.map (some m1)) HG hS1 rfl ?_ (fun ww hSw => by obtain ⟨q1, q2, q3, q4, q5, q6, q7⟩ := hSw; go_simp)
   simp only [x0,x1,x2,x3]
   refine oT 43 58 (.pointer (some ⟨g, 1, .none⟩)) HG hS1 rfl ?_
   simp only [x0,x1,x2,x3]
   refine oT 44 59 (.int .i64 pid) HG hS1 rfl ?_ (fun ww hSw => by obtain ⟨q1, q2, q3, q4, q5, q6, q7⟩ := hSw; go_simp)
   simp only [x0,x1,x2,x3]
   refine oT 45 60 (.agg #[.int .i64 1, .int .i64 pid]) HG hS1 rfl ?_
   simp only [x0,x1,x2,x3]
   refine oT 46 61 (.int .i64 c) HG hS1 rfl ?_ (fun ww hSw => by obtain ⟨q1, q2, q3, q4, q5, q6, q7⟩ := hSw; go_simp)
   simp only [x0,x1,x2,x3]
   refine oT 47 62 (.int .i64 i) HG hS1 rfl ?_
   simp only [x0,x1,x2,x3]
   refine oT 48 63 (.bool false) HG hS1 rfl ?_
   simp only [x0,x1,x2,x3]
   refine oT 49 64 (.bool false) HG hS1 rfl ?_
   simp only [x0,x1,x2,x3]
   refine oT 50 65 (.bool false) HG hS1 rfl ?_
   simp only [x0,x1,x2,x3]
   refine oS 51 66 HG hS1 rfl ?_
   simp only [x0,x1,x2,x3]
   refine oS 52 67 HG hS1 rfl ?_
   simp only [x0,x1,x2,x3]
   refine oS 53 68 HG hS1 rfl ?_
   simp only [x0,x1,x2,x3]
   refine oS 54 69 HG hS1 rfl ?_
   simp only [x0,x1,x2,x3]
   refine oS 55 70 HG hS1 rfl ?_
   simp only [x0,x1,x2,x3]
   refine oT 56 71 (.bool false) HG hS1 rfl ?_
   simp only [x0,x1,x2,x3]
   refine set_tail 1 57 _ _ _ _ (by kernel_rfl) (by decide) ?_
   simp only [List.toList_toArray, List.drop_succ_cons, List.drop_zero]
   clear hS1
   go_wp2
   go_ret
   exact ⟨by rw [HQ.out]; show Ending.returned (.bool false) = _; simp [e1, show 1 ≤ pid by omega, show pid < nx by omega, e4], HFB.out _ HB1.out⟩
  have e4 : (c == (i : Int)) = true := by simp [g3]
  clear g3
  as_aux_lemma =>
   refine region_one (fun V => V.cell? ⟨s, 1, .none⟩ = some (.slice (some ⟨b, o, .none⟩) n pc) ∧ V.cell? ⟨s, 8, .none⟩ = some (.int .i64 nx) ∧ V.cell? ⟨s, 13, .none⟩ = some (.map (some m1)) ∧ V.cell? ⟨g, 1, .none⟩ = some (.int .i64 pid) ∧ V.cell? ⟨g, 2, .none⟩ = some (.int .i64 st) ∧ V.cell? ⟨g, 3, .none⟩ = some (.int .i64 par) ∧ (Instr.lookup 77 (.map (some m1)) (.agg #[.int .i64 1, .int .i64 pid]) false).run Try.prog V = .ok (.int .i64 c) V) 57 (by kernel_rfl) ?_
   change wpSet _ _ _ _ _ _ _ (pre (57 + 1) 0) _ _
   refine oT 0 15 (.pointer (some ⟨s, 0, .none⟩)) HG hS rfl ?_
   simp only [x0,x1,x2,x3]
   refine oT 1 16 (.pointer (some ⟨s, 0, .none⟩)) HG hS rfl ?_
   simp only [x0,x1,x2,x3]
   refine oT 2 17 (.pointer (some ⟨s, 0, .none⟩)) HG hS rfl ?_
   simp only [x0,x1,x2,x3]
   refine oT 3 18 (.pointer (some ⟨s, 1, .none⟩)) HG hS rfl ?_
   simp only [x0,x1,x2,x3]
   refine oT 4 19 (.slice (some ⟨b, o, .none⟩) n pc) HG hS rfl ?_ (fun ww hSw => by obtain ⟨q1, q2, q3, q4, q5, q6, q7⟩ := hSw; go_simp)
   simp only [x0,x1,x2,x3]
   refine oT 5 20 (.int .i64 i) HG hS rfl ?_
   simp only [x0,x1,x2,x3]
   refine oT 6 21 (.func (.func 68) #[] #[]) HG hS rfl ?_
   simp only [x0,x1,x2,x3]
   refine one_only (k := 7) (by kernel_rfl) (by decide) rfl (by rfl) (fun K hK => ?_)
   go_simp
   go_at_call 69
   refine (HC2.out _ HBd.out).mono ?_
   rintro e V1 ⟨rfl, hv1⟩
   have HB1 : Hid (Below W1.heap.size W1 V1) := HBd.out.trans (hv1.mono HBd.out.size)
   have hS1 := HK.out _ HB1.out
   clear hS hv1
   refine hK.out _ _ (fun _ => hS1) ?_
   clear hK K
   try simp only [x0,x1,x2,x3,x4,x5,x6]
   refine oT 8 23 (.bool true) HG hS1 rfl ?_
   simp only [x0,x1,x2,x3]
   refine oT 9 24 (.pointer (some ⟨g, 2, .none⟩)) HG hS1 rfl ?_
   simp only [x0,x1,x2,x3]
   refine oT 10 25 (.int .i64 st) HG hS1 rfl ?_ (fun ww hSw => by obtain ⟨q1, q2, q3, q4, q5, q6, q7⟩ := hSw; go_simp)
   simp only [x0,x1,x2,x3]
   refine oT 11 26 (.bool true) HG hS1 rfl ?_
   simp only [x0,x1,x2,x3]
   refine oT 12 27 (.bool true) HG hS1 rfl ?_
   simp only [x0,x1,x2,x3]
   refine oS 13 28 HG hS1 rfl ?_
   simp only [x0,x1,x2,x3]
   refine oS 14 29 HG hS1 rfl ?_
   simp only [x0,x1,x2,x3]
   refine oS 15 30 HG hS1 rfl ?_
   simp only [x0,x1,x2,x3]
   refine oT 16 31 (.bool true) HG hS1 rfl ?_
   simp only [x0,x1,x2,x3]
   refine oT 17 32 (.bool true) HG hS1 rfl ?_
   simp only [x0,x1,x2,x3]
   refine oS 18 33 HG hS1 rfl ?_
   simp only [x0,x1,x2,x3]
   refine oS 19 34 HG hS1 rfl ?_
   simp only [x0,x1,x2,x3]
   refine oS 20 35 HG hS1 rfl ?_
   simp only [x0,x1,x2,x3]
   refine oT 21 36 (.bool true) HG hS1 rfl ?_
   simp only [x0,x1,x2,x3]
   refine oT 22 37 (.bool true) HG hS1 rfl ?_
   simp only [x0,x1,x2,x3]
   refine oT 23 38 (.bool true) HG hS1 rfl ?_
   simp only [x0,x1,x2,x3]
   refine oT 24 39 (.pointer (some ⟨g, 1, .none⟩)) HG hS1 rfl ?_
   simp only [x0,x1,x2,x3]
   refine oT 25 40 (.int .i64 pid) HG hS1 rfl ?_ (fun ww hSw => by obtain ⟨q1, q2, q3, q4, q5, q6, q7⟩ := hSw; go_simp)
   simp only [x0,x1,x2,x3]
   refine oT 26 41 (.bool true) HG hS1 rfl ?_
   simp only [x0,x1,x2,x3]
   refine oT 27 42 (.bool true) HG hS1 rfl ?_
   simp only [x0,x1,x2,x3]
   refine oT 28 43 (.bool true) HG hS1 rfl ?_
   simp only [x0,x1,x2,x3]
   refine oT 29 44 (.pointer (some ⟨g, 1, .none⟩)) HG hS1 rfl ?_
   simp only [x0,x1,x2,x3]
   refine oT 30 45 (.int .i64 pid) HG hS1 rfl ?_ (fun ww hSw => by obtain ⟨q1, q2, q3, q4, q5, q6, q7⟩ := hSw; go_simp)
   simp only [x0,x1,x2,x3]
   refine oT 31 46 (.pointer (some ⟨s, 0, .none⟩)) HG hS1 rfl ?_
   simp only [x0,x1,x2,x3]
   refine oT 32 47 (.pointer (some ⟨s, 0, .none⟩)) HG hS1 rfl ?_
   simp only [x0,x1,x2,x3]
   refine oT 33 48 (.pointer (some ⟨s, 0, .none⟩)) HG hS1 rfl ?_
   simp only [x0,x1,x2,x3]
   refine oT 34 49 (.pointer (some ⟨s, 8, .none⟩)) HG hS1 rfl ?_
   simp only [x0,x1,x2,x3]
   refine oT 35 50 (.int .i64 nx) HG hS1 rfl ?_ (fun ww hSw => by obtain ⟨q1, q2, q3, q4, q5, q6, q7⟩ := hSw; go_simp)
   simp only [x0,x1,x2,x3]
   refine oT 36 51 (.bool true) HG hS1 rfl ?_
   simp only [x0,x1,x2,x3]
   refine oT 37 52 (.bool true) HG hS1 rfl ?_
   simp only [x0,x1,x2,x3]
   refine oT 38 53 (.bool true) HG hS1 rfl ?_
   simp only [x0,x1,x2,x3]
   refine oT 39 54 (.pointer (some ⟨s, 0, .none⟩)) HG hS1 rfl ?_
   simp only [x0,x1,x2,x3]
   refine oT 40 55 (.pointer (some ⟨s, 0, .none⟩)) HG hS1 rfl ?_
   simp only [x0,x1,x2,x3]
   refine oT 41 56 (.pointer (some ⟨s, 13, .none⟩)) HG hS1 rfl ?_
   simp only [x0,x1,x2,x3]
   refine oT 42 57 (.map (some m1)) HG hS1 rfl ?_ (fun ww hSw => by obtain ⟨q1, q2, q3, q4, q5, q6, q7⟩ := hSw; go_simp)
   simp only [x0,x1,x2,x3]
   refine oT 43 58 (.pointer (some ⟨g, 1, .none⟩)) HG hS1 rfl ?_
   simp only [x0,x1,x2,x3]
   refine oT 44 59 (.int .i64 pid) HG hS1 rfl ?_ (fun ww hSw => by obtain ⟨q1, q2, q3, q4, q5, q6, q7⟩ := hSw; go_simp)
   simp only [x0,x1,x2,x3]
   refine oT 45 60 (.agg #[.int .i64 1, .int .i64 pid]) HG hS1 rfl ?_
   simp only [x0,x1,x2,x3]
   refine oT 46 61 (.int .i64 c) HG hS1 rfl ?_ (fun ww hSw => by obtain ⟨q1, q2, q3, q4, q5, q6, q7⟩ := hSw; go_simp)
   simp only [x0,x1,x2,x3]
   refine oT 47 62 (.int .i64 i) HG hS1 rfl ?_
   simp only [x0,x1,x2,x3]
   refine oT 48 63 (.bool true) HG hS1 rfl ?_
   simp only [x0,x1,x2,x3]
   refine oT 49 64 (.bool true) HG hS1 rfl ?_
   simp only [x0,x1,x2,x3]
   refine oT 50 65 (.bool true) HG hS1 rfl ?_
   simp only [x0,x1,x2,x3]
   refine oT 51 66 (.pointer (some ⟨s, 0, .none⟩)) HG hS1 rfl ?_
   simp only [x0,x1,x2,x3]
   refine oT 52 67 (.pointer (some ⟨g, 3, .none⟩)) HG hS1 rfl ?_
   simp only [x0,x1,x2,x3]
   refine oT 53 68 (.int .i64 par) HG hS1 rfl ?_ (fun ww hSw => by obtain ⟨q1, q2, q3, q4, q5, q6, q7⟩ := hSw; go_simp)
   simp only [x0,x1,x2,x3]
   refine oT 54 69 (.agg #[.int .i64 0, .int .i64 par]) HG hS1 rfl ?_
   simp only [x0,x1,x2,x3]
   refine one_only (k := 55) (by kernel_rfl) (by decide) rfl (by rfl) (fun K hK => ?_)
   go_simp
   go_at_call 47
   refine (has_any (HSV.out _ HB1.out) HT0.out).mono ?_
   rintro e V2 ⟨rfl, hv2⟩
   have HB2 : Hid (Below W1.heap.size W1 V2) := HB1.out.trans (hv2.mono HB1.out.size)
   have hS2 := HK.out _ HB2.out
   rw [← HHB.out]
   clear hS1 hv2
   refine hK.out _ _ (fun _ => hS2) ?_
   clear hK K
   try simp only [x0,x1,x2,x3,x4,x5,x6]
   refine oT 56 71 (.bool hb) HG hS2 rfl ?_
   simp only [x0,x1,x2,x3]
   refine set_tail 1 57 _ _ _ _ (by kernel_rfl) (by decide) ?_
   simp only [List.toList_toArray, List.drop_succ_cons, List.drop_zero]
   clear hS2
   go_wp2
   go_ret
   exact ⟨by rw [HQ.out]; show Ending.returned (.bool hb) = _; simp [e1, show 1 ≤ pid by omega, show pid < nx by omega, e4], HFB.out _ HB2.out⟩
end Go.Proofs.Ythopgmmodldljab
