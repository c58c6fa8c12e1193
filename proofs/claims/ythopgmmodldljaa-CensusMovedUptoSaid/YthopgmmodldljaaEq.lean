import Derived.Test.YthopgmmodldljaaEla
namespace Go.Proofs.Ythopgmmodldljaa
open Go Go.RowKit
set_option linter.unusedVariables false
set_option linter.unusedSimpArgs false
/-! hasItsPages. -/
def pgO (l : List Pg) : Bool := l.zipIdx.all fun x => x.1.no == (x.2 : Int)
def okG (p : Pc) : Bool := ((p.pages.length : Int) == bg (p.c 41) 4096) && (((p.nodes.length : Int) == ndF p.pages.length) && pgO p.pages)
theorem pgO_true {l : List Pg} (h : ∀ (i : Nat) x, l[i]? = some x → x.no = (i : Int)) : pgO l = true := by
  unfold pgO
  rw [List.all_eq_true]
  rintro ⟨x, i⟩ hx
  rw [List.mem_zipIdx_iff_getElem?] at hx
  simp [h i x hx]
theorem pgO_false {l : List Pg} {i : Nat} {x : Pg} (hx : l[i]? = some x) (hn : x.no ≠ (i : Int)) : pgO l = false := by
  unfold pgO
  rw [List.all_eq_false]
  exact ⟨(x, i), by rw [List.mem_zipIdx_iff_getElem?]; exact hx, by simp [hn]⟩
set_option maxRecDepth 100000 in
set_option maxHeartbeats 2000000 in
theorem hasPages_any {w : World} {X : Nat} (hX : X ≤ w.heap.size) (p : Pc) (np gp : Option Addr) (nc gc : Nat) (hG : Gs w X (.slice gp p.pages.length gc) p.pages) (hp : PcR p) : Calls Try.prog 77 #[.agg (p.l (.slice np p.nodes.length nc) (.slice gp p.pages.length gc)).toArray] w fun e w' => e = .returned (.bool (okG p)) ∧ Below w.heap.size w w' := by
  obtain ⟨gn, hgn⟩ : ∃ n, n = p.pages.length := ⟨_, rfl⟩
  obtain ⟨nn, hnn⟩ : ∃ n, n = p.nodes.length := ⟨_, rfl⟩
  have bgn : gn ≤ 1048576 := by have := hp.gl; omega
  have bnn : nn ≤ 1048576 := by have := hp.nl; omega
  rw [← hgn] at hG ⊢
  rw [← hnn]
  have hszb := bounds_u64 (hp.c 41 .u64 (by simp [k55]))
  obtain ⟨sz, hsz⟩ : ∃ sz, sz = p.c 41 := ⟨_, rfl⟩
  rw [← hsz] at hszb
  obtain ⟨bgv, hbg⟩ : ∃ b, b = bg sz 4096 := ⟨_, rfl⟩
  obtain ⟨nd, hnd⟩ : ∃ b, b = ndF (gn : Int) := ⟨_, rfl⟩
  have HQ : Hid (okG p = (((gn : Int) == bgv) && (((nn : Int) == nd) && pgO p.pages))) := by show _ = _; unfold okG; rw [hnd, hbg, hsz, hnn, hgn]
  have HBG : Hid (∀ V, Calls Try.prog 31 #[.int .u64 sz, .int .u64 4096] V fun e w' => e = .returned (.int .u64 bgv) ∧ w' = V) := fun V => by rw [hbg]; exact begun_any sz 4096 hszb.1 (by have := hszb.2; omega) (.inr rfl) V
  have HND : Hid (∀ V, Calls Try.prog 9 #[.int .i64 (gn : Nat)] V fun e w' => e = .returned (.int .i64 nd) ∧ w' = V) := fun V => by rw [hnd]; exact nodes_any gn (by omega) (by omega) V
  have HG : Hid (Gs w X (.slice gp gn gc) p.pages ∧ X ≤ w.heap.size ∧ gn = p.pages.length) := ⟨hG, hX, hgn⟩
  have HSZ : Hid (sz = p.c 41) := hsz
  clear hG hX hgn hnn hsz hbg hnd hp hszb
  have hwb : IntKind.u64.wrap (gn : Int) = (gn : Int) := by rw [IntKind.wrap_u64]; omega
  go_enter Try.func77, Try.ntmps77
  go_wp2_with (first
    | (refine wpList_is (.box 55 (.tmp 0)) rfl ?_; refine wpList_boxG 55 (p.l (.slice np nn nc) (.slice gp gn gc)) 1 (.tmp 0) _ rfl rfl rfl rfl ?_; intro W1 hW1 hB1 hs1; have k41 : W1.cell? ⟨w.heap.size, 41, .none⟩ = some (.int .u64 sz) := by rw [HSZ.out]; exact cell_heap (o := 41) hW1)
    | fail)
  clear k41
  go_at_call 31
  refine (HBG.out _).mono ?_
  rintro e V1 ⟨rfl, rfl⟩
  have HB : Hid (Below w.heap.size w V1) := hB1
  have hS : (fun V : World => V.cell? ⟨w.heap.size, 45, .none⟩ = some (.slice gp gn gc) ∧ V.cell? ⟨w.heap.size, 44, .none⟩ = some (.slice np nn nc)) V1.drew := ⟨cell_heap (o := 45) (show V1.drew.heap[w.heap.size]? = _ from hW1), cell_heap (o := 44) (show V1.drew.heap[w.heap.size]? = _ from hW1)⟩
  have k45 : V1.drew.cell? ⟨w.heap.size, 45, .none⟩ = some (.slice gp gn gc) := hS.1
  clear hW1 hB1 hs1 HBG
  by_cases g1 : (gn : Int) = bgv
  case neg =>
    have e1 : ((gn : Int) != bgv) = true := by simp [g1]
    have e1' : ((gn : Int) == bgv) = false := by simp [g1]
    clear g1
    go_upto_region 2 with fail
    refine region_set (fun V => V.cell? ⟨w.heap.size, 45, .none⟩ = some (.slice gp gn gc) ∧ V.cell? ⟨w.heap.size, 44, .none⟩ = some (.slice np nn nc)) 15 [] (by kernel_rfl) ?_
    refine set_take (i := 0) (v := .pointer (some ⟨w.heap.size, 45, .none⟩)) rfl (by kernel_rfl) (by kernel_rfl) (by kernel_rfl) (by kernel_rfl) (fun _ _ _ h => h) (Or.inl ⟨by rfl, fun ww hSw => by obtain ⟨h1, h2⟩ := hSw; go_simp⟩) hS ?_
    simp only [Act.put, List.setIfInBounds_toArray, List.set_cons_zero, List.set_cons_succ, List.getElem_toArray, List.getElem_cons_succ, List.getElem_cons_zero]
    refine set_take (i := 1) (v := .slice gp gn gc) rfl (by kernel_rfl) (by kernel_rfl) (by kernel_rfl) (by kernel_rfl) (fun _ _ _ h => h) (Or.inl ⟨by rfl, fun ww hSw => by obtain ⟨h1, h2⟩ := hSw; go_simp⟩) hS ?_
    simp only [Act.put, List.setIfInBounds_toArray, List.set_cons_zero, List.set_cons_succ, List.getElem_toArray, List.getElem_cons_succ, List.getElem_cons_zero]
    refine set_take (i := 2) (v := .int .i64 (gn : Nat)) rfl (by kernel_rfl) (by kernel_rfl) (by kernel_rfl) (by kernel_rfl) (fun _ _ _ h => h) (Or.inl ⟨by rfl, fun ww hSw => by obtain ⟨h1, h2⟩ := hSw; go_simp⟩) hS ?_
    simp only [Act.put, List.setIfInBounds_toArray, List.set_cons_zero, List.set_cons_succ, List.getElem_toArray, List.getElem_cons_succ, List.getElem_cons_zero]
    refine set_take (i := 3) (v := .int .u64 (gn : Nat)) rfl (by kernel_rfl) (by kernel_rfl) (by kernel_rfl) (by kernel_rfl) (fun _ _ _ h => h) (Or.inl ⟨by rfl, fun ww hSw => by obtain ⟨h1, h2⟩ := hSw; go_simp⟩) hS ?_
    simp only [Act.put, List.setIfInBounds_toArray, List.set_cons_zero, List.set_cons_succ, List.getElem_toArray, List.getElem_cons_succ, List.getElem_cons_zero]
    refine set_take (i := 4) (v := .int .u64 bgv) rfl (by kernel_rfl) (by kernel_rfl) (by kernel_rfl) (by kernel_rfl) (fun _ _ _ h => h) (Or.inl ⟨by rfl, fun ww hSw => by obtain ⟨h1, h2⟩ := hSw; go_simp⟩) hS ?_
    simp only [Act.put, List.setIfInBounds_toArray, List.set_cons_zero, List.set_cons_succ, List.getElem_toArray, List.getElem_cons_succ, List.getElem_cons_zero]
    refine set_take (i := 5) (v := .bool true) rfl (by kernel_rfl) (by kernel_rfl) (by kernel_rfl) (by kernel_rfl) (fun _ _ _ h => h) (Or.inl ⟨by rfl, fun ww hSw => by obtain ⟨h1, h2⟩ := hSw; go_simp⟩) hS ?_
    simp only [Act.put, List.setIfInBounds_toArray, List.set_cons_zero, List.set_cons_succ, List.getElem_toArray, List.getElem_cons_succ, List.getElem_cons_zero]
    refine set_take (i := 6) (v := .bool true) rfl (by kernel_rfl) (by kernel_rfl) (by kernel_rfl) (by kernel_rfl) (fun _ _ _ h => h) (Or.inl ⟨by rfl, fun ww hSw => by obtain ⟨h1, h2⟩ := hSw; go_simp⟩) hS ?_
    simp only [Act.put, List.setIfInBounds_toArray, List.set_cons_zero, List.set_cons_succ, List.getElem_toArray, List.getElem_cons_succ, List.getElem_cons_zero]
    refine set_take (i := 7) (v := undef) rfl (by kernel_rfl) (by kernel_rfl) (by kernel_rfl) (by kernel_rfl) (fun _ _ _ h => h) (Or.inr ⟨by rfl, rfl⟩) hS ?_
    simp only [Act.put, List.setIfInBounds_toArray, List.set_cons_zero, List.set_cons_succ, List.getElem_toArray, List.getElem_cons_succ, List.getElem_cons_zero]
    refine set_take (i := 8) (v := undef) rfl (by kernel_rfl) (by kernel_rfl) (by kernel_rfl) (by kernel_rfl) (fun _ _ _ h => h) (Or.inr ⟨by rfl, rfl⟩) hS ?_
    simp only [Act.put, List.setIfInBounds_toArray, List.set_cons_zero, List.set_cons_succ, List.getElem_toArray, List.getElem_cons_succ, List.getElem_cons_zero]
    refine set_take (i := 9) (v := undef) rfl (by kernel_rfl) (by kernel_rfl) (by kernel_rfl) (by kernel_rfl) (fun _ _ _ h => h) (Or.inr ⟨by rfl, rfl⟩) hS ?_
    simp only [Act.put, List.setIfInBounds_toArray, List.set_cons_zero, List.set_cons_succ, List.getElem_toArray, List.getElem_cons_succ, List.getElem_cons_zero]
    refine set_take (i := 10) (v := undef) rfl (by kernel_rfl) (by kernel_rfl) (by kernel_rfl) (by kernel_rfl) (fun _ _ _ h => h) (Or.inr ⟨by rfl, rfl⟩) hS ?_
    simp only [Act.put, List.setIfInBounds_toArray, List.set_cons_zero, List.set_cons_succ, List.getElem_toArray, List.getElem_cons_succ, List.getElem_cons_zero]
    refine set_take (i := 11) (v := undef) rfl (by kernel_rfl) (by kernel_rfl) (by kernel_rfl) (by kernel_rfl) (fun _ _ _ h => h) (Or.inr ⟨by rfl, rfl⟩) hS ?_
    simp only [Act.put, List.setIfInBounds_toArray, List.set_cons_zero, List.set_cons_succ, List.getElem_toArray, List.getElem_cons_succ, List.getElem_cons_zero]
    refine set_take (i := 12) (v := undef) rfl (by kernel_rfl) (by kernel_rfl) (by kernel_rfl) (by kernel_rfl) (fun _ _ _ h => h) (Or.inr ⟨by rfl, rfl⟩) hS ?_
    simp only [Act.put, List.setIfInBounds_toArray, List.set_cons_zero, List.set_cons_succ, List.getElem_toArray, List.getElem_cons_succ, List.getElem_cons_zero]
    refine set_take (i := 13) (v := undef) rfl (by kernel_rfl) (by kernel_rfl) (by kernel_rfl) (by kernel_rfl) (fun _ _ _ h => h) (Or.inr ⟨by rfl, rfl⟩) hS ?_
    simp only [Act.put, List.setIfInBounds_toArray, List.set_cons_zero, List.set_cons_succ, List.getElem_toArray, List.getElem_cons_succ, List.getElem_cons_zero]
    refine set_take (i := 14) (v := undef) rfl (by kernel_rfl) (by kernel_rfl) (by kernel_rfl) (by kernel_rfl) (fun _ _ _ h => h) (Or.inr ⟨by rfl, rfl⟩) hS ?_
    simp only [Act.put, List.setIfInBounds_toArray, List.set_cons_zero, List.set_cons_succ, List.getElem_toArray, List.getElem_cons_succ, List.getElem_cons_zero]
    refine set_tail 1 15 _ _ _ _ (by kernel_rfl) (by decide) ?_
    simp only [List.toList_toArray, List.drop_succ_cons, List.drop_zero]
    clear hS
    go_wp2
    go_ret
    exact ⟨by rw [HQ.out, e1']; rfl, HB.out.drew⟩
  have e1 : ((gn : Int) != bgv) = false := by simp [g1]
  have e1' : ((gn : Int) == bgv) = true := by simp [g1]
  clear g1
  by_cases g2 : (nn : Int) = nd
  case neg =>
    have e2 : ((nn : Int) != nd) = true := by simp [g2]
    have e2' : ((nn : Int) == nd) = false := by simp [g2]
    clear g2
    go_upto_region 2 with fail
    refine region_set (fun V => V.cell? ⟨w.heap.size, 45, .none⟩ = some (.slice gp gn gc) ∧ V.cell? ⟨w.heap.size, 44, .none⟩ = some (.slice np nn nc)) 15 [] (by kernel_rfl) ?_
    refine set_take (i := 0) (v := .pointer (some ⟨w.heap.size, 45, .none⟩)) rfl (by kernel_rfl) (by kernel_rfl) (by kernel_rfl) (by kernel_rfl) (fun _ _ _ h => h) (Or.inl ⟨by rfl, fun ww hSw => by obtain ⟨h1, h2⟩ := hSw; go_simp⟩) hS ?_
    simp only [Act.put, List.setIfInBounds_toArray, List.set_cons_zero, List.set_cons_succ, List.getElem_toArray, List.getElem_cons_succ, List.getElem_cons_zero]
    refine set_take (i := 1) (v := .slice gp gn gc) rfl (by kernel_rfl) (by kernel_rfl) (by kernel_rfl) (by kernel_rfl) (fun _ _ _ h => h) (Or.inl ⟨by rfl, fun ww hSw => by obtain ⟨h1, h2⟩ := hSw; go_simp⟩) hS ?_
    simp only [Act.put, List.setIfInBounds_toArray, List.set_cons_zero, List.set_cons_succ, List.getElem_toArray, List.getElem_cons_succ, List.getElem_cons_zero]
    refine set_take (i := 2) (v := .int .i64 (gn : Nat)) rfl (by kernel_rfl) (by kernel_rfl) (by kernel_rfl) (by kernel_rfl) (fun _ _ _ h => h) (Or.inl ⟨by rfl, fun ww hSw => by obtain ⟨h1, h2⟩ := hSw; go_simp⟩) hS ?_
    simp only [Act.put, List.setIfInBounds_toArray, List.set_cons_zero, List.set_cons_succ, List.getElem_toArray, List.getElem_cons_succ, List.getElem_cons_zero]
    refine set_take (i := 3) (v := .int .u64 (gn : Nat)) rfl (by kernel_rfl) (by kernel_rfl) (by kernel_rfl) (by kernel_rfl) (fun _ _ _ h => h) (Or.inl ⟨by rfl, fun ww hSw => by obtain ⟨h1, h2⟩ := hSw; go_simp⟩) hS ?_
    simp only [Act.put, List.setIfInBounds_toArray, List.set_cons_zero, List.set_cons_succ, List.getElem_toArray, List.getElem_cons_succ, List.getElem_cons_zero]
    refine set_take (i := 4) (v := .int .u64 bgv) rfl (by kernel_rfl) (by kernel_rfl) (by kernel_rfl) (by kernel_rfl) (fun _ _ _ h => h) (Or.inl ⟨by rfl, fun ww hSw => by obtain ⟨h1, h2⟩ := hSw; go_simp⟩) hS ?_
    simp only [Act.put, List.setIfInBounds_toArray, List.set_cons_zero, List.set_cons_succ, List.getElem_toArray, List.getElem_cons_succ, List.getElem_cons_zero]
    refine set_take (i := 5) (v := .bool false) rfl (by kernel_rfl) (by kernel_rfl) (by kernel_rfl) (by kernel_rfl) (fun _ _ _ h => h) (Or.inl ⟨by rfl, fun ww hSw => by obtain ⟨h1, h2⟩ := hSw; go_simp⟩) hS ?_
    simp only [Act.put, List.setIfInBounds_toArray, List.set_cons_zero, List.set_cons_succ, List.getElem_toArray, List.getElem_cons_succ, List.getElem_cons_zero]
    refine set_take (i := 6) (v := .bool false) rfl (by kernel_rfl) (by kernel_rfl) (by kernel_rfl) (by kernel_rfl) (fun _ _ _ h => h) (Or.inl ⟨by rfl, fun ww hSw => by obtain ⟨h1, h2⟩ := hSw; go_simp⟩) hS ?_
    simp only [Act.put, List.setIfInBounds_toArray, List.set_cons_zero, List.set_cons_succ, List.getElem_toArray, List.getElem_cons_succ, List.getElem_cons_zero]
    refine set_take (i := 7) (v := .pointer (some ⟨w.heap.size, 44, .none⟩)) rfl (by kernel_rfl) (by kernel_rfl) (by kernel_rfl) (by kernel_rfl) (fun _ _ _ h => h) (Or.inl ⟨by rfl, fun ww hSw => by obtain ⟨h1, h2⟩ := hSw; go_simp⟩) hS ?_
    simp only [Act.put, List.setIfInBounds_toArray, List.set_cons_zero, List.set_cons_succ, List.getElem_toArray, List.getElem_cons_succ, List.getElem_cons_zero]
    refine set_take (i := 8) (v := .slice np nn nc) rfl (by kernel_rfl) (by kernel_rfl) (by kernel_rfl) (by kernel_rfl) (fun _ _ _ h => h) (Or.inl ⟨by rfl, fun ww hSw => by obtain ⟨h1, h2⟩ := hSw; go_simp⟩) hS ?_
    simp only [Act.put, List.setIfInBounds_toArray, List.set_cons_zero, List.set_cons_succ, List.getElem_toArray, List.getElem_cons_succ, List.getElem_cons_zero]
    refine set_take (i := 9) (v := .int .i64 (nn : Nat)) rfl (by kernel_rfl) (by kernel_rfl) (by kernel_rfl) (by kernel_rfl) (fun _ _ _ h => h) (Or.inl ⟨by rfl, fun ww hSw => by obtain ⟨h1, h2⟩ := hSw; go_simp⟩) hS ?_
    simp only [Act.put, List.setIfInBounds_toArray, List.set_cons_zero, List.set_cons_succ, List.getElem_toArray, List.getElem_cons_succ, List.getElem_cons_zero]
    refine set_take (i := 10) (v := .pointer (some ⟨w.heap.size, 45, .none⟩)) rfl (by kernel_rfl) (by kernel_rfl) (by kernel_rfl) (by kernel_rfl) (fun _ _ _ h => h) (Or.inl ⟨by rfl, fun ww hSw => by obtain ⟨h1, h2⟩ := hSw; go_simp⟩) hS ?_
    simp only [Act.put, List.setIfInBounds_toArray, List.set_cons_zero, List.set_cons_succ, List.getElem_toArray, List.getElem_cons_succ, List.getElem_cons_zero]
    refine set_take (i := 11) (v := .slice gp gn gc) rfl (by kernel_rfl) (by kernel_rfl) (by kernel_rfl) (by kernel_rfl) (fun _ _ _ h => h) (Or.inl ⟨by rfl, fun ww hSw => by obtain ⟨h1, h2⟩ := hSw; go_simp⟩) hS ?_
    simp only [Act.put, List.setIfInBounds_toArray, List.set_cons_zero, List.set_cons_succ, List.getElem_toArray, List.getElem_cons_succ, List.getElem_cons_zero]
    refine set_take (i := 12) (v := .int .i64 (gn : Nat)) rfl (by kernel_rfl) (by kernel_rfl) (by kernel_rfl) (by kernel_rfl) (fun _ _ _ h => h) (Or.inl ⟨by rfl, fun ww hSw => by obtain ⟨h1, h2⟩ := hSw; go_simp⟩) hS ?_
    simp only [Act.put, List.setIfInBounds_toArray, List.set_cons_zero, List.set_cons_succ, List.getElem_toArray, List.getElem_cons_succ, List.getElem_cons_zero]
    refine set_only (i := 13) (by kernel_rfl) rfl (by rfl) (fun K hK => ?_)
    go_simp
    go_at_call 9
    refine (HND.out _).mono ?_
    rintro e V2 ⟨rfl, rfl⟩
    refine hK.out _ _ (fun _ => hS) ?_
    clear hK K
    try simp only [Act.put, List.setIfInBounds_toArray, List.set_cons_zero, List.set_cons_succ, List.getElem_toArray, List.getElem_cons_succ, List.getElem_cons_zero]
    refine set_take (i := 14) (v := .bool true) rfl (by kernel_rfl) (by kernel_rfl) (by kernel_rfl) (by kernel_rfl) (fun _ _ _ h => h) (Or.inl ⟨by rfl, fun ww hSw => by obtain ⟨h1, h2⟩ := hSw; go_simp⟩) hS ?_
    simp only [Act.put, List.setIfInBounds_toArray, List.set_cons_zero, List.set_cons_succ, List.getElem_toArray, List.getElem_cons_succ, List.getElem_cons_zero]
    refine set_tail 1 15 _ _ _ _ (by kernel_rfl) (by decide) ?_
    simp only [List.toList_toArray, List.drop_succ_cons, List.drop_zero]
    clear hS
    go_wp2
    go_ret
    exact ⟨by rw [HQ.out, e1', e2']; rfl, HB.out.drew⟩
  have e2 : ((nn : Int) != nd) = false := by simp [g2]
  have HE : Hid (((gn : Int) == bgv) = true ∧ ((nn : Int) == nd) = true) := ⟨e1', by simp [g2]⟩
  clear g2 e1'
  go_upto_region 2 with fail
  refine region_set (fun V => V.cell? ⟨w.heap.size, 45, .none⟩ = some (.slice gp gn gc) ∧ V.cell? ⟨w.heap.size, 44, .none⟩ = some (.slice np nn nc)) 15 [] (by kernel_rfl) ?_
  refine set_take (i := 0) (v := .pointer (some ⟨w.heap.size, 45, .none⟩)) rfl (by kernel_rfl) (by kernel_rfl) (by kernel_rfl) (by kernel_rfl) (fun _ _ _ h => h) (Or.inl ⟨by rfl, fun ww hSw => by obtain ⟨h1, h2⟩ := hSw; go_simp⟩) hS ?_
  simp only [Act.put, List.setIfInBounds_toArray, List.set_cons_zero, List.set_cons_succ, List.getElem_toArray, List.getElem_cons_succ, List.getElem_cons_zero]
  refine set_take (i := 1) (v := .slice gp gn gc) rfl (by kernel_rfl) (by kernel_rfl) (by kernel_rfl) (by kernel_rfl) (fun _ _ _ h => h) (Or.inl ⟨by rfl, fun ww hSw => by obtain ⟨h1, h2⟩ := hSw; go_simp⟩) hS ?_
  simp only [Act.put, List.setIfInBounds_toArray, List.set_cons_zero, List.set_cons_succ, List.getElem_toArray, List.getElem_cons_succ, List.getElem_cons_zero]
  refine set_take (i := 2) (v := .int .i64 (gn : Nat)) rfl (by kernel_rfl) (by kernel_rfl) (by kernel_rfl) (by kernel_rfl) (fun _ _ _ h => h) (Or.inl ⟨by rfl, fun ww hSw => by obtain ⟨h1, h2⟩ := hSw; go_simp⟩) hS ?_
  simp only [Act.put, List.setIfInBounds_toArray, List.set_cons_zero, List.set_cons_succ, List.getElem_toArray, List.getElem_cons_succ, List.getElem_cons_zero]
  refine set_take (i := 3) (v := .int .u64 (gn : Nat)) rfl (by kernel_rfl) (by kernel_rfl) (by kernel_rfl) (by kernel_rfl) (fun _ _ _ h => h) (Or.inl ⟨by rfl, fun ww hSw => by obtain ⟨h1, h2⟩ := hSw; go_simp⟩) hS ?_
  simp only [Act.put, List.setIfInBounds_toArray, List.set_cons_zero, List.set_cons_succ, List.getElem_toArray, List.getElem_cons_succ, List.getElem_cons_zero]
  refine set_take (i := 4) (v := .int .u64 bgv) rfl (by kernel_rfl) (by kernel_rfl) (by kernel_rfl) (by kernel_rfl) (fun _ _ _ h => h) (Or.inl ⟨by rfl, fun ww hSw => by obtain ⟨h1, h2⟩ := hSw; go_simp⟩) hS ?_
  simp only [Act.put, List.setIfInBounds_toArray, List.set_cons_zero, List.set_cons_succ, List.getElem_toArray, List.getElem_cons_succ, List.getElem_cons_zero]
  refine set_take (i := 5) (v := .bool false) rfl (by kernel_rfl) (by kernel_rfl) (by kernel_rfl) (by kernel_rfl) (fun _ _ _ h => h) (Or.inl ⟨by rfl, fun ww hSw => by obtain ⟨h1, h2⟩ := hSw; go_simp⟩) hS ?_
  simp only [Act.put, List.setIfInBounds_toArray, List.set_cons_zero, List.set_cons_succ, List.getElem_toArray, List.getElem_cons_succ, List.getElem_cons_zero]
  refine set_take (i := 6) (v := .bool false) rfl (by kernel_rfl) (by kernel_rfl) (by kernel_rfl) (by kernel_rfl) (fun _ _ _ h => h) (Or.inl ⟨by rfl, fun ww hSw => by obtain ⟨h1, h2⟩ := hSw; go_simp⟩) hS ?_
  simp only [Act.put, List.setIfInBounds_toArray, List.set_cons_zero, List.set_cons_succ, List.getElem_toArray, List.getElem_cons_succ, List.getElem_cons_zero]
  refine set_take (i := 7) (v := .pointer (some ⟨w.heap.size, 44, .none⟩)) rfl (by kernel_rfl) (by kernel_rfl) (by kernel_rfl) (by kernel_rfl) (fun _ _ _ h => h) (Or.inl ⟨by rfl, fun ww hSw => by obtain ⟨h1, h2⟩ := hSw; go_simp⟩) hS ?_
  simp only [Act.put, List.setIfInBounds_toArray, List.set_cons_zero, List.set_cons_succ, List.getElem_toArray, List.getElem_cons_succ, List.getElem_cons_zero]
  refine set_take (i := 8) (v := .slice np nn nc) rfl (by kernel_rfl) (by kernel_rfl) (by kernel_rfl) (by kernel_rfl) (fun _ _ _ h => h) (Or.inl ⟨by rfl, fun ww hSw => by obtain ⟨h1, h2⟩ := hSw; go_simp⟩) hS ?_
  simp only [Act.put, List.setIfInBounds_toArray, List.set_cons_zero, List.set_cons_succ, List.getElem_toArray, List.getElem_cons_succ, List.getElem_cons_zero]
  refine set_take (i := 9) (v := .int .i64 (nn : Nat)) rfl (by kernel_rfl) (by kernel_rfl) (by kernel_rfl) (by kernel_rfl) (fun _ _ _ h => h) (Or.inl ⟨by rfl, fun ww hSw => by obtain ⟨h1, h2⟩ := hSw; go_simp⟩) hS ?_
  simp only [Act.put, List.setIfInBounds_toArray, List.set_cons_zero, List.set_cons_succ, List.getElem_toArray, List.getElem_cons_succ, List.getElem_cons_zero]
  refine set_take (i := 10) (v := .pointer (some ⟨w.heap.size, 45, .none⟩)) rfl (by kernel_rfl) (by kernel_rfl) (by kernel_rfl) (by kernel_rfl) (fun _ _ _ h => h) (Or.inl ⟨by rfl, fun ww hSw => by obtain ⟨h1, h2⟩ := hSw; go_simp⟩) hS ?_
  simp only [Act.put, List.setIfInBounds_toArray, List.set_cons_zero, List.set_cons_succ, List.getElem_toArray, List.getElem_cons_succ, List.getElem_cons_zero]
  refine set_take (i := 11) (v := .slice gp gn gc) rfl (by kernel_rfl) (by kernel_rfl) (by kernel_rfl) (by kernel_rfl) (fun _ _ _ h => h) (Or.inl ⟨by rfl, fun ww hSw => by obtain ⟨h1, h2⟩ := hSw; go_simp⟩) hS ?_
  simp only [Act.put, List.setIfInBounds_toArray, List.set_cons_zero, List.set_cons_succ, List.getElem_toArray, List.getElem_cons_succ, List.getElem_cons_zero]
  refine set_take (i := 12) (v := .int .i64 (gn : Nat)) rfl (by kernel_rfl) (by kernel_rfl) (by kernel_rfl) (by kernel_rfl) (fun _ _ _ h => h) (Or.inl ⟨by rfl, fun ww hSw => by obtain ⟨h1, h2⟩ := hSw; go_simp⟩) hS ?_
  simp only [Act.put, List.setIfInBounds_toArray, List.set_cons_zero, List.set_cons_succ, List.getElem_toArray, List.getElem_cons_succ, List.getElem_cons_zero]
  refine set_only (i := 13) (by kernel_rfl) rfl (by rfl) (fun K hK => ?_)
  go_simp
  go_at_call 9
  refine (HND.out _).mono ?_
  rintro e V2 ⟨rfl, rfl⟩
  refine hK.out _ _ (fun _ => hS) ?_
  clear hK K
  try simp only [Act.put, List.setIfInBounds_toArray, List.set_cons_zero, List.set_cons_succ, List.getElem_toArray, List.getElem_cons_succ, List.getElem_cons_zero]
  refine set_take (i := 14) (v := .bool false) rfl (by kernel_rfl) (by kernel_rfl) (by kernel_rfl) (by kernel_rfl) (fun _ _ _ h => h) (Or.inl ⟨by rfl, fun ww hSw => by obtain ⟨h1, h2⟩ := hSw; go_simp⟩) hS ?_
  simp only [Act.put, List.setIfInBounds_toArray, List.set_cons_zero, List.set_cons_succ, List.getElem_toArray, List.getElem_cons_succ, List.getElem_cons_zero]
  refine set_tail 1 15 _ _ _ _ (by kernel_rfl) (by decide) ?_
  simp only [List.toList_toArray, List.drop_succ_cons, List.drop_zero]
  clear hS
  have HBd : Hid (Below w.heap.size w V1.drew) := HB.out.drew
  clear HB HND e1 e2
  generalize V1.drew = VD at *
  go_wp2
  clear k45
  go_loopw [28] (fun k wr => ∃ i : Nat, i ≤ gn ∧ k = .int .i64 i ∧ Hid (Below w.heap.size w wr ∧ ∀ (j : Nat) x, j < i → p.pages[j]? = some x → x.no = (j : Int))) (fun v _ => (gn - intOf v).toNat)
  case atStart => exact ⟨0, by omega, rfl, HBd.out, fun j x h => by omega⟩
  case round =>
    clear HBd
    obtain ⟨i, hi, rfl, HB⟩ := hrel
    by_cases hin : i < gn
    · as_aux_lemma =>
        have i1 : (i : Int) < gn := by omega
        obtain ⟨-, b, o, x, cs, rfl, hbX, hx, rfl, hcl, hr⟩ := HG.out.1.at hin
        have hr' : wr.rangeAt b (o + i * 3) x.l := range_keep hr HB.out.1 (by have := HG.out.2.1; omega : b < w.heap.size)
        have HX1 : Hid (∀ u ∈ x.l, u.oneCell' = true) := List.all_eq_true.1 (show x.l.all (fun u => u.oneCell') = true from rfl)
        have HX : Hid (p.pages[i]? = some x) := hx
        have hwi : IntKind.u64.wrap (i : Int) = (i : Int) := by rw [IntKind.wrap_u64]; omega
        clear hr hcl hbX hx
        by_cases g3 : x.no = (i : Int)
        · have e3 : (x.no != (i : Int)) = false := by simp [g3]
          have HG3 : Hid (x.no = (i : Int)) := g3
          clear g3
          go_wp2_with (first
            | (refine wpList_is (.load 81 (.tmp 31)) rfl ?_; refine wpList_loadG 81 3 24 info81 _ Try.underlying81 rfl x.l rfl b (o + i * 3) (.tmp 31) rfl rfl rfl hr' (some 32) rfl ?_; clear hr')
            | (refine wpList_is (.alloc 81) rfl ?_; refine wpList_allocG 81 3 24 info81 5 _ rfl rfl rfl ?_; intro W5 zs hzs hW5 hB5 hs5)
            | (refine wpList_is (.store 81 (.tmp 5) (.tmp 32)) rfl ?_; refine wpList_storeG 81 3 24 wr.heap.size info81 x.l zs rfl hzs HX1.out (.tmp 5) (.tmp 32) _ rfl rfl rfl rfl rfl hW5 ?_; intro W6 hW6 hg6 hs6; have k0 : W6.cell? ⟨wr.heap.size, 0, .none⟩ = some (.int .u64 x.no) := cell_heap (o := 0) hW6; have HB6 : Hid (Below wr.heap.size wr W6) := below_new hB5 hg6 (by omega); clear hW5 hW6 hB5 hg6 hs5 hs6 hzs)
            | fail)
          exact ⟨⟨i + 1, by omega, by go_num, HB.out.1.trans (HB6.out.mono HB.out.1.size), fun j y hj hy => by
            by_cases e : j = i
            · subst e; rw [HX.out] at hy; injection hy with hy; rw [← hy]; exact HG3.out
            · exact HB.out.2 j y (by omega) hy⟩, by simp [intOf]; omega⟩
        · have e3 : (x.no != (i : Int)) = true := by simp [g3]
          have HG3 : Hid (x.no ≠ (i : Int)) := g3
          clear g3
          go_wp2_with (first
            | (refine wpList_is (.load 81 (.tmp 31)) rfl ?_; refine wpList_loadG 81 3 24 info81 _ Try.underlying81 rfl x.l rfl b (o + i * 3) (.tmp 31) rfl rfl rfl hr' (some 32) rfl ?_; clear hr')
            | (refine wpList_is (.alloc 81) rfl ?_; refine wpList_allocG 81 3 24 info81 5 _ rfl rfl rfl ?_; intro W5 zs hzs hW5 hB5 hs5)
            | (refine wpList_is (.store 81 (.tmp 5) (.tmp 32)) rfl ?_; refine wpList_storeG 81 3 24 wr.heap.size info81 x.l zs rfl hzs HX1.out (.tmp 5) (.tmp 32) _ rfl rfl rfl rfl rfl hW5 ?_; intro W6 hW6 hg6 hs6; have k0 : W6.cell? ⟨wr.heap.size, 0, .none⟩ = some (.int .u64 x.no) := cell_heap (o := 0) hW6; have HB6 : Hid (Below wr.heap.size wr W6) := below_new hB5 hg6 (by omega); clear hW5 hW6 hB5 hg6 hs5 hs6 hzs)
            | fail)
          go_ret
          exact ⟨by rw [HQ.out, HE.out.1, HE.out.2, pgO_false HX.out HG3.out]; rfl, HB.out.1.trans (HB6.out.mono HB.out.1.size)⟩
    · have i1 : ¬ (i : Int) < gn := by omega
      obtain rfl : gn = i := by omega
      have HP : Hid (pgO p.pages = true) := pgO_true (fun j x hx => HB.out.2 j x (by have := (List.getElem?_eq_some_iff.1 hx).1; have := HG.out.2.2; omega) hx)
      go_wp2
      go_ret
      exact ⟨by rw [HQ.out, HE.out.1, HE.out.2, HP.out]; rfl, HB.out.1⟩
end Go.Proofs.Ythopgmmodldljaa
