import Derived.Test.YtabnipbdbnmmpaaGreatDoorSh01
import Derived.Test.YtabnipbdbnmmpaaGreatDoorSh31
set_option linter.unusedVariables false
set_option linter.unusedSimpArgs false
namespace Go.Proofs.YtabnipbdbnmmpaaGreatDoor
namespace Rm
open Go Go.RowKit Go.Shelf
attribute [local go_sem] Oper.semAt_some
attribute [local irreducible] eM evs
def lvO (x:Ev) : Option (Int × Int) := if x.p.k=2 then some (ext x.va,x.p.e) else none
def lvl (l:List Ev) : List (Int × Int) := l.filterMap lvO
def lvE (x:Int × Int) : Array Value := #[.int .u64 x.1,.int .u64 x.2]
theorem evs_mem' {F:Nat→Option Nat} {lf:Nat→Nat→Int} {x:Ev} (h:x ∈ evs F lf 0) : ∃ j,j<402653184∧ev F lf j=some x := by
 unfold evs at h
 obtain ⟨j,h1,hj⟩ := List.mem_filterMap.1 h
 rw [List.mem_range'_1] at h1
 rw [eM_val] at h1
 exact ⟨j,by omega,hj⟩
theorem ev_va {F:Nat→Option Nat} {lf:Nat→Nat→Int} {j:Nat} {x:Ev} (hj:j<402653184) (hx:ev F lf j=some x) : 0≤x.va∧x.va<18446744073709551616 := by
 have : x.va=vaP (j / 3) := by
  unfold ev at hx
  split at hx
  ·split at hx
   ·rw [Option.map_eq_some_iff] at hx
    obtain ⟨g,hg,rfl⟩ := hx
    rfl
   ·cases hx
  ·split at hx
   ·split at hx
    ·rw [Option.bind_eq_some_iff] at hx
     obtain ⟨g,hg,hx⟩ := hx
     rw [Option.map_eq_some_iff] at hx
     obtain ⟨q,hq,rfl⟩ := hx
     rfl
    ·cases hx
   ·rw [Option.bind_eq_some_iff] at hx
    obtain ⟨g,hg,hx⟩ := hx
    rw [Option.bind_eq_some_iff] at hx
    obtain ⟨q,hq,hx⟩ := hx
    split at hx
    ·cases hx
    ·injection hx with hx
     subst hx
     rfl
 rw [this]
 unfold vaP
 omega
theorem Mv.drew {Good:Nat→World→Prop} (U:World) : Mv Good U U.drew := Mv.below ((Below.refl _ U).drew)
theorem mv_put {Good:Nat→World→Prop} {U:World} {l:Nat} (o':Obj) (h:Good l U) : Mv Good U (U.putObj l o') :=
 ⟨rfl,rfl,rfl,by simp [World.putObj],fun k hk hn => World.putObj_heap_other (fun e => hn (by rw [e]; exact h))⟩
def LvI (J:List (Int × Int)→World→Prop) (Good:Nat→World→Prop) (l z D:Nat) (pre:List Ev) (U:World) : Prop := J (lvl pre) U∧(Good z U∧Good D U∧Good (D+1) U)∧U.cell? ⟨z,0,.none⟩=some (.func (.yield l) #[] #[])
def LvX (Jx:List (Int × Int)→World→Prop) (Good:Nat→World→Prop) (D:Nat) (pre:List Ev) (U:World) : Prop := ∃ U0,Jx (lvl pre) U0∧(Good D U0∧Good (D+1) U0)∧Mv (fun k _ => k=D∨k=D+1) U0 U
theorem LvI.mv {J:List (Int × Int)→World→Prop} {Good:Nat→World→Prop} {l z D:Nat} {pre:List Ev} {U U':World} (gd:GdJ Good J) (h:LvI J Good l z D pre U) (m:Mv Good U U') (hz:U'.heap[z]? = U.heap[z]?) : LvI J Good l z D pre U' :=
 ⟨gd.move _ _ _ h.1 m,⟨gd.mono _ _ _ _ h.1 m h.2.1.1,gd.mono _ _ _ _ h.1 m h.2.1.2.1,gd.mono _ _ _ _ h.1 m h.2.1.2.2⟩,(World.cell?_of_block (a:=⟨z,0,.none⟩) hz).trans h.2.2⟩
theorem LvI.gdI {J:List (Int × Int)→World→Prop} {Good:Nat→World→Prop} {l z D:Nat} (gd:GdJ Good J) : GdJ (fun k U => Good k U∧k≠z) (LvI J Good l z D) := by
 have low : ∀ U U',Mv (fun k U => Good k U∧k≠z) U U'→Mv Good U U' := fun U U' h => ⟨h.os,h.tape,h.output,h.size,fun k hk hn => h.block k hk (fun e => hn e.1)⟩
 refine ⟨fun s U U' h m => h.mv gd (low _ _ m) (m.block z (lt_of_cell h.2.2) (fun e => e.2 rfl)),fun s U U' k h m hk => ⟨gd.mono _ _ _ _ h.1 (low _ _ m) hk.1,hk.2⟩,fun s U U' k h m hk => ⟨gd.fresh _ _ _ _ h.1 (low _ _ m) hk,?_⟩⟩
 have := lt_of_cell h.2.2
 simp only at this
 omega
section
variable {w:World} {p b mm N r:Nat} {B:Nat→Int} {L:List Nat} {F:Nat→Option Nat} {lf:Nat→Nat→Int}
set_option maxRecDepth 100000 in
set_option maxHeartbeats 1000000 in
theorem leaves_seq (hR:Ram w p b mm N B L) (hP:PT N L B F lf) (hr:F 0=some r) (n z1 z2:Nat) (k1:w.cell? ⟨z1,0,.none⟩=some (.pointer (some ⟨p,0,.none⟩))) (k2:w.cell? ⟨z2,0,.none⟩=some (.int .u64 (ad r))) :
  SeqK n 169 #[.pointer (some ⟨z1,0,.none⟩),.pointer (some ⟨z2,0,.none⟩)] lvE (lvl (evs F lf 0)) p b mm w := by
 intro l J Jx Good W hW gd hY hX h0
 have q1 := (hW.cell (lt_of_cell k1)).trans k1
 have q2 := (hW.cell (lt_of_cell k2)).trans k2
 obtain ⟨W2,hW2⟩ : ∃ W2,W2=W.alloc (.cells #[.func (.yield l) #[] #[]] 239) := ⟨_,rfl⟩
 obtain ⟨W3,hW3⟩ : ∃ W3,W3=(W2.alloc (.cells #[.pointer (some ⟨p,0,.none⟩)] 27)).alloc (.cells #[.int .u64 (ad r)] 23) := ⟨_,rfl⟩
 have c45 := toured_any p (ad r) W2
 rw [← hW3] at c45
 have b2 : Below W.heap.size W W2 := by rw [hW2]; exact below1 _ _
 have b3 : Below W2.heap.size W2 W3 := by rw [hW3]; exact ((Below.refl _ _).alloc (Nat.le_refl _) _).alloc (by simp) _
 have hs2 : W2.heap.size=W.heap.size+1 := by rw [hW2]; simp
 have hs3 : W3.heap.size=W2.heap.size+2 := by rw [hW3]; simp
 have qy : W2.cell? ⟨W.heap.size,0,.none⟩=some (.func (.yield l) #[] #[]) := by rw [hW2]; simp
 have q1' := (b2.cell (lt_of_cell q1)).trans q1
 have q2' := (b2.cell (lt_of_cell q2)).trans q2
 have t1 : W3.cell? ⟨W2.heap.size,0,.none⟩=some (.pointer (some ⟨p,0,.none⟩)) := by rw [hW3]; simp
 have t2 : W3.cell? ⟨W2.heap.size+1,0,.none⟩=some (.int .u64 (ad r)) := by rw [hW3]; simp
 have B3 : Below W.heap.size W W3 := b2.trans (b3.mono b2.size)
 have hRW := hR.below hW
 have hseq := fun n => tour_seq (hRW.below B3) hP hr n _ _ t1 t2
 have hpl := hRW.mem.plt
 have hbl := hRW.mem.blt
 have hml := hRW.mem.mlt
 have gd3 : ∀ g,W.heap.size≤g→Good g W3 := fun g hg => gd.fresh [] W W3 g h0 (Mv.below B3) hg
 have j3 : J [] W3 := gd.move [] W W3 h0 (Mv.below B3)
 have qy3 := (b3.cell (lt_of_cell qy)).trans qy
 have HS : Hid ((∀ n,SeqG n 192 #[.pointer (some ⟨W2.heap.size,0,.none⟩),.pointer (some ⟨W2.heap.size+1,0,.none⟩)] evE (evs F lf 0) p b mm W3)∧(∀ g,W.heap.size≤g→Good g W3)∧J [] W3∧W3.cell? ⟨W.heap.size,0,.none⟩=some (.func (.yield l) #[] #[])) := ⟨hseq,gd3,j3,qy3⟩
 have HY : Hid (∀ k pre x W1,J pre W1→pre ++ [x] <+: lvl (evs F lf 0)→YieldAt Fence.wide k Tryz.prog l (lvE x) W1 fun e W' => (e = .returned (.bool true)∧J (pre ++ [x]) W'∧KpG Good p b mm W1 W')∨(e = .returned (.bool false)∧Jx (pre ++ [x]) W'∧KpG Good p b mm W1 W')) := hY
 have HX : Hid ((∀ pre W1 W2,Jx pre W1→Mv Good W1 W2→Jx pre W2)∧GdJ Good J) := ⟨hX,gd⟩
 have HP : Hid (PT N L B F lf∧N≤4096) := ⟨hP,hRW.mem.n2⟩
 clear hY hX gd h0 hR hRW hP hr hseq t1 t2 gd3 j3 qy3 qy q1 q2 k1 k2 b3 B3 b2
 refine callsIn_of_wp_marks Tryz.func169 rfl trivial ?_ rfl
 refine wpIn_wide.2 ?_
 simp only [Tryz.ntmps169,List.size_toArray,List.length_cons,List.length_nil,Nat.reduceAdd,Nat.reduceSub,Array.replicate_succ,Array.replicate_zero,List.push_toArray,List.append_toArray,List.nil_append,List.cons_append]
 go_upto_region 1 with fail
 rw [← hW2]
 clear hW2 hW3
 go_wp2_with (go_at_call 166; refine c45.mono ?_; rintro _ w4 ⟨rfl,e4⟩; obtain rfl : W3=w4 := e4.symm)
 have HZ : Hid (W2.heap.size=W.heap.size+1∧W3.heap.size=W.heap.size+3∧p<W.heap.size∧b<W.heap.size∧mm<W.heap.size) := ⟨hs2,by omega,hpl,hbl,hml⟩
 refine (wpIn_wide (n:=3)).1 (range_GN (α:=Ev) (by omega) (gf:=192) (lb:=#[.pointer (some ⟨W.heap.size+1,0,.none⟩),.pointer (some ⟨W.heap.size+1+1,0,.none⟩)]) rfl (enters_of Tryz.func192 (by kernel_rfl) rfl) (Below.refl _ _) (by have := HS.out.1 2; rw [hs2] at this; exact this) (by omega) (fun _ => rfl)
  (LvI J Good l W.heap.size W3.heap.size) (fun k U => Good k U∧k≠W.heap.size)
  (fun s U U' h k => h.mv HX.out.2 (Mv.below k) (k.block _ (lt_of_cell h.2.2)))
  (fun s U l' o o' h hl ho hc => h.mv HX.out.2 (mv_put o' (by rcases hl with rfl | rfl; exact h.2.1.2.1; exact h.2.1.2.2)) (World.putObj_heap_other (by have := HZ.out.2.1; omega)))
  (LvI.gdI HX.out.2)
  (fun s k U l' o o' h hk hkl hl ho hc => ⟨HX.out.2.mono _ _ _ _ h.1 (mv_put o' (by rw [hl]; exact h.2.1.2.2)) hk.1,hk.2⟩)
  ⟨HS.out.2.2.1,⟨HS.out.2.1 _ (Nat.le_refl _),HS.out.2.1 _ (by omega),HS.out.2.1 _ (by omega)⟩,HS.out.2.2.2⟩
  (LvX Jx Good W3.heap.size) ?ix (fun x a' U => ∃ br pb,a' = { tmps := #[.func (.yield l) #[] #[],.pointer (some ⟨z1,0,.none⟩),.pointer (some ⟨z2,0,.none⟩),.pointer (some ⟨W.heap.size,0,.none⟩),.pointer (some ⟨br,0,.none⟩),.pointer (some ⟨pb,0,.none⟩),.pointer (some ⟨p,0,.none⟩),.int .u64 (ad r),.func (.func 192) #[] #[.pointer (some ⟨W.heap.size+1,0,.none⟩),.pointer (some ⟨W.heap.size+1+1,0,.none⟩)],.agg #[.int .u64 x.va,.int .i64 x.l],x.p.val,undef,undef,undef,undef,undef,undef,undef,undef,undef,undef,undef,undef,undef],defers := [] } ∧ U.cell? ⟨br,0,.none⟩=some (.int .u64 x.va)∧U.cell? ⟨pb,4,.none⟩=some (.int .u64 x.p.e)∧U.cell? ⟨pb,5,.none⟩=some (.int .i64 x.p.k)∧W.heap.size<br∧W.heap.size<pb∧Good br U∧Good pb U) ?hax ?assign ?body ?done ?left)
 case ix =>
  rintro pre U l' o o' ⟨U0,h1,h2,h3⟩ hl ho hc
  refine ⟨U0,h1,h2,⟨h3.os,h3.tape,h3.output,by simp only [World.putObj]; simpa using h3.size,fun k hk hn => ?_⟩⟩
  exact (World.putObj_heap_other (fun e => hn (.inr (by rw [e,hl])))).trans (h3.block k hk hn)
 case hax =>
  rintro s x a' U l' o o' hI ⟨br,pb,h1,h2,h3,h4,h5,h6,h7,h8⟩ hl ho hc
  have n1 : br≠l' := fun e => by
   subst e
   have := cells_of h2 ho
   rw [hc] at this
   cases this
  have n2 : pb≠l' := fun e => by
   subst e
   have := cells_of h3 ho
   rw [hc] at this
   cases this
  exact ⟨br,pb,h1,(World.cell?_of_block (a:=⟨br,0,.none⟩) (World.putObj_heap_other n1)).trans h2,(World.cell?_of_block (a:=⟨pb,4,.none⟩) (World.putObj_heap_other n2)).trans h3,(World.cell?_of_block (a:=⟨pb,5,.none⟩) (World.putObj_heap_other n2)).trans h4,h5,h6,HX.out.2.mono _ _ _ _ hI.1 (mv_put o' (by rw [hl]; exact hI.2.1.2.2)) h7,HX.out.2.mono _ _ _ _ hI.1 (mv_put o' (by rw [hl]; exact hI.2.1.2.2)) h8⟩
 case assign =>
  intro l' pre x U K hI hU hK
  have HI : Hid (J (lvl pre) U) := hI.1
  clear hI
  simp only [evE,Pt.val]
  gi_wp2
  have hs := HZ.out.2.1
  refine hK _ _ ?_ ⟨U.heap.size,U.heap.size+1,rfl,?_,?_,?_,by omega,by omega,HX.out.2.fresh _ _ _ _ HI.out (Mv.below (((Below.refl _ _).alloc (Nat.le_refl _) _).alloc (by simp) _)) (Nat.le_refl _),HX.out.2.fresh _ _ _ _ HI.out (Mv.below (((Below.refl _ _).alloc (Nat.le_refl _) _).alloc (by simp) _)) (Nat.le_succ _)⟩
  ·exact ((Below.refl _ _).alloc (Nat.le_refl _) _).alloc (by simp) _
  ·exact (below1 _ _ |>.cell (p:=⟨U.heap.size,0,.none⟩) (by simp)).trans (by simp)
  ·have := C6.new (U.alloc (.cells #[.int .u64 x.va,.int .i64 x.l] 236)) (.int .u64 x.p.a0) (.int .u64 x.p.a1) (.int .u64 x.p.a2) (.int .i64 x.p.l) (.int .u64 x.p.e) (.int .i64 x.p.k) 169
   rw [World.size_alloc] at this
   exact this.c4
  ·have := C6.new (U.alloc (.cells #[.int .u64 x.va,.int .i64 x.l] 236)) (.int .u64 x.p.a0) (.int .u64 x.p.a1) (.int .u64 x.p.a2) (.int .i64 x.p.l) (.int .u64 x.p.e) (.int .i64 x.p.k) 169
   rw [World.size_alloc] at this
   exact this.c5
 case done =>
  rintro D U rfl hI hDd
  have HI : Hid (J (lvl (evs F lf 0)) (U.putObj W3.heap.size (.deferred none))) := HX.out.2.move _ _ _ hI.1 (mv_put _ hI.2.1.2.1)
  clear hI
  go_wp2
  refine ⟨by simp,.inl ⟨_,_,rfl,run_takeDeferred hDd,?_⟩⟩
  exact ⟨.tuple #[],by simp [results,Tryz.results169,go_sem],⟨_,rfl⟩,.inl HI.out⟩
 case left =>
  rintro D U pre rfl hpre ⟨U0,h1,h2,h3⟩ hDd
  have HI : Hid (Jx (lvl pre) (U.putObj W3.heap.size (.deferred none))) := by
   refine HX.out.1 _ _ _ h1 ⟨h3.os,h3.tape,h3.output,by simp only [World.putObj]; simpa using h3.size,fun k hk hn => ?_⟩
   exact (World.putObj_heap_other (fun e => hn (by rw [e]; exact h2.1))).trans (h3.block k hk (fun e => hn (by rcases e with rfl | rfl; exact h2.1; exact h2.2)))
  clear h1 h2 h3
  go_wp2
  refine ⟨by simp,.inl ⟨_,_,rfl,run_takeDeferred hDd,?_⟩⟩
  exact ⟨.tuple #[],by simp [results,Tryz.results169,go_sem],⟨_,rfl⟩,.inr ⟨lvl pre,hpre.filterMap _,HI.out⟩⟩
 case body =>
  rintro l' pre x a' U hI ⟨br,pb,rfl,c1,c2,c3,n1,n2,gB,gP⟩ hlen hsz
  obtain ⟨j,hj,hjx⟩ := evs_mem' (hlen.subset (by simp) : x ∈ evs F lf 0)
  have hva : 0≤x.va∧x.va<18446744073709551616 := ev_va hj hjx
  have heb := ev_b HP.out.1 HP.out.2 hjx
  obtain ⟨va,lv,⟨a0,a1,a2,l2,e,k⟩⟩ := x
  simp only [Pt.val] at c1 c2 c3 hva heb ⊢
  have HJ : Hid (LvI J Good l W.heap.size W3.heap.size pre U∧Good br U∧Good pb U) := ⟨hI,gB,gP⟩
  have HL : Hid (pre ++ [⟨va,lv,⟨a0,a1,a2,l2,e,k⟩⟩] <+: evs F lf 0) := hlen
  have c4 := hI.2.2
  clear hI gB gP hlen hj hjx
  by_cases hk2 : k=2
  ·subst hk2
   have c54 := fun W => ext_any va hva W
   have kS : U.drew.cell? ⟨br,0,.none⟩=some (.int .u64 va)∧U.drew.cell? ⟨pb,4,.none⟩=some (.int .u64 e)∧U.drew.cell? ⟨pb,5,.none⟩=some (.int .i64 2)∧U.drew.cell? ⟨W.heap.size,0,.none⟩=some (.func (.yield l) #[] #[]) := ⟨c1,c2,c3,c4⟩
   gi_wp2
   refine wpIn_region_R (S:=fun X => X.cell? ⟨br,0,.none⟩=some (.int .u64 va)∧X.cell? ⟨pb,4,.none⟩=some (.int .u64 e)∧X.cell? ⟨pb,5,.none⟩=some (.int .i64 2)∧X.cell? ⟨W.heap.size,0,.none⟩=some (.func (.yield l) #[] #[])) (by kernel_rfl) ?_
   refine wpAnyR_take (i:=0) (v:=(.pointer (some ⟨pb,5,.none⟩))) (no_defer_of (by kernel_rfl)) rfl (by kernel_rfl) (by kernel_rfl) (by kernel_rfl) (fun _ _ _ h => h) (Or.inl ⟨by rfl,fun ww hSw => by (try dsimp only at hSw); go_simp⟩) (by assumption) ?_
   simp only [X0,X1,X2,X3,X4,X5,X6]
   refine wpAnyR_take (i:=1) (v:=(.int .i64 2)) (no_defer_of (by kernel_rfl)) rfl (by kernel_rfl) (by kernel_rfl) (by kernel_rfl) (fun _ _ _ h => h) (Or.inl ⟨by rfl,fun ww hSw => by (try dsimp only at hSw); obtain ⟨q1,q2,q3,q4⟩ := hSw; go_simp⟩) (by assumption) ?_
   simp only [X0,X1,X2,X3,X4,X5,X6]
   refine wpAnyR_take (i:=2) (v:=(.bool true)) (no_defer_of (by kernel_rfl)) rfl (by kernel_rfl) (by kernel_rfl) (by kernel_rfl) (fun _ _ _ h => h) (Or.inl ⟨by rfl,fun ww hSw => by (try dsimp only at hSw); go_simp⟩) (by assumption) ?_
   simp only [X0,X1,X2,X3,X4,X5,X6]
   refine wpAnyR_take (i:=3) (v:=(.bool true)) (no_defer_of (by kernel_rfl)) rfl (by kernel_rfl) (by kernel_rfl) (by kernel_rfl) (fun _ _ _ h => h) (Or.inl ⟨by rfl,fun ww hSw => by (try dsimp only at hSw); go_simp⟩) (by assumption) ?_
   simp only [X0,X1,X2,X3,X4,X5,X6]
   refine wpAnyR_take (i:=4) (v:=(.func (.yield l) #[] #[])) (no_defer_of (by kernel_rfl)) rfl (by kernel_rfl) (by kernel_rfl) (by kernel_rfl) (fun _ _ _ h => h) (Or.inl ⟨by rfl,fun ww hSw => by (try dsimp only at hSw); obtain ⟨q1,q2,q3,q4⟩ := hSw; go_simp⟩) (by assumption) ?_
   simp only [X0,X1,X2,X3,X4,X5,X6]
   refine wpAnyR_take (i:=5) (v:=(.pointer (some ⟨br,0,.none⟩))) (no_defer_of (by kernel_rfl)) rfl (by kernel_rfl) (by kernel_rfl) (by kernel_rfl) (fun _ _ _ h => h) (Or.inl ⟨by rfl,fun ww hSw => by (try dsimp only at hSw); go_simp⟩) (by assumption) ?_
   simp only [X0,X1,X2,X3,X4,X5,X6]
   refine wpAnyR_take (i:=6) (v:=(.int .u64 va)) (no_defer_of (by kernel_rfl)) rfl (by kernel_rfl) (by kernel_rfl) (by kernel_rfl) (fun _ _ _ h => h) (Or.inl ⟨by rfl,fun ww hSw => by (try dsimp only at hSw); obtain ⟨q1,q2,q3,q4⟩ := hSw; go_simp⟩) (by assumption) ?_
   simp only [X0,X1,X2,X3,X4,X5,X6]
   refine wpAnyR_take (i:=8) (v:=(.pointer (some ⟨pb,4,.none⟩))) (no_defer_of (by kernel_rfl)) rfl (by kernel_rfl) (by kernel_rfl) (by kernel_rfl) (fun _ _ _ h => h) (Or.inl ⟨by rfl,fun ww hSw => by (try dsimp only at hSw); go_simp⟩) (by assumption) ?_
   simp only [X0,X1,X2,X3,X4,X5,X6]
   refine wpAnyR_take (i:=9) (v:=(.int .u64 e)) (no_defer_of (by kernel_rfl)) rfl (by kernel_rfl) (by kernel_rfl) (by kernel_rfl) (fun _ _ _ h => h) (Or.inl ⟨by rfl,fun ww hSw => by (try dsimp only at hSw); obtain ⟨q1,q2,q3,q4⟩ := hSw; go_simp⟩) (by assumption) ?_
   simp only [X0,X1,X2,X3,X4,X5,X6]
   refine wpAnyR_call (i:=7) (no_defer_of (by kernel_rfl)) rfl (by kernel_rfl) (by rfl) (by go_simp) (c54 _) ?_
   rintro _ X ⟨rfl,rfl⟩
   refine ⟨_,rfl,by assumption,?_⟩
   simp only [X0,X1,X2,X3,X4,X5,X6]
   refine wpAnyR_yield (i:=10) (l' := l) (args:=lvE (ext va,e)) (no_defer_of (by kernel_rfl)) rfl (by kernel_rfl) (by rfl) (fun r hr => by go_simp; exact hr) (HY.out _ (lvl pre) (ext va,e) U.drew (HX.out.2.move _ _ _ HJ.out.1.1 (Mv.drew U)) ?hp) ?_
   case hp =>
    have := HL.out.filterMap lvO
    rw [List.filterMap_append] at this
    exact this
   rintro e1 X hcase
   have hkp : KpG Good p b mm U.drew X := by rcases hcase with ⟨_,_,h⟩ | ⟨_,_,h⟩ <;> exact h
   obtain ⟨hI,gB,gP⟩ := HJ.out
   have gk : ∀ k o,Good k U→U.heap[k]? = some o→X.heap[k]? = some o∧Good k X := fun k o hk ho => hkp.1 k o (HX.out.2.mono _ _ _ _ hI.1 (Mv.drew U) hk) ho
   have gs : ∀ k,Good k U→k<U.heap.size→X.heap[k]? = U.heap[k]? ∧ Good k X := fun k hk hl => by
    have := gk k _ hk (Array.getElem?_eq_getElem hl)
    exact ⟨this.1.trans (Array.getElem?_eq_getElem hl).symm,this.2⟩
   have kX : X.cell? ⟨br,0,.none⟩=some (.int .u64 va)∧X.cell? ⟨pb,4,.none⟩=some (.int .u64 e)∧X.cell? ⟨pb,5,.none⟩=some (.int .i64 2)∧X.cell? ⟨W.heap.size,0,.none⟩=some (.func (.yield l) #[] #[]) :=
    ⟨(World.cell?_of_block (a:=⟨br,0,.none⟩) (gs br gB (lt_of_cell c1)).1).trans c1,(World.cell?_of_block (a:=⟨pb,4,.none⟩) (gs pb gP (lt_of_cell c2)).1).trans c2,(World.cell?_of_block (a:=⟨pb,5,.none⟩) (gs pb gP (lt_of_cell c3)).1).trans c3,(World.cell?_of_block (a:=⟨W.heap.size,0,.none⟩) (gs _ hI.2.1.1 (lt_of_cell c4)).1).trans c4⟩
   have hlv : lvl (pre ++ [⟨va,lv,⟨a0,a1,a2,l2,e,2⟩⟩])=lvl pre ++ [(ext va,e)] := by simp [lvl,lvO]
   have h2 : Kp2 W3.heap.size U X := fun k o hk ho _ => by
    rcases hk with rfl | rfl
    ·exact (gk _ o hI.2.1.2.1 ho).1
    ·exact (gk _ o hI.2.1.2.2 ho).1
   have hk3 : KpG (fun k U => Good k U∧k≠W.heap.size) p b mm U X := ⟨fun g o hg ho => ⟨(gk g o hg.1 ho).1,(gk g o hg.1 ho).2,hg.2⟩,hkp.2⟩
   have hgd : Good W.heap.size X∧Good W3.heap.size X∧Good (W3.heap.size+1) X := ⟨(gs _ hI.2.1.1 (lt_of_cell c4)).2,(gs _ hI.2.1.2.1 (by omega)).2,(gs _ hI.2.1.2.2 hsz).2⟩
   rcases hcase with ⟨rfl,hJ,_⟩ | ⟨rfl,hJ,_⟩
   ·have HE : Hid (Kp2 W3.heap.size U X∧KpG (fun k U => Good k U∧k≠W.heap.size) p b mm U X∧LvI J Good l W.heap.size W3.heap.size (pre ++ [⟨va,lv,⟨a0,a1,a2,l2,e,2⟩⟩]) X) := ⟨h2,hk3,by rw [hlv]; exact hJ,hgd,kX.2.2.2⟩
    clear hkp hI gB gP gk gs hlv h2 hk3 hgd hJ HJ HL kS c1 c2 c3 c4
    refine ⟨_,rfl,by assumption,?_⟩
    simp only [X0,X1,X2,X3,X4,X5,X6]
    refine wpAnyR_take (i:=11) (v:=(.bool false)) (no_defer_of (by kernel_rfl)) rfl (by kernel_rfl) (by kernel_rfl) (by kernel_rfl) (fun _ _ _ h => h) (Or.inl ⟨by rfl,fun ww hSw => by (try dsimp only at hSw); go_simp⟩) (by assumption) ?_
    simp only [X0,X1,X2,X3,X4,X5,X6]
    refine wpAnyR_take (i:=12) (v:=(.bool false)) (no_defer_of (by kernel_rfl)) rfl (by kernel_rfl) (by kernel_rfl) (by kernel_rfl) (fun _ _ _ h => h) (Or.inl ⟨by rfl,fun ww hSw => by (try dsimp only at hSw); go_simp⟩) (by assumption) ?_
    simp only [X0,X1,X2,X3,X4,X5,X6]
    refine wpAnyR_done (by kernel_rfl) ?_ _
    gi_wp2
    have h9 := HE.out
    rw [HZ.out.2.1] at h9
    exact h9
   ·have HE : Hid (Kp2 W3.heap.size U X∧LvX Jx Good W3.heap.size (pre ++ [⟨va,lv,⟨a0,a1,a2,l2,e,2⟩⟩]) X) := ⟨h2,X,by rw [hlv]; exact hJ,hgd.2,rfl,rfl,rfl,Nat.le_refl _,fun _ _ _ => rfl⟩
    clear hkp hI gB gP gk gs hlv h2 hk3 hgd hJ HJ HL kS c1 c2 c3 c4
    refine ⟨_,rfl,by assumption,?_⟩
    simp only [X0,X1,X2,X3,X4,X5,X6]
    refine wpAnyR_take (i:=11) (v:=(.bool true)) (no_defer_of (by kernel_rfl)) rfl (by kernel_rfl) (by kernel_rfl) (by kernel_rfl) (fun _ _ _ h => h) (Or.inl ⟨by rfl,fun ww hSw => by (try dsimp only at hSw); go_simp⟩) (by assumption) ?_
    simp only [X0,X1,X2,X3,X4,X5,X6]
    refine wpAnyR_take (i:=12) (v:=(.bool true)) (no_defer_of (by kernel_rfl)) rfl (by kernel_rfl) (by kernel_rfl) (by kernel_rfl) (fun _ _ _ h => h) (Or.inl ⟨by rfl,fun ww hSw => by (try dsimp only at hSw); go_simp⟩) (by assumption) ?_
    simp only [X0,X1,X2,X3,X4,X5,X6]
    refine wpAnyR_done (by kernel_rfl) ?_ _
    gi_wp2
    have h9 := HE.out
    rw [HZ.out.2.1] at h9
    exact h9
  ·have kS : U.drew.cell? ⟨pb,5,.none⟩=some (.int .i64 k) := c3
   have hlv : lvl (pre ++ [⟨va,lv,⟨a0,a1,a2,l2,e,k⟩⟩])=lvl pre := by simp [lvl,lvO,hk2]
   have HE : Hid (Kp2 W3.heap.size U U.drew∧KpG (fun k U => Good k U∧k≠W.heap.size) p b mm U U.drew∧LvI J Good l W.heap.size W3.heap.size (pre ++ [⟨va,lv,⟨a0,a1,a2,l2,e,k⟩⟩]) U.drew) := by
    have hI := HJ.out.1.mv HX.out.2 (Mv.drew U) rfl
    exact ⟨fun k o _ ho _ => ho,⟨fun g o hg ho => ⟨ho,HX.out.2.mono _ _ _ _ HJ.out.1.1 (Mv.drew U) hg.1,hg.2⟩,rfl,rfl,rfl,Nat.le_refl _⟩,by rw [hlv]; exact hI.1,hI.2⟩
   clear hlv HJ HL c1 c2 c3 c4
   gi_wp2
   refine wpIn_region_R (S:=fun X => X.cell? ⟨pb,5,.none⟩=some (.int .i64 k)) (by kernel_rfl) ?_
   refine wpAnyR_take (i:=0) (v:=(.pointer (some ⟨pb,5,.none⟩))) (no_defer_of (by kernel_rfl)) rfl (by kernel_rfl) (by kernel_rfl) (by kernel_rfl) (fun _ _ _ h => h) (Or.inl ⟨by rfl,fun ww hSw => by (try dsimp only at hSw); go_simp⟩) (by assumption) ?_
   simp only [X0,X1,X2,X3,X4,X5,X6]
   refine wpAnyR_take (i:=1) (v:=(.int .i64 k)) (no_defer_of (by kernel_rfl)) rfl (by kernel_rfl) (by kernel_rfl) (by kernel_rfl) (fun _ _ _ h => h) (Or.inl ⟨by rfl,fun ww hSw => by (try dsimp only at hSw); go_simp⟩) (by assumption) ?_
   simp only [X0,X1,X2,X3,X4,X5,X6]
   refine wpAnyR_take (i:=2) (v:=(.bool false)) (no_defer_of (by kernel_rfl)) rfl (by kernel_rfl) (by kernel_rfl) (by kernel_rfl) (fun _ _ _ h => h) (Or.inl ⟨by rfl,fun ww hSw => by (try dsimp only at hSw); go_simp⟩) (by assumption) ?_
   simp only [X0,X1,X2,X3,X4,X5,X6]
   refine wpAnyR_take (i:=3) (v:=(.bool false)) (no_defer_of (by kernel_rfl)) rfl (by kernel_rfl) (by kernel_rfl) (by kernel_rfl) (fun _ _ _ h => h) (Or.inl ⟨by rfl,fun ww hSw => by (try dsimp only at hSw); go_simp⟩) (by assumption) ?_
   simp only [X0,X1,X2,X3,X4,X5,X6]
   refine wpAnyR_take (i:=4) (v:=undef) (no_defer_of (by kernel_rfl)) rfl (by kernel_rfl) (by kernel_rfl) (by kernel_rfl) (fun _ _ _ h => h) (Or.inr ⟨by rfl,rfl⟩) (by assumption) ?_
   simp only [X0,X1,X2,X3,X4,X5,X6]
   refine wpAnyR_take (i:=5) (v:=undef) (no_defer_of (by kernel_rfl)) rfl (by kernel_rfl) (by kernel_rfl) (by kernel_rfl) (fun _ _ _ h => h) (Or.inr ⟨by rfl,rfl⟩) (by assumption) ?_
   simp only [X0,X1,X2,X3,X4,X5,X6]
   refine wpAnyR_take (i:=6) (v:=undef) (no_defer_of (by kernel_rfl)) rfl (by kernel_rfl) (by kernel_rfl) (by kernel_rfl) (fun _ _ _ h => h) (Or.inr ⟨by rfl,rfl⟩) (by assumption) ?_
   simp only [X0,X1,X2,X3,X4,X5,X6]
   refine wpAnyR_take (i:=7) (v:=undef) (no_defer_of (by kernel_rfl)) rfl (by kernel_rfl) (by kernel_rfl) (by kernel_rfl) (fun _ _ _ h => h) (Or.inr ⟨by rfl,rfl⟩) (by assumption) ?_
   simp only [X0,X1,X2,X3,X4,X5,X6]
   refine wpAnyR_take (i:=8) (v:=undef) (no_defer_of (by kernel_rfl)) rfl (by kernel_rfl) (by kernel_rfl) (by kernel_rfl) (fun _ _ _ h => h) (Or.inr ⟨by rfl,rfl⟩) (by assumption) ?_
   simp only [X0,X1,X2,X3,X4,X5,X6]
   refine wpAnyR_take (i:=9) (v:=undef) (no_defer_of (by kernel_rfl)) rfl (by kernel_rfl) (by kernel_rfl) (by kernel_rfl) (fun _ _ _ h => h) (Or.inr ⟨by rfl,rfl⟩) (by assumption) ?_
   simp only [X0,X1,X2,X3,X4,X5,X6]
   refine wpAnyR_take (i:=10) (v:=undef) (no_defer_of (by kernel_rfl)) rfl (by kernel_rfl) (by kernel_rfl) (by kernel_rfl) (fun _ _ _ h => h) (Or.inr ⟨by rfl,rfl⟩) (by assumption) ?_
   simp only [X0,X1,X2,X3,X4,X5,X6]
   refine wpAnyR_take (i:=11) (v:=undef) (no_defer_of (by kernel_rfl)) rfl (by kernel_rfl) (by kernel_rfl) (by kernel_rfl) (fun _ _ _ h => h) (Or.inr ⟨by rfl,rfl⟩) (by assumption) ?_
   simp only [X0,X1,X2,X3,X4,X5,X6]
   refine wpAnyR_take (i:=12) (v:=(.bool false)) (no_defer_of (by kernel_rfl)) rfl (by kernel_rfl) (by kernel_rfl) (by kernel_rfl) (fun _ _ _ h => h) (Or.inl ⟨by rfl,fun ww hSw => by (try dsimp only at hSw); go_simp⟩) (by assumption) ?_
   simp only [X0,X1,X2,X3,X4,X5,X6]
   refine wpAnyR_done (by kernel_rfl) ?_ _
   gi_wp2
   have h9 := HE.out
   rw [HZ.out.2.1] at h9
   exact h9
end
end Rm
end Go.Proofs.YtabnipbdbnmmpaaGreatDoor
