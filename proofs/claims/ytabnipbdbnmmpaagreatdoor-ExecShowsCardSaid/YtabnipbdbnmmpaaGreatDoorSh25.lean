import Derived.Test.YtabnipbdbnmmpaaGreatDoorSh01
import Derived.Test.YtabnipbdbnmmpaaGreatDoorSh24
import Derived.Laws.StructEq
import Derived.Test.YtabnipbdbnmmpaaGreatDoorSh20
set_option linter.unusedVariables false
set_option linter.unusedSimpArgs false
namespace Go.Proofs.YtabnipbdbnmmpaaGreatDoor
namespace Rm
open Go.RowKit
def eM : Nat := 402653184
theorem eM_val : eM=402653184 := rfl
attribute [local irreducible] eM
def x1 (P:Nat) : Nat := 1+P / 262144
def x0 (P:Nat) : Nat := 513+512*(P / 262144)+P / 512 % 512
def vaP (P:Nat) : Int := (P:Int)*4096
theorem vaP_i2 (P:Nat) (h:P<134217728) : i2 (vaP P)=P / 262144 := by
 unfold i2 vaP ix spn
 simp
 omega
theorem vaP_i1 (P:Nat) (h:P<134217728) : i1 (vaP P)=P / 512 % 512 := by
 unfold i1 vaP ix spn
 simp
 omega
theorem vaP_i0 (P:Nat) (h:P<134217728) : i0 (vaP P)=P % 512 := by
 unfold i0 vaP ix spn
 simp
 omega
theorem vaP_y1 (P:Nat) (h:P<134217728) : y1 (vaP P)=x1 P := by
 unfold y1 ch x1
 rw [vaP_i2 P h]
 simp
theorem vaP_y0 (P:Nat) (h:P<134217728) : y0 (vaP P)=x0 P := by
 unfold y0
 rw [vaP_y1 P h,vaP_i1 P h]
 unfold ch x1 x0
 rw [if_neg (by omega)]
 omega
structure Ev where
 va : Int
 l : Int
 p : Pt
def rtF (F:Nat→Option Nat) : Nat := (F 0).getD 0
def ev (F:Nat→Option Nat) (lf:Nat→Nat→Int) (c:Nat) : Option Ev :=
 if c % 3=0 then (if c / 3 % 262144=0 then (F (x1 (c / 3))).map fun g => ⟨vaP (c / 3),2,⟨0,0,st (ad (rtF F)) (vaP (c / 3)) 2,2,ptr (some g),3⟩⟩ else none)
 else if c % 3=1 then (if c / 3 % 512=0 then (F (x1 (c / 3))).bind fun g => (F (x0 (c / 3))).map fun q => ⟨vaP (c / 3),1,⟨0,st (ad g) (vaP (c / 3)) 1,st (ad (rtF F)) (vaP (c / 3)) 2,1,ptr (some q),3⟩⟩ else none)
 else (F (x1 (c / 3))).bind fun g => (F (x0 (c / 3))).bind fun q => if lf (x0 (c / 3)) (c / 3 % 512)=0 then none else some ⟨vaP (c / 3),0,⟨st (ad q) (vaP (c / 3)) 0,st (ad g) (vaP (c / 3)) 1,st (ad (rtF F)) (vaP (c / 3)) 2,0,lf (x0 (c / 3)) (c / 3 % 512),2⟩⟩
def evs (F:Nat→Option Nat) (lf:Nat→Nat→Int) (c:Nat) : List Ev := (List.range' c (eM - c)).filterMap (ev F lf)
theorem evs_end (F:Nat→Option Nat) (lf:Nat→Nat→Int) (c:Nat) (h:eM≤c) : evs F lf c = [] := by
 unfold evs
 rw [show eM - c=0 by omega]
 rfl
theorem evs_step (F:Nat→Option Nat) (lf:Nat→Nat→Int) (c:Nat) (h:c<eM) : evs F lf c=(ev F lf c).toList ++ evs F lf (c+1) := by
 unfold evs
 obtain ⟨k,hk⟩ : ∃ k,eM - c=k+1 := ⟨eM - c - 1,by omega⟩
 rw [hk,List.range'_succ,List.filterMap_cons,show eM - (c+1)=k by omega]
 cases ev F lf c <;> rfl
theorem evs_none (F:Nat→Option Nat) (lf:Nat→Nat→Int) : ∀ (k c:Nat),c+k≤eM→(∀ j,c≤j→j<c+k→ev F lf j=none)→evs F lf c=evs F lf (c+k)
 | 0,_,_,_ => rfl
 | k+1,c,h,hn => by
  rw [evs_step F lf c (by omega),hn c (Nat.le_refl _) (by omega),evs_none F lf k (c+1) (by omega) (fun j h1 h2 => hn j (by omega) (by omega))]
  rw [show c+1+k=c+(k+1) by omega]
  rfl
theorem evs_skip {F:Nat→Option Nat} {lf:Nat→Nat→Int} {c d:Nat} (h:c≤d) (hd:d≤eM) (hn:∀ j,c≤j→j<d→ev F lf j=none) : evs F lf c=evs F lf d := by
 obtain ⟨k,rfl⟩ : ∃ k,d=c+k := ⟨d - c,by omega⟩
 exact evs_none F lf k c hd hn
theorem evs_hit {F:Nat→Option Nat} {lf:Nat→Nat→Int} {c d:Nat} {x:Ev} (h:c≤d) (hd:d<eM) (hn:∀ j,c≤j→j<d→ev F lf j=none) (hx:ev F lf d=some x) : evs F lf c=x :: evs F lf (d+1) := by
 rw [evs_skip h (Nat.le_of_lt hd) hn,evs_step F lf d hd,hx]
 rfl
theorem ev_none2 {F:Nat→Option Nat} {lf:Nat→Nat→Int} {j:Nat} (h:F (x1 (j / 3))=none) : ev F lf j=none := by
 unfold ev
 rw [h]
 split
 ·split <;> rfl
 ·split
  ·split <;> rfl
  ·rfl
theorem ev_none1 {F:Nat→Option Nat} {lf:Nat→Nat→Int} {j:Nat} (h:F (x0 (j / 3))=none) (h3:j % 3≠0∨j / 3 % 262144≠0) : ev F lf j=none := by
 unfold ev
 rw [h]
 split
 ·rw [if_neg (by omega)]
 ·split
  ·split
   ·cases F (x1 (j / 3)) <;> rfl
   ·rfl
  ·cases F (x1 (j / 3)) <;> rfl
theorem ev_none0 {F:Nat→Option Nat} {lf:Nat→Nat→Int} {j:Nat} (h:lf (x0 (j / 3)) (j / 3 % 512)=0) (h3:j % 3=2∨(j / 3 % 512≠0)) : ev F lf j=none := by
 unfold ev
 rw [h]
 split
 ·rw [if_neg (by omega)]
 ·split
  ·rw [if_neg (by omega)]
  ·cases F (x1 (j / 3)) with
   | none => rfl
   | some g => cases F (x0 (j / 3)) <;> rfl
end Rm
namespace Rm
open Go.RowKit
def brElem : Value→Option (DataW Unit × List MemPlace)
 | .agg cs => match cs.toList with
  | [.int .u64 a,.int .i64 b] => some (.agg [.lit (.int .u64 a),.lit (.int .i64 b)],[])
  | _ => none
 | _ => none
def brD (x:Int × Int) : DataW Unit := .agg [.lit (.int .u64 x.1),.lit (.int .i64 x.2)]
def brV (x:Int × Int) : Value := .agg #[.int .u64 x.1,.int .i64 x.2]
theorem brElem_mk (x:Int × Int) : brElem (brV x)=some (brD x,[]) := rfl
theorem brElem_inv {v:Value} {x:Int × Int} {ps:List MemPlace} (h:brElem v=some (brD x,ps)) : v=brV x := by
 unfold brElem at h
 split at h
 ·rename_i cs
  split at h
  ·rename_i a b hl
   simp only [Option.some.injEq,Prod.mk.injEq,brD,DataW.agg.injEq,List.cons.injEq,DataW.lit.injEq,Lit.int.injEq,true_and,and_true] at h
   obtain ⟨⟨h1,h2⟩,_⟩ := h
   unfold brV
   rw [← h1,← h2]
   congr 1
   cases cs
   simp only at hl
   rw [hl]
  ·cases h
 ·cases h
structure Tm (w:World) (m:Nat) (tm:Int→Option (Int × Int)) (n:Nat) : Prop where
 own : ∃ D : DataW Unit,w.ownsMap Tryz.prog 23 brElem m n D ∧ ∀ a : Int,0≤a→a<18446744073709551616→Maps.has D (.int .u64 a)=(tm a).isSome∧D.atKey (.int .u64 a) (brD (0,0))=brD ((tm a).getD (0,0))
theorem zero100 (w:World) : (zeroValue 236).run Tryz.prog w = .ok (brV (0,0)) w := by kernel_rfl
theorem key28 (a:Int) (h:0≤a∧a<18446744073709551616) : keyOf Tryz.prog 23 (.int .u64 a)=some (.int .u64 a) := Maps.keyOf_int_mk Tryz.underlying23 (by simp [Lit.wf,IntKind.min,IntKind.max,IntKind.signed,IntKind.bits]; omega)
theorem Tm.below {w w':World} {m n:Nat} {tm:Int→Option (Int × Int)} (h:Tm w m tm n) (b:Below w.heap.size w w') : Tm w' m tm n := by
 obtain ⟨D,h1,h2⟩ := h.own
 have hl := h1.lt
 obtain ⟨es,cl,hb,r⟩ := h1
 exact ⟨D,⟨es,cl,(b.block m hl).trans hb,r⟩,h2⟩
theorem Tm.new (w:World) : Tm (w.alloc (.map #[] 0)) w.heap.size (fun _ => none) 0 :=
 ⟨.map [],World.ownsMap_made w Tryz.prog 23 brElem,fun a _ _ => ⟨rfl,rfl⟩⟩
theorem Tm.look {w:World} {m n:Nat} {tm:Int→Option (Int × Int)} (h:Tm w m tm n) (a:Int) (ha:0≤a∧a<18446744073709551616) : (Instr.lookup 259 (.map (some m)) (.int .u64 a) false).run Tryz.prog w = .ok (brV ((tm a).getD (0,0))) w := by
 obtain ⟨D,h1,h2⟩ := h.own
 obtain ⟨v,ps,hr,hv⟩ := h1.lookup law22 Tryz.underlying259 (zero100 w) (brElem_mk (0,0)) (key28 a ha)
 rw [(h2 a ha.1 ha.2).2] at hv
 rw [hr,brElem_inv hv]
theorem Tm.look2 {w:World} {m n:Nat} {tm:Int→Option (Int × Int)} (h:Tm w m tm n) (a:Int) (ha:0≤a∧a<18446744073709551616) : (Instr.lookup 259 (.map (some m)) (.int .u64 a) true).run Tryz.prog w = .ok (.tuple #[brV ((tm a).getD (0,0)),.bool (tm a).isSome]) w := by
 obtain ⟨D,h1,h2⟩ := h.own
 obtain ⟨v,ps,hr,hv⟩ := h1.look_ok law22 Tryz.underlying259 (zero100 w) (brElem_mk (0,0)) (key28 a ha)
 rw [(h2 a ha.1 ha.2).2] at hv
 rw [hr,brElem_inv hv,(h2 a ha.1 ha.2).1]
def setM (tm:Int→Option (Int × Int)) (a:Int) (x:Int × Int) : Int→Option (Int × Int) := fun b => if b=a then some x else tm b
theorem Tm.put {w:World} {m n:Nat} {tm:Int→Option (Int × Int)} (h:Tm w m tm n) (hn:n<1000000000) (a:Int) (ha:0≤a∧a<18446744073709551616) (x:Int × Int) : ∃ w',(Instr.mapUpdate 259 (.map (some m)) (.int .u64 a) (brV x)).run Tryz.prog w = .ok () w'∧Tm w' m (setM tm a x) (n+1)∧w.mapTurned w' m := by
 obtain ⟨D,h1,h2⟩ := h.own
 obtain ⟨w',hr,ho,ht⟩ := h1.store law22 Tryz.underlying259 (by simp only [maxLen]; omega) (key28 a ha) (brElem_mk x)
 refine ⟨w',hr,⟨_,ho,fun b h3 h4 => ?_⟩,ht⟩
 unfold setM
 by_cases e : b=a
 ·subst e
  rw [if_pos rfl]
  exact ⟨Maps.has_put_same h1.isMap (isKey _) _,Maps.atKey_put_same h1.isMap (isKey _) _ _⟩
 ·rw [if_neg e]
  refine ⟨?_,?_⟩
  ·rw [Maps.has_put_other (ne_lit e)]
   exact (h2 b h3 h4).1
  ·rw [Maps.atKey_put_other (ne_lit e)]
   exact (h2 b h3 h4).2
def folT (tm:Int→Option (Int × Int)) (va l e:Int) : Bool := decide ((tm (adE e)).getD (0,0)=(va - va % spn l,l))
section
variable {w:World} {v:Value}
theorem guard_br (x y : Operand) (a b c d : Int) (w : World) : (eqGuard .eql 236 x y (.agg #[.int .u64 a, .int .i64 b]) (.agg #[.int .u64 c, .int .i64 d])).run Tryz.prog w = .ok () w := by kernel_rfl
attribute [local go_sem] guard_br
set_option maxRecDepth 10000 in
set_option maxHeartbeats 1000000 in
theorem meetT_any {T m n:Nat} {root va:Int} {tm:Int→Option (Int × Int)} (t:Tour w T v root va (.map (some m))) (h:Tm w m tm n) (hv:0≤va∧va<18446744073709551616) (l a e:Int) (hl:l=0∨l=1∨l=2) (he:0≤e∧e<18446744073709551616) :
  Calls Tryz.prog 244 #[.pointer (some ⟨T,0,.none⟩),.int .i64 l,.int .u64 a,.int .u64 e] w fun r w' => r = .returned (.tuple #[.int .u64 e,.bool (folT tm va l e)])∧Below w.heap.size w w' := by
 have c46 := fun W => address_any e W he
 have had := adE_b e
 have HS : Hid (∀ U,Below w.heap.size w U→Tour U T v root va (.map (some m))∧Tm U m tm n) := fun U b => ⟨t.below b,h.below b⟩
 have kS : Below w.heap.size w w.drew := (Below.refl _ _).drew
 have c82 := fun (U:World) (hU:Below w.heap.size w U) => branch_any T va l (by omega) hv (HS.out U hU).1.c2
 have hf : folT tm va l e=decide ((tm (adE e)).getD (0,0)=(va - va % spn l,l)) := rfl
 have hlk := fun (U:World) (hU:Below w.heap.size w U) => (HS.out U hU).2.look (adE e) had
 generalize (tm (adE e)).getD (0,0)=x at hf hlk
 obtain ⟨x1,x2⟩ := x
 rw [hf]
 generalize va - va % spn l=y at c82
 generalize adE e=z at c46 hlk had
 clear t h hf
 simp only [brV] at hlk
 go_enter Tryz.func244,Tryz.ntmps244
 go_upto_region 1 with fail
 refine wp_region_held_drew (S:=fun U => Below w.heap.size w U) (by kernel_rfl) kS (fun hHeld => ?_)
 refine aT 0 (.int .u64 e) rfl ?_
 simp only [X0,X1,X2,X3,X4,X5,X6]
 refine aT 1 (.pointer (some ⟨T,0,.none⟩)) rfl ?_
 simp only [X0,X1,X2,X3,X4,X5,X6]
 refine aT 2 (.pointer (some ⟨T,0,.none⟩)) rfl ?_
 simp only [X0,X1,X2,X3,X4,X5,X6]
 refine aT 3 (.pointer (some ⟨T,3,.none⟩)) rfl ?_
 simp only [X0,X1,X2,X3,X4,X5,X6]
 refine aT 4 (.map (some m)) rfl ?_ (fun ww hSw => by (try dsimp only at hSw); have q3 := (HS.out ww hSw).1.c3; go_simp)
 simp only [X0,X1,X2,X3,X4,X5,X6]
 refine aT 5 (.int .u64 e) rfl ?_
 simp only [X0,X1,X2,X3,X4,X5,X6]
 refine aT 8 (.pointer (some ⟨T,0,.none⟩)) rfl ?_
 simp only [X0,X1,X2,X3,X4,X5,X6]
 refine aT 9 (.int .i64 l) rfl ?_
 simp only [X0,X1,X2,X3,X4,X5,X6]
 refine wpAnyH_ready (rs:=[6]) (by kernel_rfl) (by simp) ?_
 refine AllReadyH.cons rfl (fun K hK => ?_) AllReadyH.nil
 go_simp
 go_at_call 56
 refine (c46 _).mono ?_
 rintro _ w1 ⟨rfl,e1⟩
 refine hK.out _ _ (by rw [e1]; exact kS) (fun hHeld => ?_)
 clear hK K
 try simp only [X0,X1,X2,X3,X4,X5,X6]
 clear e1
 refine aT 7 (.agg #[.int .u64 x1,.int .i64 x2]) rfl ?_ (fun ww hSw => by (try dsimp only at hSw); have q3 := hlk ww hSw; go_simp)
 simp only [X0,X1,X2,X3,X4,X5,X6]
 have kS1 : Below w.heap.size w w1 := by assumption
 refine wpAnyH_ready (rs:=[10]) (by kernel_rfl) (by simp) ?_
 refine AllReadyH.cons rfl (fun K hK => ?_) AllReadyH.nil
 go_simp
 go_at_call 212
 refine (c82 _ kS1).mono ?_
 rintro _ w2 ⟨rfl,b2⟩
 have kS2 : Below w.heap.size w w2 := kS1.trans (b2.mono kS1.size)
 refine hK.out _ _ kS2 (fun hHeld => ?_)
 clear hK K
 try simp only [X0,X1,X2,X3,X4,X5,X6]
 refine aT 11 (.bool (decide ((x1,x2)=(y,l)))) rfl ?_ (fun ww hSw => by (try dsimp only at hSw); go_simp; (by_cases hh1:x1=y <;> by_cases hh2 : x2=l <;> simp [hh1,hh2]))
 simp only [X0,X1,X2,X3,X4,X5,X6]
 refine aT 12 (.int .u64 e) rfl ?_
 simp only [X0,X1,X2,X3,X4,X5,X6]
 refine aT 13 (.bool (decide ((x1,x2)=(y,l)))) rfl ?_
 simp only [X0,X1,X2,X3,X4,X5,X6]
 refine wpAnyH_done (by kernel_rfl) ?_ _
 go_wp2_with fail
 exact bodyPost_ret (v:=.tuple #[.int .u64 e,.bool (decide ((x1,x2)=(y,l)))]) (by simp [results,Tryz.results244,go_sem]) rfl ⟨rfl,kS2⟩
set_option maxRecDepth 10000 in
set_option maxHeartbeats 1000000 in
theorem tells_any {p b mm N T m n:Nat} {B:Nat→Int} {L:List Nat} {root va pa:Int} {tm:Int→Option (Int × Int)} (hR:Ram w p b mm N B L) (t:Tour w T (.pointer (some ⟨p,0,.none⟩)) root va (.map (some m))) (h:Tm w m tm n) (hp:0≤pa∧pa<18446744073709551616) (hr:pa≠root) (hn:ndB N L pa=true) (hno:tm pa=none) :
  Calls Tryz.prog 213 #[.pointer (some ⟨T,0,.none⟩),.int .u64 pa] w fun r w' => r = .returned (.bool true)∧Below w.heap.size w w' := by
 have c42 := isNode_any hR pa hp
 rw [hn] at c42
 have k0 := t.c0
 have k1 := t.c1
 have hne : (pa == root)=false := by simpa using hr
 have HT : Hid (Tour w T (.pointer (some ⟨p,0,.none⟩)) root va (.map (some m))∧Tm w m tm n) := ⟨t,h⟩
 clear hR hn hr t h
 go_enter Tryz.func213,Tryz.ntmps213
 go_upto_region 3 with (go_at_call 159; refine c42.mono ?_; rintro _ w1 ⟨rfl,b1⟩; have H1 : Hid (Below w.heap.size w w1) := b1; clear b1 c42)
 have q3 := (HT.out.1.below H1.out).c3
 have ql := (HT.out.2.below H1.out).look2 pa hp
 rw [hno] at ql
 simp only [brV,Option.getD_none,Option.isSome_none] at ql
 go_wp2_with fail
 go_ret
 exact ⟨rfl,H1.out.alloc H1.out.size _⟩
end
end Rm
namespace Rm
open Go.RowKit
def nP (x:Nat) : Nat := if x≤512 then (x - 1)*262144 else (x - 513) / 512*262144+(x - 513) % 512*512
def nK (x:Nat) : Nat := if x≤512 then 3*nP x else 3*nP x+1
def nB (x:Nat) : Int × Int := (vaP (nP x),if x≤512 then 2 else 1)
theorem nP_1 (P:Nat) (h:P<134217728) : nP (x1 P)=P / 262144*262144 := by
 unfold nP x1
 rw [if_pos (by omega),Nat.add_sub_cancel_left]
theorem nP_0 (P:Nat) (h:P<134217728) : nP (x0 P)=P / 512*512 := by
 unfold nP x0
 rw [if_neg (by omega)]
 omega
theorem nK_1 (P:Nat) (h:P<134217728) : nK (x1 P)=3*(P / 262144*262144) := by
 have := nP_1 P h
 unfold nK
 rw [if_pos (by unfold x1; omega),this]
theorem nK_0 (P:Nat) (h:P<134217728) : nK (x0 P)=3*(P / 512*512)+1 := by
 have := nP_0 P h
 unfold nK
 rw [if_neg (by unfold x0; omega),this]
theorem nB_1 (P:Nat) (h:P<134217728) : nB (x1 P)=(vaP P - vaP P % spn 2,2) := by
 unfold nB
 rw [nP_1 P h,if_pos (by unfold x1; omega),spn2]
 unfold vaP
 congr 1
 omega
theorem nB_0 (P:Nat) (h:P<134217728) : nB (x0 P)=(vaP P - vaP P % spn 1,1) := by
 unfold nB
 rw [nP_0 P h,if_neg (by unfold x0; omega),spn1]
 unfold vaP
 congr 1
 omega
theorem node_form (x:Nat) (h0:x≠0) (hx:x<262657) : ∃ P,P<134217728∧nP x=P∧((x=x1 P∧P % 262144=0∧nK x=3*P)∨(x=x0 P∧P % 512=0∧nK x=3*P+1)) := by
 by_cases h : x≤512
 ·refine ⟨(x - 1)*262144,by omega,by unfold nP; rw [if_pos h],.inl ⟨by unfold x1; omega,by omega,by unfold nK nP; rw [if_pos h,if_pos h]⟩⟩
 ·refine ⟨(x - 513) / 512*262144+(x - 513) % 512*512,by omega,by unfold nP; rw [if_neg h],.inr ⟨by unfold x0; omega,by omega,by unfold nK nP; rw [if_neg h,if_neg h]⟩⟩
theorem nK_inj {x y:Nat} (hx:x≠0) (hy:y≠0) (h:nK x=nK y) : x=y := by
 unfold nK nP at h
 split at h <;> split at h <;> omega
section
variable {N:Nat} {L:List Nat} {B:Nat→Int} {F:Nat→Option Nat} {lf:Nat→Nat→Int}
def TI (F:Nat→Option Nat) (c:Nat) (tm:Int→Option (Int × Int)) : Prop := ∀ x f,x≠0→F x=some f→tm (ad f)=if nK x<c then some (nB x) else none
theorem ev_node (h:PT N L B F lf) {x f:Nat} (h0:x≠0) (hf:F x=some f) : ev F lf (nK x)≠none := by
 obtain ⟨P,hP,_,⟨h1,h2,h3⟩ | ⟨h1,h2,h3⟩⟩ := node_form x h0 (h.dom x (by rw [hf]; simp))
 ·unfold ev
  rw [h3,if_pos (by omega),show 3*P / 3=P by omega,if_pos h2,← h1,hf]
  simp
 ·unfold ev
  have hu : F (x1 P)≠none := by
   have := h.up (x1 P) (P / 512 % 512) (by unfold x1; omega) (by omega)
   have e : ch (x1 P) (P / 512 % 512)=x0 P := by unfold ch x1 x0; rw [if_neg (by omega)]; omega
   rw [e,← h1,hf] at this
   exact this (by simp)
  cases hg : F (x1 P) with
  | none => exact absurd hg hu
  | some g =>
   rw [h3,if_neg (by omega),if_pos (by omega),show (3*P+1) / 3=P by omega,if_pos h2,hg,← h1,hf]
   simp
theorem TI.skip (h:PT N L B F lf) {c d:Nat} {tm:Int→Option (Int × Int)} (t:TI F c tm) (hcd:c≤d) (hn:∀ j,c≤j→j<d→ev F lf j=none) : TI F d tm := by
 intro x f h0 hf
 rw [t x f h0 hf]
 by_cases h1 : nK x<c
 ·rw [if_pos h1,if_pos (by omega)]
 ·rw [if_neg h1]
  by_cases h2 : nK x<d
  ·exact absurd (hn _ (by omega) h2) (ev_node h h0 hf)
  ·rw [if_neg h2]
theorem ad_inj {f g:Nat} (h:ad f=ad g) : f=g := by unfold ad at h; omega
theorem TI.put (h:PT N L B F lf) {c d x f:Nat} {tm:Int→Option (Int × Int)} (t:TI F c tm) (hcd:c≤d) (hn:∀ j,c≤j→j<d→ev F lf j=none) (h0:x≠0) (hf:F x=some f) (hd:nK x=d) : TI F (d+1) (setM tm (ad f) (nB x)) := by
 intro y g h1 hg
 unfold setM
 by_cases e : ad g=ad f
 ·rw [if_pos e]
  obtain rfl : g=f := ad_inj e
  obtain rfl : y=x := h.inj y x g hg hf
  rw [if_pos (by omega)]
 ·rw [if_neg e,(t.skip h hcd hn) y g h1 hg]
  have hne : nK y≠d := fun e2 => by
   obtain rfl : y=x := nK_inj h1 h0 (by omega)
   rw [hf] at hg
   injection hg with hg
   exact e (by rw [hg])
  by_cases h2 : nK y<d
  ·rw [if_pos h2,if_pos (by omega)]
  ·rw [if_neg h2,if_neg (by omega)]
theorem rt_some {r:Nat} (hr:F 0=some r) : rtF F=r := by unfold rtF; rw [hr]; rfl
theorem lookT_2 (h:PT N L B F lf) (fol:Int→Int→Bool) {r:Nat} (hr:F 0=some r) (va:Int) (hn:F (y1 va)=none) : lookT N L B fol (ad r) va=⟨0,0,st (ad r) va 2,2,0,0⟩ := by
 unfold lookT
 have e : evn B r (ix va 2).toNat=0 := by
  have := h.ep 0 r (by omega) hr (i2 va) (i2_lt va)
  rw [show ch 0 (i2 va)=y1 va from rfl,hn] at this
  exact this
 rw [wkT_stop2 (h.ndB hr) (by rw [ent_evn,e,kd_zero]; omega),ent_evn,e,kd_zero]
theorem lookT_2p (h:PT N L B F lf) (hN:N≤4096) (fol:Int→Int→Bool) {r g:Nat} (hr:F 0=some r) (va:Int) (hg:F (y1 va)=some g) (hf:fol 2 (ptr (some g))=false) : lookT N L B fol (ad r) va=⟨0,0,st (ad r) va 2,2,ptr (some g),3⟩ := by
 unfold lookT
 have hgN := (h.held _ _ hg).2.1
 have e : evn B r (ix va 2).toNat=ptr (some g) := by
  have := h.ep 0 r (by omega) hr (i2 va) (i2_lt va)
  rw [show ch 0 (i2 va)=y1 va from rfl,hg] at this
  exact this
 rw [wkT_stop2 (h.ndB hr) (by rw [ent_evn,e,hf]; simp),ent_evn,e,ptr_kd hgN hN 2 (.inr rfl)]
theorem lookT_1 (h:PT N L B F lf) (hN:N≤4096) (fol:Int→Int→Bool) {r g:Nat} (hr:F 0=some r) (va:Int) (hg:F (y1 va)=some g) (hf:fol 2 (ptr (some g))=true) (hn:F (y0 va)=none) : lookT N L B fol (ad r) va=⟨0,st (ad g) va 1,st (ad r) va 2,1,0,0⟩ := by
 unfold lookT
 have hgN := (h.held _ _ hg).2.1
 have e : evn B r (ix va 2).toNat=ptr (some g) := by
  have := h.ep 0 r (by omega) hr (i2 va) (i2_lt va)
  rw [show ch 0 (i2 va)=y1 va from rfl,hg] at this
  exact this
 have e1 : evn B g (ix va 1).toNat=0 := by
  have := h.ep (y1 va) g (y1_le va).1 hg (i1 va) (i1_lt va)
  rw [show ch (y1 va) (i1 va)=y0 va from rfl,hn] at this
  exact this
 rw [wkT_go2 (h.ndB hr) (by rw [ent_evn,e]; exact ⟨ptr_kd hgN hN 2 (.inr rfl),hf⟩),ent_evn,e,ptr_ad hgN hN,wkT_stop1 (h.ndB hg) (by rw [ent_evn,e1,kd_zero]; omega),ent_evn,e1,kd_zero]
theorem lookT_1p (h:PT N L B F lf) (hN:N≤4096) (fol:Int→Int→Bool) {r g q:Nat} (hr:F 0=some r) (va:Int) (hg:F (y1 va)=some g) (hf:fol 2 (ptr (some g))=true) (hq:F (y0 va)=some q) (hf1:fol 1 (ptr (some q))=false) : lookT N L B fol (ad r) va=⟨0,st (ad g) va 1,st (ad r) va 2,1,ptr (some q),3⟩ := by
 unfold lookT
 have hgN := (h.held _ _ hg).2.1
 have hqN := (h.held _ _ hq).2.1
 have e : evn B r (ix va 2).toNat=ptr (some g) := by
  have := h.ep 0 r (by omega) hr (i2 va) (i2_lt va)
  rw [show ch 0 (i2 va)=y1 va from rfl,hg] at this
  exact this
 have e1 : evn B g (ix va 1).toNat=ptr (some q) := by
  have := h.ep (y1 va) g (y1_le va).1 hg (i1 va) (i1_lt va)
  rw [show ch (y1 va) (i1 va)=y0 va from rfl,hq] at this
  exact this
 rw [wkT_go2 (h.ndB hr) (by rw [ent_evn,e]; exact ⟨ptr_kd hgN hN 2 (.inr rfl),hf⟩),ent_evn,e,ptr_ad hgN hN,wkT_stop1 (h.ndB hg) (by rw [ent_evn,e1,hf1]; simp),ent_evn,e1,ptr_kd hqN hN 1 (.inl rfl)]
theorem lookT_0 (h:PT N L B F lf) (hN:N≤4096) (fol:Int→Int→Bool) {r g q:Nat} (hr:F 0=some r) (va:Int) (hg:F (y1 va)=some g) (hf:fol 2 (ptr (some g))=true) (hq:F (y0 va)=some q) (hf1:fol 1 (ptr (some q))=true) : lookT N L B fol (ad r) va=⟨st (ad q) va 0,st (ad g) va 1,st (ad r) va 2,0,lf (y0 va) (i0 va),kd (lf (y0 va) (i0 va)) 0⟩ := by
 unfold lookT
 have hgN := (h.held _ _ hg).2.1
 have hqN := (h.held _ _ hq).2.1
 have e : evn B r (ix va 2).toNat=ptr (some g) := by
  have := h.ep 0 r (by omega) hr (i2 va) (i2_lt va)
  rw [show ch 0 (i2 va)=y1 va from rfl,hg] at this
  exact this
 have e1 : evn B g (ix va 1).toNat=ptr (some q) := by
  have := h.ep (y1 va) g (y1_le va).1 hg (i1 va) (i1_lt va)
  rw [show ch (y1 va) (i1 va)=y0 va from rfl,hq] at this
  exact this
 have e0 : evn B q (ix va 0).toNat=lf (y0 va) (i0 va) := h.el (y0 va) q (y0_ge va) hq (i0 va) (i0_lt va)
 rw [wkT_go2 (h.ndB hr) (by rw [ent_evn,e]; exact ⟨ptr_kd hgN hN 2 (.inr rfl),hf⟩),ent_evn,e,ptr_ad hgN hN,wkT_go1 (h.ndB hg) (by rw [ent_evn,e1]; exact ⟨ptr_kd hqN hN 1 (.inl rfl),hf1⟩),ent_evn,e1,ptr_ad hqN hN,wkT_stop0 (h.ndB hq),ent_evn,e0]
end
end Rm
namespace Rm
open Go.RowKit
theorem hs_odd (e:Int) (he:0≤e∧e<18446744073709551616) : hs e 1=decide (e % 2=1) := by
 unfold hs
 have h1 : bits .and .u64 e ((1:Nat) : Int)=(((e % 1024).toNat &&& 1 : Nat) : Int) := and_low e he 1 (by omega)
 rw [show ((1:Nat) : Int)=1 from rfl] at h1
 rw [h1,Nat.and_one_is_mod]
 by_cases h : e % 2=1
 ·have : (e % 1024).toNat % 2=1 := by omega
  rw [this]
  simp [h]
 ·have : (e % 1024).toNat % 2=0 := by omega
  rw [this]
  simp [h]
theorem num_odd (B:Nat→Int) (o:Nat) : num B o 8 % 2=B o % 2 := by
 simp only [num,Nat.add_zero]
 omega
theorem kd_odd {e:Int} (h:kd e 0=2) : hs e 1=true := by
 unfold kd at h
 split at h
 ·cases h
 ·rename_i hn
  cases hh : hs e 1
  ·exact absurd hh hn
  ·rfl
theorem ft_none (B:Nat→Int) (g:Nat) (k:Nat) : ∀ (j i:Nat),j≤i→i<j+k→(i:Int)<ft B g k j→hs (B (g*4096+i*8)) 1=false := by
 induction k with
 | zero =>
  intro j i h1 h2 h3
  clear h3
  omega
 | succ k ih =>
  intro j i h1 h2 h3
  have e : ft B g (k+1) j=if hs (B (g*4096+j*8)) 1=true then (j:Int) else ft B g k (j+1) := rfl
  rw [e] at h3
  clear e
  split at h3
  ·omega
  ·rename_i hh
   by_cases e : i=j
   ·subst e
    simpa using hh
   ·exact ih (j+1) i (by clear h3; omega) (by clear h3; omega) h3
theorem evn_odd {B:Nat→Int} (hB:∀ i,0≤B i∧B i<256) (g i:Nat) (h:hs (B (g*4096+i*8)) 1=false) : evn B g i % 2=0 := by
 have hb := hB (g*4096+i*8)
 rw [hs_odd _ (by omega)] at h
 unfold evn
 rw [num_odd]
 simp at h
 omega
section
variable {N:Nat} {L:List Nat} {B:Nat→Int} {F:Nat→Option Nat} {lf:Nat→Nat→Int}
theorem ptr_odd {f:Nat} (hf:f<N) (hN:N≤4096) : ptr (some f) % 2=1 := by
 show toP (ad f) 0 % 2=1
 rw [toP_val _ _ (by unfold ad; omega) (by omega) (by omega)]
 unfold ad
 omega
theorem PT.noP (h:PT N L B F lf) (hN:N≤4096) (hB:∀ i,0≤B i∧B i<256) {x g i:Nat} (hx:x≤512) (hg:F x=some g) (hi:i<512) (hz:hs (B (g*4096+i*8)) 1=false) : F (ch x i)=none := by
 have e := h.ep x g hx hg i hi
 have o := evn_odd hB g i hz
 cases hc : F (ch x i) with
 | none => rfl
 | some f =>
  rw [hc] at e
  have := ptr_odd (h.held _ _ hc).2.1 hN
  omega
theorem PT.noL (h:PT N L B F lf) (hB:∀ i,0≤B i∧B i<256) {y g i:Nat} (hy:513≤y) (hg:F y=some g) (hi:i<512) (hz:hs (B (g*4096+i*8)) 1=false) : lf y i=0 := by
 have e := h.el y g hy hg i hi
 have o := evn_odd hB g i hz
 rcases h.lv y i with h1 | ⟨h1,h2,h3⟩
 ·exact h1
 ·have := kd_odd h1
  rw [hs_odd _ ⟨h2,h3⟩] at this
  simp at this
  omega
end
end Rm
end Go.Proofs.YtabnipbdbnmmpaaGreatDoor
