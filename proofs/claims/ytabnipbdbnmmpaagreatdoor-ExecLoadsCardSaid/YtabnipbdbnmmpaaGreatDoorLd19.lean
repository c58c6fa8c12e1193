import Derived.Test.YtabnipbdbnmmpaaGreatDoorLd01
import Derived.Test.YtabnipbdbnmmpaaGreatDoorLd18
import Derived.Lib.SlBytesRow
import Derived.Laws.BytesArg
import Derived.Deep.OwnRows
set_option linter.unusedVariables false
set_option linter.unusedSimpArgs false
set_option maxHeartbeats 8000000
namespace Go.Proofs.YtabnipbdbnmmpaaGreatDoor
section
open Go.RowKit Go.Shelf
def stx (s:Int) (xs:List Bs):Int:=xs.foldl (fun s x=>(s-x.length-1)/16*16) s
theorem stx_le:∀ (xs:List Bs) (s:Int),stx s xs<=s
 |[],s=>Int.le_refl _
 |x :: r,s=>Int.le_trans (stx_le r ((s-x.length-1)/16*16)) (by omega)
theorem stx_next {xs:List Bs} {i:Nat} {x:Bs} (h:xs[i]? = some x) (s:Int):stx s (xs.take (i+1))=(stx s (xs.take i)-x.length-1)/16*16:=by
 rw[List.take_add_one,h]
 simp[stx,List.foldl_append]
def rm (xs:List Bs):Bool:=decide (0<=stx 4096 xs-8*(xs.length+1))
theorem rm_no {xs:List Bs} {i:Nat} (h:stx 4096 (xs.take i)<0):rm xs=false:=by
 have h1:stx 4096 xs=stx (stx 4096 (xs.take i)) (xs.drop i):=by
  conv=>lhs;rw[<-List.take_append_drop i xs]
  simp only[stx,List.foldl_append]
 have h2:=stx_le (xs.drop i) (stx 4096 (xs.take i))
 simp only[rm,decide_eq_false_iff_not]
 omega
def stF (xs:List Bs):Nat->Nat->Int
 |0=>fun _=>0
 |i+1=>layR (stF xs i) (stx 4096 (xs.take (i+1))).toNat (xs.getD i [])
def ptB (at_:Int) (xs:List Bs) (k l:Nat):Int:=(at_+stx 4096 (xs.take (k+1)))/256 ^ l%256
def ptR (at_:Int) (xs:List Bs) (R:Nat->Int) (sp m:Nat):Nat->Int:=fun a=>if sp<=a∧a<sp+m then ptB at_ xs ((a-sp)/8) ((a-sp)%8) else R a
def StI (at_:Int) (xs:List Bs) (i:Nat) (R:Nat->Int) (bs:List Int):Prop:=
 bs.length=8*i∧(∀ j:Nat,(j:Int)<stx 4096 (xs.take i)->R j=0) ∧
 (∀ k x,k<i->xs[k]? = some x -> ∃ p:Nat,stx 4096 (xs.take (k+1))=(p:Int)∧stx 4096 (xs.take i)<=p∧p+x.length+1<=4096∧(∀ j y,x[j]? = some y->R (p+j)=(y.toNat:Int))∧R (p+x.length)=0∧∀ l,l<8->bs[8*k+l]? = some ((at_+p)/256 ^ l%256))∧R=stF xs i
theorem StI.zero (at_:Int) (xs:List Bs):StI at_ xs 0 (fun _=>0) []:=⟨rfl,fun _ _=>rfl,fun k x h=>by omega,rfl⟩
theorem StI.step {at_:Int} {xs:List Bs} {i:Nat} {R:Nat->Int} {bs:List Int} (h:StI at_ xs i R bs) {x:Bs} (hx:xs[i]? = some x) {y:Nat} (hy:stx 4096 (xs.take (i+1))=y):StI at_ xs (i+1) (layR R y x) (bs ++ l8 (at_+y) 8):=by
 have hn:=stx_next hx 4096
 have hle:=stx_le (xs.take i) 4096
 rw[hy] at hn
 obtain⟨h1,h2,h3,h4⟩:=h
 refine⟨by rw[List.length_append,l8_len,h1];omega,fun j hj=>?_,fun k z hk hz=>?_,?_⟩
 ·rw[hy] at hj
  unfold layR
  rw[if_neg (by omega)]
  exact h2 j (by omega)
 ·rw[hy]
  by_cases hki:k=i
  ·subst hki
   rw[hx] at hz
   injection hz with hz
   subst hz
   refine⟨y,hy,by omega,by omega,fun j u hu=>?_,?_,fun l hl=>?_⟩
   ·have hj:=(List.getElem?_eq_some_iff.1 hu).1
    unfold layR
    rw[if_pos (by omega),show y+j-y=j by omega,List.getD_eq_getElem?_getD,hu]
    rfl
   ·unfold layR
    rw[if_neg (by omega)]
    exact h2 _ (by omega)
   ·rw[List.getElem?_append_right (by omega),h1,show 8*k+l-8*k=l by omega]
    exact l8_get _ hl
  ·obtain⟨p,p0,p1,p2,p3,p4,p5⟩:=h3 k z (by omega) hz
   refine⟨p,p0,by omega,p2,fun j u hu=>?_,?_,fun l hl=>?_⟩
   ·unfold layR
    rw[if_neg (by omega)]
    exact p3 j u hu
   ·unfold layR
    rw[if_neg (by omega)]
    exact p4
   ·rw[List.getElem?_append_left (by omega)]
    exact p5 l hl
 ·rw[h4]
  show layR (stF xs i) y x=layR (stF xs i) (stx 4096 (xs.take (i+1))).toNat (xs.getD i [])
  rw[hy,List.getD_eq_getElem?_getD,hx]
  rfl
def StkR (at_:Int) (xs:List Bs) (R:Nat->Int) (sp:Nat):Prop:=
 (∀ l,l<8->R (sp+8*xs.length+l)=0)∧sp+8*xs.length+8<=4096∧sp%16=0 ∧
 (∀ k x,xs[k]? = some x -> ∃ p:Nat,stx 4096 (xs.take (k+1))=(p:Int)∧sp+8*xs.length+8<=p∧p+x.length+1<=4096∧(∀ j y,x[j]? = some y->R (p+j)=(y.toNat:Int))∧R (p+x.length)=0∧∀ l,l<8->R (sp+8*k+l)=(at_+p)/256 ^ l%256)∧∀ a,R a=ptR at_ xs (stF xs xs.length) sp (8*xs.length) a
theorem StI.done {at_:Int} {xs:List Bs} {R:Nat->Int} {bs:List Int} (h:StI at_ xs xs.length R bs) {t:Bs} (ht:t.map (fun u=>(u.toNat:Int))=bs) {sp:Nat} (hs:(stx 4096 xs-8*(xs.length+1))/16*16=(sp:Int)):StkR at_ xs (layR R sp t) sp:=by
 obtain⟨h1,h2,h3,h4⟩:=h
 have hle:=stx_le xs 4096
 rw[List.take_length] at h2
 have htl:t.length=8*xs.length:=by rw[<-h1,<-ht,List.length_map]
 have hb:∀ j v,bs[j]? = some v->layR R sp t (sp+j)=v:=fun j v hv=>by
  have hj:=(List.getElem?_eq_some_iff.1 hv).1
  rw[<-ht,List.getElem?_map] at hv
  unfold layR
  rw[if_pos (by omega),show sp+j-sp=j by omega,List.getD_eq_getElem?_getD]
  cases hq:t[j]? with
  |none=>rw[hq] at hv;cases hv
  |some u=>rw[hq] at hv;injection hv
 refine⟨fun l hl=>?_,by omega,by omega,fun k x hx=>?_,fun a=>?_⟩
 ·unfold layR
  rw[if_neg (by omega)]
  exact h2 _ (by omega)
 ·have hk:=(List.getElem?_eq_some_iff.1 hx).1
  obtain⟨p,p0,p1,p2,p3,p4,p5⟩:=h3 k x hk hx
  rw[List.take_length] at p1
  refine⟨p,p0,by omega,p2,fun j u hu=>?_,?_,fun l hl=>?_⟩
  ·unfold layR
   rw[if_neg (by omega)]
   exact p3 j u hu
  ·unfold layR
   rw[if_neg (by omega)]
   exact p4
  ·rw[Nat.add_assoc]
   exact hb _ _ (p5 l hl)
 ·unfold ptR
  by_cases hin:sp<=a∧a<sp+8*xs.length
  ·rw[if_pos hin]
   have hk:(a-sp)/8<xs.length:=by omega
   obtain⟨z,p0,p1,p2,p3,p4,p5⟩:=h3 ((a-sp)/8) xs[(a-sp)/8] hk (List.getElem?_eq_getElem hk)
   have:=hb _ _ (p5 ((a-sp)%8) (by omega))
   rw[show sp+(8*((a-sp)/8)+(a-sp)%8)=a by omega] at this
   rw[this]
   unfold ptB
   rw[p0]
  ·rw[if_neg hin]
   unfold layR
   rw[if_neg (by omega),h4]
structure Sk (w wr:World) (R:Nat->Int) (pl:Int):Prop where
 pgs:Pgs wr w.heap.size R pl
 r0:wr.cell? ⟨w.heap.size,0,.none⟩=some (.slice .none 0 0)
 r1:wr.cell? ⟨w.heap.size,1,.none⟩=some (.int .u64 0)
 rf:∀ k,wr.frozen? ⟨w.heap.size,k,.none⟩=false
 bel:Below w.heap.size w wr
 sz:w.heap.size+4<=wr.heap.size
theorem Pgs.above {w w':World} {s:Nat} {R:Nat->Int} {pl:Int} (h:Pgs w s R pl) (hb:Below (s+4) w w'):Pgs w' s R pl:=by
 obtain⟨⟨hR,h1⟩,h2,h3,h4⟩:=h
 exact⟨⟨hR,h1.of_block (hb.block (s+1) (by omega))⟩,(hb.cell (p:=⟨s+2,0,.none⟩) (by show s+2<s+4;omega)).trans h2,(hb.cell (p:=⟨s+3,0,.none⟩) (by show s+3<s+4;omega)).trans h3,(frozen_heap (hb.block (s+3) (by omega)) _ _).trans h4⟩
theorem Sk.above {w a b:World} {R:Nat->Int} {pl:Int} (h:Sk w a R pl) (hb:Below (w.heap.size+4) a b):Sk w b R pl:=
 ⟨h.pgs.above hb,(hb.cell (p:=⟨w.heap.size,0,.none⟩) (by show w.heap.size<_;omega)).trans h.r0,(hb.cell (p:=⟨w.heap.size,1,.none⟩) (by show w.heap.size<_;omega)).trans h.r1,fun k=>(frozen_heap (hb.block w.heap.size (by omega)) _ _).trans (h.rf k),h.bel.trans (hb.mono (by omega)),Nat.le_trans h.sz hb.size⟩
theorem Sk.laid {w a b:World} {R R':Nat->Int} {pl pl':Int} (h:Sk w a R pl) (hp:Pgs b w.heap.size R' pl') (hl:Lyd w.heap.size a b):Sk w b R' pl':=
 ⟨hp,(cell_heap (hl.oth _ (by omega) (by omega)) _ _).trans h.r0,(cell_heap (hl.oth _ (by omega) (by omega)) _ _).trans h.r1,fun k=>(frozen_heap (hl.oth _ (by omega) (by omega)) _ _).trans (h.rf k),h.bel.trans (hl.bel.mono (by omega)),by rw[hl.sz];exact h.sz⟩
theorem conv_own {w:World} {base n c:Nat} {q:Option Addr} {bs:List Int} (h:w.ownsRow base 5 1 (.slice q n c) n (by8 bs)) (hU:U8 bs):∃ t:Bs,t.length=n∧(convert 24 9 (.slice q n c)).run Tryz.prog w = .ok (.string ⟨t.toArray⟩) w∧t.map (fun u=>(u.toNat:Int))=bs:=by
 have hl:bs.length=n:=by have:=h.1;rw[by8_len] at this;omega
 have hB:=byt_own h
 obtain⟨_,k2,k3,k4⟩:=hB
 have hst:(strOfNums bs).data.toList.map (fun u=>(u.toNat:Int))=bs:=by
  unfold strOfNums
  rw[List.toList_toArray,List.map_map]
  refine(List.map_congr_left fun v hv=>?_).trans (List.map_id _)
  have:=hU v hv
  simp only[Function.comp,id]
  rw[show v.toNat.toUInt8.toNat=v.toNat%256 from rfl]
  omega
 have key:∃ y:ByteArray,y.size=n∧(convert 24 9 (.slice q n c)).run Tryz.prog w = .ok (.string y) w∧y.data.toList.map (fun u=>(u.toNat:Int))=bs:=by
  rcases k4 with k4|⟨b,o,rfl,k5,k6⟩
  ·cases q with
   |none=>exact⟨ByteArray.empty,by rw[k4];rfl,run_convert_bytes_nil w 24 5 Tryz.underlying24 Tryz.underlying5 n c 9 Tryz.underlying9,(List.eq_nil_of_length_eq_zero (by omega:bs.length=0)) ▸ rfl⟩
   |some a=>
    obtain⟨ab,ao,ap⟩:=a
    obtain⟨g,hg⟩:∃ g,(⟨ab,ao,ap⟩:Addr)=⟨g,0,.none⟩:=by
     rcases h.2 with⟨hv,_⟩|⟨g,cap,cur,hv,_⟩
     ·cases hv
     ·simp only[Value.slice.injEq,Option.some.injEq] at hv
      exact⟨g,hv.1⟩
    rw[hg]
    exact⟨strOfNums bs,by simp[strOfNums,ByteArray.size,hl],run_convert_bytes_arg w 24 5 Tryz.underlying24 Tryz.underlying5 g 0 n c bs hl (fun i hi=>by omega) 9 Tryz.underlying9,hst⟩
  ·exact⟨strOfNums bs,by simp[strOfNums,ByteArray.size,hl],run_convert_bytes_arg w 24 5 Tryz.underlying24 Tryz.underlying5 b o n c bs hl (fun i hi=>by
    rw[List.getD_eq_getElem?_getD,List.getElem?_eq_getElem (by omega)]
    exact k6 i _ (List.getElem?_eq_getElem (by omega))) 9 Tryz.underlying9,hst⟩
 obtain⟨y,hy,hr,hm⟩:=key
 exact⟨y.data.toList,by simpa using hy,hr,hm⟩
theorem info5:(Tryz.prog.info? 5).map (fun i=>(i.zero,i.size,i.bytes))=some (some (.int .u8 0),1,1):=by kernel_rfl
theorem page_new (w:World):∃ w2,(Instr.makeSlice 24 (.int .i64 4096) (.int .i64 4096)).run Tryz.prog (w.alloc (.cells #[.slice .none 0 0,.int .u64 0] 90)) = .ok (.slice (some ⟨w.heap.size+1,0,.none⟩) 4096 4096) w2∧w2.heap.size=w.heap.size+2 ∧
  Hid (Sk w ((w2.alloc (.cells #[.slice (some ⟨w.heap.size+1,0,.none⟩) 4096 4096] 24)).alloc (.cells #[.int .i64 4096] 3)) (fun _=>0) 4096):=by
 have h:=run_make_row' (P:=Tryz.prog) 24 5 (.int .u8 0) 1 Tryz.underlying24 info5 rfl .i64 .i64 4096 (by decide) (by decide) (w.alloc (.cells #[.slice .none 0 0,.int .u64 0] 90))
 have hr:=World.rowIs_made (w.alloc (.cells #[.slice .none 0 0,.int .u64 0] 90)) (.int .u8 0) 4096 5
 generalize madeCells #[.int .u8 0] 4096=Z at h hr
 refine⟨(w.alloc (.cells #[.slice .none 0 0,.int .u64 0] 90)).alloc (.cells Z 5),?_,?_,?_⟩
 ·rw[World.size_alloc] at h
  exact h
 ·simp
 ·rw[World.size_alloc] at hr
  obtain⟨A,hA⟩:∃ A,A=w.alloc (.cells #[.slice .none 0 0,.int .u64 0] 90):=⟨_,rfl⟩
  have a0:A.cell? ⟨w.heap.size,0,.none⟩=some (.slice .none 0 0):=by rw[hA];simp
  have a1:A.cell? ⟨w.heap.size,1,.none⟩=some (.int .u64 0):=by rw[hA];simp
  have af:∀ k,A.frozen? ⟨w.heap.size,k,.none⟩=false:=fun k=>by rw[hA];exact World.frozen?_alloc_new _ _ _ _
  have az:A.heap.size=w.heap.size+1:=by rw[hA];simp
  have aw:Below w.heap.size w A:=by rw[hA];exact zB.alloc zL _
  rw[<-hA] at hr ⊢
  obtain⟨B,hB⟩:∃ B,B=A.alloc (.cells Z 5):=⟨_,rfl⟩
  have bz:B.heap.size=w.heap.size+2:=by rw[hB];simp[az]
  have ab:Below A.heap.size A B:=by rw[hB];exact zB.alloc zL _
  rw[<-hB] at hr ⊢
  obtain⟨C,hC⟩:∃ C,C=B.alloc (.cells #[.slice (some ⟨w.heap.size+1,0,.none⟩) 4096 4096] 24):=⟨_,rfl⟩
  have cz:C.heap.size=w.heap.size+3:=by rw[hC];simp[bz]
  have bc:Below B.heap.size B C:=by rw[hC];exact zB.alloc zL _
  have c0:C.cell? ⟨w.heap.size+2,0,.none⟩=some (.slice (some ⟨w.heap.size+1,0,.none⟩) 4096 4096):=by rw[<-bz,hC];simp
  have hr2:=hr.alloc (.cells #[.slice (some ⟨w.heap.size+1,0,.none⟩) 4096 4096] 24)
  rw[<-hC] at hr2 ⊢
  have cd:Below C.heap.size C (C.alloc (.cells #[.int .i64 4096] 3)):=zB.alloc zL _
  have bd:=bc.trans (cd.mono (by omega))
  have ad:=ab.trans (bd.mono (by omega))
  refine⟨⟨⟨fun _=>by show (0:Int)<=0∧(0:Int)<256;omega,hr2.alloc _⟩,?_,?_,?_⟩,?_,?_,?_,?_,?_⟩
  ·exact(cd.cell (p:=⟨w.heap.size+2,0,.none⟩) (by show w.heap.size+2<_;omega)).trans c0
  ·rw[<-cz];simp
  ·rw[<-cz];exact World.frozen?_alloc_new _ _ _ _
  ·exact(ad.cell (p:=⟨w.heap.size,0,.none⟩) (by show w.heap.size<_;omega)).trans a0
  ·exact(ad.cell (p:=⟨w.heap.size,1,.none⟩) (by show w.heap.size<_;omega)).trans a1
  ·exact fun k=>(frozen_heap (ad.block w.heap.size (by omega)) _ _).trans (af k)
  ·exact aw.trans (ad.mono (by omega))
  ·simp[cz]
end
section
open Go.RowKit Go.Shelf
theorem set2' {V:World} {rs:Nat} {x y:Value} (r0:V.cell? ⟨rs,0,.none⟩=some x) (r1:V.cell? ⟨rs,1,.none⟩=some y) (a b:Value) :
  ((V.setCell ⟨rs,0,.none⟩ a).setCell ⟨rs,1,.none⟩ b).cell? ⟨rs,0,.none⟩=some a∧((V.setCell ⟨rs,0,.none⟩ a).setCell ⟨rs,1,.none⟩ b).cell? ⟨rs,1,.none⟩=some b:=by
 refine⟨?_,?_⟩
 ·rw[zO (by simp)]
  exact World.cell?_setCell_same' _ _ _ (by rw[r0];rfl)
 ·exact World.cell?_setCell_same' _ _ _ (by rw[zO (by simp),r1];rfl)
def PgB (w w':World) (pq:Option Addr) (pn pc:Nat) (at_:Int) (xs:List Bs) (spv:Int):Prop:=∃ g,∃ R:Nat->Int,pq=some ⟨g,0,.none⟩∧pn=4096∧pc=4096∧w.heap.size<=g∧(∀ i,0<=R i∧R i<256)∧(∀ i,i<4096->w'.cell? ⟨g,i,.none⟩=some (.int .u8 (R i)))∧∃ sp:Nat,spv=at_+sp∧(stx 4096 xs-8*(xs.length+1))/16*16=(sp:Int)∧StkR at_ xs R sp
def StP (w:World) (at_:Int) (xs:List Bs) (e:Ending) (w':World):Prop:=∃ pq pn pc sp,e = .returned (.tuple #[.agg #[.slice pq pn pc,.int .u64 sp],.bool (rm xs)])∧Below w.heap.size w w'∧(rm xs=true->PgB w w' pq pn pc at_ xs sp)
set_option maxRecDepth 10000 in
theorem stackOf_any (w:World) (p:Option Addr) (n c:Nat) (xs:List Bs) (h:Tex w p n c xs) (hn:n<=32) (hx:∀ x∈xs,x.length<=400000) (at_:Int) (hat:0<=at_∧at_ <= 2000000000) :
  Calls Tryz.prog 88 #[.int .u64 at_,.slice p n c] w (StP w at_ xs):=by
 have HT:Hid (Tex w p n c xs):=h
 have HL:Hid (xs.length=n):=h.1
 have HX:Hid (∀ x∈xs,x.length<=400000):=hx
 have hc:n<=c∧c<=9223372036854775807:=⟨h.2.1,h.2.2.1⟩
 clear h hx
 obtain⟨w2,hmk,hz2,HS0⟩:=page_new w
 go_enter Tryz.func88,Tryz.ntmps88
 go_wp2_with fail
 clear hmk
 go_loopw [9,18] (fun v k wr=>∃ i:Nat,i<=n∧k = .int .i64 i∧∃ q' c' R bs,v = .slice q' (8*i) c'∧Hid (0<=stx 4096 (xs.take i)∧Sk w wr R (stx 4096 (xs.take i))∧wr.ownsRow (w.heap.size+4) 5 1 (.slice q' (8*i) c') (8*i) (by8 bs)∧U8 bs)∧Hid (StI at_ xs i R bs)) (fun _ k _=>(n-intOf k).toNat)
 case atStart=>exact⟨0,by omega,rfl,none,0,fun _=>0,[],rfl,⟨by simp[stx],HS0.out,World.ownsRow_nil _ _ _ _,fun b hb=>by simp at hb⟩,StI.zero _ _⟩
 case round=>
  obtain⟨i,hi,rfl,q',c',R,bs,rfl,HR,HT9⟩:=hrel
  obtain⟨pl,hpl⟩:∃ pl,pl=stx 4096 (xs.take i):=⟨_,rfl⟩
  rw[<-hpl] at HR
  have h0:0<=pl:=HR.out.1
  have h1:pl<=4096:=by rw[hpl];exact stx_le _ _
  by_cases hlt:i<n
  ·have g0:(i:Int)<n:=by omega
   obtain⟨b,o,x,rfl,hxi,a0⟩:=(HT.out.below HR.out.2.1.bel).at hlt
   have hxl:=HX.out x (List.mem_of_getElem? hxi)
   have hnx:=stx_next hxi 4096
   rw[<-hpl] at hnx
   have c1:=lay_any HR.out.2.1.pgs ⟨h0,h1⟩ x hxl 1 (by omega)
   have HN:Hid (stx 4096 (xs.take (i+1))=(pl-x.length-1)/16*16):=hnx
   have HP:Hid (pl=stx 4096 (xs.take i)):=hpl
   have HXI:Hid (xs[i]? = some x):=hxi
   clear hnx hpl hxi
   by_cases hneg:pl-x.length-1<0
   ·have hd:decide (0<=pl-x.length-1)=false:=by simp;omega
    unfold LyP at c1
    rw[hd] at c1
    clear hd
    go_wp2_with (go_at_call 140;refine c1.mono ?_;rintro _ w3 ⟨rfl,hP3,hL3⟩;have H3:Hid (∃ R',Sk w w3 R' ((pl-x.length-1)/16*16)):=⟨_,HR.out.2.1.laid hP3 hL3⟩;obtain⟨R3,h3⟩:=H3.out;have r0:=h3.r0;have r1:=h3.r1;have rf0:=h3.rf 0;have rf1:=h3.rf 1;have HBL:Hid (Below w.heap.size w w3):=h3.bel;clear hP3 hL3 c1 h3)
    obtain⟨s0,s1⟩:=set2' r0 r1 (.slice .none 0 0) (.int .u64 0)
    refine bodyPost_ret (v:=.tuple #[.agg #[.slice .none 0 0,.int .u64 0],.bool false]) (by simp[results,Tryz.results88,go_sem,s0,s1]) rfl ⟨none,0,0,0,?_,?_,fun e=>by rw[rm_no (i:=i+1) (by rw[HN.out];omega)] at e;cases e⟩
    ·rw[rm_no (i:=i+1) (by rw[HN.out];omega)]
    ·exact(HBL.out.setCell zL _).setCell zL _
   ·have hd:decide (0<=pl-x.length-1)=true:=by simp;omega
    unfold LyP at c1
    rw[hd] at c1
    clear hd
    obtain⟨y,hy⟩:∃ y,y=(pl-x.length-1)/16*16:=⟨_,rfl⟩
    rw[<-hy,if_pos (show 0<=pl-(x.length:Int)-1 by omega)] at c1
    rw[<-hy] at HN
    have hy0:0<=y∧y<=4096:=by omega
    have hw0:IntKind.u64.wrap y=y:=by rw[IntKind.wrap_u64];omega
    have hw1:IntKind.u64.wrap (at_+y)=at_+y:=by rw[IntKind.wrap_u64];omega
    have HY:Hid (y=(pl-x.length-1)/16*16):=hy
    obtain⟨ob,ub⟩:=HR.out.2.2
    have HO:Hid (wr.ownsRow (w.heap.size+4) 5 1 (.slice q' (8*i) c') (8*i) (by8 bs)∧U8 bs):=⟨ob,ub⟩
    clear ob ub hy
    have hneg':=hneg
    clear hneg
    go_wp2_with first|(go_at_call 140;refine c1.mono ?_;rintro _ w3 ⟨rfl,hP3,hL3⟩;have H3:Hid (Sk w w3 (layR R y.toNat x) y):=HR.out.2.1.laid hP3 hL3;have O3:Hid (w3.ownsRow (w.heap.size+4) 5 1 (.slice q' (8*i) c') (8*i) (by8 bs)):=own_same HO.out.1 (fun g hg=>hL3.oth g (by omega) (by omega));have r3:=H3.out.pgs.pc;clear hP3 hL3 c1)|(go_at_call 141;refine(appendA_any O3.out HO.out.2 (by have:=H3.out.sz;omega) (by omega) (at_+y) (by omega)).mono ?_;rintro _ w4 ⟨q4,c4,rfl,o4,u4,b4⟩;have H4:Hid (Sk w w4 (layR R y.toNat x) y∧w4.ownsRow (w.heap.size+4) 5 1 (.slice q4 (8*i+8) c4) (8*i+8) (by8 (bs ++ l8 (at_+y) 8))∧U8 (bs ++ l8 (at_+y) 8)):=⟨H3.out.above b4,o4,u4⟩;clear o4 u4 b4 r3)
    refine⟨⟨i+1,by omega,rfl,q4,c4,layR R y.toNat x,bs ++ l8 (at_+y) 8,rfl,⟨?_,?_,?_,H4.out.2.2⟩,?_⟩,by simp only[intOf];omega⟩
    ·rw[HN.out];omega
    ·rw[HN.out];exact H4.out.1
    ·exact H4.out.2.1
    ·have:=HT9.out.step HXI.out (y:=y.toNat) (by rw[HN.out];omega)
     rw[show ((y.toNat:Nat):Int)=y by omega] at this
     exact this
  ·obtain rfl:i=n:=by omega
   obtain⟨ob,ub⟩:=HR.out.2.2
   obtain⟨t,ht,hcv,htm⟩:=conv_own ob ub
   have HTM:Hid (t.map (fun u=>(u.toNat:Int))=bs):=htm
   have HST:Hid (pl=stx 4096 xs):=by show _=_;rw[hpl,<-HL.out,List.take_length]
   clear htm
   have c1:=lay_any HR.out.2.1.pgs ⟨h0,h1⟩ t (by omega) 8 (by omega)
   have hst:stx 4096 xs=pl:=by rw[hpl,<-HL.out,List.take_length]
   have hR:rm xs=decide (0<=pl-t.length-8):=by
    unfold rm
    rw[hst,HL.out]
    congr 1
    apply propext
    omega
   have HR2:Hid (rm xs=decide (0<=pl-t.length-8)):=hR
   clear ob ub hR hst hpl
   by_cases hneg:pl-t.length-8<0
   ·have hd:decide (0<=pl-t.length-8)=false:=by simp;omega
    unfold LyP at c1
    rw[hd] at c1 HR2
    clear hd
    go_wp2_with (go_at_call 140;refine c1.mono ?_;rintro _ w3 ⟨rfl,hP3,hL3⟩;have H3:Hid (∃ R',Sk w w3 R' ((pl-t.length-8)/16*16)):=⟨_,HR.out.2.1.laid hP3 hL3⟩;obtain⟨R3,h3⟩:=H3.out;have r0:=h3.r0;have r1:=h3.r1;have rf0:=h3.rf 0;have rf1:=h3.rf 1;have HBL:Hid (Below w.heap.size w w3):=h3.bel;clear hP3 hL3 c1 h3)
    obtain⟨s0,s1⟩:=set2' r0 r1 (.slice .none 0 0) (.int .u64 0)
    refine bodyPost_ret (v:=.tuple #[.agg #[.slice .none 0 0,.int .u64 0],.bool false]) (by simp[results,Tryz.results88,go_sem,s0,s1]) rfl ⟨none,0,0,0,?_,?_,fun e=>by rw[HR2.out] at e;cases e⟩
    ·rw[HR2.out]
    ·exact(HBL.out.setCell zL _).setCell zL _
   ·have hd:decide (0<=pl-t.length-8)=true:=by simp;omega
    unfold LyP at c1
    rw[hd] at c1 HR2
    clear hd
    obtain⟨y,hy⟩:∃ y,y=(pl-t.length-8)/16*16:=⟨_,rfl⟩
    rw[<-hy,if_pos (show 0<=pl-(t.length:Int)-8 by omega)] at c1
    have hy0:0<=y∧y<=4096:=by omega
    have hw0:IntKind.u64.wrap y=y:=by rw[IntKind.wrap_u64];omega
    have hw1:IntKind.u64.wrap (at_+y)=at_+y:=by rw[IntKind.wrap_u64];omega
    have HSP:Hid (StkR at_ xs (layR R y.toNat t) y.toNat∧(stx 4096 xs-8*(xs.length+1))/16*16=((y.toNat:Nat):Int)):=by
     have e9:(stx 4096 xs-8*(xs.length+1))/16*16=((y.toNat:Nat):Int):=by rw[<-HST.out,HL.out];omega
     have e8:=HT9.out
     rw[<-HL.out] at e8
     exact⟨e8.done HTM.out e9,e9⟩
    clear hy hneg
    go_wp2_with (go_at_call 140;refine c1.mono ?_;rintro _ w3 ⟨rfl,hP3,hL3⟩;have H3:Hid (Sk w w3 (layR R y.toNat t) y):=HR.out.2.1.laid hP3 hL3;have r0:=H3.out.r0;have r1:=H3.out.r1;have rf0:=H3.out.rf 0;have rf1:=H3.out.rf 1;have r3:=H3.out.pgs.pc;have r4:=H3.out.pgs.pp;clear hP3 hL3 c1)
    obtain⟨s0,s1⟩:=set2' r0 r1 (.slice (some ⟨w.heap.size+1,0,.none⟩) 4096 4096) (.int .u64 (at_+y))
    refine bodyPost_ret (v:=.tuple #[.agg #[.slice (some ⟨w.heap.size+1,0,.none⟩) 4096 4096,.int .u64 (at_+y)],.bool true]) (by simp[results,Tryz.results88,go_sem,s0,s1]) rfl ⟨some ⟨w.heap.size+1,0,.none⟩,4096,4096,at_+y,?_,?_,fun _=>?_⟩
    ·rw[HR2.out]
    ·exact(H3.out.bel.setCell zL _).setCell zL _
    ·obtain⟨hR,hrow⟩:=H3.out.pgs.pg
     refine⟨w.heap.size+1,_,rfl,rfl,rfl,by omega,hR,fun i hi=>?_,y.toNat,by omega,HSP.out.2,HSP.out.1⟩
     rw[zO (by simp),zO (by simp)]
     exact hrow.cell hi
end
section
open Go.RowKit Go.Shelf
theorem cell1_new (w:World) (v:Value) (t:TypeId):∀ j u,[v][j]? = some u->(w.alloc (.cells #[v] t)).cell? ((⟨w.heap.size,0,.none⟩:Addr).add j)=some u:=by
 intro j u hj
 rw[le_addr_add]
 match j,hj with
 |0,hj=>
  simp at hj
  subst hj
  simp
 |j+1,hj=>simp at hj
theorem u64_info:∃ i z,Tryz.prog.info? 23=some i∧i.zero=some z∧i.size=1∧i.bytes=8∧z.cells.size=1:=info_of 23 1 8 (by kernel_rfl) (by kernel_rfl)
structure Pq (w wr:World):Prop where
 pg:∃ f,wr.rowIs w.heap.size 5 4096 f
 bel:Below w.heap.size w wr
 sz:w.heap.size+1<=wr.heap.size
theorem Pq.set {w wr:World} (h:Pq w wr) (k:Nat) (v:Value):Pq w (wr.setCell ⟨w.heap.size,k,.none⟩ v):=by
 obtain⟨⟨f,h1⟩,h2,h3⟩:=h
 exact⟨⟨_,h1.set k v⟩,h2.setCell zL _,by simpa [World.setCell] using h3⟩
theorem Pq.above {w a b:World} (h:Pq w a) (hb:Below (w.heap.size+1) a b):Pq w b:=by
 obtain⟨⟨f,h1⟩,h2,h3⟩:=h
 exact⟨⟨f,h1.of_block (hb.block _ (by omega))⟩,h2.trans (hb.mono (by omega)),Nat.le_trans h3 hb.size⟩
theorem Pq.at {w wr:World} (h:Pq w wr) {k:Nat} (hk:k<4096):(∃ v,wr.cell? ⟨w.heap.size,k,.none⟩=some v)∧wr.frozen? ⟨w.heap.size,k,.none⟩=false:=by
 obtain⟨⟨f,h1⟩,h2,h3⟩:=h
 exact⟨⟨_,h1.cell hk⟩,h1.frozen k⟩
theorem pageQ_new (w:World):∃ w2,(Instr.makeSlice 24 (.int .i64 4096) (.int .i64 4096)).run Tryz.prog w = .ok (.slice (some ⟨w.heap.size,0,.none⟩) 4096 4096) w2∧Hid (Pq w w2):=by
 have h:=run_make_row' (P:=Tryz.prog) 24 5 (.int .u8 0) 1 Tryz.underlying24 info5 rfl .i64 .i64 4096 (by decide) (by decide) w
 have hr:=World.rowIs_made w (.int .u8 0) 4096 5
 exact⟨_,h,⟨_,hr⟩,zB.alloc zL _,by simp⟩
def w64 (ys:List Int):List Value:=ys.map (.int .u64)
structure Aq (w wr:World) (q:Option Addr) (i c:Nat) (ys:List Int):Prop where
 own:wr.ownsRow (w.heap.size+1) 23 1 (.slice q i c) i (w64 ys)
 bd:∀ y∈ys,0<=y∧y<5000
theorem Aq.set {w wr:World} {q:Option Addr} {i c:Nat} {ys:List Int} (h:Aq w wr q i c ys) (k:Nat) (v:Value):Aq w (wr.setCell ⟨w.heap.size,k,.none⟩ v) q i c ys:=
 ⟨own_same h.own (fun g hg=>Below.heap_setCell _ _ _ _ (fun e=>by have:g=w.heap.size:=e;omega)),h.bd⟩
set_option maxRecDepth 10000 in
theorem stackQ_any (w:World) (p:Option Addr) (n c:Nat) (xs:List Bs) (h:Tex w p n c xs) (hn:n<=32) (hx:∀ x∈xs,x.length<=400000) :
  Calls Tryz.prog 67 #[.slice p n c,.int .u64 0] w fun e w'=>(∃ pq pn pc sp,e = .returned (.tuple #[.slice pq pn pc,.int .u64 sp,.bool (rm xs)]))∧Below w.heap.size w w':=by
 have HT:Hid (Tex w p n c xs):=h
 have HL:Hid (xs.length=n):=h.1
 have HX:Hid (∀ x∈xs,x.length<=400000):=hx
 have hc:n<=c∧c<=9223372036854775807:=⟨h.2.1,h.2.2.1⟩
 clear h hx
 obtain⟨i3,z3,hi3,hz3,hs3,hb3,hzs3⟩:=u64_info
 have HI:Hid (Tryz.prog.info? 23=some i3∧i3.zero=some z3∧i3.size=1∧i3.bytes=8∧z3.cells.size=1):=⟨hi3,hz3,hs3,hb3,hzs3⟩
 clear hi3 hz3 hs3 hb3 hzs3
 obtain⟨w2,hmk,HP0⟩:=pageQ_new w
 go_enter Tryz.func67,Tryz.ntmps67
 go_wp2_with fail
 clear hmk
 go_loopw [8,9,10] (fun s v k wr=>∃ i:Nat,i<=n∧k = .int .i64 i∧∃ pl q' c',s = .int .i64 pl∧v = .slice q' i c'∧Hid (pl=stx 4096 (xs.take i)∧0<=pl∧Pq w wr∧∃ ys,Aq w wr q' i c' ys)) (fun _ _ k _=>(n-intOf k).toNat)
 case atStart=>exact⟨0,by omega,rfl,4096,none,0,rfl,rfl,by simp[stx],by omega,HP0.out,[],World.ownsRow_nil _ _ _ _,fun b hb=>by simp at hb⟩
 case round=>
  obtain⟨i,hi,rfl,pl,q',c',rfl,rfl,HR⟩:=hrel
  have h0:0<=pl:=HR.out.2.1
  have h1:pl<=4096:=by rw[HR.out.1];exact stx_le _ _
  by_cases hlt:i<n
  ·have g0:(i:Int)<n:=by omega
   obtain⟨b,o,x,rfl,hxi,aw⟩:=HT.out.at hlt
   have hxl:=HX.out x (List.mem_of_getElem? hxi)
   have hnx:=stx_next hxi 4096
   rw[<-HR.out.1] at hnx
   have HN:Hid (stx 4096 (xs.take (i+1))=(pl-x.length-1)/16*16):=hnx
   have HA:Hid (w.cell? ⟨b,o+i,.none⟩=some (.string ⟨x.toArray⟩)):=aw
   have a0:wr.cell? ⟨b,o+i,.none⟩=some (.string ⟨x.toArray⟩):=(HR.out.2.2.1.bel.cell (zC aw)).trans aw
   clear hnx hxi aw
   by_cases hneg:pl-x.length-1<0
   ·go_wp2_with fail
    refine bodyPost_ret (v:=.tuple #[.slice .none 0 0,.int .u64 0,.bool false]) (by simp[results,Tryz.results67,go_sem]) rfl ⟨⟨none,0,0,0,?_⟩,HR.out.2.2.1.bel⟩
    rw[rm_no (i:=i+1) (by rw[HN.out];omega)]
   ·obtain⟨y,hy⟩:∃ y,y=(pl-x.length-1)/16*16:=⟨_,rfl⟩
    have hy0:0<=y∧y+x.length<4096:=by omega
    have HY:Hid (y=(pl-x.length-1)/16*16):=hy
    have hq1:0<=pl-x.length-1:=by omega
    obtain⟨ys,HQ⟩:∃ ys,Hid (Aq w wr q' i c' ys):=HR.out.2.2.2
    clear hneg
    rw[<-HY.out] at HN
    clear hy
    go_wp2_with fail
    rw[<-HY.out]
    go_loopw [11] (fun k wv=>∃ j:Nat,j<=x.length∧k = .int .i64 j∧Hid (Pq w wv∧Aq w wv q' i c' ys)) (fun k _=>(x.length-intOf k).toNat)
    case atStart=>exact⟨0,by omega,rfl,HR.out.2.2.1,HQ.out⟩
    case round=>
     obtain⟨j,hj,rfl,HJ⟩:=hrel
     have a0:wr.cell? ⟨b,o+i,.none⟩=some (.string ⟨x.toArray⟩):=(HJ.out.1.bel.cell (zC HA.out)).trans HA.out
     by_cases hjl:j<x.length
     ·have gj:(j:Int)<x.length:=by omega
      obtain⟨⟨v0,cv⟩,cf⟩:=HJ.out.1.at (k:=(y+j).toNat) (by omega)
      have hsj:y+(j:Int)<4096:=by omega
      go_wp2_with fail
      exact⟨⟨j+1,by omega,rfl,HJ.out.1.set _ _,HJ.out.2.set _ _⟩,by simp only[intOf];omega⟩
     ·obtain rfl:j=x.length:=by omega
      have z1:=HJ.out.1.sz
      have hwy:IntKind.u64.wrap y=y:=by rw[IntKind.wrap_u64];omega
      clear hjl hj
      go_wp2_with (first|(at_builtin;refine wpList_append_own _ rfl _ _ 133 rfl (w.heap.size+1) 23 i3 z3 1 8 Tryz.underlying133 HI.out.1 HI.out.2.1 HI.out.2.2.1 HI.out.2.2.2.1 HI.out.2.2.2.2 (by decide) (.slice q' i c') i (w64 ys) rfl (HJ.out.2.own.alloc _) ⟨wr.heap.size,0,.none⟩ 1 1 [.int .u64 y] rfl rfl (cell1_new _ _ _) (fun u hu=>by rw[List.mem_singleton] at hu;rw[hu];rfl) ?c4 ?c5 ?c6 ?_)|go_in)
      case c4=>simp only[maxLen];omega
      case c5=>omega
      case c6=>simp only[World.size_alloc];omega
      intro v' w2 own' grow fb
      clear fb
      obtain⟨p',c2,rfl⟩:=one_slice own'
      have HW:Hid (Pq w w2∧Aq w w2 p' (i+1) c2 (ys ++ [y])):=by
       refine⟨HJ.out.1.above (below_append zB _ grow z1 (own_block HJ.out.2.own)),?_,?_⟩
       ·unfold w64
        rw[List.map_append]
        exact own'
       ·intro b hb
        rcases List.mem_append.1 hb with hb|hb
        ·exact HJ.out.2.bd b hb
        ·rw[List.mem_singleton] at hb
         omega
      clear own' grow
      go_wp2
      exact⟨⟨i+1,by omega,rfl,y,p',c2,rfl,rfl,HN.out.symm,hy0.1,HW.out.1,_,HW.out.2⟩,by simp only[intOf];omega⟩
  ·obtain rfl:i=n:=by omega
   have hst:stx 4096 xs=pl:=by rw[HR.out.1,<-HL.out,List.take_length]
   have hR:rm xs=decide (0<=pl-8*(i+1)):=by
    unfold rm
    rw[hst,HL.out]
   have HM:Hid (rm xs=decide (0<=pl-8*(i+1))):=hR
   obtain⟨ys,HQ⟩:∃ ys,Hid (Aq w wr q' i c' ys):=HR.out.2.2.2
   clear hR hst hi
   by_cases hneg:pl-8*(i+1)<0
   ·go_wp2_with fail
    refine bodyPost_ret (v:=.tuple #[.slice .none 0 0,.int .u64 0,.bool false]) (by simp[results,Tryz.results67,go_sem]) rfl ⟨⟨none,0,0,0,?_⟩,HR.out.2.2.1.bel⟩
    rw[HM.out]
    congr 3
    simp
    omega
   ·obtain⟨y,hy⟩:∃ y,y=(pl-8*(i+1))/16*16:=⟨_,rfl⟩
    have hy0:0<=y∧y+8*i+8<=4096:=by omega
    have HY:Hid (y=(pl-8*(i+1))/16*16):=hy
    have hq1:0<=pl-8*(i+1):=by omega
    clear hneg hy
    go_wp2_with fail
    rw[<-HY.out]
    have HM2:Hid (rm xs=true):=by
     show _=_
     rw[HM.out];simp;omega
    go_loopw [12] (fun k wv=>∃ j:Nat,j<=i∧k = .int .i64 j∧Hid (Pq w wv∧Aq w wv q' i c' ys)) (fun k _=>(i-intOf k).toNat)
    case atStart=>exact⟨0,by omega,rfl,HR.out.2.2.1,HQ.out⟩
    case round=>
     obtain⟨j,hj,rfl,HJ⟩:=hrel
     by_cases hjl:j<i
     ·have gj:(j:Int)<i:=by omega
      obtain⟨v,hv⟩:∃ v,ys[j]? = some v:=by
       have hl:ys.length=i:=by have:=HJ.out.2.own.1;simp only[w64,List.length_map] at this;omega
       exact⟨ys[j]'(by omega),List.getElem?_eq_getElem _⟩
      have hv0:=HJ.out.2.bd v (List.mem_of_getElem? hv)
      have hvw:(w64 ys)[j]? = some (.int .u64 v):=by simp[w64,hv]
      obtain⟨g,rfl,ag⟩:=own_cell HJ.out.2.own hvw (by omega) (by omega)
      have hgl:w.heap.size+1<=g:=own_block HJ.out.2.own g rfl
      have HG:Hid (w.heap.size+1<=g):=hgl
      obtain⟨_,_,e9,hc9⟩:=own_form HJ.out.2.own
      cases e9
      have hcc:i<=c'∧c'<=9223372036854775807:=⟨hc9.1,hc9.2.1⟩
      have HV:Hid (wr.cell? ⟨g,j,.none⟩=some (.int .u64 v)):=by
       exact ag
      clear hv hvw ag hgl hc9
      go_wp2_with fail
      go_loopw [13] (fun k wv=>∃ l:Nat,l<=8∧k = .int .i64 l∧Hid (Pq w wv∧Aq w wv (some ⟨g,0,.none⟩) i c' ys∧wv.cell? ⟨g,j,.none⟩=some (.int .u64 v))) (fun k _=>(8-intOf k).toNat)
      case atStart=>exact⟨0,by omega,rfl,HJ.out.1,HJ.out.2,HV.out⟩
      case round=>
       obtain⟨l,hl,rfl,HK⟩:=hrel
       by_cases hll:l<8
       ·have gl:(l:Int)<8:=by omega
        have av:=HK.out.2.2
        obtain⟨⟨v0,cv⟩,cf⟩:=HK.out.1.at (k:=(y+8*(j:Int)+l).toNat) (by omega)
        have hsj:y+8*(j:Int)+l<4096:=by omega
        have hwl:IntKind.u64.wrap (8*(l:Int))=8*l:=by rw[IntKind.wrap_u64];omega
        go_wp2_with fail
        exact⟨⟨l+1,by omega,rfl,HK.out.1.set _ _,HK.out.2.1.set _ _,(zO (by have:=HG.out;simp only[ne_eq,Addr.mk.injEq,not_and];intro e;omega)).trans av⟩,by simp only[intOf];omega⟩
       ·obtain rfl:l=8:=by omega
        go_wp2_with fail
        exact⟨⟨j+1,by omega,rfl,HK.out.1,HK.out.2.1⟩,by simp only[intOf];omega⟩
     ·obtain rfl:j=i:=by omega
      have hwy:IntKind.u64.wrap y=y:=by rw[IntKind.wrap_u64];omega
      go_wp2_with fail
      refine bodyPost_ret (v:=.tuple #[.slice (some ⟨w.heap.size,0,.none⟩) 4096 4096,.int .u64 y,.bool true]) (by simp[results,Tryz.results67,go_sem]) rfl ⟨⟨some ⟨w.heap.size,0,.none⟩,4096,4096,y,?_⟩,HJ.out.1.bel⟩
      rw[HM2.out]
end
section
open Go.RowKit
theorem value_any (b o n c at_ k:Nat) (B:Nat->Int) (w:World) (hn:at_+k<=n) (hc:n<=c) (hcm:c<=9223372036854775807) (hk:k<=8) (hB:∀ i,0<=B i∧B i<256) (h:Row w b o n B) :
  Calls Tryz.prog 121 #[.slice (some ⟨b,o,.none⟩) n c,.int .i64 at_,.int .i64 k] w fun e w'=>e = .returned (.int .u64 (num B at_ k))∧w'=w:=by
 go_enter Tryz.func121,Tryz.ntmps121
 go_wp2_with fail
 go_loopw [7,8] (fun v a wr=>∃ j:Nat,j<=k∧a = .int .i64 ((j:Int)-1)∧v = .int .u64 (num B (at_+j) (k-j))∧wr=w) (fun _ a _=>(intOf a+1).toNat)
 case atStart=>exact⟨k,Nat.le_refl _,rfl,by rw[Nat.sub_self];rfl,rfl⟩
 case round=>
  obtain⟨j,hj,rfl,rfl,rfl⟩:=hrel
  cases j with
  |zero=>
   go_wp2_with fail
   go_ret
   exact⟨by simp,rfl⟩
  |succ j=>
   have a0:wr.cell? ⟨b,o+(at_+j),.none⟩=some (.int .u8 (B (at_+j))):=h (at_+j) (by omega)
   have bb:=hB (at_+j)
   have ho:=or_front B hB (at_+j) (k-(j+1)) (by omega)
   rw[show k-(j+1)+1=k-j by omega] at ho
   have e1:((j+1:Nat):Int)-1=j:=by omega
   rw[e1]
   have g1:(at_:Int)+j<n:=by omega
   rw[show at_+(j+1)=at_+j+1 by omega]
   go_wp2_with fail
   exact⟨⟨j,by omega,rfl,rfl,trivial⟩,by simp[intOf]⟩
theorem liesQ_any (n:Nat) (a k:Int) (w:World) (hn:n<=300000) (ha:0<=a∧a<18446744073709551616) (hk:0<=k∧k<18446744073709551616) :
  Calls Tryz.prog 122 #[.int .u64 a,.int .u64 k,.int .i64 n] w fun e w'=>e = .returned (.bool (decide (a+k<=n)))∧w'=w:=by
 by_cases h1:a<=n
 ·go_enter Tryz.func122,Tryz.ntmps122
  go_wp2
  all_goals go_ret
  all_goals exact⟨by simp;omega,rfl⟩
 ·go_enter Tryz.func122,Tryz.ntmps122
  go_wp2
  all_goals go_ret
  all_goals exact⟨by simp;omega,rfl⟩
theorem next_any (x:Int) (w:World) (hx:0<=x∧x<=1073741824):Calls Tryz.prog 165 #[.int .u64 x] w fun e w'=>e = .returned (.int .u64 ((x+4095)/4096*4096))∧w'=w:=by
 go_enter Tryz.func165,Tryz.ntmps165
 go_wp2
 go_ret
 refine⟨?_,rfl⟩
 have e:x+4096-1=x+4095:=by omega
 simp[e]
theorem one_any (va fl sz mem:Int) (w:World) (hv:0<=va∧va<18446744073709551616) (hf:0<=fl∧fl<4294967296) (hs:0<=sz∧sz<18446744073709551616) (hm:0<=mem∧mem<18446744073709551616) :
  Calls Tryz.prog 164 #[.int .u64 va,.int .u32 fl,.int .u64 sz,.int .u64 mem] w fun e w'=>e = .returned (.bool (ok1 va fl sz mem))∧w'=w:=by
 by_cases h0:va%4096=0
 ·by_cases h1:va > 1073741824
  ·go_enter Tryz.func164,Tryz.ntmps164
   go_wp2
   all_goals go_ret
   all_goals exact⟨by simp[ok1];omega,rfl⟩
  ·by_cases h2:mem<1
   ·go_enter Tryz.func164,Tryz.ntmps164
    go_wp2
    all_goals go_ret
    all_goals exact⟨by simp[ok1];omega,rfl⟩
   ·by_cases h3:mem<sz
    ·go_enter Tryz.func164,Tryz.ntmps164
     go_wp2
     all_goals go_ret
     all_goals exact⟨by simp[ok1];omega,rfl⟩
    ·by_cases h4:mem > 1073741824-va
     ·go_enter Tryz.func164,Tryz.ntmps164
      go_wp2
      all_goals go_ret
      all_goals exact⟨by simp[ok1];omega,rfl⟩
     ·have q1:decide (1<=mem)=true:=by simp;omega
      have q2:decide (sz<=mem)=true:=by simp;omega
      have q3:decide (va+mem<=1073741824)=true:=by simp;omega
      have q0:decide (va%4096=0)=true:=by simpa using h0
      have e:ok1 va fl sz mem=mf fl:=by simp only[ok1,q0,q1,q2,q3,Bool.and_true,Bool.true_and]
      rw[e]
      clear q0 q1 q2 q3 e
      by_cases h:1<=fl∧fl<=7
      ·have:fl=1∨fl=2∨fl=3∨fl=4∨fl=5∨fl=6∨fl=7:=by omega
       rcases this with rfl|rfl|rfl|rfl|rfl|rfl|rfl
       all_goals
        go_enter Tryz.func164,Tryz.ntmps164
        go_wp2
        all_goals go_ret
        all_goals exact⟨by rfl,rfl⟩
      ·go_enter Tryz.func164,Tryz.ntmps164
       go_wp2
       all_goals go_ret
       all_goals exact⟨by simp[mf];omega,rfl⟩
 ·have h0':(va%4096 != 0)=true:=by simpa using h0
  go_enter Tryz.func164,Tryz.ntmps164
  go_wp2
  all_goals go_ret
  all_goals exact⟨by simp[ok1,h0],rfl⟩
end
section
open Go.RowKit
theorem below_past (w:World) (b:Obj):Below w.heap.size w (w.alloc b):=zB.alloc zL _
theorem none_any (w:World):Calls Tryz.prog 163 #[] w fun e w'=>e = .returned (.agg #[.slice .none 0 0,.int .i64 0])∧w'=w.alloc (.cells #[.slice .none 0 0,.int .i64 0] 121):=by
 go_enter Tryz.func163,Tryz.ntmps163
 go_wp2
 exact bodyPost_ret (v:=.agg #[.slice .none 0 0,.int .i64 0]) (by simp[results,Tryz.results163,go_sem]) rfl ⟨rfl,rfl⟩
theorem rnew_any (s:ByteArray) (a r:Int) (w:World):Calls Tryz.prog 162 #[.string s,.int .i64 a,.int .i64 r] w fun e w'=>e = .returned (.agg #[.slice (some ⟨w.heap.size+1,0,.none⟩) 1 1,.int .i64 r]) ∧
  w'=(w.alloc (.cells #[.slice (some ⟨w.heap.size+1,0,.none⟩) 1 1,.int .i64 r] 121)).alloc (.cells #[.string s,.int .i64 a] 256):=by
 go_enter Tryz.func162,Tryz.ntmps162
 go_wp2
 exact bodyPost_ret (v:=.agg #[.slice (some ⟨w.heap.size+1,0,.none⟩) 1 1,.int .i64 r]) (by simp[results,Tryz.results162,go_sem]) rfl ⟨rfl,rfl⟩
def LFault (w:World) (v:Value) (a r:Int):Prop:=∃ B,B<w.heap.size∧v = .agg #[.slice (some ⟨B,0,.none⟩) 1 1,.int .i64 r]∧w.cell? ⟨B,0,.none⟩=some (.string ramB)∧w.cell? ⟨B,1,.none⟩=some (.int .i64 a)
theorem LFault.below {W w':World} {v:Value} {a r:Int} (k:LFault W v a r) (h:Below W.heap.size W w'):LFault w' v a r:=by
 obtain⟨B,hB,e,c0,c1⟩:=k
 exact⟨B,Nat.lt_of_lt_of_le hB h.size,e,(h.cell hB).trans c0,(h.cell hB).trans c1⟩
def RefR (w:World) (g:Value) (a r:Int):Prop:=(r≠0∧LFault w g a r)∨(r=0∧g = .agg #[.slice .none 0 0,.int .i64 0])
theorem RefR.below {w w':World} {v:Value} {a r:Int} (h:RefR w v a r) (b:Below w.heap.size w w'):RefR w' v a r:=by
 rcases h with⟨h1,h2⟩|h
 ·exact .inl ⟨h1,h2.below b⟩
 ·exact .inr h
theorem RefR.form {w:World} {v:Value} {a r:Int} (h:RefR w v a r):∃ p n c,v = .agg #[.slice p n c,.int .i64 r]:=by
 rcases h with⟨h1,B,_,rfl,_⟩|⟨rfl,rfl⟩
 ·exact⟨_,_,_,rfl⟩
 ·exact⟨_,_,_,rfl⟩
theorem no_any (r a:Int) (w:World):Calls Tryz.prog 118 #[.int .i64 r,.int .i64 a] w fun e w'=>(∃ v,e = .returned v∧LFault w' v a r)∧Below w.heap.size w w':=by
 have c:=rnew_any ramB a r (w.alloc (.cells #[.slice .none 0 0,.int .i64 0] 121))
 go_enter Tryz.func118,Tryz.ntmps118
 go_wp2_with fail
 refine c.mono ?_
 rintro e w1 ⟨rfl,rfl⟩
 go_wp2
 refine bodyPost_ret (v:=.agg #[.slice (some ⟨w.heap.size+1+1,0,.none⟩) 1 1,.int .i64 r]) (by simp[results,Tryz.results118,go_sem]) rfl ⟨⟨_,rfl,w.heap.size+1+1,?_,rfl,?_,?_⟩,?_⟩
 ·simp
 ·simp[World.cell?_alloc_at]
 ·simp[World.cell?_alloc_at]
 ·exact((below_past _ _).alloc (by simp only[World.size_alloc];omega) _).alloc (by simp only[World.size_alloc];omega) _
theorem any_any (w:World) (g:Value) (a r:Int) (h:RefR w g a r):Calls Tryz.prog 120 #[g] w fun e w'=>e = .returned (.bool (decide (r≠0)))∧Below w.heap.size w w':=by
 rcases h with⟨h1,B,_,rfl,_⟩|⟨rfl,rfl⟩
 ·have h2:(r != 0)=true:=by simpa using h1
  go_enter Tryz.func120,Tryz.ntmps120
  go_wp2
  go_ret
  exact⟨by simp[h1],zB.alloc zL _⟩
 ·go_enter Tryz.func120,Tryz.ntmps120
  go_wp2
  go_ret
  exact⟨rfl,zB.alloc zL _⟩
end
end Go.Proofs.YtabnipbdbnmmpaaGreatDoor
