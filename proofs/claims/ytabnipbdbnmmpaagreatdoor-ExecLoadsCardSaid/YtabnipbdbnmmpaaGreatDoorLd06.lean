import Derived.Test.YtabnipbdbnmmpaaGreatDoorLd01
import Derived.Test.YtabnipbdbnmmpaaGreatDoorLd05
import Derived.LoopN
set_option linter.unusedVariables false
set_option linter.unusedSimpArgs false
set_option maxHeartbeats 8000000
namespace Go.Proofs.YtabnipbdbnmmpaaGreatDoor
namespace Rm
open Go.RowKit
theorem own_size {w:World} {m n:Nat} {D:DataW Unit} (h:w.ownsMap Tryz.prog 23 unitElem m n D):w.ownsMap Tryz.prog 23 unitElem m (Maps.size D) D:=by
 obtain⟨es,cl,h1,h2,h3,rfl⟩:=h
 exact⟨es,cl,h1,h2,by simp[Maps.size,length_sorted],rfl⟩
theorem isKey (a:Int):WideAt.IsKeyLit (.int .u64 a):=by trivial
theorem ne_lit {a x:Int} (h:x≠a):(Lit.int .u64 x) ≠ .int .u64 a:=fun e=>h (by injection e)
section
variable {w w':World} {p b m N cnt:Nat} {B:Nat->Int} {nx:Int} {hd hd':Int->Bool} {D:DataW Unit}
theorem Mem.congr (h:Mem w p b m N B nx hd cnt) (e:∀ a:Int,0<=a->a<18446744073709551616->hd a=hd' a):Mem w p b m N B nx hd' cnt:=by
 obtain⟨D,h1,h2,h3⟩:=h.hm
 exact⟨h.c0,h.c1,h.c2,h.f1,h.cb,h.fb,⟨D,h1,fun a h4 h5=>(h2 a h4 h5).trans (e a h4 h5),h3⟩,h.n1,h.n2,h.bb,h.nb⟩
theorem Mem.turn (h:Mem w p b m N B nx hd cnt) (t:w.mapTurned w' m) {D':DataW Unit} {n:Nat} (hown:w'.ownsMap Tryz.prog 23 unitElem m n D') (hh:∀ a:Int,0<=a->a<18446744073709551616->Maps.has D' (.int .u64 a)=hd' a) {cnt':Nat} (hc:Maps.size D'=cnt'):Mem w' p b m N B nx hd' cnt':=by
 have g:=t.grown
 have hp:w'.heap[p]? = w.heap[p]?:=g.block p h.plt (by simpa using fun e=>h.mp e.symm)
 have hb:w'.heap[b]? = w.heap[b]?:=g.block b h.blt (by simpa using fun e=>h.mb e.symm)
 have cp:∀ i,w'.cell? ⟨p,i,.none⟩=w.cell? ⟨p,i,.none⟩:=fun i=>by simp only[World.cell?,hp]
 have cb:∀ i,w'.cell? ⟨b,i,.none⟩=w.cell? ⟨b,i,.none⟩:=fun i=>by simp only[World.cell?,hb]
 exact⟨(cp 0).trans h.c0,(cp 1).trans h.c1,(cp 2).trans h.c2,(t.frozen _).trans h.f1,fun i hi=>(cb i).trans (h.cb i hi),fun i hi=>(t.frozen _).trans (h.fb i hi),⟨D',own_size hown,hh,hc⟩,h.n1,h.n2,h.bb,h.nb⟩
theorem Mem.put (h:Mem w p b m N B nx hd cnt) (hown:w.ownsMap Tryz.prog 23 unitElem m (Maps.size D) D) (hhas:∀ a:Int,0<=a->a<18446744073709551616->Maps.has D (.int .u64 a)=hd a) (hsz:Maps.size D=cnt)
  (a:Int) (ha:0<=a∧a<18446744073709551616) (hf:hd a=false) {n:Nat} (h1:w'.ownsMap Tryz.prog 23 unitElem m n (D.put (.int .u64 a) (.agg []))) (t:w.mapTurned w' m) :
  Mem w' p b m N B nx (fun x=>decide (x=a) || hd x) (cnt+1):=by
 refine h.turn t h1 (fun x hx0 hx1=>?_) ?_
 ·by_cases e:x=a
  ·subst e
   rw[Maps.has_put_same hown.isMap (isKey _)]
   simp
  ·rw[Maps.has_put_other (ne_lit e),hhas x hx0 hx1]
   simp[e]
 ·rw[Maps.size_put (hown.tidy law22),hhas a ha.1 ha.2,hf]
  simp[hsz]
theorem Mem.del (h:Mem w p b m N B nx hd cnt) (hown:w.ownsMap Tryz.prog 23 unitElem m (Maps.size D) D) (hhas:∀ a:Int,0<=a->a<18446744073709551616->Maps.has D (.int .u64 a)=hd a) (hsz:Maps.size D=cnt)
  (a:Int) (ha:0<=a∧a<18446744073709551616) (hf:hd a=true) {n:Nat} (h1:w'.ownsMap Tryz.prog 23 unitElem m n (D.del (.int .u64 a))) (t:w.mapTurned w' m) :
  Mem w' p b m N B nx (fun x=>!decide (x=a) && hd x) (cnt-1):=by
 refine h.turn t h1 (fun x hx0 hx1=>?_) ?_
 ·by_cases e:x=a
  ·subst e
   rw[Maps.has_del_same]
   simp
  ·rw[Maps.has_del_other (ne_lit e),hhas x hx0 hx1]
   simp[e]
 ·have:=Maps.size_del (k:=.int .u64 a) (hown.tidy law22)
  rw[hhas a ha.1 ha.2,hf,hsz] at this
  simp at this
  omega
end
def adr:List Nat->Int
 |[]=>0
 |i :: _=>2147483648+i*4096
theorem adr_bd {N:Nat} (hN:N<=4096) {L:List Nat} (h:∀ i∈L,1<=i∧i<N):0<=adr L∧adr L<18446744073709551616:=by
 cases L with
 |nil=>simp[adr]
 |cons i l=>
  have:=h i (List.mem_cons_self ..)
  simp only[adr]
  omega
def jb (v:Int) (k:Nat):Int:=if k<8 then v/256 ^ k%256 else 5
def Thr (B:Nat->Int):List Nat->Prop
 |[]=>True
 |i :: l=>(∀ k,k<4096->B (i*4096+k)=jb (adr l) k)∧Thr B l
def hdL (N:Nat) (L:List Nat) (a:Int):Bool:=isFr a N && !decide (((a-2147483648)/4096).toNat∈L)
theorem le_get (v:Int) (n k:Nat) (h:k<n):(le v n).getD k 0=v/256 ^ k%256:=by
 simp[le,List.getD_eq_getElem?_getD,List.getElem?_range h]
theorem junk_get (k:Nat) (h:k<4088):junk.getD k 0=5:=by
 simp only[junk,List.getD_eq_getElem?_getD,List.getElem?_replicate,if_pos h]
 rfl
theorem thr_in (B:Nat->Int) (i:Nat) (v:Int) (k:Nat) (hk:k<4096):thr B i v (i*4096+k)=jb v k:=by
 unfold thr over jb
 rw[le_len,junk_len]
 by_cases h8:k<8
 ·rw[if_neg (by omega),if_pos (by omega),if_pos h8,show i*4096+k-i*4096=k by omega,le_get v 8 k h8]
 ·rw[if_pos (by omega),if_neg h8,junk_get _ (by omega)]
theorem thr_out (B:Nat->Int) (i:Nat) (v:Int) (j:Nat) (hj:j<i*4096∨i*4096+4096<=j):thr B i v j=B j:=by
 unfold thr over
 rw[le_len,junk_len,if_neg (by omega),if_neg (by omega)]
theorem Thr.congr {B B':Nat->Int}:∀ {L:List Nat},Thr B L->(∀ i∈L,∀ k,k<4096->B' (i*4096+k)=B (i*4096+k))->Thr B' L
 |[],_,_=>trivial
 |i :: l,h,e=>⟨fun k hk=>(e i (List.mem_cons_self ..) k hk).trans (h.1 k hk),Thr.congr h.2 (fun j hj=>e j (List.mem_cons_of_mem _ hj))⟩
theorem Thr.cons {B:Nat->Int} {L:List Nat} (h:Thr B L) (i:Nat) (hi:i∉L):Thr (thr B i (adr L)) (i :: L):=
 ⟨fun k hk=>thr_in B i _ k hk,h.congr (fun j hj k hk=>thr_out B i _ _ (by have:j≠i:=fun e=>hi (e ▸ hj);omega))⟩
theorem nodup_le:∀ (n:Nat) (L:List Nat),L.Nodup->(∀ i∈L,i<n)->L.length<=n
 |0,L,_,h=>by
  cases L with
  |nil=>exact Nat.le_refl _
  |cons i l=>exact absurd (h i (List.mem_cons_self ..)) (Nat.not_lt_zero _)
 |n+1,L,hn,h=>by
  have h1:=nodup_le n (L.erase n) (hn.erase n) (fun i hi=>by
   rw[hn.mem_erase_iff] at hi
   have:=h i hi.2
   omega)
  have h2:=List.length_erase (a:=n) (l:=L)
  split at h2<;>omega
theorem length_le (N:Nat) (L:List Nat) (hN:1<=N) (hn:L.Nodup) (hl:∀ i∈L,1<=i∧i<N):L.length+1<=N:=by
 refine nodup_le N (0 :: L) (List.nodup_cons.2 ⟨fun h=>by have:=hl 0 h;omega,hn⟩) (fun i hi=>?_)
 rcases List.mem_cons.1 hi with rfl|h
 ·omega
 ·exact(hl i h).2
structure Ram (w:World) (p b m N:Nat) (B:Nat->Int) (L:List Nat):Prop where
 mem:Mem w p b m N B (adr L) (hdL N L) (N-L.length)
 nd:L.Nodup
 lt:∀ i∈L,1<=i∧i<N
 thr:Thr B L
theorem num_jb (B:Nat->Int) (o:Nat) (v:Int) (hv:0<=v∧v<18446744073709551616) (h:∀ k,k<8->B (o+k)=v/256 ^ k%256):num B o 8=v:=by
 have key:∀ n,n<=8->num B o n=md v n:=by
  intro n
  induction n with
  |zero=>intro _;rw[md_zero];rfl
  |succ n ih=>intro hn;rw[md_step];simp only[num];rw[ih (by omega),h n (by omega),Int.mul_comm]
 rw[key 8 (by omega)]
 unfold md
 omega
end Rm
namespace Rm
open Go.RowKit
def zeros:List Int:=List.replicate 4096 0
theorem zeros_len:zeros.length=4096:=List.length_replicate
theorem zeros_map:zeros.map (Value.int .u8)=List.replicate 4096 (.int .u8 0):=List.map_replicate
theorem zeros_bd:∀ x∈zeros,0<=x∧x<256:=fun x hx=>by rw[List.eq_of_mem_replicate hx];omega
def zer (B:Nat->Int) (i:Nat):Nat->Int:=over B (i*4096) zeros
theorem zeros_get (k:Nat):zeros.getD k 0=0:=by
 simp only[zeros,List.getD_eq_getElem?_getD,List.getElem?_replicate]
 split<;>rfl
theorem zer_in (B:Nat->Int) (i k:Nat) (hk:k<4096):zer B i (i*4096+k)=0:=by
 unfold zer over
 rw[zeros_len,if_pos (by omega),zeros_get]
theorem zer_out (B:Nat->Int) (i j:Nat) (hj:j<i*4096∨i*4096+4096<=j):zer B i j=B j:=by
 unfold zer over
 rw[zeros_len,if_neg (by omega)]
theorem zero5 (w:World):(zeroValue 5).run Tryz.prog w = .ok (.int .u8 0) w:=by kernel_rfl
theorem clear_frame {w:World} {p b m N cnt:Nat} {B:Nat->Int} {nx:Int} {hd:Int->Bool} (h:Mem w p b m N B nx hd cnt) (i:Nat) (hi:i<N) (c:Nat) :
  ∃ w',(∀ ty,(Builtin.clear_ #[24] ty #[.slice (some ⟨b,i*4096,.none⟩) 4096 c]).run Tryz.prog w = .ok (.tuple #[]) w')∧Mem w' p b m N (zer B i) nx hd cnt∧Fra p b m w w':=by
 refine⟨w.setCells b (i*4096) (zeros.map (.int .u8)),fun ty=>?_,h.setCells _ _ (by rw[zeros_len];omega) zeros_bd,(Fra.refl p b m w).setCells _ _⟩
 rw[zeros_map]
 exact Lib.run_clear_slice w 24 5 ty (.int .u8 0) Tryz.underlying24 zero5 rfl rfl b (i*4096) 4096 c (by omega) (fun j hj=>by rw[h.cb _ (by omega)];rfl) (fun j hj=>h.fb _ (by omega))
theorem isFr_addr (i N:Nat) (hi:i<N):isFr (2147483648+i*4096) N=true:=by
 simp only[isFr,decide_eq_true_eq]
 omega
theorem addr_frame (i:Nat):((2147483648+(i:Int)*4096-2147483648)/4096).toNat=i:=by omega
theorem hdL_addr (N:Nat) (L:List Nat) (i:Nat) (hi:i<N):hdL N L (2147483648+i*4096) = !decide (i∈L):=by
 unfold hdL
 rw[isFr_addr i N hi,addr_frame]
 simp
theorem hdL_cons (N:Nat) (i:Nat) (l:List Nat) (hi:i<N) (hn:i∉l) (a:Int):(decide (a=2147483648+(i:Int)*4096) || hdL N (i :: l) a)=hdL N l a:=by
 by_cases e:a=2147483648+(i:Int)*4096
 ·subst e
  rw[hdL_addr N l i hi]
  simp[hn]
 ·unfold hdL
  cases hf:isFr a N with
  |false=>simp[e]
  |true=>
   have hf':a%4096=0∧2147483648<=a∧a<2147483648+(N:Int)*4096:=by simpa [isFr] using hf
   have:((a-2147483648)/4096).toNat≠i:=by omega
   simp[e,this]
section
variable {w:World} {p b m N:Nat} {B:Nat->Int} {l L:List Nat}
theorem alloc_some (i:Nat) (h:Ram w p b m N B (i :: l)):Calls Tryz.prog 9 #[.pointer (some ⟨p,0,.none⟩)] w fun e w'=>e = .returned (.tuple #[.int .u64 (2147483648+i*4096),.bool true])∧Ram w' p b m N (zer B i) l∧Fra p b m w w':=by
 have hi:=h.lt i (List.mem_cons_self ..)
 have n2:=h.mem.n2
 have hn:=List.nodup_cons.1 h.nd
 have ha:=adr_bd n2 (L:=l) (fun j hj=>h.lt j (List.mem_cons_of_mem _ hj))
 have c:=made_some p b _ _ w h.mem.c0
 have c1:=behind_any h.mem i hi.2
 rw[num_jb B (i*4096) (adr l) ha (fun k hk=>(h.thr.1 k (by omega)).trans (by simp[jb,hk]))] at c1
 have h1:=h.mem.setNext (adr l) ha
 have c2:=frame_any h1 i hi.2
 have F1:Fra p b m w (w.setCell ⟨p,1,.none⟩ (.int .u64 (adr l))):=(Fra.refl p b m w).setCell _ _ (.inl rfl)
 obtain⟨w2,hcl,h2,F2⟩:=clear_frame h1 i hi.2 (4096*N-i*4096)
 have k0:w.cell? ⟨p,1,.none⟩=some (.int .u64 (2147483648+i*4096)):=h.mem.c1
 have k1:=h.mem.f1
 have k2:=h2.c2
 have HR:Hid (Ram w p b m N B (i :: l)):=h
 have HF:Hid (Fra p b m w w2):=F1.trans F2
 have H2:Hid (Mem w2 p b m N (zer B i) (adr l) (hdL N (i :: l)) (N-(i :: l).length)):=h2
 clear h h1 h2 F1 F2
 obtain⟨D,hown,hhas,hsz⟩:=H2.out.hm
 have hmax:Maps.size D<maxLen:=by rw[hsz];unfold maxLen;omega
 generalize hA:adr l=A at *
 have HA:Hid (adr l=A):=hA
 clear hA
 go_enter Tryz.func9,Tryz.ntmps9
 go_wp2_with (first|(go_at_call 33;refine c.mono ?_;rintro e w0 ⟨rfl,rfl⟩)|(go_at_call 34;refine c1.mono ?_;rintro e w0 ⟨rfl,rfl⟩)|(go_at_call 35;refine c2.mono ?_;rintro e w1 ⟨rfl,rfl⟩)|(at_mapUpdate;refine wpList_mapUpdate_in _ rfl _ _ _ 78 rfl 23 83 law22 Tryz.underlying78 unitElem m _ D rfl hown hmax _ _ _ rfl rfl (Maps.keyOf_int_mk Tryz.underlying23 (WalkArith.wf_u64 (by omega))) _ [] unitElem_mk ?_;intro w4 hown4 hturn))
 go_ret2
 have hR:=HR.out
 have h4:=H2.out.put hown hhas hsz (2147483648+i*4096) (by omega) (by rw[hdL_addr N _ i hi.2];simp) hown4 hturn
 have hl:=length_le N (i :: l) hR.mem.n1 hR.nd hR.lt
 refine⟨rfl,⟨?_,hn.2,fun j hj=>hR.lt j (List.mem_cons_of_mem _ hj),hR.thr.2.congr (fun j hj k hk=>zer_out B i _ ?_)⟩,HF.out.turned hturn⟩
 ·have h5:=h4.congr (fun a _ _=>hdL_cons N i l hi.2 hn.1 a)
  rw[HA.out,show N-l.length=N-(i :: l).length+1 by simp at hl ⊢;omega]
  exact h5
 ·have:j≠i:=fun e=>hn.1 (e ▸ hj)
  omega
theorem hdL_del (N:Nat) (i:Nat) (L:List Nat) (hi:i<N) (a:Int):(!decide (a=2147483648+(i:Int)*4096) && hdL N L a)=hdL N (i :: L) a:=by
 by_cases e:a=2147483648+(i:Int)*4096
 ·subst e
  rw[hdL_addr N (i :: L) i hi]
  simp
 ·unfold hdL
  cases hf:isFr a N with
  |false=>simp[e]
  |true=>
   have hf':a%4096=0∧2147483648<=a∧a<2147483648+(N:Int)*4096:=by simpa [isFr] using hf
   have:((a-2147483648)/4096).toNat≠i:=by omega
   simp[e,this]
theorem free_held (i:Nat) (h:Ram w p b m N B L) (h1:1<=i) (hi:i<N) (hn:i∉L):Calls Tryz.prog 156 #[.pointer (some ⟨p,0,.none⟩),.int .u64 (2147483648+i*4096)] w fun e w'=>e = .returned (.int .i64 0)∧Ram w' p b m N (thr B i (adr L)) (i :: L)∧Fra p b m w w':=by
 have n2:=h.mem.n2
 have hl:=length_le N L h.mem.n1 h.nd h.lt
 have c:=made_some p b _ _ w h.mem.c0
 have c1:=frames_any h.mem
 have c2:=isFrame_any (2147483648+i*4096) N (by omega) (by omega) (by omega) w
 rw[isFr_addr i N hi] at c2
 have c3:=isHeld_any h.mem (2147483648+i*4096) (by omega)
 rw[hdL_addr N L i hi] at c3
 simp only[hn,decide_false,Bool.not_false] at c3
 have HR:Hid (Ram w p b m N B L):=h
 clear h
 go_enter Tryz.func156,Tryz.ntmps156
 go_wp2_with (first|(go_at_call 33;refine c.mono ?_;rintro e w0 ⟨rfl,rfl⟩)|(go_at_call 41;refine c1.mono ?_;rintro e w0 ⟨rfl,rfl⟩)|(go_at_call 189;refine c2.mono ?_;rintro e w0 ⟨rfl,rfl⟩)|fail)
 refine c3.mono ?_
 rintro e w1 ⟨rfl,hb⟩
 have M1:Hid (Mem w1 p b m N B (adr L) (hdL N L) (N-L.length)):=HR.out.mem.below hb
 have HF:Hid (Fra p b m w0 w1):=Fra.below hb
 clear hb c c1 c2 c3
 have k2:=M1.out.c2
 obtain⟨D,hown,hhas,hsz⟩:=M1.out.hm
 go_wp2_with (first|(at_delete;refine wpList_delete_own _ rfl _ _ 78 23 rfl 83 law22 Tryz.underlying78 unitElem m _ D rfl hown _ _ rfl (Maps.keyOf_int_mk Tryz.underlying23 (WalkArith.wf_u64 (by omega))) ?_;intro w2 hown2 hturn)|fail)
 have M2:Mem w2 p b m N B (adr L) (hdL N (i :: L)) (N-(i :: L).length):=by
  have h5:=(M1.out.del hown hhas hsz (2147483648+i*4096) (by omega) (by rw[hdL_addr N L i hi];simp[hn]) hown2 hturn).congr (fun a _ _=>hdL_del N i L hi a)
  rw[show N-(i :: L).length=N-L.length-1 by simp;omega]
  exact h5
 refine(thread_any M2 i hi).mono ?_
 rintro e w3 ⟨⟨v,rfl⟩,M3,F3⟩
 have HM3:Hid (Ram w3 p b m N (thr B i (adr L)) (i :: L)):=⟨M3,List.nodup_cons.2 ⟨hn,HR.out.nd⟩,fun j hj=>by rcases List.mem_cons.1 hj with rfl|h;exact⟨h1,hi⟩;exact HR.out.lt j h,HR.out.thr.cons i hn⟩
 have HF3:Hid (Fra p b m w0 w3):=(HF.out.turned hturn).trans F3
 clear M2 M3 F3 hturn hown2 hown hhas hsz k2
 go_wp2
 go_ret
 exact⟨rfl,HM3.out,HF3.out⟩
end
end Rm
namespace Rm
open Go.RowKit
def down:Nat->List Nat
 |0=>[]
 |k+1=>(k+1) :: down k
theorem down_mem:∀ (k i:Nat),i∈down k↔1<=i∧i<=k
 |0,i=>by simp[down];omega
 |k+1,i=>by
  simp only[down,List.mem_cons,down_mem k i]
  omega
theorem down_nd:∀ k:Nat,(down k).Nodup
 |0=>List.nodup_nil
 |k+1=>List.nodup_cons.2 ⟨fun h=>by have:=(down_mem k (k+1)).1 h;omega,down_nd k⟩
theorem down_len:∀ k:Nat,(down k).length=k
 |0=>rfl
 |k+1=>by simp only[down,List.length_cons,down_len k]
def newB:Nat->Nat->Int
 |0=>over (fun _=>0) 0 (le 270532723 4)
 |k+1=>thr (newB k) (k+1) (adr (down k))
theorem newB_thr:∀ k:Nat,Thr (newB k) (down k)
 |0=>trivial
 |k+1=>(newB_thr k).cons (k+1) (fun h=>by have:=(down_mem k (k+1)).1 h;omega)
theorem hd_new (n:Nat) (h:1<=n) (a:Int):(decide (a=2147483648) || false)=hdL n (down (n-1)) a:=by
 unfold hdL
 by_cases e:a=2147483648
 ·subst e
  have h1:=isFr_addr 0 n (by omega)
  simp only[Int.natCast_zero,Int.zero_mul,Int.add_zero] at h1
  have h2:¬ 0∈down (n-1):=fun h=>by have:=(down_mem _ _).1 h;omega
  simp[h1,h2]
 ·cases hf:isFr a n with
  |false=>simp[e]
  |true=>
   have hf':a%4096=0∧2147483648<=a∧a<2147483648+(n:Int)*4096:=by simpa [isFr] using hf
   have:((a-2147483648)/4096).toNat∈down (n-1):=(down_mem _ _).2 (by omega)
   simp[e,this]
def NewP (w:World) (n:Nat) (e:Ending) (w':World):Prop:=∃ p b m,w.heap.size<=p∧w.heap.size<=b∧w.heap.size<=m∧e = .returned (.tuple #[.pointer (some ⟨p,0,.none⟩),.nilIface])∧Ram w' p b m n (newB (n-1)) (down (n-1))∧Below w.heap.size w w'
theorem new_any (n:Nat) (h1:1<=n) (h2:n<=4096) (w:World):Calls Tryz.prog 32 #[.int .i64 n] w fun e w'=>NewP w n e w':=by
 have c:=mayHave_any n w
 have e0:decide (1<=(n:Int)∧(n:Int)<=4096)=true:=by simp;omega
 rw[e0] at c
 have c1:=blank_any n h1 h2 w
 go_enter Tryz.func32,Tryz.ntmps32
 go_wp2_with (first|(go_at_call 72;refine c.mono ?_;rintro e w0 ⟨rfl,rfl⟩)|fail)
 refine c1.mono ?_
 rintro e w1 ⟨p,b,m,hp,hb,hm,rfl,M1,B1⟩
 clear c c1
 have HM1:Hid (Mem w1 p b m n (fun _=>0) 0 (fun _=>false) 0):=M1
 have HB1:Hid (Below w0.heap.size w0 w1):=B1
 have k2:=M1.c2
 obtain⟨D,hown,hhas,hsz⟩:=M1.hm
 have hmax:Maps.size D<maxLen:=by rw[hsz];unfold maxLen;omega
 clear M1 B1
 go_wp2_with (first|(at_mapUpdate;refine wpList_mapUpdate_in _ rfl _ _ _ 78 rfl 23 83 law22 Tryz.underlying78 unitElem m _ D rfl hown hmax _ _ _ rfl rfl (Maps.keyOf_int_mk Tryz.underlying23 (WalkArith.wf_u64 (by omega))) _ [] unitElem_mk ?_;intro w2 hown2 hturn)|fail)
 have M2:=HM1.out.put hown hhas hsz 2147483648 (by omega) rfl hown2 hturn
 have F2:Fra p b m w1 w2:=(Fra.refl p b m w1).turned hturn
 clear hown hhas hsz hmax hown2 hturn
 have c2:=frame_any M2 0 (by omega)
 simp only[Int.natCast_zero,Int.zero_mul,Int.add_zero,Nat.zero_mul,Nat.sub_zero] at c2
 have c3:=number32_write b 0 4096 (4096*n) 270532723 w2 (by omega) (fun k hk=>by rw[M2.cb _ (by omega)];rfl) (fun k hk=>M2.fb _ (by omega)) (by omega)
 have M3:=M2.setCells 0 (le 270532723 4) (by rw[le_len];omega) (le_bd _ _)
 have F3:=F2.setCells 0 ((le 270532723 4).map (.int .u8))
 generalize w2.setCells b 0 ((le 270532723 4).map (.int .u8))=w3 at *
 go_wp2_with (first|(go_at_call 35;refine c2.mono ?_;rintro e w4 ⟨rfl,rfl⟩)|(go_at_call 75;refine c3.mono ?_;rintro e w5 ⟨rfl,rfl⟩)|fail)
 have HM3:Hid (Mem w5 p b m n (newB 0) (adr (down 0)) (fun x=>decide (x=2147483648) || false) 1):=M3
 have HF3:Hid (Fra p b m w1 w5):=F3
 clear M2 F2 M3 F3 c2 c3
 go_loopw [5] (fun k wr=>∃ i:Nat,i+1<=n∧k = .int .i64 (i+1)∧Mem wr p b m n (newB i) (adr (down i)) (fun x=>decide (x=2147483648) || false) 1∧Fra p b m w1 wr) (fun k _=>n-(intOf k).toNat)
 case atStart=>exact⟨0,by omega,rfl,HM3.out,HF3.out⟩
 case round=>
  obtain⟨i,hi,rfl,M,F⟩:=hrel
  have HM:Hid (Mem wr p b m n (newB i) (adr (down i)) (fun x=>decide (x=2147483648) || false) 1):=M
  have HF:Hid (Fra p b m w1 wr):=F
  by_cases hin:i+1<n
  ·have i1:(i:Int)+1<n:=by omega
   have c4:=addr_any (i+1) (by omega) (by omega) wr
   have c5:=thread_any M (i+1) hin
   rw[show ((i+1:Nat):Int)=(i:Int)+1 by omega] at c5
   clear M F
   go_wp2_with (first|(go_at_call 77;refine c4.mono ?_;rintro e w6 ⟨rfl,rfl⟩)|fail)
   refine c5.mono ?_
   rintro e w7 ⟨⟨v,rfl⟩,M7,F7⟩
   have HM7:Hid (Mem w7 p b m n (newB (i+1)) (adr (down (i+1))) (fun x=>decide (x=2147483648) || false) 1):=by
    have:=M7
    rw[show (2147483648+((i:Int)+1)*4096)=adr (down (i+1)) by simp[down,adr]] at this
    exact this
   have HF7:Hid (Fra p b m w1 w7):=HF.out.trans F7
   clear M7 F7 c4 c5
   go_wp2
   exact⟨⟨i+1,by omega,by simp,HM7.out,HF7.out⟩,by simp[intOf];omega⟩
  ·have i1:¬ ((i:Int)+1<n):=by omega
   clear M F
   go_wp2
   go_ret2
   have ein:i=n-1:=by omega
   subst ein
   refine⟨p,b,m,hp,hb,hm,rfl,⟨?_,down_nd _,fun j hj=>by have:=(down_mem _ _).1 hj;omega,newB_thr _⟩,HB1.out.trans (HF.out.toBelow (HB1.out.size) hp hb hm)⟩
   have:=HM.out.congr (fun a _ _=>hd_new n h1 a)
   rw[down_len,show n-(n-1)=1 by omega]
   exact this
end Rm
namespace Rm
open Go.RowKit
section
variable {w:World} {p b m N cnt:Nat} {B:Nat->Int} {nx:Int} {hd:Int->Bool}
theorem reach_ok (h:Mem w p b m N B nx hd cnt) (o n:Nat) (hn:1<=n) (ho:o+n<=4096*N) (hh:∀ f:Nat,o/4096<=f->f*4096<o+n->hd (2147483648+f*4096)=true) :
  Calls Tryz.prog 58 #[.pointer (some ⟨p,0,.none⟩),.int .u64 (2147483648+o),.int .i64 n] w fun e w'=>e = .returned (.tuple #[.slice (some ⟨b,o,.none⟩) n (4096*N-o),.bool true])∧Below w.heap.size w w':=by
 have c:=made_some p b _ _ w h.c0
 have k0:=h.c0
 have n2:=h.n2
 have i1:¬ ((n:Int)<0):=by omega
 have i2:((n:Int) == 0)=false:=by simp;omega
 have i3:(n:Int)<=4096*N-o:=by omega
 have i4:(o:Int)<4096*N:=by omega
 have HM:Hid (Mem w p b m N B nx hd cnt):=h
 clear h
 go_enter Tryz.func58,Tryz.ntmps58
 go_wp2_with (first|(go_at_call 33;refine c.mono ?_;rintro e w0 ⟨rfl,rfl⟩)|fail)
 go_quiet (fail)
 go_wp2
 simp only[show (2147483648+(o:Int)-2147483648)=o by omega]
 go_loopw [11] (fun k wr=>∃ f:Nat,o/4096<=f∧f*4096<o+n+4096∧k = .int .u64 (2147483648+f*4096)∧Below w0.heap.size w0 wr) (fun k _=>(2147483648+o+n+4096-intOf k).toNat)
 case atStart=>exact⟨o/4096,by omega,by omega,congrArg _ (by omega),below_drewN zB _⟩
 case round=>
  obtain⟨f,hf1,hf2,rfl,hB⟩:=hrel
  have M:=HM.out.below hB
  have HB:Hid (Below w0.heap.size w0 wr):=hB
  by_cases hfn:f*4096<o+n
  ·have j1:(2147483648+(f:Int)*4096)<2147483648+(o+n):=by omega
   have q:Hid (o/4096<=f+1∧(f+1)*4096<o+n+4096∧Value.int .u64 (2147483648+(f:Int)*4096+4096) = .int .u64 (2147483648+((f+1:Nat):Int)*4096)∧(2147483648+(o:Int)+n+4096-intOf (.int .u64 (2147483648+(f:Int)*4096+4096))).toNat<(2147483648+(o:Int)+n+4096-intOf (.int .u64 (2147483648+(f:Int)*4096))).toNat):=by
    refine⟨by omega,(by rw[Nat.succ_mul];exact Nat.add_lt_add_right hfn 4096),?_,?_⟩
    ·rw[show ((f+1:Nat):Int)=(f:Int)+1 by omega,show 2147483648+((f:Int)+1)*4096=2147483648+(f:Int)*4096+4096 by omega]
    ·simp only[intOf]
     omega
   have c1:=isHeld_any M (2147483648+f*4096) (by omega)
   rw[hh f hf1 hfn] at c1
   clear M hB
   go_wp2_with (first|(go_at_call 111;refine c1.mono ?_;rintro e w1 ⟨rfl,hb1⟩)|fail)
   exact⟨⟨f+1,q.out.1,q.out.2.1,q.out.2.2.1,HB.out.trans (hb1.mono HB.out.size)⟩,q.out.2.2.2⟩
  ·have j1:¬ ((2147483648+(f:Int)*4096)<2147483648+(o+n)):=by omega
   have k0:=M.c0
   clear M hB
   go_wp2
   go_ret2
   exact⟨rfl,HB.out⟩
theorem number_read (b o n len cap:Nat) (hn:n=1∨n=2∨n=4∨n=8) (B:Nat->Int) (v:Int) (w:World) (hl:n<=len) (hB:∀ i,0<=B i∧B i<256) (hc:∀ i,i<n->w.cell? ⟨b,o+i,.none⟩=some (.int .u8 (B (o+i)))) :
  Calls Tryz.prog (if n=1 then 209 else if n=2 then 210 else if n=4 then 75 else 78) #[.slice (some ⟨b,o,.none⟩) len cap,.bool false,.int .u64 v] w fun e w'=>e = .returned (.int .u64 (num B o n))∧w'=w:=by
 rcases hn with rfl|rfl|rfl|rfl
 ·exact number8_read b o len cap B v w hl hB hc
 ·exact number16_read b o len cap B v w hl hB hc
 ·exact number32_read b o len cap B v w hl hB hc
 ·exact number64_read b o len cap B v w hl hB hc
theorem number_write (b o n len cap:Nat) (hn:n=1∨n=2∨n=4∨n=8) (v:Int) (w:World) (hl:n<=len) (hc:∀ i,i<n->(w.cell? ⟨b,o+i,.none⟩).isSome=true) (hf:∀ i,i<n->w.frozen? ⟨b,o+i,.none⟩=false) (hv:0<=v∧v<18446744073709551616) :
  Calls Tryz.prog (if n=1 then 209 else if n=2 then 210 else if n=4 then 75 else 78) #[.slice (some ⟨b,o,.none⟩) len cap,.bool true,.int .u64 v] w fun e w'=>e = .returned (.int .u64 (md v n))∧w'=w.setCells b o ((le v n).map (.int .u8)):=by
 rcases hn with rfl|rfl|rfl|rfl
 ·exact number8_write b o len cap v w hl hc hf hv
 ·exact number16_write b o len cap v w hl hc hf hv
 ·exact number32_write b o len cap v w hl hc hf hv
 ·exact number64_write b o len cap v w hl hc hf hv
theorem access_read (h:Mem w p b m N B nx hd cnt) (o n:Nat) (hn:n=1∨n=2∨n=4∨n=8) (ho:o+n<=4096*N) (hh:∀ f:Nat,o/4096<=f->f*4096<o+n->hd (2147483648+f*4096)=true) (v:Int) :
  Calls Tryz.prog 186 #[.pointer (some ⟨p,0,.none⟩),.int .u64 (2147483648+o),.int .i64 n,.bool false,.int .u64 v] w fun e w'=>e = .returned (.tuple #[.int .u64 (num B o n),.bool true])∧Below w.heap.size w w':=by
 have c:=reach_ok h o n (by omega) ho hh
 have HM:Hid (Mem w p b m N B nx hd cnt):=h
 clear h hh
 have hR:=fun w1=>number_read b o n n (4096*N-o) hn B v w1 zL HM.out.bb
 rcases hn with rfl|rfl|rfl|rfl
 all_goals
  go_enter Tryz.func186,Tryz.ntmps186
  go_wp2_with fail
  refine c.mono ?_
  rintro e w1 ⟨rfl,hb⟩
  have M1:=HM.out.below hb
  have c2:=hR w1 (fun i hi=>M1.cb _ (by omega))
  simp only[Nat.reduceEqDiff,if_true,if_false,reduceIte] at c2
  clear M1 c hR
  go_wp2_with (first|(go_at_call 209;refine c2.mono ?_;rintro e w2 ⟨rfl,rfl⟩)|(go_at_call 210;refine c2.mono ?_;rintro e w2 ⟨rfl,rfl⟩)|(go_at_call 75;refine c2.mono ?_;rintro e w2 ⟨rfl,rfl⟩)|(go_at_call 78;refine c2.mono ?_;rintro e w2 ⟨rfl,rfl⟩))
  go_ret2
  exact⟨rfl,hb⟩
end
end Rm
namespace Rm
open Go.RowKit
def RowB (w:World) (g n:Nat) (R:Nat->Int):Prop:=∀ i,i<n->w.cell? ⟨g,i,.none⟩=some (.int .u8 (R i))
section
variable {w:World} {p b m N cnt:Nat} {B:Nat->Int} {nx:Int} {hd:Int->Bool}
theorem access_write (h:Mem w p b m N B nx hd cnt) (o n:Nat) (hn:n=1∨n=2∨n=4∨n=8) (ho:o+n<=4096*N) (hh:∀ f:Nat,o/4096<=f->f*4096<o+n->hd (2147483648+f*4096)=true) (v:Int) (hv:0<=v∧v<18446744073709551616) :
  Calls Tryz.prog 186 #[.pointer (some ⟨p,0,.none⟩),.int .u64 (2147483648+o),.int .i64 n,.bool true,.int .u64 v] w fun e w'=>e = .returned (.tuple #[.int .u64 (md v n),.bool true])∧Mem w' p b m N (over B o (le v n)) nx hd cnt∧Fra p b m w w':=by
 have c:=reach_ok h o n (by omega) ho hh
 have HM:Hid (Mem w p b m N B nx hd cnt):=h
 clear h hh
 have hR:=fun w1=>number_write b o n n (4096*N-o) hn v w1 zL
 have HE:Hid (∀ w1 w2,Below w.heap.size w w1->w2=w1.setCells b o ((le v n).map (.int .u8))->Mem w2 p b m N (over B o (le v n)) nx hd cnt∧Fra p b m w w2):=fun w1 w2 hb e=>by
  subst e
  exact⟨(HM.out.below hb).setCells o _ (by rw[le_len];exact ho) (le_bd v _),(Fra.below (p:=p) (b:=b) (m:=m) hb).setCells o _⟩
 rcases hn with rfl|rfl|rfl|rfl
 all_goals
  go_enter Tryz.func186,Tryz.ntmps186
  go_wp2_with fail
  refine c.mono ?_
  rintro e w1 ⟨rfl,hb⟩
  have M1:=HM.out.below hb
  have c2:=hR w1 (fun i hi=>by rw[M1.cb _ (by omega)];rfl) (fun i hi=>M1.fb _ (by omega)) hv
  simp only[Nat.reduceEqDiff,if_true,if_false,reduceIte] at c2
  clear M1 c hR
  go_wp2_with (first|(go_at_call 209;refine c2.mono ?_;rintro e w2 ⟨rfl,hw⟩;have hE:=HE.out w1 w2 hb hw;clear hw)|(go_at_call 210;refine c2.mono ?_;rintro e w2 ⟨rfl,hw⟩;have hE:=HE.out w1 w2 hb hw;clear hw)|(go_at_call 75;refine c2.mono ?_;rintro e w2 ⟨rfl,hw⟩;have hE:=HE.out w1 w2 hb hw;clear hw)|(go_at_call 78;refine c2.mono ?_;rintro e w2 ⟨rfl,hw⟩;have hE:=HE.out w1 w2 hb hw;clear hw))
  go_ret2
  exact⟨rfl,hE⟩
theorem load_ok (h:Mem w p b m N B nx hd cnt) (o n:Nat) (hn:n=1∨n=2∨n=4∨n=8) (ho:o+n<=4096*N) (hh:∀ f:Nat,o/4096<=f->f*4096<o+n->hd (2147483648+f*4096)=true) :
  Calls Tryz.prog 152 #[.pointer (some ⟨p,0,.none⟩),.int .u64 (2147483648+o),.int .i64 n] w fun e w'=>e = .returned (.tuple #[.int .u64 (num B o n),.bool true])∧Below w.heap.size w w':=by
 have c:=access_read h o n hn ho hh 0
 clear h hh hn
 go_enter Tryz.func152,Tryz.ntmps152
 go_wp2_with (go_at_call 186;refine c.mono ?_;rintro e w1 ⟨rfl,hb⟩)
 go_ret2
 exact⟨rfl,hb⟩
theorem store_ok (h:Mem w p b m N B nx hd cnt) (o n:Nat) (hn:n=1∨n=2∨n=4∨n=8) (ho:o+n<=4096*N) (hh:∀ f:Nat,o/4096<=f->f*4096<o+n->hd (2147483648+f*4096)=true) (v:Int) (hv:0<=v∧v<18446744073709551616) :
  Calls Tryz.prog 160 #[.pointer (some ⟨p,0,.none⟩),.int .u64 (2147483648+o),.int .i64 n,.int .u64 v] w fun e w'=>e = .returned (.bool true)∧Mem w' p b m N (over B o (le v n)) nx hd cnt∧Fra p b m w w':=by
 have c:=access_write h o n hn ho hh v hv
 clear h hh hn hv
 go_enter Tryz.func160,Tryz.ntmps160
 go_wp2_with (go_at_call 186;refine c.mono ?_;rintro e w1 ⟨rfl,hM,hF⟩)
 go_ret
 exact⟨rfl,hM,hF⟩
def CopyP (w:World) (n:Nat) (R:Nat->Int) (e:Ending) (w':World):Prop:=∃ g,w.heap.size<=g∧g<w'.heap.size∧e = .returned (.slice (some ⟨g,0,.none⟩) n n)∧RowB w' g n R∧(∀ i,i<n->w'.frozen? ⟨g,i,.none⟩=false)∧Below w.heap.size w w'
theorem copied_any (b o n cap:Nat) (R:Nat->Int) (w:World) (hn:1<=n) (hn2:n<=16777216) (hc:∀ i,i<n->w.cell? ⟨b,o+i,.none⟩=some (.int .u8 (R i))) :
  Calls Tryz.prog 59 #[.slice (some ⟨b,o,.none⟩) n cap] w fun e w'=>CopyP w n R e w':=by
 have hmk:=make_bytes n hn2 w
 have hb:b<w.heap.size:=zC (hc 0 hn)
 have HZ:∀ i,i<n->(w.alloc (.cells (Zs n) 5)).cell? ⟨w.heap.size,i,.none⟩=some (.int .u8 0):=fun i hi=>by
  rw[World.cell?_alloc_at _ _ _ _ rfl]
  exact Zs_at n i hi
 have HZf:∀ i,i<n->(w.alloc (.cells (Zs n) 5)).frozen? ⟨w.heap.size,i,.none⟩=false:=fun i hi=>World.frozen?_alloc_new _ _ _ _
 have hg:w.heap.size<(w.alloc (.cells (Zs n) 5)).heap.size:=by simp
 have hB0:Below w.heap.size w (w.alloc (.cells (Zs n) 5)):=zB.alloc zL _
 have hcp:∀ ty,(Builtin.copy_ #[24,24] ty #[.slice (some ⟨w.heap.size,0,.none⟩) n n,.slice (some ⟨b,o,.none⟩) n cap]).run Tryz.prog (w.alloc (.cells (Zs n) 5)) = .ok (.int .i64 n) ((w.alloc (.cells (Zs n) 5)).setCells w.heap.size 0 ((List.range n).map fun i=>.int .u8 (R i))):=fun ty=>by
  have:=run_copy_cells (P:=Tryz.prog) (w.alloc (.cells (Zs n) 5)) 24 24 ty 5 w.heap.size 0 n n ⟨b,o,.none⟩ n cap ((List.range n).map fun i=>.int .u8 (R i)) Tryz.underlying24 info5 (by simp)
   (fun j v hj=>by
    rw[addr_add]
    rw[List.getElem?_map] at hj
    by_cases hjn:j<n
    ·rw[List.getElem?_range hjn] at hj
     simp only[Option.map_some,Option.some.injEq] at hj
     subst hj
     rw[World.cell?_alloc_past _ _ _ (show b<w.heap.size from hb)]
     exact hc j hjn
    ·rw[List.getElem?_eq_none (by simp;omega)] at hj
     cases hj)
   (fun j hj=>by rw[Nat.zero_add,HZ j (by simpa using hj)];rfl) (fun j hj=>by rw[Nat.zero_add];exact HZf j (by simpa using hj)) (fun v hv=>by simp only[List.mem_map] at hv;obtain⟨i,_,rfl⟩:=hv;rfl)
  rw[this]
  simp[goInt]
 have HR:Hid (RowB ((w.alloc (.cells (Zs n) 5)).setCells w.heap.size 0 ((List.range n).map fun i=>.int .u8 (R i))) w.heap.size n R):=fun i hi=>by
  have:=World.cell?_setCells_in w.heap.size ((List.range n).map fun i=>Value.int .u8 (R i)) 0 (w.alloc (.cells (Zs n) 5)) (fun j hj=>by rw[Nat.zero_add,HZ j (by simpa using hj)];rfl) i (by simpa using hi)
  rw[Nat.zero_add] at this
  rw[this]
  simp
 have HRf:Hid (∀ i,i<n->((w.alloc (.cells (Zs n) 5)).setCells w.heap.size 0 ((List.range n).map fun i=>.int .u8 (R i))).frozen? ⟨w.heap.size,i,.none⟩=false):=fun i hi=>by rw[World.frozen?_setCells];exact HZf i hi
 have HBl:Hid (Below w.heap.size w ((w.alloc (.cells (Zs n) 5)).setCells w.heap.size 0 ((List.range n).map fun i=>.int .u8 (R i)))):=by
  have key:∀ (us:List Value) (o:Nat) (w1:World),Below w.heap.size w w1->Below w.heap.size w (w1.setCells w.heap.size o us):=by
   intro us
   induction us with
   |nil=>intro o w1 h;exact h
   |cons u us ih=>intro o w1 h;exact ih (o+1) _ (h.setCell (p:=⟨w.heap.size,o,.none⟩) zL _)
  exact key _ 0 _ hB0
 have HS:Hid (w.heap.size<((w.alloc (.cells (Zs n) 5)).setCells w.heap.size 0 ((List.range n).map fun i=>.int .u8 (R i))).heap.size):=zC (HR.out 0 hn)
 generalize (w.alloc (.cells (Zs n) 5)).setCells w.heap.size 0 ((List.range n).map fun i=>.int .u8 (R i))=w2 at *
 clear hc HZ HZf hB0 hg
 generalize w.alloc (.cells (Zs n) 5)=w1 at *
 go_enter Tryz.func59,Tryz.ntmps59
 go_wp2
 go_ret
 exact⟨w.heap.size,Nat.le_refl _,HS.out,rfl,HR.out,HRf.out,HBl.out⟩
end
end Rm
namespace Rm
open Go.RowKit
def ReadP (w:World) (n:Nat) (R:Nat->Int) (e:Ending) (w':World):Prop:=∃ g,w.heap.size<=g∧g<w'.heap.size∧e = .returned (.tuple #[.slice (some ⟨g,0,.none⟩) n n,.bool true])∧RowB w' g n R∧(∀ i,i<n->w'.frozen? ⟨g,i,.none⟩=false)∧Below w.heap.size w w'
section
variable {w:World} {p b m N cnt:Nat} {B:Nat->Int} {nx:Int} {hd:Int->Bool}
theorem read_ok (h:Mem w p b m N B nx hd cnt) (o n:Nat) (hn:1<=n) (ho:o+n<=4096*N) (hh:∀ f:Nat,o/4096<=f->f*4096<o+n->hd (2147483648+f*4096)=true) :
  Calls Tryz.prog 20 #[.pointer (some ⟨p,0,.none⟩),.int .u64 (2147483648+o),.int .i64 n] w fun e w'=>ReadP w n (fun i=>B (o+i)) e w':=by
 have c:=reach_ok h o n hn ho hh
 have HM:Hid (Mem w p b m N B nx hd cnt):=h
 have n2:=h.n2
 clear h hh
 have i1:((n:Int) == 0)=false:=by simp;omega
 go_enter Tryz.func20,Tryz.ntmps20
 go_wp2_with fail
 refine c.mono ?_
 rintro e w1 ⟨rfl,hb⟩
 have M1:=HM.out.below hb
 have c2:=copied_any b o n (4096*N-o) (fun i=>B (o+i)) w1 hn (by omega) (fun i hi=>M1.cb _ (by omega))
 clear M1 c
 have HB:Hid (Below w.heap.size w w1):=hb
 clear hb
 go_wp2_with fail
 refine c2.mono ?_
 rintro e w2 ⟨g,hg1,hg2,rfl,hr,hf,hb2⟩
 have HP:Hid (ReadP w n (fun i=>B (o+i)) (.returned (.tuple #[.slice (some ⟨g,0,.none⟩) n n,.bool true])) w2):=⟨g,Nat.le_trans HB.out.size hg1,hg2,rfl,hr,hf,HB.out.trans (hb2.mono HB.out.size)⟩
 clear c2 hg1 hg2 hr hf hb2
 go_wp2
 go_ret2
 exact HP.out
theorem write_ok (h:Mem w p b m N B nx hd cnt) (o n:Nat) (hn:1<=n) (ho:o+n<=4096*N) (hh:∀ f:Nat,o/4096<=f->f*4096<o+n->hd (2147483648+f*4096)=true) (g k c:Nat) (R:Nat->Int) (hR:∀ i,0<=R i∧R i<256) (hg:∀ i,i<n->w.cell? ⟨g,k+i,.none⟩=some (.int .u8 (R i))) :
  Calls Tryz.prog 103 #[.pointer (some ⟨p,0,.none⟩),.int .u64 (2147483648+o),.slice (some ⟨g,k,.none⟩) n c] w fun e w'=>e = .returned (.bool true)∧Mem w' p b m N (over B o ((List.range n).map R)) nx hd cnt∧Fra p b m w w':=by
 have c1:=reach_ok h o n hn ho hh
 have HM:Hid (Mem w p b m N B nx hd cnt):=h
 have hgw:g<w.heap.size:=zC (hg 0 hn)
 have n2:=h.n2
 have key:Hid (∀ w1,Below w.heap.size w w1 -> ∃ w2,(∀ ty,(Builtin.copy_ #[24,24] ty #[.slice (some ⟨b,o,.none⟩) n (4096*N-o),.slice (some ⟨g,k,.none⟩) n c]).run Tryz.prog w1 = .ok (.int .i64 n) w2)∧Mem w2 p b m N (over B o ((List.range n).map R)) nx hd cnt∧Fra p b m w w2):=fun w1 hb=>by
  have M1:=HM.out.below hb
  refine⟨w1.setCells b o (((List.range n).map R).map (.int .u8)),fun ty=>?_,M1.setCells o _ (by simpa using ho) (fun v hv=>by simp only[List.mem_map] at hv;obtain⟨i,_,rfl⟩:=hv;exact hR i),(Fra.below hb).setCells o _⟩
  have:=run_copy_cells (P:=Tryz.prog) w1 24 24 ty 5 b o n (4096*N-o) ⟨g,k,.none⟩ n c (((List.range n).map R).map (.int .u8)) Tryz.underlying24 info5 (by simp)
   (fun j v hj=>by
    rw[addr_add]
    rw[List.getElem?_map,List.getElem?_map] at hj
    by_cases hjn:j<n
    ·rw[List.getElem?_range hjn] at hj
     simp only[Option.map_some,Option.some.injEq] at hj
     subst hj
     exact(hb.cell (p:=⟨g,k+j,.none⟩) hgw).trans (hg j hjn)
    ·rw[List.getElem?_eq_none (by simp;omega)] at hj
     cases hj)
   (fun j hj=>by rw[M1.cb _ (by simp at hj;omega)];rfl) (fun j hj=>M1.fb _ (by simp at hj;omega)) (fun v hv=>by simp only[List.mem_map] at hv;obtain⟨i,_,rfl⟩:=hv;rfl)
  rw[this]
  simp[goInt]
 clear h hh hg hR
 go_enter Tryz.func103,Tryz.ntmps103
 go_wp2_with fail
 refine c1.mono ?_
 rintro e w1 ⟨rfl,hb⟩
 obtain⟨w2,hcp,hM,hF⟩:=key.out w1 hb
 clear c1 hb
 go_wp2
 go_ret
 exact⟨rfl,hM,hF⟩
end
end Rm
namespace Rm
open Go.RowKit
section
variable {w:World} {p b m N cnt:Nat} {B:Nat->Int} {nx:Int} {hd:Int->Bool}
theorem reach_zero (h:Mem w p b m N B nx hd cnt) (pa:Int):Calls Tryz.prog 58 #[.pointer (some ⟨p,0,.none⟩),.int .u64 pa,.int .i64 0] w fun e w'=>e = .returned (.tuple #[.slice .none 0 0,.bool true])∧w'=w:=by
 have c:=made_some p b _ _ w h.c0
 clear h
 go_enter Tryz.func58,Tryz.ntmps58
 go_wp2_with (go_at_call 33;refine c.mono ?_;rintro e w0 ⟨rfl,rfl⟩)
 go_ret2
 exact⟨rfl,rfl⟩
theorem reach_hole (h:Mem w p b m N B nx hd cnt) (o n:Nat) (hn:1<=n) (ho:o+n<=4096*N) (f0:Nat) (hf1:o/4096<=f0) (hf2:f0*4096<o+n) (hh:hd (2147483648+f0*4096)=false) :
  Calls Tryz.prog 58 #[.pointer (some ⟨p,0,.none⟩),.int .u64 (2147483648+o),.int .i64 n] w fun e w'=>e = .returned (.tuple #[.slice .none 0 0,.bool false])∧Below w.heap.size w w':=by
 have c:=made_some p b _ _ w h.c0
 have k0:=h.c0
 have n2:=h.n2
 have i1:¬ ((n:Int)<0):=by omega
 have i2:((n:Int) == 0)=false:=by simp;omega
 have i3:(n:Int)<=4096*N-o:=by omega
 have i4:(o:Int)<4096*N:=by omega
 have HM:Hid (Mem w p b m N B nx hd cnt):=h
 clear h
 go_enter Tryz.func58,Tryz.ntmps58
 go_wp2_with (first|(go_at_call 33;refine c.mono ?_;rintro e w0 ⟨rfl,rfl⟩)|fail)
 go_quiet (fail)
 go_wp2
 simp only[show (2147483648+(o:Int)-2147483648)=o by omega]
 go_loopw [11] (fun k wr=>∃ f:Nat,f<=f0∧k = .int .u64 (2147483648+f*4096)∧Below w0.heap.size w0 wr) (fun k _=>(2147483648+o+n+4096-intOf k).toNat)
 case atStart=>exact⟨o/4096,by omega,congrArg _ (by omega),below_drewN zB _⟩
 case round=>
  obtain⟨f,hff,rfl,hB⟩:=hrel
  have M:=HM.out.below hB
  have HB:Hid (Below w0.heap.size w0 wr):=hB
  have hfn:f*4096<o+n:=Nat.lt_of_le_of_lt (Nat.mul_le_mul_right _ hff) hf2
  have j1:(2147483648+(f:Int)*4096)<2147483648+(o+n):=by omega
  have c1:=isHeld_any M (2147483648+f*4096) (by omega)
  clear M hB
  cases hq:hd (2147483648+f*4096) with
  |true=>
   rw[hq] at c1
   have hne:f≠f0:=fun e=>by rw[e,hh] at hq;cases hq
   have q:Hid (f+1<=f0∧Value.int .u64 (2147483648+(f:Int)*4096+4096) = .int .u64 (2147483648+((f+1:Nat):Int)*4096)∧(2147483648+(o:Int)+n+4096-intOf (.int .u64 (2147483648+(f:Int)*4096+4096))).toNat<(2147483648+(o:Int)+n+4096-intOf (.int .u64 (2147483648+(f:Int)*4096))).toNat):=by
    refine⟨by omega,?_,?_⟩
    ·rw[show ((f+1:Nat):Int)=(f:Int)+1 by omega,show 2147483648+((f:Int)+1)*4096=2147483648+(f:Int)*4096+4096 by omega]
    ·simp only[intOf]
     omega
   go_wp2_with (first|(go_at_call 111;refine c1.mono ?_;rintro e w1 ⟨rfl,hb1⟩)|fail)
   exact⟨⟨f+1,q.out.1,q.out.2.1,HB.out.trans (hb1.mono HB.out.size)⟩,q.out.2.2⟩
  |false=>
   rw[hq] at c1
   go_wp2_with (first|(go_at_call 111;refine c1.mono ?_;rintro e w1 ⟨rfl,hb1⟩)|fail)
   go_ret2
   exact⟨rfl,HB.out.trans (hb1.mono HB.out.size)⟩
theorem reach_out (h:Mem w p b m N B nx hd cnt) (pa n:Int) (hp:0<=pa∧pa<18446744073709551616) (hn:1<=n) (hn2:n<=9223372036854775807) (ho:¬ (2147483648<=pa∧pa-2147483648+n<=4096*N)) :
  Calls Tryz.prog 58 #[.pointer (some ⟨p,0,.none⟩),.int .u64 pa,.int .i64 n] w fun e w'=>e = .returned (.tuple #[.slice .none 0 0,.bool false])∧Below w.heap.size w w':=by
 have c:=made_some p b _ _ w h.c0
 have k0:=h.c0
 have n2:=h.n2
 have i1:¬ (n<0):=by omega
 have i2:(n == 0)=false:=by simp;omega
 clear h
 by_cases h1:2147483648<=pa
 ·by_cases h2:4096*(N:Int)<=pa-2147483648
  ·go_enter Tryz.func58,Tryz.ntmps58
   go_wp2_with (first|(go_at_call 33;refine c.mono ?_;rintro e w0 ⟨rfl,rfl⟩)|fail)
   go_quiet (fail)
   go_wp2
   go_ret2
   exact⟨rfl,below_drewN zB _⟩
  ·have h3:4096*(N:Int)-(pa-2147483648)<n:=by omega
   go_enter Tryz.func58,Tryz.ntmps58
   go_wp2_with (first|(go_at_call 33;refine c.mono ?_;rintro e w0 ⟨rfl,rfl⟩)|fail)
   go_quiet (fail)
   go_wp2
   go_ret2
   exact⟨rfl,below_drewN zB _⟩
 ·have hw:IntKind.u64.wrap (pa-2147483648)=pa-2147483648+18446744073709551616:=by rw[IntKind.wrap_u64];omega
  have h2:4096*(N:Int)<=pa-2147483648+18446744073709551616:=by omega
  generalize pa-2147483648+18446744073709551616=Z at *
  go_enter Tryz.func58,Tryz.ntmps58
  go_wp2_with (first|(go_at_call 33;refine c.mono ?_;rintro e w0 ⟨rfl,rfl⟩)|fail)
  go_quiet (fail)
  go_wp2
  go_ret2
  exact⟨rfl,below_drewN zB _⟩
theorem access_no (pa n v:Int) (wr:Bool) (c:Calls Tryz.prog 58 #[.pointer (some ⟨p,0,.none⟩),.int .u64 pa,.int .i64 n] w fun e w'=>e = .returned (.tuple #[.slice .none 0 0,.bool false])∧Below w.heap.size w w') :
  Calls Tryz.prog 186 #[.pointer (some ⟨p,0,.none⟩),.int .u64 pa,.int .i64 n,.bool wr,.int .u64 v] w fun e w'=>e = .returned (.tuple #[.int .u64 0,.bool false])∧Below w.heap.size w w':=by
 go_enter Tryz.func186,Tryz.ntmps186
 go_wp2_with (go_at_call 58;refine c.mono ?_;rintro e w1 ⟨rfl,hb⟩)
 go_ret2
 exact⟨rfl,hb⟩
theorem load_no (pa n:Int) (c:Calls Tryz.prog 186 #[.pointer (some ⟨p,0,.none⟩),.int .u64 pa,.int .i64 n,.bool false,.int .u64 0] w fun e w'=>e = .returned (.tuple #[.int .u64 0,.bool false])∧Below w.heap.size w w') :
  Calls Tryz.prog 152 #[.pointer (some ⟨p,0,.none⟩),.int .u64 pa,.int .i64 n] w fun e w'=>e = .returned (.tuple #[.int .u64 0,.bool false])∧Below w.heap.size w w':=by
 go_enter Tryz.func152,Tryz.ntmps152
 go_wp2_with (go_at_call 186;refine c.mono ?_;rintro e w1 ⟨rfl,hb⟩)
 go_ret2
 exact⟨rfl,hb⟩
theorem read_zero (h:Mem w p b m N B nx hd cnt) (pa:Int):Calls Tryz.prog 20 #[.pointer (some ⟨p,0,.none⟩),.int .u64 pa,.int .i64 0] w fun e w'=>e = .returned (.tuple #[.slice .none 0 0,.bool true])∧w'=w:=by
 have c:=reach_zero h pa
 clear h
 go_enter Tryz.func20,Tryz.ntmps20
 go_wp2_with (go_at_call 58;refine c.mono ?_;rintro e w0 ⟨rfl,rfl⟩)
 go_ret2
 exact⟨rfl,rfl⟩
end
end Rm
namespace Rm
open Go.RowKit
def spn (l:Int):Int:=if l=0 then 4096 else if l=1 then 2097152 else if l=2 then 1073741824 else 549755813888
theorem spn0:spn 0=4096:=rfl
theorem spn1:spn 1=2097152:=rfl
theorem spn2:spn 2=1073741824:=rfl
theorem spn3:spn 3=549755813888:=rfl
def ix (va l:Int):Int:=va/spn l%512
theorem ix_b (va l:Int):0<=ix va l∧ix va l<512:=by unfold ix;omega
theorem span_any (l:Int) (hl:l=0∨l=1∨l=2∨l=3) (w:World):Calls Tryz.prog 110 #[.int .i64 l] w fun e w'=>e = .returned (.int .u64 (spn l))∧w'=w:=by
 rcases hl with rfl|rfl|rfl|rfl
 all_goals
  go_enter Tryz.func110,Tryz.ntmps110
  go_wp2
  go_ret
  exact⟨rfl,rfl⟩
theorem index_any (va l:Int) (hv:0<=va∧va<18446744073709551616) (hl:l=0∨l=1∨l=2) (w:World):Calls Tryz.prog 151 #[.int .u64 va,.int .i64 l] w fun e w'=>e = .returned (.int .u64 (ix va l))∧w'=w:=by
 rcases hl with rfl|rfl|rfl
 all_goals
  simp only[ix,spn0,spn1,spn2]
  go_enter Tryz.func151,Tryz.ntmps151
  go_wp2
  go_ret
  exact⟨rfl,rfl⟩
theorem and_mask (i:Nat) (hi:i<=64) (v:Int) (hv:0<=v∧v<18446744073709551616):bits .and .u64 v (2 ^ i-1)=v%2 ^ i:=
 bits_mask .u64 64 (by decide) wraps_u64 i hi v hv.1 hv.2
theorem inSpan_any (a l:Int) (hv:0<=a∧a<18446744073709551616) (hl:l=0∨l=1∨l=2∨l=3) (w:World):Calls Tryz.prog 57 #[.int .u64 a,.int .i64 l] w fun e w'=>e = .returned (.int .u64 (a%spn l))∧w'=w:=by
 have c:=span_any l hl
 have m0:Hid (bits .and .u64 a 4095=a%4096):=and_mask 12 (by omega) a hv
 have m1:Hid (bits .and .u64 a 2097151=a%2097152):=and_mask 21 (by omega) a hv
 have m2:Hid (bits .and .u64 a 1073741823=a%1073741824):=and_mask 30 (by omega) a hv
 have m3:Hid (bits .and .u64 a 549755813887=a%549755813888):=and_mask 39 (by omega) a hv
 rcases hl with rfl|rfl|rfl|rfl
 all_goals
  simp only[spn0,spn1,spn2,spn3] at c ⊢
  go_enter Tryz.func57,Tryz.ntmps57
  go_wp2_with (go_at_call 110;refine(c _).mono ?_;rintro e w0 ⟨rfl,rfl⟩)
  go_ret
 ·rw[<-m0.out];exact⟨rfl,rfl⟩
 ·rw[<-m1.out];exact⟨rfl,rfl⟩
 ·rw[<-m2.out];exact⟨rfl,rfl⟩
 ·rw[<-m3.out];exact⟨rfl,rfl⟩
theorem mayBeNode_any (pa:Int) (hp:0<=pa∧pa<18446744073709551616) (w:World):Calls Tryz.prog 153 #[.int .u64 pa] w fun e w'=>e = .returned (.bool (decide (pa%4096=0∧pa≠2147483648)))∧w'=w:=by
 by_cases k0:pa%4096=0
 ·by_cases k1:pa=2147483648
  ·have e:decide (pa%4096=0∧pa≠2147483648)=false:=by simp[k1]
   rw[e]
   go_enter Tryz.func153,Tryz.ntmps153
   go_wp2
   go_ret
   exact⟨rfl,rfl⟩
  ·have e:decide (pa%4096=0∧pa≠2147483648)=true:=by simp[k0,k1]
   rw[e]
   go_enter Tryz.func153,Tryz.ntmps153
   go_wp2
   go_ret
   exact⟨by simp[k1],rfl⟩
 ·have e:decide (pa%4096=0∧pa≠2147483648)=false:=by simp[k0]
  rw[e]
  go_enter Tryz.func153,Tryz.ntmps153
  go_wp2
  go_ret
  exact⟨rfl,rfl⟩
end Rm
namespace Rm
open Go.RowKit
def hs (e c:Int):Bool:=bits .and .u64 e c == c
def ho (e c:Int):Bool:=bits .and .u64 e c != 0
def adE (e:Int):Int:=e/1024*4096%18446744073709551616
theorem adE_b (e:Int):0<=adE e∧adE e<18446744073709551616:=by unfold adE;omega
def kd (e l:Int):Int:=if hs e 1=false then 0 else if 18014398509481984<=e then 1 else if hs e 4=true∧hs e 2=false then 1 else if ho e 10=true then (if adE e%spn l=0 then 2 else 1) else if l=0 then 1 else if ho e 208=true then 1 else 3
theorem has_any (e c:Int) (w:World):Calls Tryz.prog 109 #[.int .u64 e,.int .u64 c] w fun r w'=>r = .returned (.bool (hs e c))∧w'=w:=by
 go_enter Tryz.func109,Tryz.ntmps109
 go_wp2
 go_ret
 exact⟨rfl,rfl⟩
theorem hasOne_any (e c:Int) (w:World):Calls Tryz.prog 188 #[.int .u64 e,.int .u64 c] w fun r w'=>r = .returned (.bool (ho e c))∧w'=w:=by
 go_enter Tryz.func188,Tryz.ntmps188
 go_wp2
 go_ret
 exact⟨rfl,rfl⟩
theorem readIf_any (e:Int) (w:World):Calls Tryz.prog 187 #[.int .u64 e] w fun r w'=>r = .returned (.bool (!hs e 4 || hs e 2))∧w'=w:=by
 cases h4:hs e 4<;>cases h2:hs e 2
 all_goals
  go_enter Tryz.func187,Tryz.ntmps187
  go_wp2_with (first|(go_at_call 109;refine(has_any _ _ _).mono ?_;rintro r w0 ⟨rfl,rfl⟩))
  go_ret
  exact⟨rfl,rfl⟩
theorem address_any (e:Int) (w:World) (he:0<=e∧e<18446744073709551616):Calls Tryz.prog 56 #[.int .u64 e] w fun r w'=>r = .returned (.int .u64 (adE e))∧w'=w:=by
 have h:IntKind.u64.wrap (e/1024*4096)=adE e:=IntKind.wrap_u64 _
 rw[<-h]
 clear h
 go_enter Tryz.func56,Tryz.ntmps56
 go_wp2
 go_ret
 exact⟨rfl,rfl⟩
theorem kind_any (e l:Int) (he:0<=e∧e<18446744073709551616) (hl:l=0∨l=1∨l=2) (w:World):Calls Tryz.prog 154 #[.int .u64 e,.int .i64 l] w fun r w'=>r = .returned (.int .i64 (kd e l))∧w'=w:=by
 have c46:=fun W=>address_any e W he
 have c51:=fun W=>inSpan_any (adE e) l (adE_b e) (by omega) W
 obtain⟨x,hx⟩:∃ x,x=adE e%spn l:=⟨_,rfl⟩
 have e1:∀ k,kd e l=k↔(if hs e 1=false then 0 else if 18014398509481984<=e then 1 else if hs e 4=true∧hs e 2=false then 1 else if ho e 10=true then (if x=0 then 2 else 1) else if l=0 then 1 else if ho e 208=true then 1 else 3)=k:=fun k=>by rw[hx];exact Iff.rfl
 rw[<-hx] at c51
 cases h1:hs e 1
 ·have ek:kd e l=0:=(e1 0).2 (by simp[h1])
  rw[ek]
  clear e1 hx c46 c51
  go_enter Tryz.func154,Tryz.ntmps154
  go_wp2_with (first|(go_at_call 109;refine(has_any _ _ _).mono ?_;rintro r w0 ⟨rfl,rfl⟩))
  go_ret
  exact⟨rfl,rfl⟩
 by_cases h54:18014398509481984<=e
 ·have ek:kd e l=1:=(e1 1).2 (by simp[h1,h54])
  rw[ek]
  have h55:¬ e/18014398509481984=0:=by omega
  clear e1 hx c46 c51
  go_enter Tryz.func154,Tryz.ntmps154
  go_wp2_with (first|(go_at_call 109;refine(has_any _ _ _).mono ?_;rintro r w0 ⟨rfl,rfl⟩))
  go_ret
  exact⟨rfl,rfl⟩
 have h55:e/18014398509481984=0:=by omega
 cases h6:(!hs e 4 || hs e 2)
 ·have h6':hs e 4=true∧hs e 2=false:=by revert h6;cases hs e 4<;>cases hs e 2<;>simp
  have ek:kd e l=1:=(e1 1).2 (by simp[h1,h54,h6'])
  rw[ek]
  have c68:=fun W=>readIf_any e W
  rw[h6] at c68
  clear e1 hx c46 c51 h6 h6'
  go_enter Tryz.func154,Tryz.ntmps154
  go_wp2_with (first|(go_at_call 109;refine(has_any _ _ _).mono ?_;rintro r w0 ⟨rfl,rfl⟩)|(go_at_call 187;refine(c68 _).mono ?_;rintro r w0 ⟨rfl,rfl⟩))
  go_ret
  exact⟨rfl,rfl⟩
 have h6':¬ (hs e 4=true∧hs e 2=false):=by revert h6;cases hs e 4<;>cases hs e 2<;>simp
 have c68:=fun W=>readIf_any e W
 rw[h6] at c68
 clear h6
 cases h10:ho e 10
 ·by_cases hl0:l=0
  ·have ek:kd e l=1:=(e1 1).2 (by simp[h1,h54,h6',h10,hl0])
   rw[ek]
   clear e1 hx c46 c51 h6'
   go_enter Tryz.func154,Tryz.ntmps154
   go_wp2_with (first|(go_at_call 109;refine(has_any _ _ _).mono ?_;rintro r w0 ⟨rfl,rfl⟩)|(go_at_call 187;refine(c68 _).mono ?_;rintro r w0 ⟨rfl,rfl⟩)|(go_at_call 188;refine(hasOne_any _ _ _).mono ?_;rintro r w0 ⟨rfl,rfl⟩))
   go_ret
   exact⟨rfl,rfl⟩
  ·cases h208:ho e 208
   ·have ek:kd e l=3:=(e1 3).2 (by simp[h1,h54,h6',h10,hl0,h208])
    rw[ek]
    clear e1 hx c46 c51 h6'
    go_enter Tryz.func154,Tryz.ntmps154
    go_wp2_with (first|(go_at_call 109;refine(has_any _ _ _).mono ?_;rintro r w0 ⟨rfl,rfl⟩)|(go_at_call 187;refine(c68 _).mono ?_;rintro r w0 ⟨rfl,rfl⟩)|(go_at_call 188;refine(hasOne_any _ _ _).mono ?_;rintro r w0 ⟨rfl,rfl⟩))
    go_ret
    exact⟨rfl,rfl⟩
   ·have ek:kd e l=1:=(e1 1).2 (by simp[h1,h54,h6',h10,hl0,h208])
    rw[ek]
    clear e1 hx c46 c51 h6'
    go_enter Tryz.func154,Tryz.ntmps154
    go_wp2_with (first|(go_at_call 109;refine(has_any _ _ _).mono ?_;rintro r w0 ⟨rfl,rfl⟩)|(go_at_call 187;refine(c68 _).mono ?_;rintro r w0 ⟨rfl,rfl⟩)|(go_at_call 188;refine(hasOne_any _ _ _).mono ?_;rintro r w0 ⟨rfl,rfl⟩))
    go_ret
    exact⟨rfl,rfl⟩
 ·by_cases hx0:x=0
  ·have ek:kd e l=2:=(e1 2).2 (by simp[h1,h54,h6',h10,hx0])
   rw[ek]
   clear e1 hx h6'
   go_enter Tryz.func154,Tryz.ntmps154
   go_wp2_with (first|(go_at_call 109;refine(has_any _ _ _).mono ?_;rintro r w0 ⟨rfl,rfl⟩)|(go_at_call 187;refine(c68 _).mono ?_;rintro r w0 ⟨rfl,rfl⟩)|(go_at_call 188;refine(hasOne_any _ _ _).mono ?_;rintro r w0 ⟨rfl,rfl⟩)|(go_at_call 56;refine(c46 _).mono ?_;rintro r w0 ⟨rfl,rfl⟩)|(go_at_call 57;refine(c51 _).mono ?_;rintro r w0 ⟨rfl,rfl⟩))
   go_ret
   exact⟨rfl,rfl⟩
  ·have ek:kd e l=1:=(e1 1).2 (by simp[h1,h54,h6',h10,hx0])
   rw[ek]
   clear e1 hx h6'
   go_enter Tryz.func154,Tryz.ntmps154
   go_wp2_with (first|(go_at_call 109;refine(has_any _ _ _).mono ?_;rintro r w0 ⟨rfl,rfl⟩)|(go_at_call 187;refine(c68 _).mono ?_;rintro r w0 ⟨rfl,rfl⟩)|(go_at_call 188;refine(hasOne_any _ _ _).mono ?_;rintro r w0 ⟨rfl,rfl⟩)|(go_at_call 56;refine(c46 _).mono ?_;rintro r w0 ⟨rfl,rfl⟩)|(go_at_call 57;refine(c51 _).mono ?_;rintro r w0 ⟨rfl,rfl⟩))
   go_ret
   exact⟨rfl,rfl⟩
end Rm
namespace Rm
open Go.RowKit
section
variable {w:World} {p b m N:Nat} {B:Nat->Int} {L:List Nat}
theorem hdL_in {f:Nat} (hf:f<N):hdL N L (2147483648+f*4096) = !decide (f∈L):=by
 have h:=hdL_addr N L f hf
 exact h
theorem load_any (h:Ram w p b m N B L) (pa:Int) (hp:0<=pa∧pa<18446744073709551616):Calls Tryz.prog 152 #[.pointer (some ⟨p,0,.none⟩),.int .u64 pa,.int .i64 8] w fun e w'=>(∃ x ok,e = .returned (.tuple #[.int .u64 x,.bool ok])∧0<=x∧x<18446744073709551616)∧Below w.heap.size w w':=by
 have n2:=h.mem.n2
 by_cases ho:2147483648<=pa∧pa-2147483648+8<=4096*N
 ·obtain⟨o,rfl⟩:∃ o:Nat,pa=2147483648+o:=⟨(pa-2147483648).toNat,by omega⟩
  by_cases hh:∀ f:Nat,o/4096<=f->f*4096<o+8->hdL N L (2147483648+f*4096)=true
  ·refine(load_ok h.mem o 8 (by omega) (by omega) hh).mono ?_
   rintro e w' ⟨he,hb⟩
   have nb:=num_bd B h.mem.bb o 8
   exact⟨⟨_,_,he,nb.1,by have:=nb.2;simpa using this⟩,hb⟩
  ·simp only[Classical.not_forall] at hh
   obtain⟨f,h1,h2,h3⟩:=hh
   have h3':hdL N L (2147483648+f*4096)=false:=by simpa using h3
   refine(load_no _ 8 (access_no _ 8 0 false (reach_hole h.mem o 8 (by omega) (by omega) f h1 h2 h3'))).mono ?_
   rintro e w' ⟨he,hb⟩
   exact⟨⟨0,false,he,by omega,by omega⟩,hb⟩
 ·refine(load_no pa 8 (access_no pa 8 0 false (reach_out h.mem pa 8 hp (by omega) (by omega) ho))).mono ?_
  rintro e w' ⟨he,hb⟩
  exact⟨⟨0,false,he,by omega,by omega⟩,hb⟩
theorem load_held (h:Ram w p b m N B L) (i k:Nat) (hi:i<N) (hL:i∉L) (hk:k<512):Calls Tryz.prog 152 #[.pointer (some ⟨p,0,.none⟩),.int .u64 (2147483648+i*4096+k*8),.int .i64 8] w fun e w'=>e = .returned (.tuple #[.int .u64 (num B (i*4096+k*8) 8),.bool true])∧Below w.heap.size w w':=by
 have:=load_ok h.mem (i*4096+k*8) 8 (by omega) (by omega) (fun f h1 h2=>by
  obtain rfl:f=i:=by omega
  rw[hdL_in hi]
  simp[hL])
 rw[show (2147483648+((i*4096+k*8:Nat):Int))=2147483648+i*4096+k*8 by omega] at this
 exact this
theorem load_free (h:Ram w p b m N B L) (nd:Int) (k:Nat) (hn:0<=nd∧nd<18446744073709551616) (ha:nd%4096=0) (hk:k<512) (hno:∀ i:Nat,i<N->i∉L->nd≠2147483648+i*4096):Calls Tryz.prog 152 #[.pointer (some ⟨p,0,.none⟩),.int .u64 (nd+k*8),.int .i64 8] w fun e w'=>e = .returned (.tuple #[.int .u64 0,.bool false])∧Below w.heap.size w w':=by
 have n2:=h.mem.n2
 by_cases ho:2147483648<=nd+k*8∧nd+k*8-2147483648+8<=4096*N
 ·obtain⟨i,rfl⟩:∃ i:Nat,nd=2147483648+i*4096:=⟨((nd-2147483648)/4096).toNat,by omega⟩
  have hiN:i<N:=by omega
  have hiL:i∈L:=by
   by_cases hL:i∈L
   ·exact hL
   ·exact absurd rfl (hno i hiN hL)
  have c:=reach_hole h.mem (i*4096+k*8) 8 (by omega) (by omega) i (by omega) (by omega) (by rw[hdL_in hiN];simp[hiL])
  rw[show (2147483648+((i*4096+k*8:Nat):Int))=2147483648+i*4096+k*8 by omega] at c
  exact load_no _ 8 (access_no _ 8 0 false c)
 ·exact load_no _ 8 (access_no _ 8 0 false (reach_out h.mem (nd+k*8) 8 (by omega) (by omega) (by omega) ho))
end
end Rm
end Go.Proofs.YtabnipbdbnmmpaaGreatDoor
