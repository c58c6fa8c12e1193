import Derived.Test.YtabnipbdbnmmpaaGreatDoorSh01
import Derived.Test.YtabnipbdbnmmpaaGreatDoorSh32
import Derived.Test.YtabnipbdbnmmpaaGreatDoorSh30
import Derived.Test.YtabnipbdbnmmpaaGreatDoorSh20
import Derived.Test.YtabnipbdbnmmpaaGreatDoorSh29
import Derived.Test.YtabnipbdbnmmpaaGreatDoorSh23
set_option linter.unusedVariables false
set_option linter.unusedSimpArgs false
namespace Go.Proofs.YtabnipbdbnmmpaaGreatDoor
namespace Rm
open Go Go.RowKit Go.Shelf
attribute [local irreducible] eM
theorem ev_leaf {F:Nat→Option Nat} {lf:Nat→Nat→Int} {c:Nat} {x:Ev} (h:ev F lf c=some x) (hk:x.p.k=2) : c % 3=2∧x.va=vaP (c / 3)∧x.p.e=lf (x0 (c / 3)) (c / 3 % 512)∧x.p.e≠0 := by
 unfold ev at h
 split at h
 ·split at h
  ·rw [Option.map_eq_some_iff] at h
   obtain ⟨g,hg,rfl⟩ := h
   exact absurd (show (3:Int)=2 from hk) (by decide)
  ·cases h
 ·split at h
  ·split at h
   ·rw [Option.bind_eq_some_iff] at h
    obtain ⟨g,hg,h⟩ := h
    rw [Option.map_eq_some_iff] at h
    obtain ⟨q,hq,rfl⟩ := h
    exact absurd (show (3:Int)=2 from hk) (by decide)
   ·cases h
  ·rw [Option.bind_eq_some_iff] at h
   obtain ⟨g,hg,h⟩ := h
   rw [Option.bind_eq_some_iff] at h
   obtain ⟨q,hq,h⟩ := h
   split at h
   ·cases h
   ·rename_i h0 h1 hne
    injection h with h
    subst h
    exact ⟨by omega,rfl,rfl,hne⟩
section
variable {N:Nat} {L:List Nat} {B:Nat→Int} {F:Nat→Option Nat} {lf:Nat→Nat→Int} {l:List Pg}
theorem ev_leaf_at (h:PT N L B F lf) (P:Nat) (hP:P<134217728) (hl:lf (x0 P) (P % 512)≠0) : ∃ x,ev F lf (3*P+2)=some x∧x.p.k=2∧x.va=vaP P∧x.p.e=lf (x0 P) (P % 512) := by
 obtain ⟨g,q,h1,h0⟩ := h.way (vaP P) (by rw [vaP_y0 P hP,vaP_i0 P hP]; exact hl)
 rw [vaP_y1 P hP] at h1
 rw [vaP_y0 P hP] at h0
 have e : ev F lf (3*P+2)=some ⟨vaP P,0,⟨st (ad q) (vaP P) 0,st (ad g) (vaP P) 1,st (ad (rtF F)) (vaP P) 2,0,lf (x0 P) (P % 512),2⟩⟩ := by
  unfold ev
  rw [if_neg (by omega),if_neg (by omega),show (3*P+2) / 3=P by omega,h1,h0]
  simp only [Option.bind_some]
  rw [if_neg hl]
 exact ⟨_,e,rfl,rfl,rfl⟩
theorem TL.met (h:TL F lf l) (P:Nat) (hl:lf (x0 P) (P % 512)≠0) : ∃ x ∈ l,x.1=vaP P∧lf (x0 P) (P % 512)=toP x.2.1 x.2.2 := by
 obtain ⟨x,hx,h1,h2⟩ := h.only (x0 P) (P % 512) (by unfold x0; omega) (by omega) hl
 refine ⟨x,hx,?_,by rw [h1,h2]; exact h.leaf x hx⟩
 have hb := (h.ok x hx).1
 rw [y0_val x.1 ⟨hb.1,hb.2.1⟩] at h1
 have e0 : i0 x.1=(x.1 / 4096 % 512).toNat := by
  unfold i0 ix
  rw [spn0]
 rw [e0] at h2
 unfold x0 at h1
 unfold vaP
 omega
theorem ext_low (va:Int) (h:0≤va∧va<274877906944) : ext va=va := by
 unfold ext
 rw [if_pos (by omega)]
 omega
structure LvS (l:List Pg) (ll:List (Int × Int)) : Prop where
 len : ll.length=l.length
 mem : ∀ y ∈ ll,∃ x ∈ l,y=(x.1,toP x.2.1 x.2.2)
 up : ll.Pairwise (fun a b => a.1<b.1)
theorem cnt_pages (l:List Pg) (hok:∀ x ∈ l,0≤x.1∧x.1<274877906944∧x.1 % 4096=0) (hnd:l.Pairwise (fun a b => a.1≠b.1)) : cnt 402653184 (fun c => decide (∃ x ∈ l,c=3*(x.1 / 4096).toNat+2))=l.length := by
 induction l with
 | nil =>
  rw [cnt_ext (q:=fun _ => false) (fun v _ => by simp),cnt_zero]
  rfl
 | cons x l ih =>
  have hx := hok x (by simp)
  rw [List.pairwise_cons] at hnd
  have := ih (fun y hy => hok y (by simp [hy])) hnd.2
  rw [cnt_add (v0:=3*(x.1 / 4096).toNat+2) (p:=fun c => decide (∃ x ∈ l,c=3*(x.1 / 4096).toNat+2)) (by omega) ?_ ?_ ?_,this]
  ·rfl
  ·refine decide_eq_false ?_
   rintro ⟨y,hy,e⟩
   have hy2 := hok y (by simp [hy])
   exact hnd.1 y hy (by omega)
  ·exact decide_eq_true ⟨x,by simp,rfl⟩
  ·intro v _ hv
   refine decide_eq_decide.2 ⟨?_,?_⟩
   ·rintro ⟨y,hy,e⟩
    rcases List.mem_cons.1 hy with rfl | hy
    ·exact absurd e hv
    ·exact ⟨y,hy,e⟩
   ·rintro ⟨y,hy,e⟩
    exact ⟨y,by simp [hy],e⟩
def lfo (F:Nat→Option Nat) (lf:Nat→Nat→Int) (c:Nat) : Option (Int × Int) := (ev F lf c).bind lvO
theorem lvl_eq : lvl (evs F lf 0)=(List.range' 0 402653184).filterMap (lfo F lf) := by
 unfold lvl evs
 rw [List.filterMap_filterMap,eM_val]
 rfl
theorem lfo_some {c:Nat} {y:Int × Int} (h:lfo F lf c=some y) : c % 3=2∧y=(ext (vaP (c / 3)),lf (x0 (c / 3)) (c / 3 % 512))∧lf (x0 (c / 3)) (c / 3 % 512)≠0 := by
 unfold lfo at h
 rw [Option.bind_eq_some_iff] at h
 obtain ⟨x,hx,h⟩ := h
 unfold lvO at h
 split at h
 ·rename_i hk
  injection h with h
  obtain ⟨h1,h2,h3,h4⟩ := ev_leaf hx hk
  rw [h2,h3] at h
  rw [h3] at h4
  exact ⟨h1,h.symm,h4⟩
 ·cases h
theorem TL.lfo_iff (h:TL F lf l) (hP:PT N L B F lf) (c:Nat) (hc:c<402653184) : (lfo F lf c).isSome=true ↔ ∃ x ∈ l,c=3*(x.1 / 4096).toNat+2 := by
 constructor
 ·intro hs
  obtain ⟨y,hy⟩ := Option.isSome_iff_exists.1 hs
  obtain ⟨h1,_,h3⟩ := lfo_some hy
  obtain ⟨x,hx,h4,_⟩ := h.met _ h3
  refine ⟨x,hx,?_⟩
  rw [h4]
  unfold vaP
  omega
 ·rintro ⟨x,hx,rfl⟩
  have hb := (h.ok x hx).1
  obtain ⟨P,hPe⟩ : ∃ P,P=(x.1 / 4096).toNat := ⟨_,rfl⟩
  rw [← hPe]
  have hv : vaP P=x.1 := by unfold vaP; omega
  have hPl : P<134217728 := by omega
  have hl := h.leaf x hx
  rw [← hv,vaP_y0 P hPl,vaP_i0 P hPl] at hl
  obtain ⟨y,hy,hk,_⟩ := ev_leaf_at hP P hPl (by rw [hl]; exact (h.ok x hx).ne)
  unfold lfo
  rw [hy]
  simp [lvO,hk]
theorem TL.leaves (h:TL F lf l) (hP:PT N L B F lf) (hnd:l.Pairwise (fun a b => a.1≠b.1)) : LvS l (lvl (evs F lf 0)) := by
 have key : ∀ c y,lfo F lf c=some y→c % 3=2∧y.1=vaP (c / 3) ∧ ∃ x ∈ l,y=(x.1,toP x.2.1 x.2.2) := fun c y hy => by
  obtain ⟨h1,h2,h3⟩ := lfo_some hy
  obtain ⟨x,hx,h4,h5⟩ := h.met _ h3
  have hb := (h.ok x hx).1
  have e : ext (vaP (c / 3))=x.1 := by rw [← h4]; exact ext_low _ ⟨hb.1,hb.2.1⟩
  rw [e,h5] at h2
  exact ⟨h1,by rw [h2]; exact h4,x,hx,h2⟩
 refine ⟨?_,fun y hy => ?_,?_⟩
 ·rw [lvl_eq,List.length_filterMap_eq_countP]
  have : List.countP (fun c => (lfo F lf c).isSome) (List.range' 0 402653184)=cnt 402653184 (fun c => decide (∃ x ∈ l,c=3*(x.1 / 4096).toNat+2)) := by
   rw [← cnt_ext (p:=fun c => (lfo F lf c).isSome) (fun c hc => ?_)]
   ·unfold cnt
    rw [List.range_eq_range']
   ·have := h.lfo_iff hP c hc
    by_cases hs : (lfo F lf c).isSome=true
    ·rw [hs]; exact (decide_eq_true (this.1 hs)).symm
    ·rw [Bool.not_eq_true] at hs
     rw [hs]; exact (decide_eq_false (fun e => by rw [this.2 e] at hs; cases hs)).symm
  rw [this]
  exact cnt_pages l (fun x hx => (h.ok x hx).1) hnd
 ·rw [lvl_eq] at hy
  obtain ⟨c,_,hc⟩ := List.mem_filterMap.1 hy
  exact (key c y hc).2.2
 ·rw [lvl_eq]
  refine List.Pairwise.filterMap (R:=(· < ·)) _ (fun a a' hlt b hb b' hb' => ?_) List.pairwise_lt_range'
  obtain ⟨a1,a2,_⟩ := key a b hb
  obtain ⟨b1,b2,_⟩ := key a' b' hb'
  rw [a2,b2]
  unfold vaP
  omega
end
end Rm
namespace Rm
open Go Go.RowKit Go.Shelf
attribute [local go_sem] Oper.semAt_some
attribute [local irreducible] eM evs
theorem leaves_any (p:Nat) (root:Int) (w:World) : Calls Tryz.prog 127 #[.pointer (some ⟨p,0,.none⟩),.int .u64 root] w fun e w' => e = .returned (.func (.func 169) #[] #[.pointer (some ⟨w.heap.size,0,.none⟩),.pointer (some ⟨w.heap.size+1,0,.none⟩)])∧w'=(w.alloc (.cells #[.pointer (some ⟨p,0,.none⟩)] 27)).alloc (.cells #[.int .u64 root] 23) := by
 go_enter Tryz.func127,Tryz.ntmps127
 go_wp2
 go_ret
 exact ⟨rfl,rfl⟩
theorem func_not_nil (X : Array Value) (V : World) : Sem.run Tryz.prog (Go.binOp .eql 196 (.func (.func 169) #[] X) .nilFunc) V = .ok (.bool false) V := by
  kernel_rfl
attribute [local go_sem] func_not_nil
end Rm
namespace Rm
open Go Go.RowKit Go.Shelf
attribute [local irreducible] eM evs
def wnt (t:Nat) : Nat := if t=0 then 88 else if t=1 then 82 else 212
set_option maxRecDepth 100000 in
theorem lts_bits : ∀ c : Fin 256,c.val % 2=0 → ∀ t : Fin 3,(((c.val+1) &&& 80 == 80) && ((c.val+1) &&& (if t.val=0 then 8 else if t.val=1 then 2 else 132) == (if t.val=0 then 8 else if t.val=1 then 2 else 132)))=(c.val &&& wnt t.val == wnt t.val) := by decide
theorem hs_low (c:Int) (hc:0≤c∧c<256) (d:Nat) (hd:d<1024) : hs c d=(c.toNat &&& d == d) := by
 unfold hs
 rw [and_low c (by omega) d hd,show c % 1024=c by omega]
 cases h : (c.toNat &&& d == d)
 ·rw [beq_eq_false_iff_ne] at h ⊢
  omega
 ·rw [beq_iff_eq] at h ⊢
  omega
theorem congrArg2 {a b c d:Bool} (h1:a=c) (h2:b=d) : (a && b)=(c && d) := by rw [h1,h2]
theorem lts_toP (pa c:Int) (hp:0≤pa∧pa<72057594037927936) (hc:0≤c∧c<256) (he:c % 2=0) (t:Nat) (ht:t<3) : lts (toP pa c) (1+t)=hs c (wnt t) := by
 have key := lts_bits ⟨c.toNat,by omega⟩ (by simp only; omega) ⟨t,ht⟩
 simp only at key
 have cv : ∀ d : Nat,d<1024→hs (toP pa c) d=((c.toNat+1) &&& d == d) := fun d hd => by
  rw [hs_toP pa c hp (by omega) he d hd,show (c+1).toNat=c.toNat+1 by omega]
  cases h : ((c.toNat+1) &&& d == d)
  ·rw [beq_eq_false_iff_ne] at h ⊢
   omega
  ·rw [beq_iff_eq] at h ⊢
   omega
 have h80 := cv 80 (by omega)
 have h8 := cv 8 (by omega)
 have h2 := cv 2 (by omega)
 have h132 := cv 132 (by omega)
 rw [hs_low c hc (wnt t) (by unfold wnt; split <;> (try split) <;> omega),← key]
 unfold lts
 obtain rfl | rfl | rfl : t=0∨t=1∨t=2 := by omega
 ·rw [if_pos (by omega)]; simp only [if_true]; exact congrArg2 h80 h8
 ·rw [if_neg (by omega),if_pos (by omega)]; simp only [if_true,if_false,Nat.one_ne_zero]; exact congrArg2 h80 h2
 ·rw [if_neg (by omega),if_neg (by omega),if_pos (by omega)]; exact congrArg2 h80 h132
theorem y_off (va o:Int) (hv:0≤va∧va<274877906944∧va % 4096=0) (ho:0≤o∧o<4096) : y0 (va+o)=y0 va∧i0 (va+o)=i0 va := by
 have h1 : ix (va+o) 0=ix va 0 := by unfold ix; rw [spn0]; omega
 have h2 : ix (va+o) 1=ix va 1 := by unfold ix; rw [spn1]; omega
 have h3 : ix (va+o) 2=ix va 2 := by unfold ix; rw [show spn 2=1073741824 from rfl]; omega
 constructor
 ·unfold y0 y1 i1 i2
  rw [h2,h3]
 ·unfold i0
  rw [h1]
section
variable {w:World} {p b m N r:Nat} {B:Nat→Int} {L:List Nat} {F:Nat→Option Nat} {lf:Nat→Nat→Int} {l:List Pg}
theorem TL.none_at (h:TL F lf l) (va:Int) (hv:0≤va∧va<274877906944∧va % 4096=0) (hn:∀ x ∈ l,x.1≠va) : lf (y0 va) (i0 va)=0 := by
 by_cases hz : lf (y0 va) (i0 va)=0
 ·exact hz
 ·obtain ⟨x,hx,h1,h2⟩ := h.only _ _ (y0_ge va) (i0_lt va) hz
  exact absurd (va_inj (h.ok x hx).1 hv h1.symm h2.symm) (hn x hx)
theorem tra_some (hR:Ram w p b m N B L) (hP:PT N L B F lf) (hr:F 0=some r) (va o pa c:Int) (t:Nat) (ht:t<3) (hv:0≤va∧va<274877906944∧va % 4096=0) (ho:0≤o∧o<4096) (hp:0≤pa∧pa<72057594037927936∧pa % 4096=0) (hc:0≤c∧c<256∧c % 2=0) (hz:lf (y0 va) (i0 va)=toP pa c) (hne:toP pa c≠0) :
  Calls Tryz.prog 18 #[.pointer (some ⟨p,0,.none⟩),.int .u64 (ad r),.int .u64 (va+o),.int .i64 (1+t)] w fun e w' => e = .returned (.tuple #[.int .u64 (if hs c (wnt t) then pa+o else 0),.bool (hs c (wnt t))])∧Below w.heap.size w w' := by
 have hN := hR.mem.n2
 have hrb : 0≤ad r∧ad r<18446744073709551616 := by have h1 := hP.held 0 r hr; unfold ad; omega
 obtain ⟨e1,e2⟩ := y_off va o hv ho
 obtain ⟨hk,hl,he⟩ := look_full hP hN hr (va+o) (by rw [e1,e2,hz]; exact hne)
 rw [e1,e2,hz] at he
 have hA : trA (look N L B (ad r) (va+o)) (va+o) (1+t)=hs c (wnt t) := by
  unfold trA finds
  rw [hk,he,ext_low _ (by omega),lts_toP pa c ⟨hp.1,hp.2.1⟩ ⟨hc.1,hc.2.1⟩ hc.2.2 t ht]
  simp
 have hB : trP (look N L B (ad r) (va+o)) (va+o)=pa+o := by
  unfold trP
  rw [he,hl,adE_toP pa c ⟨hp.1,hp.2.1⟩ hp.2.2 (by omega) hc.2.2,spn0]
  omega
 have := translate_any hR (ad r) (va+o) (1+t) hrb (by omega)
 rw [hA,hB] at this
 exact this
end
end Rm
namespace Rm
open Go Go.RowKit
theorem below_setCells {B:Nat} {b:Nat} (hb:B≤b) {w:World} : ∀ (vs:List Value) (o:Nat) (W:World),Below B w W→Below B w (W.setCells b o vs)
 | [],_,_,h => h
 | v :: vs,o,W,h => below_setCells hb vs (o+1) _ (h.setCell (p:=⟨b,o,.none⟩) hb v)
structure SpU (W:World) (s p b m N r P:Nat) (size:Int) (B:Nat→Int) (L:List Nat) (F:Nat→Option Nat) (lf:Nat→Nat→Int) (fr:Nat→Nat) (c:Nat→Int) : Prop where
 sp : Sp W s p (ad r) size
 sz : 0≤size∧(size+4095) / 4096=P
 pm : P≤4096
 ram : Ram W p b m N B L
 pt : PT N L B F lf
 rt : F 0=some r
 ne : s≠p∧s≠b∧s≠m
 pag : ∀ i : Nat,i<P→Pag N L F lf ((i:Int)*4096) (fr i) (c i)
section
variable {W W':World} {s p b m N r P:Nat} {size:Int} {B:Nat→Int} {L:List Nat} {F:Nat→Option Nat} {lf:Nat→Nat→Int} {fr:Nat→Nat} {c:Nat→Int}
theorem SpU.below (h:SpU W s p b m N r P size B L F lf fr c) (k:Below W.heap.size W W') : SpU W' s p b m N r P size B L F lf fr c :=
 ⟨h.sp.below k,h.sz,h.pm,h.ram.below k,h.pt,h.rt,h.ne,h.pag⟩
def accU (c:Nat→Int) (t x:Nat) : Bool := hs (c (x / 4096)) (wnt t)
theorem SpU.tra (h:SpU W s p b m N r P size B L F lf fr c) (x t:Nat) (hx:x<P*4096) (ht:t<3) : Calls Tryz.prog 18 #[.pointer (some ⟨p,0,.none⟩),.int .u64 (ad r),.int .u64 x,.int .i64 (1+t)] W fun e w' => e = .returned (.tuple #[.int .u64 (if accU c t x then ad (fr (x / 4096))+(x % 4096 : Nat) else 0),.bool (accU c t x)])∧Below W.heap.size W w' := by
 have hi : x / 4096<P := by omega
 have hp := h.pag (x / 4096) hi
 have hm := h.pm
 have hN := h.ram.mem.n2
 have hb := ad_b (fr (x / 4096)) N hp.qb.1 hN
 have hne : toP (ad (fr (x / 4096))) (c (x / 4096))≠0 := fun e => by
  have := hp.k
  rw [e,kd_zero] at this
  omega
 have := tra_some h.ram h.pt h.rt (((x / 4096 : Nat) : Int)*4096) ((x % 4096 : Nat) : Int) (ad (fr (x / 4096))) (c (x / 4096)) t ht (by omega) (by omega) ⟨hb.1,hb.2.1,hb.2.2⟩ hp.cb hp.l hne
 rw [show ((x / 4096 : Nat) : Int)*4096+((x % 4096 : Nat) : Int)=(x:Int) by omega] at this
 exact this
def btU (B:Nat→Int) (fr:Nat→Nat) (x:Nat) : Int := B (fr (x / 4096)*4096+x % 4096)
structure InJ (w:World) (s A d1 d2 u1 u2 va n:Nat) (B:Nat→Int) (fr:Nat→Nat) (c:Nat→Int) (k:Nat) (W:World) : Prop where
 bel : Below w.heap.size w W
 c1 : W.cell? ⟨d1,0,.none⟩=some (.pointer (some ⟨s,0,.none⟩))
 e1 : W.cell? ⟨u1,0,.none⟩=some (.pointer (some ⟨s,0,.none⟩))
 e2 : W.cell? ⟨u2,0,.none⟩=some (.int .i64 2)
 c2 : ∃ q,W.cell? ⟨d2,0,.none⟩=some (.slice q (n - k : Nat) (n - k : Nat))∧(k<n→q=some ⟨A,k,.none⟩)
 f2 : W.frozen? ⟨d2,0,.none⟩=false
 dn : ∀ j,j<k→W.cell? ⟨A,j,.none⟩=some (.int .u8 (btU B fr (va+j)))
 tl : ∀ j,j<n→(W.cell? ⟨A,j,.none⟩).isSome=true∧W.frozen? ⟨A,j,.none⟩=false
 ok : ∀ j,j<k→accU c 1 (va+j)=true
theorem InJ.below {w:World} {A d1 d2 u1 u2 va n k:Nat} (h:InJ w s A d1 d2 u1 u2 va n B fr c k W) (b:Below W.heap.size W W') (hA:A<W.heap.size) : InJ w s A d1 d2 u1 u2 va n B fr c k W' := by
 obtain ⟨q,hq,hq2⟩ := h.c2
 exact ⟨h.bel.trans (b.mono h.bel.size),(b.cell (p:=⟨d1,0,.none⟩) (lt_of_cell h.c1)).trans h.c1,(b.cell (p:=⟨u1,0,.none⟩) (lt_of_cell h.e1)).trans h.e1,(b.cell (p:=⟨u2,0,.none⟩) (lt_of_cell h.e2)).trans h.e2,⟨q,(b.cell (p:=⟨d2,0,.none⟩) (lt_of_cell hq)).trans hq,hq2⟩,(b.frozen (p:=⟨d2,0,.none⟩) (lt_of_cell hq)).trans h.f2,
  fun j hj => (b.cell (p:=⟨A,j,.none⟩) hA).trans (h.dn j hj),fun j hj => ⟨by rw [b.cell (p:=⟨A,j,.none⟩) hA]; exact (h.tl j hj).1,by rw [b.frozen (p:=⟨A,j,.none⟩) hA]; exact (h.tl j hj).2⟩,h.ok⟩
theorem InJ.step {w:World} {A d1 d2 u1 u2 va n k pc:Nat} {q':Option Addr} (h:InJ w s A d1 d2 u1 u2 va n B fr c k W) (hne:d2≠A∧d1≠A∧u1≠A∧u2≠A∧d1≠d2∧u1≠d2∧u2≠d2) (hwA:w.heap.size≤A∧w.heap.size≤d2) (hk:k+pc≤n) (hacc:∀ j,j<pc→accU c 1 (va+(k+j))=true) (hbt:∀ j,j<pc→(pcB B (fr ((va+k) / 4096)*4096+(va+k) % 4096) pc)[j]? = some (.int .u8 (btU B fr (va+(k+j)))))
  (hq:k+pc<n→q'=some ⟨A,k+pc,.none⟩) : InJ w s A d1 d2 u1 u2 va n B fr c (k+pc) ((W.setCells A k (pcB B (fr ((va+k) / 4096)*4096+(va+k) % 4096) pc)).setCell ⟨d2,0,.none⟩ (.slice q' (n - k - pc : Nat) (n - k - pc : Nat))) := by
 obtain ⟨bs,hbs⟩ : ∃ bs,bs=pcB B (fr ((va+k) / 4096)*4096+(va+k) % 4096) pc := ⟨_,rfl⟩
 have hlen : bs.length=pc := by rw [hbs,pcB_len]
 rw [← hbs] at hbt ⊢
 obtain ⟨q,hq0,hq1⟩ := h.c2
 have o1 : ∀ x : Addr,x.block≠A→x.block≠d2→((W.setCells A k bs).setCell ⟨d2,0,.none⟩ (.slice q' (n - k - pc : Nat) (n - k - pc : Nat))).cell? x=W.cell? x := fun x h1 h2 => (World.cell?_setCell_far _ _ _ _ (by simp only; exact Ne.symm h2)).trans (World.cell?_setCells_out A bs k W x (fun e => absurd e h1))
 have fz : ∀ x : Addr,((W.setCells A k bs).setCell ⟨d2,0,.none⟩ (.slice q' (n - k - pc : Nat) (n - k - pc : Nat))).frozen? x=W.frozen? x := fun x => by rw [World.frozen?_setCell]; exact World.frozen?_setCells A bs k W x
 have cA : ∀ j,((W.setCells A k bs).setCell ⟨d2,0,.none⟩ (.slice q' (n - k - pc : Nat) (n - k - pc : Nat))).cell? ⟨A,j,.none⟩=(W.setCells A k bs).cell? ⟨A,j,.none⟩ := fun j => World.cell?_setCell_far _ _ _ _ (by simp only; exact hne.1)
 have kIn : ∀ j,j<pc→(W.setCells A k bs).cell? ⟨A,k+j,.none⟩=some (.int .u8 (btU B fr (va+(k+j)))) := fun j hj => by
  rw [World.cell?_setCells_in A bs k W (fun i hi => (h.tl (k+i) (by omega)).1) j (by omega)]
  have := hbt j hj
  rw [List.getElem?_eq_getElem (by omega)] at this
  exact this
 have kOut : ∀ j,(j<k∨k+pc≤j)→(W.setCells A k bs).cell? ⟨A,j,.none⟩=W.cell? ⟨A,j,.none⟩ := fun j hj => World.cell?_setCells_out A bs k W ⟨A,j,.none⟩ (fun _ _ => by simp only; omega)
 refine ⟨?_,(o1 ⟨d1,0,.none⟩ hne.2.1 hne.2.2.2.2.1).trans h.c1,(o1 ⟨u1,0,.none⟩ hne.2.2.1 hne.2.2.2.2.2.1).trans h.e1,(o1 ⟨u2,0,.none⟩ hne.2.2.2.1 hne.2.2.2.2.2.2).trans h.e2,⟨q',?_,hq⟩,(fz _).trans h.f2,fun j hj => ?_,fun j hj => ⟨?_,(fz _).trans (h.tl j hj).2⟩,fun j hj => ?_⟩
 ·have b1 : Below w.heap.size W (W.setCells A k bs) := below_setCells hwA.1 _ _ _ (Below.refl _ _)
  have b2 := b1.setCell (p:=⟨d2,0,.none⟩) hwA.2 (.slice q' (n - k - pc : Nat) (n - k - pc : Nat))
  exact ⟨b2.os.trans h.bel.os,b2.tape.trans h.bel.tape,b2.output.trans h.bel.output,Nat.le_trans h.bel.size b2.size,fun i hi => (b2.block i hi).trans (h.bel.block i hi)⟩
 ·rw [World.cell?_setCell_same' _ _ _ (by rw [World.cell?_setCells_out A bs k W ⟨d2,0,.none⟩ (fun e => absurd e hne.1),hq0]; rfl),show n - (k+pc)=n - k - pc by omega]
 ·rw [cA]
  by_cases hjk : j<k
  ·rw [kOut j (.inl hjk)]
   exact h.dn j hjk
  ·have := kIn (j - k) (by omega)
   rw [show k+(j - k)=j by omega] at this
   exact this
 ·rw [cA]
  by_cases hjk : j<k∨k+pc≤j
  ·rw [kOut j hjk]
   exact (h.tl j hj).1
  ·have := kIn (j - k) (by omega)
   rw [show k+(j - k)=j by omega] at this
   rw [this]
   rfl
 ·by_cases hjk : j<k
  ·exact h.ok j hjk
  ·have := hacc (j - k) (by omega)
   rw [show k+(j - k)=j by omega] at this
   exact this
end
end Rm
namespace Rm
open Go Go.RowKit
theorem cutTo2 (g k n T c:Nat) (h:n≤T∧T≤c) (W:World) : (Instr.slice 24 (.slice (some ⟨g,k,.none⟩) T c) none (some (.int .i64 n)) none).run Tryz.prog W = .ok (.slice (some ⟨g,k,.none⟩) n c) W := by
 rw [run_slice_h W 24 (some ⟨g,k,.none⟩) T c (by kernel_rfl) .i64 n (by omega) (by omega),elemU8]
 simp [Result.andThen,sliced,Addr.add]
theorem cutFrom2 (g k n T c:Nat) (h:n≤T∧T≤c) (W:World) : ∃ q,(n<c→q=some ⟨g,k+n,.none⟩)∧(Instr.slice 24 (.slice (some ⟨g,k,.none⟩) T c) (some (.int .i64 n)) none none).run Tryz.prog W = .ok (.slice q (T - n : Nat) (c - n : Nat)) W := by
 have hadd : (⟨g,k,.none⟩ : Addr).add n=⟨g,k+n,.none⟩ := by unfold Addr.add; split <;> simp_all
 refine ⟨if c=n then some ⟨g,k,.none⟩ else some ⟨g,k+n,.none⟩,fun h2 => by rw [if_neg (by omega)],?_⟩
 rw [run_slice_l W 24 (some ⟨g,k,.none⟩) T c (by kernel_rfl) .i64 n (by omega) (by omega),elemU8]
 by_cases e : c=n
 ·simp [Result.andThen,sliced,e]
 ·simp [Result.andThen,sliced,e,hadd]
section
variable {w:World} {s p b m N:Nat} {B:Nat→Int} {L:List Nat} {F:Nat→Option Nat} {lf:Nat→Nat→Int}
def P1P (w:World) (p b m bv N:Nat) (B:Nat→Int) (L:List Nat) (q o n g k T c:Nat) (R:Nat→Int) (e:Ending) (w':World) : Prop := e = .returned (.bool true)∧Ram w' p b m N (over B (q*4096+o) ((List.range n).map R)) L∧Tch p b m bv w w'∧(∃ q2,w'.cell? ⟨bv,0,.none⟩=some (.slice q2 (T - n : Nat) (c - n : Nat))∧(n<c→q2=some ⟨g,k+n,.none⟩))∧w'.frozen? ⟨bv,0,.none⟩=false
set_option maxHeartbeats 1000000 in
theorem put1_gen {root size:Int} (hS:Sp w s p root size) (h:Ram w p b m N B L) (q o n:Nat) (hq:q<N∧q ∉ L) (hn:1≤n) (ho:o+n≤4096) (g k T c:Nat) (hc:n≤T∧T≤c∧c≤9223372036854775807) (R:Nat→Int) (hR:∀ i,0≤R i∧R i<256) (hg:∀ i,i<n→w.cell? ⟨g,k+i,.none⟩=some (.int .u8 (R i)))
  (bv sv:Nat) (hb:w.cell? ⟨bv,0,.none⟩=some (.slice (some ⟨g,k,.none⟩) T c)) (hbf:w.frozen? ⟨bv,0,.none⟩=false) (hs:w.cell? ⟨sv,0,.none⟩=some (.pointer (some ⟨s,0,.none⟩))) (hne:bv≠p∧bv≠b∧bv≠m∧bv≠g∧bv≠s∧bv≠sv) :
  Calls Tryz.prog 102 #[.int .u64 (ad q+o),.int .i64 n,.pointer (some ⟨bv,0,.none⟩),.pointer (some ⟨sv,0,.none⟩)] w (P1P w p b m bv N B L q o n g k T c R) := by
 have ct := cutTo2 g k n T c ⟨hc.1,hc.2.1⟩ w
 obtain ⟨q2,hq2,cf⟩ := cutFrom2 g k n T c ⟨hc.1,hc.2.1⟩ w
 obtain ⟨w1,hw1⟩ : ∃ w1,w1=w.setCell ⟨bv,0,.none⟩ (.slice q2 (T - n : Nat) (c - n : Nat)) := ⟨_,rfl⟩
 have R1 : Ram w1 p b m N B L := by rw [hw1]; exact h.beside ⟨bv,0,.none⟩ _ (fun e => hne.1 e.symm) (fun e => hne.2.1 e.symm) (fun e => hne.2.2.1 e.symm)
 have g1 : ∀ i,i<n→w1.cell? ⟨g,k+i,.none⟩=some (.int .u8 (R i)) := fun i hi => by rw [hw1]; exact (World.cell?_setCell_other _ _ _ _ (by simp only [ne_eq,Addr.mk.injEq,not_and]; intro e; exact absurd e hne.2.2.2.1)).trans (hg i hi)
 have c92 := write_pg R1 q o n hq hn ho g k c R hR g1
 have s1 : w1.cell? ⟨sv,0,.none⟩=some (.pointer (some ⟨s,0,.none⟩)) := by rw [hw1]; exact (World.cell?_setCell_other _ _ _ _ (by simp only [ne_eq,Addr.mk.injEq,not_and]; intro e; exact absurd e hne.2.2.2.2.2)).trans hs
 have k0 : w1.cell? ⟨s,0,.none⟩=some (.pointer (some ⟨p,0,.none⟩)) := by rw [hw1]; exact (World.cell?_setCell_other _ _ _ _ (by simp only [ne_eq,Addr.mk.injEq,not_and]; intro e; exact absurd e hne.2.2.2.2.1)).trans hS.c0
 have HT : Hid (Tch p b m bv w w1) := by rw [hw1]; exact Tch.set _ _
 have hb1 : w1.cell? ⟨bv,0,.none⟩=some (.slice q2 (T - n : Nat) (c - n : Nat)) := by rw [hw1]; exact World.cell?_setCell_same' _ _ _ (by rw [hb]; rfl)
 have hf1 : w1.frozen? ⟨bv,0,.none⟩=false := by rw [hw1,World.frozen?_setCell]; exact hbf
 have HB : Hid (w1.cell? ⟨bv,0,.none⟩=some (.slice q2 (T - n : Nat) (c - n : Nat))∧w1.frozen? ⟨bv,0,.none⟩=false∧(n<c→q2=some ⟨g,k+n,.none⟩)) := ⟨hb1,hf1,hq2⟩
 clear h hg g1 R1 hS hR hb1 hf1 hq2
 go_enter Tryz.func102,Tryz.ntmps102
 go_upto_region 3 with fail
 rw [← hw1]
 clear hw1
 go_wp2_with (go_at_call 103; refine c92.mono ?_; rintro _ w2 ⟨rfl,r2,f2⟩)
 go_ret
 have hlt := lt_of_cell HB.out.1
 exact ⟨rfl,r2,HT.out.trans (Tch.of f2),⟨q2,(f2.cell (x:=⟨bv,0,.none⟩) hlt hne.1 hne.2.1 hne.2.2.1).trans HB.out.1,HB.out.2.2⟩,(f2.frozen (x:=⟨bv,0,.none⟩) hlt hne.1 hne.2.1 hne.2.2.1).trans HB.out.2.1⟩
end
def wrU (B:Nat→Int) (fr:Nat→Nat) (va:Nat) (R:Nat→Int) : Nat→Nat→Int
 | 0 => B
 | k+1 => fun i => if i=fr ((va+k) / 4096)*4096+(va+k) % 4096 then R k else wrU B fr va R k i
theorem over_byte (B:Nat→Int) (o:Nat) (vs:List Int) (v:Int) (i:Nat) : over B o (vs ++ [v]) i=if i=o+vs.length then v else over B o vs i := by
 unfold over
 rw [List.length_append,List.length_singleton]
 by_cases h1 : i=o+vs.length
 ·subst h1
  rw [if_pos (by omega),if_pos rfl]
  simp [List.getD_eq_getElem?_getD]
 ·rw [if_neg h1]
  by_cases h2 : o≤i∧i<o+vs.length
  ·rw [if_pos (by omega),if_pos h2]
   rw [List.getD_eq_getElem?_getD,List.getD_eq_getElem?_getD,List.getElem?_append_left (by omega)]
  ·rw [if_neg (by omega),if_neg h2]
theorem wrU_over (B:Nat→Int) (fr:Nat→Nat) (va k:Nat) (R:Nat→Int) : ∀ pc : Nat,(va+k) % 4096+pc≤4096→over (wrU B fr va R k) (fr ((va+k) / 4096)*4096+(va+k) % 4096) ((List.range pc).map fun i => R (k+i))=wrU B fr va R (k+pc)
 | 0,_ => by
  funext i
  unfold over
  simp
  intro h1 h2
  omega
 | pc+1,h => by
  funext i
  have ih := wrU_over B fr va k R pc (by omega)
  rw [List.range_succ,List.map_append,List.map_singleton,over_byte,ih,show k+(pc+1)=(k+pc)+1 by omega]
  simp only [wrU,List.length_map,List.length_range]
  rw [show (va+(k+pc)) / 4096=(va+k) / 4096 by omega,show (va+(k+pc)) % 4096=(va+k) % 4096+pc by omega,Nat.add_assoc]
end Rm
end Go.Proofs.YtabnipbdbnmmpaaGreatDoor
