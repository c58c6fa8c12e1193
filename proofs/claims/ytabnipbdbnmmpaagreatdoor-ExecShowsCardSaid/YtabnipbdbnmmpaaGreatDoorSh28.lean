import Derived.Test.YtabnipbdbnmmpaaGreatDoorSh01
import Derived.Test.YtabnipbdbnmmpaaGreatDoorSh27
set_option linter.unusedVariables false
set_option linter.unusedSimpArgs false
namespace Go.Proofs.YtabnipbdbnmmpaaGreatDoor
namespace Rm
open Go Go.RowKit Go.Shelf
attribute [local go_sem] Oper.semAt_some
attribute [local irreducible] eM evs
theorem info_of (t:TypeId) (k b:Nat) (h1:(Tryz.prog.info? t).map (fun i => (i.size,i.bytes))=some (k,b)) (h2:((Tryz.prog.info? t).bind (·.zero)).map (·.cells.size)=some k) :
  ∃ i z,Tryz.prog.info? t=some i∧i.zero=some z∧i.size=k∧i.bytes=b∧z.cells.size=k := by
 cases hi : Tryz.prog.info? t with
 | none => rw [hi] at h1; cases h1
 | some i =>
  rw [hi] at h1 h2
  simp only [Option.map_some,Option.some.injEq,Prod.mk.injEq,Option.bind_some] at h1 h2
  cases hz : i.zero with
  | none => rw [hz] at h2; cases h2
  | some z =>
   rw [hz] at h2
   exact ⟨i,z,rfl,hz,h1.1,h1.2,by simpa using h2⟩
theorem word_info : ∃ i z,Tryz.prog.info? 23=some i∧i.zero=some z∧i.size=1∧i.bytes=8∧z.cells.size=1 := info_of 23 1 8 (by kernel_rfl) (by kernel_rfl)
def wv (l:List Int) : List Value := l.map (Value.int .u64)
theorem own_block {w w':World} {X e k n c g:Nat} {xs:List Value} (h:w.ownsRow X e k (.slice (some ⟨g,0,.none⟩) n c) n xs) (hb:w'.heap[g]? = w.heap[g]?) : w'.ownsRow X e k (.slice (some ⟨g,0,.none⟩) n c) n xs := by
 refine ⟨h.1,?_⟩
 rcases h.2 with ⟨hv,_⟩ | ⟨g',cap,cur,hv,h1,h2,h3⟩
 ·cases hv
 ·refine .inr ⟨g',cap,cur,hv,h1,?_,h3⟩
  injection hv with e1 e2 e3
  injection e1 with e1
  injection e1 with e1
  subst e1
  exact hb.trans h2
theorem own_lt {w:World} {X e k n c g:Nat} {xs:List Value} (h:w.ownsRow X e k (.slice (some ⟨g,0,.none⟩) n c) n xs) : X≤g∧g<w.heap.size ∧ ∃ cur t f,w.heap[g]? = some (.cells cur t f) := by
 rcases h.2 with ⟨hv,_⟩ | ⟨g',cap,cur,hv,h1,h2,h3⟩
 ·cases hv
 ·injection hv with e1 e2 e3
  injection e1 with e1
  injection e1 with e1
  subst e1
  exact ⟨h1,(Array.getElem?_eq_some_iff.1 h2).1,_,_,_,h2⟩
structure NdI (w0:World) (p b mm N:Nat) (B:Nat→Int) (L:List Nat) (r Bn:Nat) (pre:List Ev) (W:World) : Prop where
 ram : Ram W p b mm N B L
 bel : Below w0.heap.size w0 W
 row : ∃ g c,W.cell? ⟨Bn,0,.none⟩=some (.slice (some ⟨g,0,.none⟩) (ndl r pre).length c)∧W.ownsRow w0.heap.size 23 1 (.slice (some ⟨g,0,.none⟩) (ndl r pre).length c) (ndl r pre).length (wv (ndl r pre))∧g≠Bn
 frz : W.frozen? ⟨Bn,0,.none⟩=false
def NdG (w0:World) (Bn:Nat) (k:Nat) (W:World) : Prop := w0.heap.size≤k∧k≠Bn ∧ ∀ g n c,W.cell? ⟨Bn,0,.none⟩=some (.slice (some ⟨g,0,.none⟩) n c)→k≠g
section
variable {w0 w:World} {p b mm N r Bn:Nat} {B:Nat→Int} {L:List Nat}
theorem NdI.keep {pre:List Ev} {W W':World} (h:NdI w0 p b mm N B L r Bn pre W) (hlow:∀ k,k<w0.heap.size→W'.heap[k]? = W.heap[k]?) (hB:W'.heap[Bn]? = W.heap[Bn]?) (hg:∀ g n c,W.cell? ⟨Bn,0,.none⟩=some (.slice (some ⟨g,0,.none⟩) n c)→W'.heap[g]? = W.heap[g]?) (hp:p<w0.heap.size∧b<w0.heap.size∧mm<w0.heap.size) (h1:W'.os=W.os) (h2:W'.tape=W.tape) (h3:W'.output=W.output) (h4:W.heap.size≤W'.heap.size) : NdI w0 p b mm N B L r Bn pre W' := by
 obtain ⟨g,c,k1,k2,k3⟩ := h.row
 refine ⟨⟨h.ram.mem.keep (hlow p hp.1) (hlow b hp.2.1) (hlow mm hp.2.2),h.ram.nd,h.ram.lt,h.ram.thr⟩,⟨h1.trans h.bel.os,h2.trans h.bel.tape,h3.trans h.bel.output,Nat.le_trans h.bel.size h4,fun k hk => (hlow k hk).trans (h.bel.block k hk)⟩,⟨g,c,(World.cell?_of_block (a:=⟨Bn,0,.none⟩) hB).trans k1,own_block k2 (hg g _ _ k1),k3⟩,(World.frozen?_of_block (a:=⟨Bn,0,.none⟩) hB).trans h.frz⟩
theorem NdI.gd (hp:p<w0.heap.size∧b<w0.heap.size∧mm<w0.heap.size) : GdJ (NdG w0 Bn) (NdI w0 p b mm N B L r Bn) := by
 have cellB : ∀ W W',Mv (NdG w0 Bn) W W'→Bn<W.heap.size→W'.heap[Bn]? = W.heap[Bn]? := fun W W' hm hl => hm.block Bn hl (fun e => e.2.1 rfl)
 have lt : ∀ s W,NdI w0 p b mm N B L r Bn s W→Bn<W.heap.size := fun s W h => by obtain ⟨g,c,k1,_⟩ := h.row; exact lt_of_cell k1
 refine ⟨fun s W W' hs hm => ?_,fun s W W' k hs hm hk => ⟨hk.1,hk.2.1,fun g n c hc => ?_⟩,fun s W W' k hs hm hk => ⟨Nat.le_trans hs.bel.size hk,?_,fun g n c hc => ?_⟩⟩
 ·refine hs.keep (fun k hk => hm.block k (Nat.lt_of_lt_of_le hk hs.bel.size) (fun e => by have := e.1; omega)) (cellB W W' hm (lt s W hs)) (fun g n c hc => ?_) hp hm.os hm.tape hm.output hm.size
  obtain ⟨g',c',k1,k2,k3⟩ := hs.row
  rw [k1] at hc
  simp only [Option.some.injEq,Value.slice.injEq,Addr.mk.injEq,and_true] at hc
  obtain ⟨rfl,_,_⟩ := hc
  exact hm.block _ (own_lt k2).2.1 (fun e => e.2.2 _ _ _ k1 rfl)
 ·rw [World.cell?_of_block (a:=⟨Bn,0,.none⟩) (cellB W W' hm (lt s W hs))] at hc
  exact hk.2.2 g n c hc
 ·have := lt s W hs; omega
 ·rw [World.cell?_of_block (a:=⟨Bn,0,.none⟩) (cellB W W' hm (lt s W hs))] at hc
  obtain ⟨g',c',k1,k2,k3⟩ := hs.row
  rw [k1] at hc
  simp only [Option.some.injEq,Value.slice.injEq,Addr.mk.injEq,and_true] at hc
  obtain ⟨rfl,_,_⟩ := hc
  have := (own_lt k2).2.1
  omega
theorem NdI.own (hp:p<w0.heap.size∧b<w0.heap.size∧mm<w0.heap.size) (hw:w0.heap.size≤w.heap.size∧Bn<w.heap.size) : OwnFrom w.heap.size (NdI w0 p b mm N B L r Bn) := by
 intro s W W' row hs hg hr
 have key : ∀ k,k<W.heap.size→(k<w.heap.size ∨ ∃ cur t f,W.heap[k]? = some (.cells cur t f))→W'.heap[k]? = W.heap[k]? := fun k hk hor => hg.block k hk (fun e => by
  obtain ⟨h1,o,ho,hc⟩ := hr k e.symm
  rcases hor with h | ⟨cur,t,f,h⟩
  ·omega
  ·rw [h] at ho
   injection ho with ho
   subst ho
   cases hc)
 obtain ⟨g',c',k1,k2,k3⟩ := hs.row
 refine hs.keep (fun k hk => key k (Nat.lt_of_lt_of_le hk hs.bel.size) (.inl (by omega))) (key Bn (lt_of_cell k1) (.inl hw.2)) (fun g n c hc => ?_) hp hg.os hg.tape hg.output hg.size
 rw [k1] at hc
 simp only [Option.some.injEq,Value.slice.injEq,Addr.mk.injEq,and_true] at hc
 obtain ⟨rfl,_,_⟩ := hc
 have h5 := own_lt k2
 exact key _ h5.2.1 (.inr h5.2.2)
end
theorem evs_mem {F:Nat→Option Nat} {lf:Nat→Nat→Int} {c:Nat} {x:Ev} (h:x ∈ evs F lf c) : ∃ j,ev F lf j=some x := by
 unfold evs at h
 obtain ⟨j,_,hj⟩ := List.mem_filterMap.1 h
 exact ⟨j,hj⟩
theorem evs_len (F:Nat→Option Nat) (lf:Nat→Nat→Int) : (evs F lf 0).length≤402653184 := by
 unfold evs
 refine Nat.le_trans (List.length_filterMap_le _ _) ?_
 rw [List.length_range',eM_val]
 omega
theorem ev_b {N:Nat} {L:List Nat} {B:Nat→Int} {F:Nat→Option Nat} {lf:Nat→Nat→Int} (h:PT N L B F lf) (hN:N≤4096) {j:Nat} {x:Ev} (hx:ev F lf j=some x) : 0≤x.p.e∧x.p.e<18446744073709551616 := by
 unfold ev at hx
 split at hx
 ·split at hx
  ·rw [Option.map_eq_some_iff] at hx
   obtain ⟨g,hg,rfl⟩ := hx
   exact toPb g N (h.held _ _ hg).2.1 hN
  ·cases hx
 ·split at hx
  ·split at hx
   ·rw [Option.bind_eq_some_iff] at hx
    obtain ⟨g,hg,hx⟩ := hx
    rw [Option.map_eq_some_iff] at hx
    obtain ⟨q,hq,rfl⟩ := hx
    exact toPb q N (h.held _ _ hq).2.1 hN
   ·cases hx
  ·rw [Option.bind_eq_some_iff] at hx
   obtain ⟨g,hg,hx⟩ := hx
   rw [Option.bind_eq_some_iff] at hx
   obtain ⟨q,hq,hx⟩ := hx
   split at hx
   ·cases hx
   ·injection hx with hx
    subst hx
    rcases h.lv (x0 (j / 3)) (j / 3 % 512) with e | ⟨_,e1,e2⟩
    ·rename_i hne; exact absurd e hne
    ·exact ⟨e1,e2⟩
theorem C6.keep {W W':World} {P:Nat} {x0 x1 x2 x3 x4 x5:Value} (h:C6 W P x0 x1 x2 x3 x4 x5) (e:W'.heap[P]? = W.heap[P]?) : C6 W' P x0 x1 x2 x3 x4 x5 :=
 ⟨(World.cell?_of_block (a:=⟨P,0,.none⟩) e).trans h.c0,(World.cell?_of_block (a:=⟨P,1,.none⟩) e).trans h.c1,(World.cell?_of_block (a:=⟨P,2,.none⟩) e).trans h.c2,(World.cell?_of_block (a:=⟨P,3,.none⟩) e).trans h.c3,(World.cell?_of_block (a:=⟨P,4,.none⟩) e).trans h.c4,(World.cell?_of_block (a:=⟨P,5,.none⟩) e).trans h.c5,
  (World.frozen?_of_block (a:=⟨P,0,.none⟩) e).trans h.f0,(World.frozen?_of_block (a:=⟨P,1,.none⟩) e).trans h.f1,(World.frozen?_of_block (a:=⟨P,2,.none⟩) e).trans h.f2,(World.frozen?_of_block (a:=⟨P,3,.none⟩) e).trans h.f3,(World.frozen?_of_block (a:=⟨P,4,.none⟩) e).trans h.f4,(World.frozen?_of_block (a:=⟨P,5,.none⟩) e).trans h.f5⟩
theorem cells_of {W:World} {P i:Nat} {v:Value} (h:W.cell? ⟨P,i,.none⟩=some v) {o:Obj} (ho:W.heap[P]? = some o) : o.isCells=true := by
 unfold World.cell? at h
 simp only [ho] at h
 cases o <;> first | rfl | simp at h
section
variable {w0:World} {p b mm N r Bn:Nat} {B:Nat→Int} {L:List Nat}
theorem NdI.step {pre:List Ev} {x:Ev} {W W1 V:World} {Y g c g' c' n:Nat} (hI:NdI w0 p b mm N B L r Bn pre W) (k1:W.cell? ⟨Bn,0,.none⟩=some (.slice (some ⟨g,0,.none⟩) n c)) (k2:W.ownsRow w0.heap.size 23 1 (.slice (some ⟨g,0,.none⟩) n c) n (wv (ndl r pre))) (k3:g≠Bn) (b1:Below W.heap.size W W1)
  (own':V.ownsRow w0.heap.size 23 1 (.slice (some ⟨g',0,.none⟩) (ndl r (pre ++ [x])).length c') (ndl r (pre ++ [x])).length (wv (ndl r (pre ++ [x])))) (grow:W1.grownBy V (some g)) (hg':g'=g∨g'=W1.heap.size) (hBn:w0.heap.size≤Bn) (hp:p<w0.heap.size∧b<w0.heap.size∧mm<w0.heap.size) :
  KeepsFrom Y W (V.setCell ⟨Bn,0,.none⟩ (.slice (some ⟨g',0,.none⟩) (ndl r (pre ++ [x])).length c'))∧KpG (NdG w0 Bn) p b mm W (V.setCell ⟨Bn,0,.none⟩ (.slice (some ⟨g',0,.none⟩) (ndl r (pre ++ [x])).length c'))∧NdI w0 p b mm N B L r Bn (pre ++ [x]) (V.setCell ⟨Bn,0,.none⟩ (.slice (some ⟨g',0,.none⟩) (ndl r (pre ++ [x])).length c')) := by
 have hBl : Bn<W.heap.size := lt_of_cell k1
 obtain ⟨hg0,hgl,cur,t,f,hgc⟩ := own_lt k2
 have hs1 := b1.size
 have hs2 := grow.size
 obtain ⟨v',hv'⟩ : ∃ v',v'=Value.slice (some ⟨g',0,.none⟩) (ndl r (pre ++ [x])).length c' := ⟨_,rfl⟩
 rw [← hv'] at own' ⊢
 have kV : ∀ k,k<W.heap.size→k≠g→V.heap[k]? = W.heap[k]? := fun k hk hg => (grow.block k (by omega) (by simp; exact hg)).trans (b1.block k hk)
 have kk : ∀ k,k<W.heap.size→k≠g→k≠Bn→(V.setCell ⟨Bn,0,.none⟩ v').heap[k]? = W.heap[k]? := fun k hk hg hb => (Below.heap_setCell V ⟨Bn,0,.none⟩ v' k hb).trans (kV k hk hg)
 have sz : (V.setCell ⟨Bn,0,.none⟩ v').heap.size=V.heap.size := by simp
 have hcB : (V.setCell ⟨Bn,0,.none⟩ v').cell? ⟨Bn,0,.none⟩=some v' := World.cell?_setCell_same' _ _ _ (by rw [World.cell?_of_block (a:=⟨Bn,0,.none⟩) (kV Bn hBl (Ne.symm k3)),k1]; rfl)
 refine ⟨⟨by omega,fun k o _ hk ho => ?_⟩,⟨fun k o hk ho => ⟨?_,hk.1,hk.2.1,fun g2 n2 c2 h2 => ?_⟩,?_,?_,?_,by omega⟩,?_⟩
 ·have hkl : k<W.heap.size := (Array.getElem?_eq_some_iff.1 hk).1
  refine (kk k hkl (fun e => ?_) (fun e => ?_)).trans hk
  ·subst e; rw [hgc] at hk; injection hk with hk; subst hk; cases ho
  ·subst e; have := cells_of k1 hk; rw [ho] at this; cases this
 ·exact (kk k (Array.getElem?_eq_some_iff.1 ho).1 (hk.2.2 g n c k1) hk.2.1).trans ho
 ·rw [hcB,hv'] at h2
  simp only [Option.some.injEq,Value.slice.injEq,Addr.mk.injEq,and_true] at h2
  obtain ⟨rfl,_,_⟩ := h2
  have hkl : k<W.heap.size := (Array.getElem?_eq_some_iff.1 ho).1
  rcases hg' with e | e
  ·rw [e]; exact hk.2.2 g n c k1
  ·omega
 ·exact kk p (by have := hI.bel.size; omega) (by omega) (by omega)
 ·exact kk b (by have := hI.bel.size; omega) (by omega) (by omega)
 ·exact kk mm (by have := hI.bel.size; omega) (by omega) (by omega)
 ·have hbs := hI.bel.size
  have low : ∀ k,k<w0.heap.size→(V.setCell ⟨Bn,0,.none⟩ v').heap[k]? = W.heap[k]? := fun k hk => kk k (by omega) (by omega) (by omega)
  have hgB : g'≠Bn := by
   rcases hg' with e | e
   ·rw [e]; exact k3
   ·omega
  refine ⟨⟨hI.ram.mem.keep (low p hp.1) (low b hp.2.1) (low mm hp.2.2),hI.ram.nd,hI.ram.lt,hI.ram.thr⟩,⟨grow.os.trans (b1.os.trans hI.bel.os),grow.tape.trans (b1.tape.trans hI.bel.tape),grow.output.trans (b1.output.trans hI.bel.output),by omega,fun k hk => (low k hk).trans (hI.bel.block k hk)⟩,⟨g',c',by rw [hcB,hv'],?_,hgB⟩,?_⟩
  ·rw [hv'] at own'
   exact own_block own' (Below.heap_setCell V ⟨Bn,0,.none⟩ v' g' hgB)
  ·rw [World.frozen?_setCell]
   exact (World.frozen?_of_block (a:=⟨Bn,0,.none⟩) (kV Bn hBl (Ne.symm k3))).trans hI.frz
end
set_option maxRecDepth 100000 in
set_option maxHeartbeats 2000000 in
theorem nodes_any {w:World} {p b mm N r:Nat} {B:Nat→Int} {L:List Nat} {F:Nat→Option Nat} {lf:Nat→Nat→Int} (hR:Ram w p b mm N B L) (hP:PT N L B F lf) (hr:F 0=some r) :
  Calls Tryz.prog 125 #[.pointer (some ⟨p,0,.none⟩),.int .u64 (ad r)] w fun e w' => ∃ g c,e = .returned (.slice (some ⟨g,0,.none⟩) (ndl r (evs F lf 0)).length c)∧w'.ownsRow w.heap.size 23 1 (.slice (some ⟨g,0,.none⟩) (ndl r (evs F lf 0)).length c) (ndl r (evs F lf 0)).length (wv (ndl r (evs F lf 0)))∧Below w.heap.size w w' := by
 have hrb : 0≤ad r∧ad r<18446744073709551616 := by have h1 := hP.held 0 r hr; have h2 := hR.mem.n2; unfold ad; omega
 have c42 := isNode_any hR (ad r) hrb
 rw [hP.ndB hr] at c42
 have HR : Hid (Ram w p b mm N B L∧PT N L B F lf∧F 0=some r) := ⟨hR,hP,hr⟩
 clear hR hP hr
 refine (callsIn_wide (n:=3)).1 ?_
 refine callsIn_of_wp_marks Tryz.func125 rfl trivial ?_ rfl
 refine wpIn_wide.2 ?_
 simp only [Tryz.ntmps125,List.size_toArray,List.length_cons,List.length_nil,Nat.reduceAdd,Nat.reduceSub,Array.replicate_succ,Array.replicate_zero,List.push_toArray,List.append_toArray,List.nil_append,List.cons_append]
 go_upto_region 4 with (go_at_call 159; refine c42.mono ?_; rintro _ w1 ⟨rfl,b1⟩; have H1 : Hid (Below w.heap.size w w1) := b1; clear b1 c42)
 obtain ⟨W2,hW2⟩ : ∃ W2,W2=(w1.alloc (.cells #[.int .u64 (ad r)] 23)).alloc (.cells #[.slice (some ⟨w1.heap.size,0,.none⟩) 1 1] 133) := ⟨_,rfl⟩
 obtain ⟨W3,hW3⟩ : ∃ W3,W3=(W2.alloc (.cells #[.pointer (some ⟨p,0,.none⟩)] 27)).alloc (.cells #[.int .u64 (ad r)] 23) := ⟨_,rfl⟩
 have b2 : Below w.heap.size w W2 := by rw [hW2]; exact (H1.out.alloc H1.out.size _).alloc (by simp only [World.size_alloc]; have := H1.out.size; omega) _
 have b3 : Below W2.heap.size W2 W3 := by rw [hW3]; exact ((Below.refl _ _).alloc (Nat.le_refl _) _).alloc (by simp) _
 have hs2 : W2.heap.size=w1.heap.size+2 := by rw [hW2]; simp
 have hs3 : W3.heap.size=W2.heap.size+2 := by rw [hW3]; simp
 have q1 : W3.cell? ⟨W2.heap.size,0,.none⟩=some (.pointer (some ⟨p,0,.none⟩)) := by rw [hW3]; simp
 have q2 : W3.cell? ⟨W2.heap.size+1,0,.none⟩=some (.int .u64 (ad r)) := by rw [hW3]; simp
 have hpw : p<w.heap.size∧b<w.heap.size∧mm<w.heap.size := ⟨HR.out.1.mem.plt,HR.out.1.mem.blt,HR.out.1.mem.mlt⟩
 have hsz1 := H1.out.size
 have hI2 : NdI w p b mm N B L r (w1.heap.size+1) [] W2 := by
  refine ⟨HR.out.1.below b2,b2,⟨w1.heap.size,1,?_,?_,by omega⟩,?_⟩
  ·rw [hW2]; simp [ndl]
  ·rw [hW2]
   refine ⟨by simp [wv,ndl],.inr ⟨w1.heap.size,1,#[.int .u64 (ad r)],rfl,hsz1,?_,by simp [ndl],by decide,?_⟩⟩
   ·rw [Below.heap_alloc _ _ _ (by simp)]
    exact World.alloc_heap_new _ _
   ·simp [ndl,wv]
  ·rw [hW2]
   have := World.frozen?_alloc_new (w1.alloc (.cells #[.int .u64 (ad r)] 23)) #[.slice (some ⟨w1.heap.size,0,.none⟩) 1 1] 133 0
   rwa [World.size_alloc] at this
 have hI3 : NdI w p b mm N B L r (w1.heap.size+1) [] W3 := (NdI.gd hpw).move _ _ _ hI2 (Mv.below b3)
 have c45 := toured_any p (ad r) W2
 rw [← hW3] at c45
 have hseq := fun n => tour_seq (HR.out.1.below (b2.trans (b3.mono b2.size))) HR.out.2.1 HR.out.2.2 n _ _ q1 q2
 have HS : Hid ((∀ n,SeqG n 192 #[.pointer (some ⟨W2.heap.size,0,.none⟩),.pointer (some ⟨W2.heap.size+1,0,.none⟩)] evE (evs F lf 0) p b mm W3)∧NdI w p b mm N B L r (w1.heap.size+1) [] W3∧(p<w.heap.size∧b<w.heap.size∧mm<w.heap.size)∧w.heap.size≤W3.heap.size∧w1.heap.size+1<W3.heap.size∧w.heap.size≤w1.heap.size) := ⟨hseq,hI3,hpw,by omega,by omega,hsz1⟩
 rw [← hW2]
 clear hW2 hW3 b2 b3 hs2 hs3 q1 q2 hpw hsz1 hI2 hI3 hseq
 have HBN0 : Hid (w.heap.size≤w1.heap.size+1) := by have := HS.out.2.2.2.2.2; exact Nat.le_succ_of_le this
 generalize w1.heap.size+1=Bn at *
 generalize W2.heap.size=z1 at *
 go_wp2_with (go_at_call 166; refine c45.mono ?_; rintro _ w4 ⟨rfl,e4⟩; obtain rfl : W3=w4 := e4.symm)
 have HBN : Hid (w.heap.size≤Bn) := HBN0
 refine (wpIn_wide (n:=3)).1 (range_G (α:=Ev) (by omega) (gf:=192) (lb:=#[.pointer (some ⟨z1,0,.none⟩),.pointer (some ⟨z1+1,0,.none⟩)]) rfl (enters_of Tryz.func192 (by kernel_rfl) rfl) (Below.refl _ _) (HS.out.1 2) (by have := HS.out.2.2; omega) (fun _ => rfl)
  (NdI w p b mm N B L r Bn) (NdG w Bn) (NdI.own HS.out.2.2.1 ⟨HS.out.2.2.2.1,HS.out.2.2.2.2.1⟩) (NdI.gd HS.out.2.2.1) (fun k W l o o' hk hkl hl ho hc => ⟨hk.1,hk.2.1,fun g n c h => hk.2.2 g n c (by
   have hBl : Bn≠l := by have := HS.out.2.2.2.2.1; omega
   rw [World.cell?_of_block (a:=⟨Bn,0,.none⟩) (World.putObj_heap_other hBl)] at h
   exact h)⟩) HS.out.2.1
  (fun x a' W => ∃ pb,a' = { tmps := #[.pointer (some ⟨p,0,.none⟩),.int .u64 (ad r),undef,undef,.slice none 0 0,.pointer (some ⟨Bn,0,.none⟩),undef,.pointer (some ⟨pb,0,.none⟩),.pointer (some ⟨p,0,.none⟩),.int .u64 (ad r),.bool true,.bool false,.int .u64 (ad r),.slice (some ⟨w1.heap.size,0,.none⟩) 1 1,.pointer (some ⟨p,0,.none⟩),.int .u64 (ad r),.func (.func 192) #[] #[.pointer (some ⟨z1,0,.none⟩),.pointer (some ⟨z1+1,0,.none⟩)],.agg #[.int .u64 x.va,.int .i64 x.l],x.p.val,undef,undef,undef,undef,undef,undef,undef,undef,undef,undef],defers := [] } ∧ C6 W pb (.int .u64 x.p.a0) (.int .u64 x.p.a1) (.int .u64 x.p.a2) (.int .i64 x.p.l) (.int .u64 x.p.e) (.int .i64 x.p.k)∧W3.heap.size≤pb) ?ax ?assign ?body ?done)
 case ax =>
  rintro x a' W l o o' ⟨pb,h1,h2,h3⟩ hl ho hc
  have hne : pb≠l := fun e => by
   subst e
   have := cells_of h2.c0 ho
   rw [hc] at this
   cases this
  exact ⟨pb,h1,h2.keep (World.putObj_heap_other hne),h3⟩
 case assign =>
  intro l x W K hW hK
  simp only [evE,Pt.val]
  gi_wp2
  exact hK _ _ (below1 W _) ⟨W.heap.size,rfl,C6.new W _ _ _ _ _ _ 169,hW⟩
 case body =>
  rintro l pre x a' W hI ⟨pb,rfl,C,hpb⟩ hlen
  obtain ⟨va,lv,⟨a0,a1,a2,l2,e,k⟩⟩ := x
  simp only [Pt.val] at C ⊢
  have z4 := C.c4
  have z5 := C.c5
  by_cases hk : k=3
  ·subst hk
   have hxm : (⟨va,lv,⟨a0,a1,a2,l2,e,3⟩⟩ : Ev) ∈ evs F lf 0 := hlen.subset (by simp)
   obtain ⟨j9,hj9⟩ := evs_mem hxm
   have heb : 0≤e∧e<18446744073709551616 := ev_b HR.out.2.1 HR.out.1.mem.n2 hj9
   have c46 := fun W => address_any e W heb
   have hplen : pre.length≤402653184 := by
    have h1 := hlen.length_le
    have h2 := evs_len F lf
    simp at h1
    omega
   have hnl : (ndl r pre).length≤402653185 := by
    unfold ndl
    have := List.length_filterMap_le (fun x:Ev => if x.p.k=3 then some (adE x.p.e) else none) pre
    simp only [List.length_cons]
    omega
   have hnd : ndl r (pre ++ [⟨va,lv,⟨a0,a1,a2,l2,e,3⟩⟩])=ndl r pre ++ [adE e] := by simp [ndl,List.filterMap_append]
   obtain ⟨g,c,k1,k2,k3⟩ := hI.row
   obtain ⟨nn,hnn⟩ : ∃ nn,nn=(ndl r pre).length := ⟨_,rfl⟩
   rw [← hnn] at k1 k2 hnl
   obtain ⟨i3,z3,hi3,hz3,hs3,hb3,hzs3⟩ := word_info
   obtain ⟨ae,hae⟩ : ∃ ae,ae=adE e := ⟨_,rfl⟩
   rw [← hae] at c46 hnd
   obtain ⟨V1,hV1⟩ : ∃ V1,V1=(W.alloc (.cells #[.int .u64 ae] 23)).drew := ⟨_,rfl⟩
   have bV1 : Below W.heap.size W V1 := by rw [hV1]; exact (below1 W _).drew
   have cV1 : V1.cell? ⟨W.heap.size,0,.none⟩=some (.int .u64 ae) := by rw [hV1]; show (W.alloc _).cell? _ = _; simp
   have kS : W.drew.cell? ⟨pb,4,.none⟩=some (.int .u64 e) := z4
   have kS1 : V1.cell? ⟨pb,4,.none⟩=some (.int .u64 e) := (bV1.cell (lt_of_cell z4)).trans z4
   have kB : W.drew.cell? ⟨Bn,0,.none⟩=some (.slice (some ⟨g,0,.none⟩) nn c) := k1
   have kB1 : V1.cell? ⟨Bn,0,.none⟩=some (.slice (some ⟨g,0,.none⟩) nn c) := (bV1.cell (lt_of_cell k1)).trans k1
   have ownV : V1.ownsRow w.heap.size 23 1 (.slice (some ⟨g,0,.none⟩) nn c) nn (wv (ndl r pre)) := own_block k2 (bV1.block g (own_lt k2).2.1)
   have HST : Hid (∀ V g' c',V.ownsRow w.heap.size 23 1 (.slice (some ⟨g',0,.none⟩) (nn+1) c') (nn+1) (wv (ndl r pre) ++ [.int .u64 ae])→V1.grownBy V (some g)→(g'=g∨g'=V1.heap.size)→KeepsFrom W3.heap.size W (V.setCell ⟨Bn,0,.none⟩ (.slice (some ⟨g',0,.none⟩) (nn+1) c'))∧KpG (NdG w Bn) p b mm W (V.setCell ⟨Bn,0,.none⟩ (.slice (some ⟨g',0,.none⟩) (nn+1) c'))∧NdI w p b mm N B L r Bn (pre ++ [⟨va,lv,⟨a0,a1,a2,l2,e,3⟩⟩]) (V.setCell ⟨Bn,0,.none⟩ (.slice (some ⟨g',0,.none⟩) (nn+1) c'))) := fun V g' c' ho hg hor => by
    have el : (ndl r (pre ++ [⟨va,lv,⟨a0,a1,a2,l2,e,3⟩⟩])).length=nn+1 := by rw [hnd,hnn]; simp
    have ew : wv (ndl r (pre ++ [⟨va,lv,⟨a0,a1,a2,l2,e,3⟩⟩]))=wv (ndl r pre) ++ [.int .u64 ae] := by rw [hnd]; simp [wv]
    have := hI.step (x:=⟨va,lv,⟨a0,a1,a2,l2,e,3⟩⟩) (Y:=W3.heap.size) (g' := g') (c' := c') (V:=V) k1 k2 k3 bV1 (by rw [el,ew]; exact ho) hg hor HBN.out HS.out.2.2.1
    rw [el] at this
    exact this
   have hsW : V1.heap.size=W.heap.size+1 := by rw [hV1]; show (W.alloc _).heap.size = _; simp
   have hwW := hI.bel.size
   have hBne : ∀ V : World,V1.grownBy V (some g)→V.cell? ⟨Bn,0,.none⟩=some (.slice (some ⟨g,0,.none⟩) nn c)∧V.frozen? ⟨Bn,0,.none⟩=false∧V.cell? ⟨pb,4,.none⟩=V.cell? ⟨pb,4,.none⟩ := fun V hg => by
    have hb := hg.block Bn (lt_of_cell kB1) (by simp; exact Ne.symm k3)
    exact ⟨(World.cell?_of_block (a:=⟨Bn,0,.none⟩) hb).trans kB1,(World.frozen?_of_block (a:=⟨Bn,0,.none⟩) hb).trans ((bV1.frozen (p:=⟨Bn,0,.none⟩) (lt_of_cell k1)).trans hI.frz),rfl⟩
   have HBE : Hid (∀ V : World,V1.grownBy V (some g)→V.cell? ⟨Bn,0,.none⟩=some (.slice (some ⟨g,0,.none⟩) nn c)∧V.frozen? ⟨Bn,0,.none⟩=false∧V.cell? ⟨pb,4,.none⟩=V.cell? ⟨pb,4,.none⟩) := hBne
   have HOV : Hid (V1.ownsRow w.heap.size 23 1 (.slice (some ⟨g,0,.none⟩) nn c) nn (wv (ndl r pre))) := ownV
   have HV1 : Hid (V1=(W.alloc (.cells #[.int .u64 ae] 23)).drew) := hV1
   clear hI k1 k2 hnd hxm hj9 hlen hplen hBne ownV hV1 hae C hnn
   gi_wp2
   refine wpIn_region_held (S:=(fun _:World => True)) (by kernel_rfl) (no_defer_of (by kernel_rfl)) (fun hL => by obtain ⟨_,_,hL⟩ := hL; first | exact hL | (obtain ⟨h,_⟩ := hL; cases h)) trivial (fun hHeld => ?_)
   refine aT 1 (.pointer (some ⟨pb,4,.none⟩)) rfl ?_
   simp only [X0,X1,X2,X3,X4,X5,X6]
   refine wpAnyH_ready (rs:=[0,2]) (by kernel_rfl) (by simp) ?_
   refine AllReadyH.cons rfl (fun K hK => ?_) (AllReadyH.cons rfl (fun K hK => ?_) AllReadyH.nil)
   ·skip
    go_simp
    refine hK.out _ _ trivial (fun hHeld => ?_)
    clear hK K
    try simp only [X0,X1,X2,X3,X4,X5,X6]
    refine wpAnyH_ready (rs:=[2]) (by kernel_rfl) (by simp) ?_
    refine AllReadyH.cons rfl (fun K hK => ?_) AllReadyH.nil
    go_simp
    refine hK.out _ _ trivial (fun hHeld => ?_)
    clear hK K
    try simp only [X0,X1,X2,X3,X4,X5,X6]
    refine wpAnyH_ready (rs:=[3]) (by kernel_rfl) (by simp) ?_
    refine AllReadyH.cons rfl (fun K hK => ?_) AllReadyH.nil
    go_simp
    go_at_call 56
    refine (c46 _).mono ?_
    rintro _ W4 ⟨rfl,e4⟩
    obtain rfl : W.drew=W4 := e4.symm
    refine hK.out _ _ trivial (fun hHeld => ?_)
    clear hK K
    try simp only [X0,X1,X2,X3,X4,X5,X6]
    refine wpAnyH_ready (rs:=[4]) (by kernel_rfl) (by simp) ?_
    refine AllReadyH.cons rfl (fun K hK => ?_) AllReadyH.nil
    go_simp
    rw [← HV1.out]
    refine hK.out _ _ trivial (fun hHeld => ?_)
    clear hK K
    try simp only [X0,X1,X2,X3,X4,X5,X6]
    refine wpAnyH_ready (rs:=[5]) (by kernel_rfl) (by simp) ?_
    refine AllReadyH.cons rfl (fun K hK => ?_) AllReadyH.nil
    refine step_append_at rfl (.tmp 22) (.tmp 26) 133 rfl w.heap.size 23 i3 z3 1 8 Tryz.underlying133 hi3 hz3 hs3 hb3 hzs3 (by decide) (.slice (some ⟨g,0,.none⟩) nn c) nn (wv (ndl r pre)) (by simp [Act.eval,Act.put]) HOV.out ⟨W.heap.size,0,.none⟩ 1 1 [.int .u64 ae] (by simp [Act.eval,Act.put]) rfl (fun j u hj => by cases j with | zero => simp at hj; subst hj; exact cV1 | succ j => simp at hj) (fun u hu => by simp at hu; subst hu; rfl) (by simp only [maxLen]; omega) (by omega) (by omega) ?_
    intro v' V own' grow fb
    obtain ⟨g',c',rfl⟩ : ∃ g' c',v' = .slice (some ⟨g',0,.none⟩) (nn+1) c' := by
     rcases own'.2 with ⟨_,h0⟩ | ⟨g',cap,cur,hv,_⟩
     ·omega
     ·exact ⟨g',cap,hv⟩
    have hor : g'=g∨g'=V1.heap.size := by
     rcases fb with h | h
     ·left; simpa [Value.ownBlock] using h
     ·right; simpa [Value.ownBlock] using h
    have HP9 := HST.out V g' c' own' grow hor
    obtain ⟨v1,v2,_⟩ := HBE.out V grow
    clear own' grow fb
    refine hK.out _ _ trivial (fun hHeld => ?_)
    clear hK K
    try simp only [X0,X1,X2,X3,X4,X5,X6]
    refine wpAnyH_ready (rs:=[6]) (by kernel_rfl) (by simp) ?_
    refine AllReadyH.cons rfl (fun K hK => ?_) AllReadyH.nil
    go_simp
    refine hK.out _ _ trivial (fun hHeld => ?_)
    clear hK K
    try simp only [X0,X1,X2,X3,X4,X5,X6]
    refine wpAnyH_done (by kernel_rfl) ?_ _
    have HP8 : Hid _ := HP9
    clear HP9 v1 v2
    gi_wp2
    exact HP8.out
   ·skip
    go_simp
    refine hK.out _ _ trivial (fun hHeld => ?_)
    clear hK K
    try simp only [X0,X1,X2,X3,X4,X5,X6]
    refine wpAnyH_ready (rs:=[0,3]) (by kernel_rfl) (by simp) ?_
    refine AllReadyH.cons rfl (fun K hK => ?_) (AllReadyH.cons rfl (fun K hK => ?_) AllReadyH.nil)
    ·skip
     go_simp
     refine hK.out _ _ trivial (fun hHeld => ?_)
     clear hK K
     try simp only [X0,X1,X2,X3,X4,X5,X6]
     refine wpAnyH_ready (rs:=[3]) (by kernel_rfl) (by simp) ?_
     refine AllReadyH.cons rfl (fun K hK => ?_) AllReadyH.nil
     go_simp
     go_at_call 56
     refine (c46 _).mono ?_
     rintro _ W4 ⟨rfl,e4⟩
     obtain rfl : W.drew=W4 := e4.symm
     refine hK.out _ _ trivial (fun hHeld => ?_)
     clear hK K
     try simp only [X0,X1,X2,X3,X4,X5,X6]
     refine wpAnyH_ready (rs:=[4]) (by kernel_rfl) (by simp) ?_
     refine AllReadyH.cons rfl (fun K hK => ?_) AllReadyH.nil
     go_simp
     rw [← HV1.out]
     refine hK.out _ _ trivial (fun hHeld => ?_)
     clear hK K
     try simp only [X0,X1,X2,X3,X4,X5,X6]
     refine wpAnyH_ready (rs:=[5]) (by kernel_rfl) (by simp) ?_
     refine AllReadyH.cons rfl (fun K hK => ?_) AllReadyH.nil
     refine step_append_at rfl (.tmp 22) (.tmp 26) 133 rfl w.heap.size 23 i3 z3 1 8 Tryz.underlying133 hi3 hz3 hs3 hb3 hzs3 (by decide) (.slice (some ⟨g,0,.none⟩) nn c) nn (wv (ndl r pre)) (by simp [Act.eval,Act.put]) HOV.out ⟨W.heap.size,0,.none⟩ 1 1 [.int .u64 ae] (by simp [Act.eval,Act.put]) rfl (fun j u hj => by cases j with | zero => simp at hj; subst hj; exact cV1 | succ j => simp at hj) (fun u hu => by simp at hu; subst hu; rfl) (by simp only [maxLen]; omega) (by omega) (by omega) ?_
     intro v' V own' grow fb
     obtain ⟨g',c',rfl⟩ : ∃ g' c',v' = .slice (some ⟨g',0,.none⟩) (nn+1) c' := by
      rcases own'.2 with ⟨_,h0⟩ | ⟨g',cap,cur,hv,_⟩
      ·omega
      ·exact ⟨g',cap,hv⟩
     have hor : g'=g∨g'=V1.heap.size := by
      rcases fb with h | h
      ·left; simpa [Value.ownBlock] using h
      ·right; simpa [Value.ownBlock] using h
     have HP9 := HST.out V g' c' own' grow hor
     obtain ⟨v1,v2,_⟩ := HBE.out V grow
     clear own' grow fb
     refine hK.out _ _ trivial (fun hHeld => ?_)
     clear hK K
     try simp only [X0,X1,X2,X3,X4,X5,X6]
     refine wpAnyH_ready (rs:=[6]) (by kernel_rfl) (by simp) ?_
     refine AllReadyH.cons rfl (fun K hK => ?_) AllReadyH.nil
     go_simp
     refine hK.out _ _ trivial (fun hHeld => ?_)
     clear hK K
     try simp only [X0,X1,X2,X3,X4,X5,X6]
     refine wpAnyH_done (by kernel_rfl) ?_ _
     have HP8 : Hid _ := HP9
     clear HP9 v1 v2
     gi_wp2
     exact HP8.out
    ·skip
     go_simp
     go_at_call 56
     refine (c46 _).mono ?_
     rintro _ W4 ⟨rfl,e4⟩
     obtain rfl : W.drew=W4 := e4.symm
     refine hK.out _ _ trivial (fun hHeld => ?_)
     clear hK K
     try simp only [X0,X1,X2,X3,X4,X5,X6]
     refine wpAnyH_ready (rs:=[0,4]) (by kernel_rfl) (by simp) ?_
     refine AllReadyH.cons rfl (fun K hK => ?_) (AllReadyH.cons rfl (fun K hK => ?_) AllReadyH.nil)
     ·skip
      go_simp
      refine hK.out _ _ trivial (fun hHeld => ?_)
      clear hK K
      try simp only [X0,X1,X2,X3,X4,X5,X6]
      refine wpAnyH_ready (rs:=[4]) (by kernel_rfl) (by simp) ?_
      refine AllReadyH.cons rfl (fun K hK => ?_) AllReadyH.nil
      go_simp
      rw [← HV1.out]
      refine hK.out _ _ trivial (fun hHeld => ?_)
      clear hK K
      try simp only [X0,X1,X2,X3,X4,X5,X6]
      refine wpAnyH_ready (rs:=[5]) (by kernel_rfl) (by simp) ?_
      refine AllReadyH.cons rfl (fun K hK => ?_) AllReadyH.nil
      refine step_append_at rfl (.tmp 22) (.tmp 26) 133 rfl w.heap.size 23 i3 z3 1 8 Tryz.underlying133 hi3 hz3 hs3 hb3 hzs3 (by decide) (.slice (some ⟨g,0,.none⟩) nn c) nn (wv (ndl r pre)) (by simp [Act.eval,Act.put]) HOV.out ⟨W.heap.size,0,.none⟩ 1 1 [.int .u64 ae] (by simp [Act.eval,Act.put]) rfl (fun j u hj => by cases j with | zero => simp at hj; subst hj; exact cV1 | succ j => simp at hj) (fun u hu => by simp at hu; subst hu; rfl) (by simp only [maxLen]; omega) (by omega) (by omega) ?_
      intro v' V own' grow fb
      obtain ⟨g',c',rfl⟩ : ∃ g' c',v' = .slice (some ⟨g',0,.none⟩) (nn+1) c' := by
       rcases own'.2 with ⟨_,h0⟩ | ⟨g',cap,cur,hv,_⟩
       ·omega
       ·exact ⟨g',cap,hv⟩
      have hor : g'=g∨g'=V1.heap.size := by
       rcases fb with h | h
       ·left; simpa [Value.ownBlock] using h
       ·right; simpa [Value.ownBlock] using h
      have HP9 := HST.out V g' c' own' grow hor
      obtain ⟨v1,v2,_⟩ := HBE.out V grow
      clear own' grow fb
      refine hK.out _ _ trivial (fun hHeld => ?_)
      clear hK K
      try simp only [X0,X1,X2,X3,X4,X5,X6]
      refine wpAnyH_ready (rs:=[6]) (by kernel_rfl) (by simp) ?_
      refine AllReadyH.cons rfl (fun K hK => ?_) AllReadyH.nil
      go_simp
      refine hK.out _ _ trivial (fun hHeld => ?_)
      clear hK K
      try simp only [X0,X1,X2,X3,X4,X5,X6]
      refine wpAnyH_done (by kernel_rfl) ?_ _
      have HP8 : Hid _ := HP9
      clear HP9 v1 v2
      gi_wp2
      exact HP8.out
     ·skip
      go_simp
      rw [← HV1.out]
      refine hK.out _ _ trivial (fun hHeld => ?_)
      clear hK K
      try simp only [X0,X1,X2,X3,X4,X5,X6]
      refine wpAnyH_ready (rs:=[0]) (by kernel_rfl) (by simp) ?_
      refine AllReadyH.cons rfl (fun K hK => ?_) AllReadyH.nil
      go_simp
      refine hK.out _ _ trivial (fun hHeld => ?_)
      clear hK K
      try simp only [X0,X1,X2,X3,X4,X5,X6]
      refine wpAnyH_ready (rs:=[5]) (by kernel_rfl) (by simp) ?_
      refine AllReadyH.cons rfl (fun K hK => ?_) AllReadyH.nil
      refine step_append_at rfl (.tmp 22) (.tmp 26) 133 rfl w.heap.size 23 i3 z3 1 8 Tryz.underlying133 hi3 hz3 hs3 hb3 hzs3 (by decide) (.slice (some ⟨g,0,.none⟩) nn c) nn (wv (ndl r pre)) (by simp [Act.eval,Act.put]) HOV.out ⟨W.heap.size,0,.none⟩ 1 1 [.int .u64 ae] (by simp [Act.eval,Act.put]) rfl (fun j u hj => by cases j with | zero => simp at hj; subst hj; exact cV1 | succ j => simp at hj) (fun u hu => by simp at hu; subst hu; rfl) (by simp only [maxLen]; omega) (by omega) (by omega) ?_
      intro v' V own' grow fb
      obtain ⟨g',c',rfl⟩ : ∃ g' c',v' = .slice (some ⟨g',0,.none⟩) (nn+1) c' := by
       rcases own'.2 with ⟨_,h0⟩ | ⟨g',cap,cur,hv,_⟩
       ·omega
       ·exact ⟨g',cap,hv⟩
      have hor : g'=g∨g'=V1.heap.size := by
       rcases fb with h | h
       ·left; simpa [Value.ownBlock] using h
       ·right; simpa [Value.ownBlock] using h
      have HP9 := HST.out V g' c' own' grow hor
      obtain ⟨v1,v2,_⟩ := HBE.out V grow
      clear own' grow fb
      refine hK.out _ _ trivial (fun hHeld => ?_)
      clear hK K
      try simp only [X0,X1,X2,X3,X4,X5,X6]
      refine wpAnyH_ready (rs:=[6]) (by kernel_rfl) (by simp) ?_
      refine AllReadyH.cons rfl (fun K hK => ?_) AllReadyH.nil
      go_simp
      refine hK.out _ _ trivial (fun hHeld => ?_)
      clear hK K
      try simp only [X0,X1,X2,X3,X4,X5,X6]
      refine wpAnyH_done (by kernel_rfl) ?_ _
      have HP8 : Hid _ := HP9
      clear HP9 v1 v2
      gi_wp2
      exact HP8.out
  ·have hk3 : (k == 3)=false := by simpa using hk
   have HB : Hid (KeepsFrom W3.heap.size W W∧KpG (NdG w Bn) p b mm W W∧NdI w p b mm N B L r Bn (pre ++ [⟨va,lv,⟨a0,a1,a2,l2,e,k⟩⟩]) W) := by
    refine ⟨KeepsFrom.refl _ _,⟨fun g o hg ho => ⟨ho,hg⟩,rfl,rfl,rfl,Nat.le_refl _⟩,?_⟩
    have e1 : ndl r (pre ++ [⟨va,lv,⟨a0,a1,a2,l2,e,k⟩⟩])=ndl r pre := by simp [ndl,List.filterMap_append,hk]
    refine ⟨hI.ram,hI.bel,?_,hI.frz⟩
    rw [e1]
    exact hI.row
   clear hI C hk
   gi_wp2
   exact HB.out
 case done =>
  rintro D W hD hI hK
  obtain ⟨g,c,k1,k2,k3⟩ := hI.row
  have hBl : Bn<W3.heap.size := HS.out.2.2.2.2.1
  have hBD : Bn≠D := by omega
  have hgD : g≠D := fun e9 => by
   obtain ⟨_,_,cur,t,f,h9⟩ := own_lt k2
   rw [e9,hK] at h9
   cases h9
  have HI : Hid (NdI w p b mm N B L r Bn (evs F lf 0) W∧W.ownsRow w.heap.size 23 1 (.slice (some ⟨g,0,.none⟩) (ndl r (evs F lf 0)).length c) (ndl r (evs F lf 0)).length (wv (ndl r (evs F lf 0)))∧Bn≠D∧g≠D∧w.heap.size≤D) := ⟨hI,k2,hBD,hgD,by have := HS.out.2.2.2.1; omega⟩
  clear hI k2 hBD hgD
  go_wp2
  refine ⟨by simp,.inl ⟨_,_,rfl,run_takeDeferred hK,?_⟩⟩
  refine ⟨.slice (some ⟨g,0,.none⟩) (ndl r (evs F lf 0)).length c,by simp [results,Tryz.results125,go_sem],g,c,rfl,?_,?_⟩
  ·exact own_block HI.out.2.1 (World.putObj_heap_other HI.out.2.2.2.1)
  ·have hb := HI.out.1.bel
   have hD9 := HI.out.2.2.2.2
   exact ⟨hb.os,hb.tape,hb.output,by simp [World.putObj]; exact hb.size,fun k hk => (World.putObj_heap_other (by omega)).trans (hb.block k hk)⟩
end Rm
end Go.Proofs.YtabnipbdbnmmpaaGreatDoor
