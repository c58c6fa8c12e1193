import Derived.Test.YtabnipbdbnmmpaaGreatDoorSh01
import Derived.Test.YtabnipbdbnmmpaaGreatDoorSh18
set_option linter.unusedVariables false
set_option linter.unusedSimpArgs false
namespace Go.Proofs.YtabnipbdbnmmpaaGreatDoor
namespace Rm
open Go.RowKit
theorem kd_zero (l:Int) : kd 0 l=0 := by
 have h : hs 0 1=false := by decide
 unfold kd
 rw [if_pos h]
theorem fi_adr (i:Nat) : fi (2147483648+(i:Int)*4096)=i := by unfold fi; omega
theorem ent_zero (B:Nat→Int) (nd va l:Int) (h:∀ k,k<4096→B (fi nd*4096+k)=0) : ent B nd va l=0 := by
 have hi := ix_b va l
 have key : ∀ j,j≤8→num B (fi nd*4096+(ix va l).toNat*8) j=0 := by
  intro j
  induction j with
  | zero => intro _; rfl
  | succ j ih =>
   intro hj
   have e := h ((ix va l).toNat*8+j) (by omega)
   simp only [num,ih (by omega)]
   rw [show fi nd*4096+(ix va l).toNat*8+j=fi nd*4096+((ix va l).toNat*8+j) by omega,e]
   simp
 exact key 8 (by omega)
theorem ndB_mk {N:Nat} {L:List Nat} {i:Nat} (h1:1≤i) (h2:i<N) (h3:i ∉ L) : ndB N L (2147483648+(i:Int)*4096)=true := by
 unfold ndB
 rw [fi_adr]
 simp only [decide_eq_true_eq]
 exact ⟨trivial,h1,h2,h3⟩
theorem ndB_cons {N:Nat} {L:List Nat} {i:Nat} {nd:Int} (h:ndB N (i :: L) nd=true) : ndB N L nd=true∧fi nd≠i := by
 obtain ⟨h1,h2,h3,h4⟩ := ndB_spec h
 rw [List.mem_cons,not_or] at h4
 refine ⟨?_,h4.1⟩
 unfold ndB
 simp only [decide_eq_true_eq]
 exact ⟨h1,h2,h3,h4.2⟩
theorem new_zero (B:Nat→Int) (i f o:Nat) (vs:List Int) (hv:vs.length=8) (ho:o+8≤4096) (hf:f≠i) : ∀ k,k<4096→over (zer B i) (f*4096+o) vs (fi (2147483648+(i:Int)*4096)*4096+k)=0 := fun k hk => by
 rw [fi_adr]
 unfold over
 rw [if_neg (by rw [hv]; omega)]
 exact zer_in B i k hk
theorem lays_zero (N:Nat) (va leaf:Int) : ∀ (l:Nat) (B:Nat→Int) (L:List Nat) (nd:Int),(∀ k,k<4096→B (fi nd*4096+k)=0)→ndB N L nd=true→L.Nodup→(∀ i ∈ L,1≤i∧i<N)→l≤L.length → ∃ B' L',Lays N va leaf l B L nd B' L'∧L=L.take l ++ L'
 | 0,B,L,nd,hz,hn,hd,hl,hle => ⟨_,L,⟨hn,by rw [ent_zero B nd va 0 hz]; exact kd_zero 0,rfl,rfl⟩,by simp⟩
 | l+1,B,[],nd,hz,hn,hd,hl,hle => by simp at hle
 | l+1,B,i :: L1,nd,hz,hn,hd,hl,hle => by
  obtain ⟨hn2,hne⟩ := ndB_cons hn
  obtain ⟨hi,hd2⟩ := List.nodup_cons.1 hd
  have hb := ix_b va (l+1 : Nat)
  have hil := hl i (by simp)
  obtain ⟨B',L',h1,h2⟩ := lays_zero N va leaf l (over (zer B i) (fi nd*4096+(ix va (l+1 : Nat)).toNat*8) (le (toP (2147483648+i*4096) 0) 8)) L1 (2147483648+(i:Int)*4096)
   (new_zero B i (fi nd) ((ix va (l+1 : Nat)).toNat*8) _ (le_len _ _) (by omega) hne) (ndB_mk hil.1 hil.2 hi) hd2 (fun j hj => hl j (List.mem_cons_of_mem _ hj)) (by simpa using hle)
  refine ⟨B',L',⟨hn,.inr ⟨by rw [ent_zero B nd va _ hz]; exact kd_zero _,i,L1,rfl,hn2,h1⟩⟩,?_⟩
  rw [List.take_succ_cons,List.cons_append,← h2]
theorem lays_look (N:Nat) (va leaf:Int) (B:Nat→Int) (L:List Nat) (hd:L.Nodup) (hl:∀ i ∈ L,1≤i∧i<N) : ∀ (l:Nat) (nd a0 a1 a2 e:Int),(wk N L B va l nd a0 a1 a2 e).k=0→(wk N L B va l nd a0 a1 a2 e).l≤L.length → ∃ B' L',Lays N va leaf l B L nd B' L'∧L=L.take (wk N L B va l nd a0 a1 a2 e).l.toNat ++ L'
 | 0,nd,a0,a1,a2,e => fun hk hle => by
  by_cases hn : ndB N L nd=true
  ·have ew := wk_stop0 (B:=B) (va:=va) (a0:=a0) (a1:=a1) (a2:=a2) (e:=e) hn
   rw [ew] at hk ⊢
   exact ⟨_,L,⟨hn,hk,rfl,rfl⟩,by simp⟩
  ·have ew : wk N L B va 0 nd a0 a1 a2 e=⟨a0,a1,a2,0,e,4⟩ := if_neg hn
   rw [ew] at hk
   simp at hk
 | l+1,nd,a0,a1,a2,e => fun hk hle => by
  by_cases hn : ndB N L nd=true
  ·by_cases h3 : kd (ent B nd va (l+1 : Nat)) (l+1 : Nat)=3
   ·have ew : wk N L B va (l+1) nd a0 a1 a2 e=wk N L B va l (adE (ent B nd va (l+1 : Nat))) a0 (if l=0 then st nd va 1 else a1) (if l=1 then st nd va 2 else a2) (ent B nd va (l+1 : Nat)) := (if_pos hn).trans (if_pos h3)
    rw [ew] at hk hle ⊢
    obtain ⟨B',L',h1,h2⟩ := lays_look N va leaf B L hd hl l _ _ _ _ _ hk hle
    exact ⟨B',L',⟨hn,.inl ⟨h3,h1⟩⟩,h2⟩
   ·have ew : wk N L B va (l+1) nd a0 a1 a2 e=⟨a0,if l=0 then st nd va 1 else a1,if l=1 then st nd va 2 else a2,(l+1 : Nat),ent B nd va (l+1 : Nat),kd (ent B nd va (l+1 : Nat)) (l+1 : Nat)⟩ := (if_pos hn).trans (if_neg h3)
    rw [ew] at hk hle ⊢
    simp only at hk hle ⊢
    rw [Int.toNat_natCast]
    match L,hd,hl,hn,hle with
    | [],hd,hl,hn,hle => simp at hle; omega
    | i :: L1,hd,hl,hn,hle =>
     obtain ⟨hn2,hne⟩ := ndB_cons hn
     obtain ⟨hi,hd2⟩ := List.nodup_cons.1 hd
     have hb := ix_b va (l+1 : Nat)
     have hil := hl i (by simp)
     obtain ⟨B',L',h1,h2⟩ := lays_zero N va leaf l (over (zer B i) (fi nd*4096+(ix va (l+1 : Nat)).toNat*8) (le (toP (2147483648+i*4096) 0) 8)) L1 (2147483648+(i:Int)*4096)
      (new_zero B i (fi nd) ((ix va (l+1 : Nat)).toNat*8) _ (le_len _ _) (by omega) hne) (ndB_mk hil.1 hil.2 hi) hd2 (fun j hj => hl j (List.mem_cons_of_mem _ hj)) (by simp at hle; omega)
     refine ⟨B',L',⟨hn,.inr ⟨hk,i,L1,rfl,hn2,h1⟩⟩,?_⟩
     rw [List.take_succ_cons,List.cons_append,← h2]
  ·have ew : wk N L B va (l+1) nd a0 a1 a2 e=⟨a0,a1,a2,(l+1 : Nat),e,4⟩ := if_neg hn
   rw [ew] at hk
   simp at hk
end Rm
namespace Rm
open Go.RowKit
def ad (f:Nat) : Int := 2147483648+(f:Int)*4096
def evn (B:Nat→Int) (f i:Nat) : Int := num B (f*4096+i*8) 8
theorem ent_evn (B:Nat→Int) (f:Nat) (va l:Int) : ent B (ad f) va l=evn B f (ix va l).toNat := by unfold ent evn ad; rw [fi_adr]
theorem num_ext (B B':Nat→Int) (o:Nat) : ∀ n,(∀ k,k<n→B' (o+k)=B (o+k))→num B' o n=num B o n
 | 0,_ => rfl
 | n+1,h => by
  simp only [num]
  rw [num_ext B B' o n (fun k hk => h k (by omega)),h n (by omega)]
theorem leG (v:Int) (n k:Nat) (hk:k<n) : (le v n).getD k 0=v / 256 ^ k % 256 := by
 rw [List.getD_eq_getElem?_getD]
 simp [le,hk]
theorem evn_over_same (B:Nat→Int) (f i:Nat) (v:Int) (hv:0≤v∧v<18446744073709551616) : evn (over B (f*4096+i*8) (le v 8)) f i=v := by
 refine num_jb _ _ _ hv fun k hk => ?_
 unfold over
 rw [if_pos ⟨by omega,by rw [le_len]; omega⟩,show f*4096+i*8+k - (f*4096+i*8)=k by omega]
 exact leG v 8 k hk
theorem over_out (B:Nat→Int) (f i:Nat) (v:Int) (j:Nat) (h:j<f*4096+i*8∨f*4096+i*8+8≤j) : over B (f*4096+i*8) (le v 8) j=B j := by
 unfold over
 rw [if_neg (by rw [le_len]; omega)]
theorem evn_over_other (B:Nat→Int) (f i g j:Nat) (v:Int) (hi:i<512) (hj:j<512) (h:g≠f∨j≠i) : evn (over B (f*4096+i*8) (le v 8)) g j=evn B g j := by
 refine num_ext _ _ _ _ fun k hk => over_out _ _ _ _ _ ?_
 rcases h with h | h
 ·rcases Nat.lt_or_gt_of_ne h with h | h <;> omega
 ·by_cases e : g=f
  ·subst e
   omega
  ·rcases Nat.lt_or_gt_of_ne e with h | h <;> omega
theorem evn_zer_same (B:Nat→Int) (f i:Nat) (hi:i<512) : evn (zer B f) f i=0 := by
 refine num_jb _ _ _ (by omega) fun k hk => ?_
 rw [Nat.add_assoc,zer_in B f _ (by omega)]
 simp
theorem evn_zer_other (B:Nat→Int) (f g i:Nat) (hi:i<512) (h:g≠f) : evn (zer B f) g i=evn B g i := by
 refine num_ext _ _ _ _ fun k hk => zer_out _ _ _ ?_
 rcases Nat.lt_or_gt_of_ne h with h | h <;> omega
def ptr : Option Nat→Int
 | none => 0
 | some f => toP (ad f) 0
def ch (x e:Nat) : Nat := if x=0 then 1+e else 513+512*(x - 1)+e
theorem ch_inj {x y e d:Nat} (hx:x≤512) (hy:y≤512) (he:e<512) (hd:d<512) (h:ch x e=ch y d) : x=y∧e=d := by
 unfold ch at h
 split at h <;> split at h <;> omega
theorem ch_pos (x e:Nat) : 0<ch x e := by unfold ch; split <;> omega
def setO (F:Nat→Option Nat) (x f:Nat) : Nat→Option Nat := fun y => if y=x then some f else F y
def setE (lf:Nat→Nat→Int) (y k:Nat) (v:Int) : Nat→Nat→Int := fun a b => if a=y∧b=k then v else lf a b
structure PT (N:Nat) (L:List Nat) (B:Nat→Int) (F:Nat→Option Nat) (lf:Nat→Nat→Int) : Prop where
 root : ∃ r,F 0=some r
 held : ∀ x f,F x=some f→1≤f∧f<N∧f ∉ L
 inj : ∀ x y f,F x=some f→F y=some f→x=y
 up : ∀ x e,x≤512→e<512→F (ch x e)≠none→F x≠none
 dom : ∀ x,F x≠none→x<262657
 ep : ∀ x g,x≤512→F x=some g → ∀ e,e<512→evn B g e=ptr (F (ch x e))
 el : ∀ y g,513≤y→F y=some g → ∀ k,k<512→evn B g k=lf y k
 lv : ∀ y k,lf y k=0∨(kd (lf y k) 0=2∧0≤lf y k∧lf y k<18446744073709551616)
 ln : ∀ y,F y=none → ∀ k,lf y k=0
section
variable {N:Nat} {L:List Nat} {B:Nat→Int} {F:Nat→Option Nat} {lf:Nat→Nat→Int}
theorem toPb (f N:Nat) (hf:f<N) (hN:N≤4096) : 0≤toP (ad f) 0∧toP (ad f) 0<18446744073709551616 := by
 rw [toP_val (ad f) 0 (by unfold ad; omega) (by omega) (by omega)]
 unfold ad
 omega
theorem PT.keep {B':Nat→Int} {L':List Nat} (h:PT N L B F lf) (hB:∀ x f,F x=some f → ∀ k,k<4096→B' (f*4096+k)=B (f*4096+k)) (hL:∀ x f,F x=some f→f ∉ L') : PT N L' B' F lf := by
 have he : ∀ x f,F x=some f → ∀ e,e<512→evn B' f e=evn B f e := fun x f hf e he => num_ext _ _ _ _ fun k hk => by rw [Nat.add_assoc]; exact hB x f hf _ (by omega)
 exact ⟨h.root,fun x f hf => ⟨(h.held x f hf).1,(h.held x f hf).2.1,hL x f hf⟩,h.inj,h.up,h.dom,fun x g hx hg e h1 => (he x g hg e h1).trans (h.ep x g hx hg e h1),fun y g hy hg k hk => (he y g hg k hk).trans (h.el y g hy hg k hk),h.lv,h.ln⟩
theorem PT.leaf {y q k:Nat} {v:Int} (h:PT N L B F lf) (hy:513≤y) (hq:F y=some q) (hk:k<512) (hv:v=0∨(kd v 0=2∧0≤v∧v<18446744073709551616)) : PT N L (over B (q*4096+k*8) (le v 8)) F (setE lf y k v) := by
 have hvb : 0≤v∧v<18446744073709551616 := by rcases hv with e | e <;> omega
 refine ⟨h.root,h.held,h.inj,h.up,h.dom,fun x g hx hg e he => ?_,fun z g hz hg d hd => ?_,fun z d => ?_,fun z hz d => ?_⟩
 ·rw [evn_over_other _ _ _ _ _ _ hk he (.inl (fun e2 => by subst e2; have := h.inj x y g hg hq; omega))]
  exact h.ep x g hx hg e he
 ·unfold setE
  by_cases e : z=y∧d=k
  ·obtain ⟨rfl,rfl⟩ := e
   rw [hq] at hg
   injection hg with hg
   subst hg
   rw [if_pos ⟨rfl,rfl⟩]
   exact evn_over_same _ _ _ _ hvb
  ·rw [if_neg e,evn_over_other _ _ _ _ _ _ hk hd (by
    by_cases e2 : g=q
    ·subst e2
     have := h.inj z y g hg hq
     exact .inr (fun e3 => e ⟨this,e3⟩)
    ·exact .inl e2)]
   exact h.el z g hz hg d hd
 ·unfold setE
  split
  ·exact hv
  ·exact h.lv z d
 ·unfold setE
  rw [if_neg (by rintro ⟨rfl,_⟩; rw [hq] at hz; cases hz)]
  exact h.ln z hz d
theorem PT.node {f x g e:Nat} {L1:List Nat} (h:PT N (f :: L1) B F lf) (hN:N≤4096) (hd:(f :: L1).Nodup) (hf:1≤f∧f<N) (hx:x≤512) (hg:F x=some g) (he:e<512) (hn:F (ch x e)=none) :
  PT N L1 (over (zer B f) (g*4096+e*8) (le (toP (ad f) 0) 8)) (setO F (ch x e) f) lf := by
 have hfn : ∀ z q,F z=some q→q≠f := fun z q hz e => (h.held z q hz).2.2 (by rw [e]; exact List.mem_cons_self ..)
 have hgf : g≠f := hfn x g hg
 have hb := toPb f N hf.2 hN
 have hxc : x≠ch x e := fun e2 => by rw [← e2,hg] at hn; cases hn
 have hfL : f ∉ L1 := (List.nodup_cons.1 hd).1
 have evo : ∀ q d,d<512→q≠f→(q≠g∨d≠e)→evn (over (zer B f) (g*4096+e*8) (le (toP (ad f) 0) 8)) q d=evn B q d := fun q d h1 h2 h3 => by rw [evn_over_other _ _ _ _ _ _ he h1 h3,evn_zer_other _ _ _ _ h1 h2]
 have evf : ∀ d,d<512→evn (over (zer B f) (g*4096+e*8) (le (toP (ad f) 0) 8)) f d=0 := fun d h1 => by rw [evn_over_other _ _ _ _ _ _ he h1 (.inl (Ne.symm hgf)),evn_zer_same _ _ _ h1]
 have sF : ∀ z,z≠ch x e→setO F (ch x e) f z=F z := fun z hz => by unfold setO; rw [if_neg hz]
 have sT : setO F (ch x e) f (ch x e)=some f := by unfold setO; rw [if_pos rfl]
 refine ⟨?_,fun z q hz => ?_,fun z y q hz hy => ?_,fun z d hz hd2 hne => ?_,fun z hz => ?_,fun z q hz hq d hd2 => ?_,fun z q hz hq d hd2 => ?_,h.lv,fun z hz d => ?_⟩
 ·obtain ⟨r,hr⟩ := h.root
  exact ⟨r,by rw [sF 0 (by have := ch_pos x e; omega)]; exact hr⟩
 ·by_cases e2 : z=ch x e
  ·subst e2
   rw [sT] at hz
   injection hz with hz
   subst hz
   exact ⟨hf.1,hf.2,hfL⟩
  ·rw [sF z e2] at hz
   have := h.held z q hz
   exact ⟨this.1,this.2.1,fun hm => this.2.2 (List.mem_cons_of_mem _ hm)⟩
 ·by_cases e2 : z=ch x e <;> by_cases e3 : y=ch x e
  ·rw [e2,e3]
  ·rw [e2,sT] at hz
   injection hz with hz
   rw [sF y e3] at hy
   exact absurd hz.symm (hfn y q hy)
  ·rw [e3,sT] at hy
   injection hy with hy
   rw [sF z e2] at hz
   exact absurd hy.symm (hfn z q hz)
  ·rw [sF z e2] at hz
   rw [sF y e3] at hy
   exact h.inj z y q hz hy
 ·by_cases e2 : z=ch x e
  ·rw [e2,sT]; simp
  ·rw [sF z e2]
   by_cases e3 : ch z d=ch x e
   ·obtain ⟨rfl,_⟩ := ch_inj hz hx hd2 he e3
    rw [hg]; simp
   ·rw [sF _ e3] at hne
    exact h.up z d hz hd2 hne
 ·by_cases e2 : z=ch x e
  ·subst e2
   unfold ch
   split <;> omega
  ·rw [sF z e2] at hz
   exact h.dom z hz
 ·by_cases e2 : z=ch x e
  ·subst e2
   rw [sT] at hq
   injection hq with hq
   subst hq
   rw [evf d hd2]
   have : setO F (ch x e) f (ch (ch x e) d)=none := by
    have e3 : ch (ch x e) d≠ch x e := fun e3 => by
     unfold ch at e3 hz
     split at e3 <;> split at e3 <;> omega
    rw [sF _ e3]
    cases hc : F (ch (ch x e) d) with
    | none => rfl
    | some q => exact absurd hn (h.up (ch x e) d hz hd2 (by rw [hc]; simp))
   rw [this]
   rfl
  ·rw [sF z e2] at hq
   by_cases e3 : q=g∧d=e
   ·obtain ⟨rfl,rfl⟩ := e3
    obtain rfl : z=x := h.inj z x q hq hg
    rw [sT,evn_over_same _ _ _ _ hb]
    rfl
   ·rw [evo q d hd2 (hfn z q hq) (by
     by_cases e4 : q=g
     ·exact .inr (fun e5 => e3 ⟨e4,e5⟩)
     ·exact .inl e4)]
    rw [h.ep z q hz hq d hd2]
    rw [sF]
    intro e4
    obtain ⟨rfl,rfl⟩ := ch_inj hz hx hd2 he e4
    rw [hg] at hq
    injection hq with hq
    exact e3 ⟨hq.symm,rfl⟩
 ·by_cases e2 : z=ch x e
  ·subst e2
   rw [sT] at hq
   injection hq with hq
   subst hq
   rw [evf d hd2,h.ln _ hn]
  ·rw [sF z e2] at hq
   rw [evo q d hd2 (hfn z q hq) (.inl (fun e3 => by subst e3; have := h.inj z x q hq hg; omega))]
   exact h.el z q hz hq d hd2
 ·by_cases e2 : z=ch x e
  ·subst e2
   rw [sT] at hz
   cases hz
  ·rw [sF z e2] at hz
   exact h.ln z hz d
end
end Rm
namespace Rm
open Go.RowKit
def i2 (va:Int) : Nat := (ix va 2).toNat
def i1 (va:Int) : Nat := (ix va 1).toNat
def i0 (va:Int) : Nat := (ix va 0).toNat
def y1 (va:Int) : Nat := ch 0 (i2 va)
def y0 (va:Int) : Nat := ch (y1 va) (i1 va)
theorem i2_lt (va:Int) : i2 va<512 := by unfold i2; have := ix_b va 2; omega
theorem i1_lt (va:Int) : i1 va<512 := by unfold i1; have := ix_b va 1; omega
theorem i0_lt (va:Int) : i0 va<512 := by unfold i0; have := ix_b va 0; omega
theorem y1_le (va:Int) : y1 va≤512∧1≤y1 va := by unfold y1 ch; have := i2_lt va; simp; omega
theorem y0_ge (va:Int) : 513≤y0 va := by unfold y0 ch; have := y1_le va; rw [if_neg (by omega)]; omega
section
variable {N:Nat} {L:List Nat} {B:Nat→Int} {F:Nat→Option Nat} {lf:Nat→Nat→Int}
theorem PT.ndB (h:PT N L B F lf) {x f:Nat} (hf:F x=some f) : ndB N L (ad f)=true := by
 have := h.held x f hf
 exact ndB_mk this.1 this.2.1 this.2.2
theorem ptr_kd {f:Nat} (hf:f<N) (hN:N≤4096) (l:Int) (hl:l=1∨l=2) : kd (ptr (some f)) l=3 := kd_node _ _ (by unfold ad; omega) hl
theorem ptr_ad {f:Nat} (hf:f<N) (hN:N≤4096) : adE (ptr (some f))=ad f := adE_toP _ _ (by unfold ad; omega) (by unfold ad; omega) (by omega) (by omega)
theorem c2 : ((1+1 : Nat) : Int)=2 := rfl
theorem c1 : ((0+1 : Nat) : Int)=1 := rfl
theorem look_2 (h:PT N L B F lf) {r:Nat} (hr:F 0=some r) (va:Int) (hn:F (y1 va)=none) : look N L B (ad r) va=⟨0,0,st (ad r) va 2,2,0,0⟩ := by
 unfold look
 rw [show (2:Nat)=1+1 from rfl,wk,if_pos (h.ndB hr),c2,ent_evn]
 have e : evn B r (ix va 2).toNat=0 := by
  have := h.ep 0 r (by omega) hr (i2 va) (i2_lt va)
  rw [show ch 0 (i2 va)=y1 va from rfl,hn] at this
  exact this
 rw [e,kd_zero,if_neg (by decide)]
 rfl
theorem look_1 (h:PT N L B F lf) (hN:N≤4096) {r g:Nat} (hr:F 0=some r) (va:Int) (hg:F (y1 va)=some g) (hn:F (y0 va)=none) : look N L B (ad r) va=⟨0,st (ad g) va 1,st (ad r) va 2,1,0,0⟩ := by
 unfold look
 have hgN := (h.held _ _ hg).2.1
 rw [show (2:Nat)=1+1 from rfl,wk,if_pos (h.ndB hr),c2,ent_evn]
 have e : evn B r (ix va 2).toNat=ptr (some g) := by
  have := h.ep 0 r (by omega) hr (i2 va) (i2_lt va)
  rw [show ch 0 (i2 va)=y1 va from rfl,hg] at this
  exact this
 have e1 : evn B g (ix va 1).toNat=0 := by
  have := h.ep (y1 va) g (y1_le va).1 hg (i1 va) (i1_lt va)
  rw [show ch (y1 va) (i1 va)=y0 va from rfl,hn] at this
  exact this
 rw [e,ptr_kd hgN hN 2 (.inr rfl),if_pos rfl,ptr_ad hgN hN,show (1:Nat)=0+1 from rfl,wk,if_pos (h.ndB hg),c1,ent_evn,e1,kd_zero,if_neg (by decide)]
 rfl
theorem look_0 (h:PT N L B F lf) (hN:N≤4096) {r g q:Nat} (hr:F 0=some r) (va:Int) (hg:F (y1 va)=some g) (hq:F (y0 va)=some q) :
  look N L B (ad r) va=⟨st (ad q) va 0,st (ad g) va 1,st (ad r) va 2,0,lf (y0 va) (i0 va),kd (lf (y0 va) (i0 va)) 0⟩ := by
 unfold look
 have hgN := (h.held _ _ hg).2.1
 have hqN := (h.held _ _ hq).2.1
 rw [show (2:Nat)=1+1 from rfl,wk,if_pos (h.ndB hr),c2,ent_evn]
 have e : evn B r (ix va 2).toNat=ptr (some g) := by
  have := h.ep 0 r (by omega) hr (i2 va) (i2_lt va)
  rw [show ch 0 (i2 va)=y1 va from rfl,hg] at this
  exact this
 have e1 : evn B g (ix va 1).toNat=ptr (some q) := by
  have := h.ep (y1 va) g (y1_le va).1 hg (i1 va) (i1_lt va)
  rw [show ch (y1 va) (i1 va)=y0 va from rfl,hq] at this
  exact this
 have e0 : evn B q (ix va 0).toNat=lf (y0 va) (i0 va) := h.el (y0 va) q (y0_ge va) hq (i0 va) (i0_lt va)
 rw [e,ptr_kd hgN hN 2 (.inr rfl),if_pos rfl,ptr_ad hgN hN,show (1:Nat)=0+1 from rfl,wk,if_pos (h.ndB hg),c1,ent_evn,e1,ptr_kd hqN hN 1 (.inl rfl),if_pos rfl,ptr_ad hqN hN,wk,if_pos (h.ndB hq),ent_evn,e0]
 rfl
structure LP (N:Nat) (va leaf:Int) (L:List Nat) (B:Nat→Int) (F:Nat→Option Nat) (lf:Nat→Nat→Int) (L':List Nat) (B':Nat→Int) (F':Nat→Option Nat) : Prop where
 pt : PT N L' B' F' (setE lf (y0 va) (i0 va) leaf)
 ext : ∀ x f,F x=some f→F' x=some f
 new : ∀ x f,F' x=some f→F x=some f∨(f ∈ L∧f ∉ L'∧(x=y1 va∨x=y0 va))
 has : ∃ g q,F' (y1 va)=some g∧F' (y0 va)=some q
 byt : ∀ f,(∀ x,F' x≠some f) → ∀ k,k<4096→B' (f*4096+k)=B (f*4096+k)
 sub : ∀ f,f ∈ L'→f ∈ L
 zero : lf (y0 va) (i0 va)=0
theorem lays_0 {va:Int} (h:PT N L B F lf) {q g:Nat} (hg:F (y1 va)=some g) (hq:F (y0 va)=some q) {leaf:Int} (hv:kd leaf 0=2∧0≤leaf∧leaf<18446744073709551616) {B':Nat→Int} {L':List Nat} (hl:Lays N va leaf 0 B L (ad q) B' L') :
  LP N va leaf L B F lf L' B' F := by
 obtain ⟨_,h1,rfl,rfl⟩ := hl
 have e0 : evn B q (ix va 0).toNat=lf (y0 va) (i0 va) := h.el (y0 va) q (y0_ge va) hq (i0 va) (i0_lt va)
 rw [ent_evn,e0] at h1
 have hz : lf (y0 va) (i0 va)=0 := by
  rcases h.lv (y0 va) (i0 va) with e | e
  ·exact e
  ·rw [e.1] at h1
   cases h1
 have hfi : fi (ad q)=q := fi_adr q
 rw [hfi]
 exact ⟨h.leaf (y0_ge va) hq (i0_lt va) (.inr hv),fun _ _ h => h,fun _ _ h => .inl h,⟨g,q,hg,hq⟩,fun f hf k hk => over_out _ _ _ _ _ (by
  have : f≠q := fun e => hf _ (by rw [e]; exact hq)
  have hi := i0_lt va
  unfold i0 at hi
  rcases Nat.lt_or_gt_of_ne this with h | h <;> omega),fun _ h => h,hz⟩
theorem lays_1 {va:Int} (h:PT N L B F lf) (hN:N≤4096) (hd:L.Nodup) (hlt:∀ i ∈ L,1≤i∧i<N) {g:Nat} (hg:F (y1 va)=some g) {leaf:Int} (hv:kd leaf 0=2∧0≤leaf∧leaf<18446744073709551616) {B':Nat→Int} {L':List Nat} (hl:Lays N va leaf 1 B L (ad g) B' L') :
  ∃ F',LP N va leaf L B F lf L' B' F' := by
 rw [show (1:Nat)=0+1 from rfl] at hl
 unfold Lays at hl
 rw [c1,ent_evn] at hl
 have e1 : evn B g (ix va 1).toNat=ptr (F (y0 va)) := h.ep (y1 va) g (y1_le va).1 hg (i1 va) (i1_lt va)
 rw [e1] at hl
 have hfi : fi (ad g)=g := fi_adr g
 obtain ⟨_,hl | hl⟩ := hl
 ·cases hq : F (y0 va) with
  | none =>
   rw [hq] at hl
   have := hl.1
   rw [show ptr none=0 from rfl,kd_zero] at this
   cases this
  | some q =>
   rw [hq,ptr_ad (h.held _ _ hq).2.1 hN] at hl
   exact ⟨F,lays_0 h hg hq hv hl.2⟩
 ·obtain ⟨hk,f,L1,rfl,_,hl⟩ := hl
  have hn : F (y0 va)=none := by
   cases hq : F (y0 va) with
   | none => rfl
   | some q =>
    rw [hq,ptr_kd (h.held _ _ hq).2.1 hN 1 (.inl rfl)] at hk
    cases hk
  have hf := hlt f (List.mem_cons_self ..)
  have hP := h.node hN hd hf (y1_le va).1 hg (i1_lt va) hn
  rw [hfi] at hl
  have hy : ch (y1 va) (i1 va)=y0 va := rfl
  rw [hy] at hP
  have n10 : y1 va≠y0 va := by have := y1_le va; have := y0_ge va; omega
  have g1 : setO F (y0 va) f (y1 va)=some g := by unfold setO; rw [if_neg n10]; exact hg
  have q1 : setO F (y0 va) f (y0 va)=some f := by unfold setO; rw [if_pos rfl]
  have R := lays_0 hP g1 q1 hv hl
  have hfL : f ∉ L1 := (List.nodup_cons.1 hd).1
  refine ⟨setO F (y0 va) f,R.pt,fun x q hx => ?_,fun x q hx => ?_,R.has,fun q hq k hk => ?_,fun q hq => List.mem_cons_of_mem _ (R.sub q hq),R.zero⟩
  ·unfold setO
   rw [if_neg (fun e => by rw [e,hn] at hx; cases hx)]
   exact hx
  ·unfold setO at hx
   split at hx
   ·injection hx with hx
    subst hx
    rename_i e
    exact .inr ⟨List.mem_cons_self ..,fun hm => hfL (R.sub _ hm),.inr e⟩
   ·exact .inl hx
  ·rw [R.byt q hq k hk]
   have hqf : q≠f := fun e => hq (y0 va) (by rw [e]; exact q1)
   have hqg : q≠g := fun e => hq (y1 va) (by rw [e]; exact g1)
   have hi := i1_lt va
   have ho : over (zer B f) (g*4096+i1 va*8) (le (toP (ad f) 0) 8) (q*4096+k)=zer B f (q*4096+k) := over_out _ _ _ _ _ (by
    rcases Nat.lt_or_gt_of_ne hqg with h | h <;> omega)
   rw [ho]
   exact zer_out _ _ _ (by rcases Nat.lt_or_gt_of_ne hqf with h | h <;> omega)
theorem lays_pt {va:Int} (h:PT N L B F lf) (hN:N≤4096) (hd:L.Nodup) (hlt:∀ i ∈ L,1≤i∧i<N) {r:Nat} (hr:F 0=some r) {leaf:Int} (hv:kd leaf 0=2∧0≤leaf∧leaf<18446744073709551616) {B':Nat→Int} {L':List Nat} (hl:Lays N va leaf 2 B L (ad r) B' L') :
  ∃ F',LP N va leaf L B F lf L' B' F' := by
 rw [show (2:Nat)=1+1 from rfl] at hl
 unfold Lays at hl
 rw [c2,ent_evn] at hl
 have e2 : evn B r (ix va 2).toNat=ptr (F (y1 va)) := h.ep 0 r (by omega) hr (i2 va) (i2_lt va)
 rw [e2] at hl
 have hfi : fi (ad r)=r := fi_adr r
 obtain ⟨_,hl | hl⟩ := hl
 ·cases hq : F (y1 va) with
  | none =>
   rw [hq] at hl
   have := hl.1
   rw [show ptr none=0 from rfl,kd_zero] at this
   cases this
  | some g =>
   rw [hq,ptr_ad (h.held _ _ hq).2.1 hN] at hl
   exact lays_1 h hN hd hlt hq hv hl.2
 ·obtain ⟨hk,f,L1,rfl,_,hl⟩ := hl
  have hn : F (y1 va)=none := by
   cases hq : F (y1 va) with
   | none => rfl
   | some q =>
    rw [hq,ptr_kd (h.held _ _ hq).2.1 hN 2 (.inr rfl)] at hk
    cases hk
  have hf := hlt f (List.mem_cons_self ..)
  have hP := h.node hN hd hf (by omega) hr (i2_lt va) hn
  rw [hfi] at hl
  have hy : ch 0 (i2 va)=y1 va := rfl
  rw [hy] at hP
  have n0 : (0:Nat)≠y1 va := by have := y1_le va; omega
  have r1 : setO F (y1 va) f 0=some r := by unfold setO; rw [if_neg n0]; exact hr
  have g1 : setO F (y1 va) f (y1 va)=some f := by unfold setO; rw [if_pos rfl]
  have hfL : f ∉ L1 := (List.nodup_cons.1 hd).1
  obtain ⟨F',R⟩ := lays_1 (va:=va) hP hN (List.nodup_cons.1 hd).2 (fun i hi => hlt i (List.mem_cons_of_mem _ hi)) g1 hv hl
  refine ⟨F',R.pt,fun x q hx => R.ext x q ?_,fun x q hx => ?_,R.has,fun q hq k hk => ?_,fun q hq => List.mem_cons_of_mem _ (R.sub q hq),R.zero⟩
  ·unfold setO
   rw [if_neg (fun e => by rw [e,hn] at hx; cases hx)]
   exact hx
  ·rcases R.new x q hx with h1 | ⟨h1,h2,h3⟩
   ·unfold setO at h1
    split at h1
    ·injection h1 with h1
     subst h1
     rename_i e
     exact .inr ⟨List.mem_cons_self ..,fun hm => hfL (R.sub _ hm),.inl e⟩
    ·exact .inl h1
   ·exact .inr ⟨List.mem_cons_of_mem _ h1,h2,h3⟩
  ·rw [R.byt q hq k hk]
   have hqf : q≠f := fun e => hq (y1 va) (by rw [e]; exact R.ext _ _ g1)
   have hqr : q≠r := fun e => hq 0 (by rw [e]; exact R.ext _ _ r1)
   have hi := i2_lt va
   have ho : over (zer B f) (r*4096+i2 va*8) (le (toP (ad f) 0) 8) (q*4096+k)=zer B f (q*4096+k) := over_out _ _ _ _ _ (by
    rcases Nat.lt_or_gt_of_ne hqr with h | h <;> omega)
   rw [ho]
   exact zer_out _ _ _ (by rcases Nat.lt_or_gt_of_ne hqf with h | h <;> omega)
end
end Rm
end Go.Proofs.YtabnipbdbnmmpaaGreatDoor
