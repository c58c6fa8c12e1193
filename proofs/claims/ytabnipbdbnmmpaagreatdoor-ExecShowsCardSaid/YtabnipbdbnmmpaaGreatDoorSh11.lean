import Derived.Test.YtabnipbdbnmmpaaGreatDoorSh01
import Derived.Test.YtabnipbdbnmmpaaGreatDoorSh07
import Derived.Test.YtabnipbdbnmmpaaGreatDoorSh10
import Derived.Test.YtabnipbdbnmmpaaGreatDoorRows
import Derived.WalkKit
import Derived.WalkSpells
import Derived.RowKit3
import Derived.LoopTactic
import Derived.Below
import Derived.Maps.OwnSet
import Derived.Laws.IdiomCopy
import Derived.Lib.SliceRun
import Derived.Deep.Draws
import Derived.WalkSmall
set_option linter.unusedVariables false
set_option linter.unusedSimpArgs false
namespace Go.Proofs.YtabnipbdbnmmpaaGreatDoor
section
open Go.RowKit
theorem num_congr {B C:Nat→Int} {o p:Nat} : ∀ k,(∀ j,j<k→B (o+j)=C (p+j))→num B o k=num C p k
 | 0,_ => rfl
 | k+1,h => by
  have h1 := num_congr (B:=B) (C:=C) (o:=o) (p:=p) k (fun j hj => h j (by omega))
  simp only [num]
  rw [h1,h k (by omega)]
theorem emod_split (v a:Int) (ha:0<a) : v % (a*256)=v % a+a*(v / a % 256) := by
 have h1 : v=a*(v / a)+v % a := (Int.mul_ediv_add_emod v a).symm
 have h2 : v / a=256*(v / a / 256)+v / a % 256 := (Int.mul_ediv_add_emod (v / a) 256).symm
 have h3 := Int.emod_nonneg v (show a≠0 by omega)
 have h4 := Int.emod_lt_of_pos v ha
 have h5 : 0≤v / a % 256 := Int.emod_nonneg _ (by decide)
 have h6 : v / a % 256<256 := Int.emod_lt_of_pos _ (by decide)
 have h7 : a*(v / a % 256)≤a*255 := Int.mul_le_mul_of_nonneg_left (by omega) (by omega)
 have h8 : 0≤a*(v / a % 256) := Int.mul_nonneg (by omega) h5
 have e : v=(v % a+a*(v / a % 256))+a*256*(v / a / 256) := by
  have h9 : a*(v / a)=a*256*(v / a / 256)+a*(v / a % 256) := by
   rw [Int.mul_assoc,← Int.mul_add,← h2]
  omega
 have h10 : v % (a*256)=(v % a+a*(v / a % 256)) % (a*256) := by
  conv => lhs; rw [e]
  exact Int.add_mul_emod_self_left _ _ _
 rw [h10]
 exact Int.emod_eq_of_lt (by omega) (by omega)
theorem num_put (H:Nat→Int) (o n:Nat) (v:Int) : ∀ k,k≤n→num (putB H o n v) o k=v % 256 ^ k
 | 0,_ => by simp [num]
 | k+1,h => by
  simp only [num]
  rw [num_put H o n v k (by omega),Int.pow_succ,emod_split _ _ (Int.pow_pos (by decide))]
  congr 2
  simp only [putB,if_pos (show o≤o+k∧o+k<o+n by omega),Nat.add_sub_cancel_left]
theorem put_out (H:Nat→Int) (o n:Nat) (v:Int) (i:Nat) (h:i<o∨o+n≤i) : putB H o n v i=H i := by
 simp only [putB]
 rw [if_neg (by omega)]
theorem put_bd (H:Nat→Int) (o n:Nat) (v:Int) (hH:∀ i,0≤H i∧H i<256) : ∀ i,0≤putB H o n v i∧putB H o n v i<256 := fun i => by
 simp only [putB]
 split
 ·exact ⟨Int.emod_nonneg _ (by decide),Int.emod_lt_of_pos _ (by decide)⟩
 ·exact hH i
theorem hdP_bd : ∀ n i,0≤hdP n i∧hdP n i<256
 | 0,i => by simp [hdP]
 | n+1,i => put_bd _ _ _ _ (hdP_bd n) i
theorem sdP_bd : ∀ n i,0≤sdP n i∧sdP n i<256
 | 0,i => by simp [sdP]
 | n+1,i => put_bd _ _ _ _ (sdP_bd n) i
theorem headB_bd (en:Int) (n:Nat) : ∀ i,0≤headB en n i∧headB en n i<256 := put_bd _ _ _ _ (put_bd _ _ _ _ (put_bd _ _ _ _ (hdP_bd 12)))
theorem segB_bd (va fl mem at_:Int) (n:Nat) : ∀ i,0≤segB va fl mem at_ n i∧segB va fl mem at_ n i<256 := put_bd _ _ _ _ (put_bd _ _ _ _ (put_bd _ _ _ _ (put_bd _ _ _ _ (put_bd _ _ _ _ (put_bd _ _ _ _ (sdP_bd 8))))))
theorem fil_bd (en:Int) (S:List Sg) (B:Nat→Int) (hB:∀ i,0≤B i∧B i<256) : ∀ i,0≤fil en S B i∧fil en S B i<256 := fun i => by
 simp only [fil]
 split
 ·exact headB_bd _ _ _
 ·split
  ·unfold sgB
   cases S[(i - 64) / 56]? with
   | some s => exact segB_bd _ _ _ _ _ _
   | none => exact ⟨Int.le_refl _,(by omega:(0:Int)<256)⟩
  ·exact hB i
section
variable {en:Int} {S:List Sg} {B:Nat→Int}
theorem num_head (o k:Nat) (h:o+k≤64) : num (fil en S B) o k=num (headB en S.length) o k :=
 num_congr k fun j hj => by simp only [fil,if_pos (show o+j<64 by omega)]
theorem num_segF {i:Nat} {s:Sg} (hs:S[i]? = some s) (o k:Nat) (h:o+k≤56) : num (fil en S B) (64+56*i+o) k=num (segB s.va s.fl s.mem s.wh s.sz) o k :=
 num_congr k fun j hj => by
  have hlt := (List.getElem?_eq_some_iff.1 hs).1
  simp only [fil,if_neg (show ¬ 64+56*i+o+j<64 by omega),if_pos (show 64+56*i+o+j<64+56*S.length by omega)]
  rw [show (64+56*i+o+j - 64) / 56=i by omega,show (64+56*i+o+j - 64) % 56=o+j by omega]
  simp only [sgB,hs]
theorem head_fix (n o k:Nat) (h:o+k≤24∨(40≤o∧o+k≤56)∨58≤o) : num (headB en n) o k=num (hdP 12) o k :=
 num_congr k fun j hj => by
  simp only [headB]
  rw [put_out _ _ _ _ _ (by omega),put_out _ _ _ _ _ (by omega),put_out _ _ _ _ _ (by omega)]
theorem fix_all : ∀ i,i<12→hFx i≠0→num (hdP 12) (hOf i) (hBy i)=hFx i∧(hOf i+hBy i≤24∨(40≤hOf i∧hOf i+hBy i≤56)∨58≤hOf i) := by decide
theorem hd_fil : Hd (fil en S B) 0 0 := by
 refine .inl ⟨rfl,rfl,fun i hi => ?_⟩
 by_cases h0 : hFx i=0
 ·exact .inl h0
 ·obtain ⟨h1,h2⟩ := fix_all i hi h0
  refine .inr ?_
  rw [num_head _ _ (hOf_le i hi).1,head_fix _ _ _ h2,h1]
theorem num_en (he:0≤en∧en<18446744073709551616) : num (fil en S B) 24 8=en := by
 rw [num_head _ _ (by omega)]
 have : num (headB en S.length) 24 8=num (putB (hdP 12) 24 8 en) 24 8 := num_congr 8 fun j hj => by
  simp only [headB]
  rw [put_out _ _ _ _ _ (by omega),put_out _ _ _ _ _ (by omega)]
 rw [this,num_put _ _ _ _ 8 (Nat.le_refl _),pow8]
 omega
theorem num_fro : num (fil en S B) 32 8=64 := by
 rw [num_head _ _ (by omega)]
 have : num (headB en S.length) 32 8=num (putB (putB (hdP 12) 24 8 en) 32 8 64) 32 8 := num_congr 8 fun j hj => by
  simp only [headB]
  rw [put_out _ _ _ _ _ (by omega)]
 rw [this,num_put _ _ _ _ 8 (Nat.le_refl _),pow8]
 decide
theorem num_cnt (h:S.length≤8) : num (fil en S B) 56 2=S.length := by
 rw [num_head _ _ (by omega)]
 simp only [headB]
 rw [num_put _ _ _ _ 2 (Nat.le_refl _),show (256:Int) ^ 2=65536 by decide]
 omega
theorem seg_ty (va fl mem at_:Int) (n:Nat) : num (segB va fl mem at_ n) 0 4=1 := by
 have : num (segB va fl mem at_ n) 0 4=num (sdP 8) 0 4 := num_congr 4 fun j hj => by
  simp only [segB]
  rw [put_out _ _ _ _ _ (by omega),put_out _ _ _ _ _ (by omega),put_out _ _ _ _ _ (by omega),put_out _ _ _ _ _ (by omega),put_out _ _ _ _ _ (by omega),put_out _ _ _ _ _ (by omega)]
 rw [this]
 decide
theorem seg_fl (va fl mem at_:Int) (n:Nat) (h:0≤fl∧fl<4294967296) : num (segB va fl mem at_ n) 4 4=fl := by
 have : num (segB va fl mem at_ n) 4 4=num (putB (sdP 8) 4 4 fl) 4 4 := num_congr 4 fun j hj => by
  simp only [segB]
  rw [put_out _ _ _ _ _ (by omega),put_out _ _ _ _ _ (by omega),put_out _ _ _ _ _ (by omega),put_out _ _ _ _ _ (by omega),put_out _ _ _ _ _ (by omega)]
 rw [this,num_put _ _ _ _ 4 (Nat.le_refl _),pow4]
 omega
theorem seg_at (va fl mem at_:Int) (n:Nat) (h:0≤at_ ∧ at_ < 18446744073709551616) : num (segB va fl mem at_ n) 8 8=at_ := by
 have : num (segB va fl mem at_ n) 8 8=num (putB (putB (sdP 8) 4 4 fl) 8 8 at_) 8 8 := num_congr 8 fun j hj => by
  simp only [segB]
  rw [put_out _ _ _ _ _ (by omega),put_out _ _ _ _ _ (by omega),put_out _ _ _ _ _ (by omega),put_out _ _ _ _ _ (by omega)]
 rw [this,num_put _ _ _ _ 8 (Nat.le_refl _),pow8]
 omega
theorem seg_va (va fl mem at_:Int) (n:Nat) (h:0≤va∧va<18446744073709551616) : num (segB va fl mem at_ n) 16 8=va := by
 have : num (segB va fl mem at_ n) 16 8=num (putB (putB (putB (sdP 8) 4 4 fl) 8 8 at_) 16 8 va) 16 8 := num_congr 8 fun j hj => by
  simp only [segB]
  rw [put_out _ _ _ _ _ (by omega),put_out _ _ _ _ _ (by omega),put_out _ _ _ _ _ (by omega)]
 rw [this,num_put _ _ _ _ 8 (Nat.le_refl _),pow8]
 omega
theorem seg_n (va fl mem at_:Int) (n:Nat) (h:n<18446744073709551616) : num (segB va fl mem at_ n) 32 8=n := by
 have : num (segB va fl mem at_ n) 32 8=num (putB (putB (putB (putB (putB (sdP 8) 4 4 fl) 8 8 at_) 16 8 va) 24 8 va) 32 8 n) 32 8 := num_congr 8 fun j hj => by
  simp only [segB]
  rw [put_out _ _ _ _ _ (by omega)]
 rw [this,num_put _ _ _ _ 8 (Nat.le_refl _),pow8]
 omega
theorem seg_mem (va fl mem at_:Int) (n:Nat) (h:0≤mem∧mem<18446744073709551616) : num (segB va fl mem at_ n) 40 8=mem := by
 simp only [segB]
 rw [num_put _ _ _ _ 8 (Nat.le_refl _),pow8]
 omega
end
end
section
open Go.RowKit
theorem ok1_b {va fl sz mem:Int} (h:ok1 va fl sz mem=true) (hv:0≤va) (hz:0≤sz) : va<18446744073709551616∧(0≤fl∧fl<4294967296)∧(0≤mem∧mem<18446744073709551616)∧sz≤1073741824 := by
 unfold ok1 mf at h
 simp only [Bool.and_eq_true,decide_eq_true_eq,Bool.or_eq_true,beq_iff_eq] at h
 obtain ⟨⟨⟨⟨h1,h2⟩,h3⟩,h4⟩,h5⟩ := h
 omega
section
variable {en:Int} {S:List Sg} {B:Nat→Int}
theorem sgOf_fil {i:Nat} {s:Sg} (hs:S[i]? = some s) (hk:okS s=true) (hv:0≤s.va) (hw:s.wh<18446744073709551616) : sgOf (fil en S B) (64+56*i)=s∧num (fil en S B) (64+56*i) 4=1 := by
 obtain ⟨b1,b2,b3,b4⟩ := ok1_b hk hv (by omega)
 have e0 := num_segF (en:=en) (B:=B) hs 0 4 (by omega)
 have e1 := num_segF (en:=en) (B:=B) hs 16 8 (by omega)
 have e2 := num_segF (en:=en) (B:=B) hs 4 4 (by omega)
 have e3 := num_segF (en:=en) (B:=B) hs 40 8 (by omega)
 have e4 := num_segF (en:=en) (B:=B) hs 8 8 (by omega)
 have e5 := num_segF (en:=en) (B:=B) hs 32 8 (by omega)
 rw [seg_ty] at e0
 rw [seg_va _ _ _ _ _ ⟨hv,b1⟩] at e1
 rw [seg_fl _ _ _ _ _ b2] at e2
 rw [seg_mem _ _ _ _ _ b3] at e3
 rw [seg_at _ _ _ _ _ ⟨by omega,by omega⟩] at e4
 rw [seg_n _ _ _ _ _ (by omega)] at e5
 refine ⟨?_,e0⟩
 unfold sgOf
 rw [e1,e2,e3,e4,e5]
 cases s
 simp
theorem lp_fil {T:Nat} (h8:S.length≤8) (hG:Gk S S.length) (hP:Plc S) (hT:T=64+56*S.length+szs S S.length) (hT2:T≤262144) (hv:∀ s ∈ S,0≤s.va) : ∀ k i,i+k=S.length→lp T (fil en S B) k (64+56*i) (S.take i)=((0,0),S)
 | 0,i,h => by
  have : i=S.length := by omega
  subst this
  rw [List.take_length]
  rfl
 | k+1,i,h => by
  obtain ⟨s,hs⟩ : ∃ s,S[i]? = some s := ⟨S[i]'(by omega),List.getElem?_eq_getElem (by omega)⟩
  obtain ⟨g1,g2⟩ := hG i s (by omega) hs
  have hw := hP i s hs
  have hss := szs_succ S i s hs
  have hmo := szs_mono S (i+1) S.length (by omega)
  obtain ⟨e1,e2⟩ := sgOf_fil (en:=en) (B:=B) hs g1 (hv s (List.mem_of_getElem? hs)) (by omega)
  have hl : (S.take i).length=i := by rw [List.length_take]; omega
  have est : stp T (fil en S B) (S.take i) (64+56*i)=(0,S.take (i+1)) := by
   unfold stp
   rw [e1,e2,if_neg (by decide),hl,if_neg (by omega),if_neg (by have:ok1 s.va s.fl s.sz s.mem=true := g1; rw [this]; decide),if_neg (by omega),if_neg (by rw [g2]; decide),List.take_add_one,hs]
   rfl
  unfold lp
  rw [est]
  simp only [ne_eq,not_true_eq_false,if_false]
  have := lp_fil h8 hG hP hT hT2 hv k (i+1) (by omega)
  rw [show 64+56*(i+1)=64+56*i+56 by omega] at this
  exact this
theorem rdF_fil {T:Nat} (he:0≤en∧en<18446744073709551616) (hg:Good en S) (hP:Plc S) (hT:T=64+56*S.length+szs S S.length) (hT2:T≤262144) (hv:∀ s ∈ S,0≤s.va) : rdF T (fil en S B) 0 0=((0,0),S) := by
 obtain ⟨h0,h8,hG,hE⟩ := hg
 have c1 : cntB (fil en S B)=S.length := by unfold cntB; rw [num_cnt h8]; rfl
 have c2 : froB (fil en S B)=64 := by unfold froB; rw [num_fro]; rfl
 have l := lp_fil (en:=en) (B:=B) h8 hG hP hT hT2 hv S.length 0 (by omega)
 rw [List.take_zero] at l
 unfold rdF
 rw [c1,c2,l,num_en he]
 rw [if_neg (by omega),if_neg (by omega),if_neg (by decide),if_neg (by omega),if_neg (by omega),if_neg (fun h => h rfl),if_neg (by show ¬ S.length=0; omega),if_neg (by show ¬ hasE S en=false; rw [hE]; decide)]
theorem fil_bytes (hP:Plc S) {s:Sg} (hs:s ∈ S) : byt (fil en S B) s=byt B s := by
 obtain ⟨i,hi,hie⟩ := List.getElem_of_mem hs
 have hw := hP i s (by rw [List.getElem?_eq_getElem hi,hie])
 simp only [byt]
 apply List.map_congr_left
 intro j hj
 simp only [fil,if_neg (show ¬ s.wh+j<64 by omega),if_neg (show ¬ s.wh+j<64+56*S.length by omega)]
end
end
namespace Rm
open Go.RowKit
structure Fra (p b m:Nat) (w w':World) : Prop where
 os : w'.os=w.os
 tape : w'.tape=w.tape
 output : w'.output=w.output
 size : w.heap.size≤w'.heap.size
 block : ∀ k,k<w.heap.size→k≠p→k≠b→k≠m→w'.heap[k]? = w.heap[k]?
theorem Fra.refl (p b m:Nat) (w:World) : Fra p b m w w := ⟨rfl,rfl,rfl,Nat.le_refl _,fun _ _ _ _ _ => rfl⟩
theorem Fra.trans {p b m:Nat} {u v w:World} (h:Fra p b m u v) (k:Fra p b m v w) : Fra p b m u w :=
 ⟨k.os.trans h.os,k.tape.trans h.tape,k.output.trans h.output,Nat.le_trans h.size k.size,fun i hi a c d => (k.block i (Nat.lt_of_lt_of_le hi h.size) a c d).trans (h.block i hi a c d)⟩
theorem Fra.below {p b m:Nat} {w w':World} (h:Below w.heap.size w w') : Fra p b m w w' := ⟨h.os,h.tape,h.output,h.size,fun k hk _ _ _ => h.block k hk⟩
theorem Fra.alloc {p b m:Nat} {w w':World} (h:Fra p b m w w') (o:Obj) : Fra p b m w (w'.alloc o) := h.trans (Fra.below ((Below.refl _ _).alloc (Nat.le_refl _) _))
theorem Fra.drewN {p b m:Nat} {w w':World} (h:Fra p b m w w') (n:Nat) : Fra p b m w (w'.drewN n) := h.trans ⟨rfl,rfl,rfl,Nat.le_refl _,fun _ _ _ _ _ => rfl⟩
theorem Fra.setCell {p b m:Nat} {w w':World} (h:Fra p b m w w') (a:Addr) (v:Value) (ha:a.block=p∨a.block=b) : Fra p b m w (w'.setCell a v) := by
 have g : Below 0 w' (w'.setCell a v) := (Below.refl _ _).setCell (Nat.zero_le _) _
 refine h.trans ⟨g.os,g.tape,g.output,g.size,fun k hk h1 h2 h3 => Below.heap_setCell _ _ _ _ ?_⟩
 rcases ha with e | e <;> rw [e] <;> assumption
theorem Fra.setCells {p b m:Nat} {w w':World} (h:Fra p b m w w') : ∀ (o:Nat) (vs:List Value),Fra p b m w (w'.setCells b o vs) := by
 intro o vs
 induction vs generalizing o w' with
 | nil => exact h
 | cons v vs ih => exact ih (h.setCell ⟨b,o,.none⟩ v (.inr rfl)) (o+1)
theorem Fra.turned {p b m:Nat} {w w' w'' : World} (h:Fra p b m w w') (t:w'.mapTurned w'' m) : Fra p b m w w'' := by
 have g := t.grown
 exact h.trans ⟨g.os,g.tape,g.output,g.size,fun k hk _ _ h3 => g.block k hk (by simpa using h3)⟩
theorem Fra.cell {p b m:Nat} {w w':World} (h:Fra p b m w w') {x:Addr} (hx:x.block<w.heap.size) (h1:x.block≠p) (h2:x.block≠b) (h3:x.block≠m) : w'.cell? x=w.cell? x := by
 simp only [World.cell?,h.block _ hx h1 h2 h3]
theorem Fra.frozen {p b m:Nat} {w w':World} (h:Fra p b m w w') {x:Addr} (hx:x.block<w.heap.size) (h1:x.block≠p) (h2:x.block≠b) (h3:x.block≠m) : w'.frozen? x=w.frozen? x := by
 simp only [World.frozen?,h.block _ hx h1 h2 h3]
theorem Fra.toBelow {p b m B:Nat} {w w':World} (h:Fra p b m w w') (hB:B≤w.heap.size) (h1:B≤p) (h2:B≤b) (h3:B≤m) : Below B w w' :=
 ⟨h.os,h.tape,h.output,h.size,fun k hk => h.block k (by omega) (by omega) (by omega) (by omega)⟩
structure Mem (w:World) (p b m N:Nat) (B:Nat→Int) (nx:Int) (hd:Int→Bool) (cnt:Nat) : Prop where
 c0 : w.cell? ⟨p,0,.none⟩=some (.slice (some ⟨b,0,.none⟩) (4096*N) (4096*N))
 c1 : w.cell? ⟨p,1,.none⟩=some (.int .u64 nx)
 c2 : w.cell? ⟨p,2,.none⟩=some (.map (some m))
 f1 : w.frozen? ⟨p,1,.none⟩=false
 cb : ∀ i,i<4096*N→w.cell? ⟨b,i,.none⟩=some (.int .u8 (B i))
 fb : ∀ i,i<4096*N→w.frozen? ⟨b,i,.none⟩=false
 hm : ∃ D : DataW Unit,w.ownsMap Tryz.prog 23 unitElem m (Maps.size D) D∧(∀ a : Int,0≤a→a<18446744073709551616→Maps.has D (.int .u64 a)=hd a)∧Maps.size D=cnt
 n1 : 1≤N
 n2 : N≤4096
 bb : ∀ i,0≤B i∧B i<256
 nb : 0≤nx∧nx<18446744073709551616
section
variable {w:World} {p b m N cnt:Nat} {B:Nat→Int} {nx:Int} {hd:Int→Bool}
theorem Mem.pb (h:Mem w p b m N B nx hd cnt) : p≠b := by
 intro e
 subst e
 have := h.cb 0 (by have := h.n1; omega)
 rw [h.c0] at this
 cases this
theorem Mem.mp (h:Mem w p b m N B nx hd cnt) : m≠p := by
 intro e
 subst e
 obtain ⟨D,⟨es,cl,hb,_⟩,_⟩ := h.hm
 have := h.c0
 simp [World.cell?,hb] at this
theorem Mem.mb (h:Mem w p b m N B nx hd cnt) : m≠b := by
 intro e
 subst e
 obtain ⟨D,⟨es,cl,hb,_⟩,_⟩ := h.hm
 have := h.cb 0 (by have := h.n1; omega)
 simp [World.cell?,hb] at this
theorem lt_of_cell {w:World} {x:Addr} {v:Value} (h:w.cell? x=some v) : x.block<w.heap.size := by
 by_cases hx : x.block<w.heap.size
 ·exact hx
 ·simp [World.cell?,Array.getElem?_eq_none (Nat.le_of_not_lt hx)] at h
theorem Mem.plt (h:Mem w p b m N B nx hd cnt) : p<w.heap.size := lt_of_cell h.c0
theorem Mem.blt (h:Mem w p b m N B nx hd cnt) : b<w.heap.size := lt_of_cell (h.cb 0 (by have := h.n1; omega))
theorem Mem.mlt (h:Mem w p b m N B nx hd cnt) : m<w.heap.size := by
 obtain ⟨D,hD,_⟩ := h.hm
 exact hD.lt
theorem Mem.keep (h:Mem w p b m N B nx hd cnt) {w':World} (hp:w'.heap[p]? = w.heap[p]?) (hb:w'.heap[b]? = w.heap[b]?) (hm:w'.heap[m]? = w.heap[m]?) : Mem w' p b m N B nx hd cnt := by
 have cp : ∀ i,w'.cell? ⟨p,i,.none⟩=w.cell? ⟨p,i,.none⟩ := fun i => by simp only [World.cell?,hp]
 have fp : ∀ i,w'.frozen? ⟨p,i,.none⟩=w.frozen? ⟨p,i,.none⟩ := fun i => by simp only [World.frozen?,hp]
 have cb : ∀ i,w'.cell? ⟨b,i,.none⟩=w.cell? ⟨b,i,.none⟩ := fun i => by simp only [World.cell?,hb]
 have fb : ∀ i,w'.frozen? ⟨b,i,.none⟩=w.frozen? ⟨b,i,.none⟩ := fun i => by simp only [World.frozen?,hb]
 obtain ⟨D,⟨es,cl,hes,r⟩,r2⟩ := h.hm
 exact ⟨(cp 0).trans h.c0,(cp 1).trans h.c1,(cp 2).trans h.c2,(fp 1).trans h.f1,fun i hi => (cb i).trans (h.cb i hi),fun i hi => (fb i).trans (h.fb i hi),⟨D,⟨es,cl,hm.trans hes,r⟩,r2⟩,h.n1,h.n2,h.bb,h.nb⟩
theorem Mem.below (h:Mem w p b m N B nx hd cnt) {w':World} (k:Below w.heap.size w w') : Mem w' p b m N B nx hd cnt := h.keep (k.block _ h.plt) (k.block _ h.blt) (k.block _ h.mlt)
theorem Mem.drewN (h:Mem w p b m N B nx hd cnt) (n:Nat) : Mem (w.drewN n) p b m N B nx hd cnt := h.keep rfl rfl rfl
theorem Mem.setOther (h:Mem w p b m N B nx hd cnt) {a:Addr} (h1:p≠a.block) (h2:b≠a.block) (h3:m≠a.block) (v:Value) : Mem (w.setCell a v) p b m N B nx hd cnt :=
 h.keep (Below.heap_setCell _ _ _ _ h1) (Below.heap_setCell _ _ _ _ h2) (Below.heap_setCell _ _ _ _ h3)
theorem Mem.setNext (h:Mem w p b m N B nx hd cnt) (v:Int) (hv:0≤v∧v<18446744073709551616) : Mem (w.setCell ⟨p,1,.none⟩ (.int .u64 v)) p b m N B v hd cnt := by
 have hb : (w.setCell ⟨p,1,.none⟩ (.int .u64 v)).heap[b]? = w.heap[b]? := Below.heap_setCell _ _ _ _ (fun e => h.pb e.symm)
 have cb : ∀ i,(w.setCell ⟨p,1,.none⟩ (.int .u64 v)).cell? ⟨b,i,.none⟩=w.cell? ⟨b,i,.none⟩ := fun i => by simp only [World.cell?,hb]
 obtain ⟨D,hD,r⟩ := h.hm
 refine ⟨?_,?_,?_,?_,fun i hi => (cb i).trans (h.cb i hi),fun i hi => by rw [World.frozen?_setCell]; exact h.fb i hi,⟨D,hD.setCell (a:=⟨p,1,.none⟩) h.mp _,r⟩,h.n1,h.n2,h.bb,hv⟩
 ·rw [World.cell?_setCell_other _ _ _ _ (by simp)]; exact h.c0
 ·exact World.cell?_setCell_same' _ _ _ (by rw [h.c1]; rfl)
 ·rw [World.cell?_setCell_other _ _ _ _ (by simp)]; exact h.c2
 ·rw [World.frozen?_setCell]; exact h.f1
def over (B:Nat→Int) (o:Nat) (vs:List Int) : Nat→Int := fun i => if o≤i∧i<o+vs.length then vs.getD (i - o) 0 else B i
theorem Mem.setCells (h:Mem w p b m N B nx hd cnt) (o:Nat) (vs:List Int) (ho:o+vs.length≤4096*N) (hv:∀ v ∈ vs,0≤v∧v<256) :
  Mem (w.setCells b o (vs.map (.int .u8))) p b m N (over B o vs) nx hd cnt := by
 have F := (Fra.refl p b m w).setCells o (vs.map (.int .u8))
 have out : ∀ x : Addr,x.block≠b→(w.setCells b o (vs.map (.int .u8))).cell? x=w.cell? x := fun x hx => World.cell?_setCells_out b _ o w x (fun e => absurd e hx)
 obtain ⟨D,⟨es,cl,hes,r1⟩,r⟩ := h.hm
 have hm : (w.setCells b o (vs.map (.int .u8))).heap[m]? = w.heap[m]? := by
  clear F out r1 r hes
  have key : ∀ (us:List Value) (o:Nat) (w:World),(w.setCells b o us).heap[m]? = w.heap[m]? := by
   intro us
   induction us with
   | nil => intro o w; rfl
   | cons u us ih => intro o w; exact (ih (o+1) _).trans (Below.heap_setCell _ _ _ _ h.mb)
  exact key _ o w
 refine ⟨(out _ h.pb).trans h.c0,(out _ h.pb).trans h.c1,(out _ h.pb).trans h.c2,(World.frozen?_setCells b _ o w _).trans h.f1,?_,fun i hi => (World.frozen?_setCells b _ o w _).trans (h.fb i hi),⟨D,⟨es,cl,hm.trans hes,r1⟩,r⟩,h.n1,h.n2,?_,h.nb⟩
 ·intro i hi
  unfold over
  split
  ·rename_i hc
   have e : o+(i - o)=i := by omega
   have := World.cell?_setCells_in b (vs.map (.int .u8)) o w (fun j hj => by rw [h.cb (o+j) (by simp at hj; omega)]; rfl) (i - o) (by simp; omega)
   rw [e] at this
   rw [this]
   have e1 : i - o<vs.length := by omega
   simp [List.getElem?_eq_getElem e1]
  ·rename_i hc
   rw [World.cell?_setCells_out b _ o w ⟨b,i,.none⟩ (fun _ _ => by simp; omega)]
   exact h.cb i hi
 ·intro i
  unfold over
  split
  ·rename_i hc
   have e1 : i - o<vs.length := by omega
   rw [List.getD_eq_getElem?_getD,List.getElem?_eq_getElem e1]
   exact hv _ (List.getElem_mem e1)
  ·exact h.bb i
end
end Rm
end Go.Proofs.YtabnipbdbnmmpaaGreatDoor
