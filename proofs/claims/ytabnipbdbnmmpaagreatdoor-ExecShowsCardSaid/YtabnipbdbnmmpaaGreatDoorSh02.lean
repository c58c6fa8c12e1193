import Derived.Test.YtabnipbdbnmmpaaGreatDoorSh01
import Derived.Test.YtabnipbdbnmmpaaGreatDoorRows
import Derived.WalkKit
import Derived.WalkSpells
import Derived.RowKit3
import Derived.Deep.QuietTactic
import Derived.BigQuiet
import Derived.WalkSmall
import Derived.Below
import Derived.Deep.Heap
import Derived.Laws.AppendOwn
import Derived.Laws.OwnMore
import Derived.RegionTactic
import Derived.BigRegion
import Derived.Laws.MakeOwn
import Derived.Deep.Cut
import Derived.LoopTactic
import Derived.Laws.NewBlocks
import Derived.Deep.DeepCutAuto
import Derived.Deep.CutBlock
import Derived.OneCell
set_option linter.unusedVariables false
set_option linter.unusedSimpArgs false
namespace Go.Proofs.YtabnipbdbnmmpaaGreatDoor
section
open Go.RowKit
theorem info_of (t:TypeId) (k b:Nat) (h1:(Tryz.prog.info? t).map (fun i => (i.size,i.bytes))=some (k,b)) (h2:((Tryz.prog.info? t).bind (·.zero)).map (·.cells.size)=some k) :
  ∃ i z,Tryz.prog.info? t=some i∧i.zero=some z∧i.size=k∧i.bytes=b∧z.cells.size=k := by
 cases hi : Tryz.prog.info? t with
 | none => rw [hi] at h1; cases h1
 | some i =>
  rw [hi] at h1 h2
  simp only [Option.map_some,Option.some.injEq,Prod.mk.injEq,Option.bind_some] at h1 h2
  cases hz : i.zero with
  | none => rw [hz] at h2; cases h2
  | some z =>
   rw [hz] at h2
   exact ⟨i,z,rfl,hz,h1.1,h1.2,by simpa using h2⟩
theorem byte_info : ∃ i z,Tryz.prog.info? 5=some i∧i.zero=some z∧i.size=1∧i.bytes=1∧z.cells.size=1 := info_of 5 1 1 (by kernel_rfl) (by kernel_rfl)
theorem le_addr_add (b o j:Nat) : (⟨b,o,.none⟩ : Addr).add j=⟨b,o+j,.none⟩ := by unfold Addr.add; split <;> simp_all
theorem heap_new (w:World) (o:Obj) : (w.alloc o).heap[w.heap.size]? = some o := by
 rw [World.alloc]
 simp
theorem below_append {B:Nat} {a w w':World} {row:Option Nat} (h:Below B a w) (o:Obj) (hg:(w.alloc o).grownBy w' row) (hB:B≤w.heap.size) (hr:∀ k,row=some k→B≤k) : Below B a w' :=
 (h.alloc hB o).grown hg (by simp only [World.size_alloc]; omega) hr
theorem own_block {w:World} {base e n sz:Nat} {v:Value} {xs:List Value} (h:w.ownsRow base e sz v n xs) : ∀ k,v.ownBlock=some k→base≤k := by
 intro k hk
 rcases h.2 with ⟨rfl,rfl⟩ | ⟨g,cap,cur,rfl,hb,_⟩
 ·cases hk
 ·simp only [Value.ownBlock,Option.some.injEq] at hk; omega
theorem one_slice {w:World} {base e n sz:Nat} {m:Value} {zs:List Value} (h:w.ownsRow base e sz m n zs) : ∃ p c,m = .slice p n c := by
 rcases h.2 with ⟨rfl,rfl⟩ | ⟨g,cap,cur,rfl,_⟩
 ·exact ⟨_,_,rfl⟩
 ·exact ⟨_,_,rfl⟩
theorem own_mono {w:World} {b b' e k n:Nat} {v:Value} {xs:List Value} (h:w.ownsRow b e k v n xs) (hb:b'≤b) : w.ownsRow b' e k v n xs := by
 refine ⟨h.1,?_⟩
 rcases h.2 with h | ⟨g,cap,cur,h1,h2,h3⟩
 ·exact .inl h
 ·exact .inr ⟨g,cap,cur,h1,by omega,h3⟩
def by8 (xs:List Int) : List Value := xs.map (.int .u8)
theorem by8_len (xs:List Int) : (by8 xs).length=xs.length := by simp [by8]
theorem by8_app (xs ys:List Int) : by8 (xs ++ ys)=by8 xs ++ by8 ys := by simp [by8]
theorem by8_get {xs:List Int} {i:Nat} {x:Int} (h:xs[i]? = some x) : (by8 xs)[i]? = some (.int .u8 x) := by simp [by8,h]
theorem by8_one (xs:List Int) : ∀ u ∈ by8 xs,u.oneCell'=true := by
 intro u hu
 simp only [by8,List.mem_map] at hu
 obtain ⟨x,_,rfl⟩ := hu
 rfl
def Byt (w:World) (p:Option Addr) (n c:Nat) (xs:List Int) : Prop :=
 xs.length=n∧n≤c∧c≤maxLen∧(n=0 ∨ ∃ b o,p=some ⟨b,o,.none⟩∧b<w.heap.size ∧ ∀ i x,xs[i]? = some x→w.cell? ⟨b,o+i,.none⟩=some (.int .u8 x))
theorem byt_keep {B:Nat} {w w':World} {p:Option Addr} {n c:Nat} {xs:List Int} (h:Byt w p n c xs) (hb:Below B w w') (hp:∀ b o,p=some ⟨b,o,.none⟩→b<B) : Byt w' p n c xs := by
 obtain ⟨h1,h2,h3,h4⟩ := h
 refine ⟨h1,h2,h3,?_⟩
 rcases h4 with h4 | ⟨b,o,rfl,h5,h6⟩
 ·exact .inl h4
 ·exact .inr ⟨b,o,rfl,Nat.lt_of_lt_of_le h5 hb.size,fun i x hx => (hb.cell (hp b o rfl)).trans (h6 i x hx)⟩
theorem byt_lt {w:World} {p:Option Addr} {n c:Nat} {xs:List Int} (h:Byt w p n c xs) (hn:0<n) : ∀ b o,p=some ⟨b,o,.none⟩→b<w.heap.size := by
 intro b o hp
 rcases h.2.2.2 with h4 | ⟨b',o',h4,h5,_⟩
 ·omega
 ·rw [hp] at h4
  simp only [Option.some.injEq,Addr.mk.injEq,and_true] at h4
  omega
theorem byt_own {w:World} {base:Nat} {p:Option Addr} {n c:Nat} {xs:List Int} (h:w.ownsRow base 5 1 (.slice p n c) n (by8 xs)) : Byt w p n c xs := by
 have hl : xs.length=n := by have := h.1; rw [by8_len] at this; omega
 rcases h.2 with ⟨hv,h0⟩ | ⟨g,cap,cur,hv,hb,hg,hn,hm,_⟩
 ·simp only [Value.slice.injEq] at hv
  obtain ⟨rfl,_,rfl⟩ := hv
  exact ⟨hl,by omega,by decide,.inl h0⟩
 ·simp only [Value.slice.injEq,true_and] at hv
  obtain ⟨rfl,rfl⟩ := hv
  refine ⟨hl,hn,hm,.inr ⟨g,0,rfl,(Array.getElem?_eq_some_iff.1 hg).1,fun i x hx => ?_⟩⟩
  have := h.cells (g:=g) rfl i _ (by8_get hx)
  rwa [le_addr_add] at this
def Gb (xs:List Int) (w:World) (e:Ending) (w':World) : Prop :=
 ∃ p c,e = .returned (.slice p xs.length c)∧w'.ownsRow w.heap.size 5 1 (.slice p xs.length c) xs.length (by8 xs)∧Below w.heap.size w w'
end
section
open Go.RowKit
theorem le_cell1_new (w:World) (x:Int) (t:TypeId) : ∀ j u,(by8 [x])[j]? = some u→(w.alloc (.cells #[.int .u8 x] t)).cell? ((⟨w.heap.size,0,.none⟩ : Addr).add j)=some u := by
 intro j u hj
 rw [le_addr_add,World.cell?_alloc_at _ _ _ _ rfl,Nat.zero_add]
 simpa [by8] using hj
theorem take_next {xs:List Int} {i:Nat} {x:Int} (h:xs[i]? = some x) : xs.take i ++ [x]=xs.take (i+1) := by
 rw [List.take_add_one,h]
 rfl
theorem own_cap {w:World} {base e sz n c g:Nat} {xs:List Value} (h:w.ownsRow base e sz (.slice (some ⟨g,0,.none⟩) n c) n xs) : n≤c∧c≤maxLen := by
 rcases h.2 with ⟨hv,_⟩ | ⟨g',cap,cur,hv,hb,hg,hn,hm,_⟩
 ·cases hv
 ·simp only [Value.slice.injEq,true_and] at hv
  obtain ⟨_,rfl⟩ := hv
  exact ⟨hn,hm⟩
theorem own_lt {w:World} {base e sz n c g:Nat} {xs:List Value} (h:w.ownsRow base e sz (.slice (some ⟨g,0,.none⟩) n c) n xs) : g<w.heap.size := by
 rcases h.2 with ⟨hv,_⟩ | ⟨g',cap,cur,hv,hb,hg,_⟩
 ·cases hv
 ·simp only [Value.slice.injEq,Option.some.injEq,Addr.mk.injEq,and_true,true_and] at hv
  obtain ⟨rfl,rfl⟩ := hv
  exact (Array.getElem?_eq_some_iff.1 hg).1
theorem own_some {w:World} {base e sz n c:Nat} {p:Option Addr} {xs:List Value} (h:w.ownsRow base e sz (.slice p (n+1) c) (n+1) xs) : ∃ g,p=some ⟨g,0,.none⟩ := by
 rcases h.2 with ⟨_,h0⟩ | ⟨g,cap,cur,hv,_⟩
 ·omega
 ·simp only [Value.slice.injEq] at hv
  exact ⟨g,hv.1⟩
end
section
open Go.RowKit
def ramB : ByteArray := ⟨#[101,108,102]⟩
def FaultIn (w':World) (B:Nat) (v:Value) (a r:Int) : Prop :=
 ∃ b,B≤b∧b<w'.heap.size∧v = .iface 86 (.pointer (some ⟨b,0,.none⟩))∧w'.cell? ⟨b,0,.none⟩=some (.string ramB)∧w'.cell? ⟨b,1,.none⟩=some (.int .i64 a)∧w'.cell? ⟨b,2,.none⟩=some (.iface 45 (.int .i64 r))
theorem faultIn_new (w:World) (B:Nat) (a r:Int) (h:B≤w.heap.size) : FaultIn (w.alloc (.cells #[.string ramB,.int .i64 a,.iface 45 (.int .i64 r)] 151)) B (.iface 86 (.pointer (some ⟨w.heap.size,0,.none⟩))) a r :=
 ⟨w.heap.size,h,by simp,rfl,by simp,by simp,by simp⟩
end
section
open Go.RowKit
def num (B:Nat→Int) (o:Nat) : Nat→Int
 | 0 => 0
 | k+1 => num B o k+256 ^ k*B (o+k)
theorem num_bd (B:Nat→Int) (hB:∀ i,0≤B i∧B i<256) (o k:Nat) : 0≤num B o k∧num B o k<256 ^ k := by
 induction k with
 | zero => simp [num]
 | succ k ih =>
  have h1 := hB (o+k)
  have hp : (0:Int)<256 ^ k := Int.pow_pos (by decide)
  simp only [num,Int.pow_succ]
  have h2 : 256 ^ k*B (o+k)≤256 ^ k*255 := Int.mul_le_mul_of_nonneg_left (by omega) (by omega)
  have h3 : 0≤256 ^ k*B (o+k) := Int.mul_nonneg (by omega) h1.1
  omega
theorem lt_of_cell {w:World} {x:Addr} {v:Value} (h:w.cell? x=some v) : x.block<w.heap.size := by
 by_cases hx : x.block<w.heap.size
 ·exact hx
 ·simp [World.cell?,Array.getElem?_eq_none (Nat.le_of_not_lt hx)] at h
theorem wraps_u64 (n:Int) (h₀:0≤n) (h₁:n<2 ^ 64) : IntKind.u64.wrap n=n := by rw [IntKind.wrap_u64]; omega
theorem or_u64 (i:Nat) (x y z:Int) (hx:0≤x) (hxi:x<2 ^ i) (hy:0≤y) (hyi:y % 2 ^ i=0) (hy1:y<18446744073709551616) (hz:x+y=z) (hx1:x<18446744073709551616) : bits .or .u64 x y=z := by
 have e : bits .or .u64 x y=bits .or .u64 y x := by simp only [bits]; rw [BitVec.or_comm]
 rw [e,bits_join .u64 64 (by decide) wraps_u64 i y x hy hyi (by omega) hx hxi (by omega)]
 omega
theorem or_step (B:Nat→Int) (hB:∀ i,0≤B i∧B i<256) (o i:Nat) (hi:i<8) : bits .or .u64 (num B o i) (IntKind.u64.wrap (B (o+i)*2 ^ (8*i)))=num B o (i+1) := by
 have h1 := num_bd B hB o i
 have h2 := hB (o+i)
 have e : (2:Int) ^ (8*i)=256 ^ i := by rw [Int.pow_mul]; rfl
 have hp : (0:Int)<256 ^ i := Int.pow_pos (by decide)
 have hq : (256:Int) ^ i*256≤18446744073709551616 := by
  have : i=0∨i=1∨i=2∨i=3∨i=4∨i=5∨i=6∨i=7 := by omega
  rcases this with rfl | rfl | rfl | rfl | rfl | rfl | rfl | rfl <;> decide
 rw [e]
 have h3 : B (o+i)*256 ^ i≤255*256 ^ i := Int.mul_le_mul_of_nonneg_right (by omega) (by omega)
 have h4 : 0≤B (o+i)*256 ^ i := Int.mul_nonneg h2.1 (by omega)
 rw [wraps_u64 _ h4 (by omega)]
 refine or_u64 (8*i) _ _ _ h1.1 (by rw [e]; exact h1.2) h4 (by rw [e]; exact Int.mul_emod_left _ _) (by omega) ?_ (by omega)
 simp only [num]
 rw [Int.mul_comm]
def Row (w:World) (b o n:Nat) (B:Nat→Int) : Prop := ∀ i,i<n→w.cell? ⟨b,o+i,.none⟩=some (.int .u8 (B i))
theorem Row.keep {w w':World} {b o n:Nat} {B:Nat→Int} (h:Row w b o n B) (hb:Below w.heap.size w w') : Row w' b o n B := fun i hi => (hb.cell (lt_of_cell (h i hi))).trans (h i hi)
theorem cut_any (b o n c at_ k:Nat) (w:World) (hk:0<k) (h:at_ + k≤c) (hc:c≤9223372036854775807) : Calls Tryz.prog 170 #[.slice (some ⟨b,o,.none⟩) n c,.int .i64 at_,.int .i64 k] w fun e w' => e = .returned (.slice (some ⟨b,o+at_,.none⟩) k k)∧w'=w := by
 have h1 : (at_:Int)+k≤c := by omega
 have h2 : (c:Int)≤9223372036854775807 := by omega
 go_enter Tryz.func170,Tryz.ntmps170
 go_wp2
 go_ret
 exact ⟨by simp,rfl⟩
set_option maxHeartbeats 1000000 in
theorem in_any (b o n c at_ k:Nat) (fx:Int) (B:Nat→Int) (w:World) (hn:at_ + k≤n) (hc:n≤c) (hcm:c≤9223372036854775807) (hk0:0<k) (hk:k≤8) (hB:∀ i,0≤B i∧B i<256) (h:Row w b o n B) :
  Calls Tryz.prog 176 #[.agg #[.int .i64 at_,.int .i64 k,.int .u64 fx],.slice (some ⟨b,o,.none⟩) n c] w fun e w' => e = .returned (.int .u64 (num B at_ k))∧Below w.heap.size w w' := by
 have c35 := fun w' => cut_any b o n c at_ k w' hk0 (by omega) hcm
 go_enter Tryz.func176,Tryz.ntmps176
 go_wp2_with (first | (go_at_call 170; refine (c35 _).mono ?_; rintro e w1 ⟨rfl,rfl⟩) | fail)
 have HB1 : Hid (Below w.heap.size w (w.alloc (.cells #[.int .i64 at_,.int .i64 k,.int .u64 fx] 204))) := (Below.refl _ _).alloc (Nat.le_refl _) _
 generalize (w.alloc (.cells #[.int .i64 at_,.int .i64 k,.int .u64 fx] 204))=W1 at *
 go_loopw [5,15] (fun v a wr => ∃ i : Nat,i≤k∧a = .int .i64 i∧v = .int .u64 (num B at_ i)∧wr=W1) (fun _ a _ => (k - intOf a).toNat)
 case atStart => exact ⟨0,by omega,rfl,rfl,rfl⟩
 case round =>
  obtain ⟨i,hi,rfl,rfl,rfl⟩ := hrel
  by_cases hlt : i<k
  ·have g0 : (i:Int)<k := by omega
   have a0 : wr.cell? ⟨b,o+at_ + i,.none⟩=some (.int .u8 (B (at_ + i))) := by
    have := (h.keep HB1.out) (at_ + i) (by omega)
    rwa [← Nat.add_assoc] at this
   have bb := hB (at_ + i)
   have ho := or_step B hB at_ i (by omega)
   go_wp2_with fail
   exact ⟨⟨i+1,by omega,by simp,rfl,trivial⟩,by simp [intOf]; omega⟩
  ·have he : i=k := by omega
   have hn : ¬ ((i:Int)<k) := by omega
   subst he
   go_wp2_with fail
   go_ret
   exact ⟨rfl,HB1.out⟩
end
section
open Go.RowKit
theorem lies_any (rb n c:Nat) (fp:Option Addr) (a k:Int) (w:World) (h:w.cell? ⟨rb,0,.none⟩=some (.slice fp n c)) (hn:n≤300000) (ha:0≤a∧a<18446744073709551616) (hk:0≤k∧k<18446744073709551616) :
  Calls Tryz.prog 204 #[.pointer (some ⟨rb,0,.none⟩),.int .u64 a,.int .u64 k] w fun e w' => e = .returned (.bool (decide (a+k≤n)))∧w'=w := by
 by_cases h1 : k≤n
 ·have h2 : IntKind.u64.wrap ((n:Int) - k)=(n:Int) - k := by rw [IntKind.wrap_u64]; omega
  go_enter Tryz.func204,Tryz.ntmps204
  go_wp2
  all_goals go_ret
  all_goals exact ⟨by simp; omega,rfl⟩
 ·go_enter Tryz.func204,Tryz.ntmps204
  go_wp2
  all_goals go_ret
  all_goals exact ⟨by simp; omega,rfl⟩
def mf (f:Int) : Bool := f == 1 || f == 4 || f == 5 || f == 6 || f == 7
theorem mayFlags_any (f:Int) (w:World) (hf:0≤f∧f<4294967296) : Calls Tryz.prog 134 #[.int .u32 f] w fun e w' => e = .returned (.bool (mf f))∧w'=w := by
 by_cases h : 1≤f∧f≤7
 ·have : f=1∨f=2∨f=3∨f=4∨f=5∨f=6∨f=7 := by omega
  rcases this with rfl | rfl | rfl | rfl | rfl | rfl | rfl
  all_goals
   go_enter Tryz.func134,Tryz.ntmps134
   go_wp2
   all_goals go_ret
   all_goals exact ⟨by rfl,rfl⟩
 ·go_enter Tryz.func134,Tryz.ntmps134
  go_wp2
  all_goals go_ret
  all_goals exact ⟨by simp [mf]; omega,rfl⟩
def ok1 (va fl sz mem:Int) : Bool := decide (va % 4096=0) && mf fl && decide (1≤mem) && decide (sz≤mem) && decide (va+mem≤1073741824)
set_option maxHeartbeats 1000000 in
theorem mayBe_any (va fl sz mem:Int) (d:Value) (w:World) (hv:0≤va∧va<18446744073709551616) (hf:0≤fl∧fl<4294967296) (hs:0≤sz∧sz<18446744073709551616) (hm:0≤mem∧mem<18446744073709551616) (hd:∃ p n c,d = .slice p n c) :
  Calls Tryz.prog 79 #[.agg #[.int .u64 va,.int .u32 fl,d,.int .u64 mem],.int .u64 sz] w fun e w' => e = .returned (.bool (ok1 va fl sz mem))∧Below w.heap.size w w' := by
 obtain ⟨p,n,c,rfl⟩ := hd
 have HB : Hid (Below w.heap.size w (w.alloc (.cells #[.int .u64 va,.int .u32 fl,.slice p n c,.int .u64 mem] 38))) := (Below.refl _ _).alloc (Nat.le_refl _) _
 have c40 := fun w' => mayFlags_any fl w' hf
 by_cases h0 : va % 4096=0
 ·by_cases h1 : mf fl=true
  ·by_cases h2 : mem<1
   ·rw [h1] at c40
    go_enter Tryz.func79,Tryz.ntmps79
    go_wp2_with (first | (go_at_call 134; refine (c40 _).mono ?_; rintro e w1 ⟨rfl,rfl⟩) | fail)
    all_goals go_ret
    all_goals exact ⟨by simp [ok1]; omega,HB.out⟩
   ·by_cases h3 : mem<sz
    ·rw [h1] at c40
     go_enter Tryz.func79,Tryz.ntmps79
     go_wp2_with (first | (go_at_call 134; refine (c40 _).mono ?_; rintro e w1 ⟨rfl,rfl⟩) | fail)
     all_goals go_ret
     all_goals exact ⟨by simp [ok1]; omega,HB.out⟩
    ·by_cases h4 : mem≤1073741824
     ·rw [h1] at c40
      go_enter Tryz.func79,Tryz.ntmps79
      go_wp2_with (first | (go_at_call 134; refine (c40 _).mono ?_; rintro e w1 ⟨rfl,rfl⟩) | fail)
      all_goals go_ret
      all_goals refine ⟨?_,HB.out⟩
      all_goals simp [ok1,h0,h1]
      all_goals rw [Bool.eq_iff_iff]
      all_goals simp
      all_goals omega
     ·rw [h1] at c40
      go_enter Tryz.func79,Tryz.ntmps79
      go_wp2_with (first | (go_at_call 134; refine (c40 _).mono ?_; rintro e w1 ⟨rfl,rfl⟩) | fail)
      all_goals go_ret
      all_goals refine ⟨?_,HB.out⟩
      all_goals simp [ok1,h0,h1]
      all_goals omega
  ·have h1 : mf fl=false := by simpa using h1
   rw [h1] at c40
   go_enter Tryz.func79,Tryz.ntmps79
   go_wp2_with (first | (go_at_call 134; refine (c40 _).mono ?_; rintro e w1 ⟨rfl,rfl⟩) | fail)
   all_goals go_ret
   all_goals exact ⟨by simp [ok1,h1],HB.out⟩
 ·have h0' : (va % 4096 != 0)=true := by simpa using h0
  go_enter Tryz.func79,Tryz.ntmps79
  go_wp2_with (first | (go_at_call 134; refine (c40 _).mono ?_; rintro e w1 ⟨rfl,rfl⟩) | fail)
  all_goals go_ret
  all_goals exact ⟨by simp [ok1,h0],HB.out⟩
theorem refusal_any (a r:Int) (w:World) : Calls Tryz.prog 38 #[.int .i64 a,.int .i64 r] w fun e w' => e = .returned (.pointer (some ⟨w.heap.size,0,.none⟩))∧w'=w.alloc (.cells #[.string ramB,.int .i64 a,.iface 45 (.int .i64 r)] 151) := by
 go_enter Tryz.func38,Tryz.ntmps38
 go_wp2
 go_ret
 exact ⟨rfl,rfl⟩
def Up (w:World) (a r:Int) (e:Ending) (w':World) : Prop := ∃ v,e = .panicked [{ v := v,recovered := false }]∧FaultIn w' w.heap.size v a r∧Below w.heap.size w w'
theorem giveUp_any (a r:Int) (w:World) : Calls Tryz.prog 175 #[.int .i64 a,.int .i64 r] w fun e w' => Up w a r e w' := by
 go_enter Tryz.func175,Tryz.ntmps175
 go_wp2_with (go_at_call 38; refine (refusal_any a r w).mono ?_; rintro e w0 ⟨rfl,rfl⟩)
 exact ⟨rfl,_,rfl,faultIn_new w w.heap.size a r (Nat.le_refl _),(Below.refl _ _).alloc (Nat.le_refl _) _⟩
theorem Up.back {V w w':World} {a r:Int} {e:Ending} (h:Up w a r e w') (b:Below V.heap.size V w) : Up V a r e w' := by
 obtain ⟨v,h1,⟨x,h2,h3⟩,h4⟩ := h
 exact ⟨v,h1,⟨x,Nat.le_trans b.size h2,h3⟩,b.trans (h4.mono b.size)⟩
end
end Go.Proofs.YtabnipbdbnmmpaaGreatDoor
