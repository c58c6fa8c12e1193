import Derived.Test.YtabnipbdbnmmpaaGreatDoorSh01
import Derived.Test.YtabnipbdbnmmpaaGreatDoorSh02
import Derived.Deep.Cut
import Derived.Deep.DeepCutAuto
import Derived.Deep.CutBlock
import Derived.Test.YtabnipbdbnmmpaaGreatDoorSh42
set_option linter.unusedVariables false
set_option linter.unusedSimpArgs false
namespace Go.Proofs.YtabnipbdbnmmpaaGreatDoor
section
open Go.RowKit
def nums (v:Int) (n:Nat) : List Int := (List.range n).map fun j => v / 256 ^ j % 256
theorem nums_succ (v:Int) (n:Nat) : nums v (n+1)=nums v n ++ [v / 256 ^ n % 256] := by
 simp only [nums]
 rw [List.range_succ,List.map_append]
 rfl
theorem nums_len (v:Int) (n:Nat) : (nums v n).length=n := by simp [nums]
theorem div_step (v:Int) (i:Nat) : v / 256 ^ i / 256=v / 256 ^ (i+1) := by
 rw [Int.pow_succ,← Int.ediv_ediv_of_nonneg (Int.pow_nonneg (by decide))]
theorem div_bd (v:Int) (hv:0≤v∧v<18446744073709551616) (i:Nat) : 0≤v / 256 ^ i∧v / 256 ^ i<18446744073709551616 := by
 have hp : (0:Int)<256 ^ i := Int.pow_pos (by decide)
 refine ⟨Int.ediv_nonneg hv.1 (by omega),?_⟩
 have := Int.ediv_le_self (256 ^ i) hv.1
 omega
set_option maxHeartbeats 4000000 in
set_option maxRecDepth 100000 in
theorem number_any (v:Int) (hv:0≤v∧v<18446744073709551616) (n:Nat) (hn:n≤100) (w:World) : Calls Tryz.prog 131 #[.int .u64 v,.int .i64 n] w (Gb (nums v n) w) := by
 obtain ⟨i3,z3,hi3,hz3,hs3,hb3,hzs3⟩ := byte_info
 have HI : Hid (Tryz.prog.info? 5=some i3∧i3.zero=some z3∧i3.size=1∧i3.bytes=1∧z3.cells.size=1) := ⟨hi3,hz3,hs3,hb3,hzs3⟩
 clear hi3 hz3 hs3 hb3 hzs3
 go_enter Tryz.func131,Tryz.ntmps131
 go_wp2_with fail
 go_loopw [0,5,6] (fun u b k wr => ∃ i : Nat,i≤n∧k = .int .i64 i∧u = .int .u64 (v / 256 ^ i) ∧ ∃ q cq,b = .slice q i cq∧Hid (wr.ownsRow w.heap.size 5 1 (.slice q i cq) i (by8 (nums v i))∧Below w.heap.size w wr)) (fun _ _ k _ => (n - intOf k).toNat)
 case atStart => exact ⟨0,by omega,rfl,by simp,none,0,rfl,World.ownsRow_nil _ _ _ _,Below.refl _ _⟩
 case round =>
  obtain ⟨i,hi,rfl,rfl,q,cq,rfl,HO⟩ := hrel
  by_cases hlt : i<n
  ·have g0 : (i:Int)<n := by omega
   have z1 := HO.out.2.size
   have hbd := div_bd v hv i
   have hst := div_step v i
   have HN : Hid (nums v (i+1)=nums v i ++ [v / 256 ^ i % 256]) := nums_succ v i
   have HST : Hid (v / 256 ^ i / 256=v / 256 ^ (i+1)) := hst
   clear hst
   generalize hy : v / 256 ^ i=y at *
   clear hy
   go_wp2_with (first | (at_builtin; refine wpList_append_own _ rfl _ _ 24 rfl w.heap.size 5 i3 z3 1 1 Tryz.underlying24 HI.out.1 HI.out.2.1 HI.out.2.2.1 HI.out.2.2.2.1 HI.out.2.2.2.2 (by decide) (.slice q i cq) i (by8 (nums v i)) rfl (HO.out.1.alloc _) ⟨wr.heap.size,0,.none⟩ 1 1 (by8 [y % 256]) rfl rfl (le_cell1_new _ _ _) (by8_one _) ?c4 ?c5 ?c6 ?_) | fail)
   case c4 => simp only [maxLen]; omega
   case c5 => omega
   case c6 => simp only [World.size_alloc]; omega
   intro v' w2 own' grow fb
   clear fb
   obtain ⟨p',c',rfl⟩ := one_slice own'
   have HW : Hid (w2.ownsRow w.heap.size 5 1 (.slice p' (i+1) c') (i+1) (by8 (nums v (i+1)))∧Below w.heap.size w w2) := by
    refine ⟨?_,below_append HO.out.2 _ grow z1 (own_block HO.out.1)⟩
    rw [HN.out,by8_app]
    exact own'
   clear own' grow
   go_wp2_with fail
   exact ⟨⟨i+1,by omega,by simp,by rw [← HST.out],p',c',rfl,HW.out⟩,by simp only [intOf]; omega⟩
  ·obtain rfl : i=n := by omega
   have hn9 : ¬ ((i:Int)<i) := by omega
   go_wp2_with fail
   go_ret
   refine ⟨q,cq,?_,?_,HO.out.2⟩
   ·rw [nums_len]
    rfl
   ·rw [nums_len]
    exact HO.out.1
set_option maxHeartbeats 4000000 in
set_option maxRecDepth 100000 in
theorem putQ_any {p1 p2:Option Addr} {n1 c1 n2 c2:Nat} {xs ys:List Int} {w:World} (h1:Byt w p1 n1 c1 xs) (h2:Byt w p2 n2 c2 ys) (hn1:n1<2000000) (hn2:n2<2000000) :
  Calls Tryz.prog 130 #[.slice p1 n1 c1,.slice p2 n2 c2] w (Gb (xs ++ ys) w) := by
 obtain ⟨hl1,k1,m1,h1⟩ := h1
 obtain ⟨hl2,k2,m2,h2⟩ := h2
 have m1 : c1≤9223372036854775807 := m1
 have m2 : c2≤9223372036854775807 := m2
 have HX : Hid (xs.length=n1) := hl1
 have HY : Hid (ys.length=n2) := hl2
 obtain ⟨i3,z3,hi3,hz3,hs3,hb3,hzs3⟩ := byte_info
 have HI : Hid (Tryz.prog.info? 5=some i3∧i3.zero=some z3∧i3.size=1∧i3.bytes=1∧z3.cells.size=1) := ⟨hi3,hz3,hs3,hb3,hzs3⟩
 clear hi3 hz3 hs3 hb3 hzs3
 have H1 : Hid (∀ i x,xs[i]? = some x → ∃ b1 o1,p1=some ⟨b1,o1,.none⟩∧b1<w.heap.size∧w.cell? ⟨b1,o1+i,.none⟩=some (.int .u8 x)) := by
  intro i x hx
  rcases h1 with h1 | ⟨b1,o1,h2,hb,h3⟩
  ·rw [List.getElem?_eq_none (by omega)] at hx
   cases hx
  ·exact ⟨b1,o1,h2,hb,h3 i x hx⟩
 have H2 : Hid (∀ i x,ys[i]? = some x → ∃ b1 o1,p2=some ⟨b1,o1,.none⟩∧b1<w.heap.size∧w.cell? ⟨b1,o1+i,.none⟩=some (.int .u8 x)) := by
  intro i x hx
  rcases h2 with h2 | ⟨b1,o1,h2,hb,h3⟩
  ·rw [List.getElem?_eq_none (by omega)] at hx
   cases hx
  ·exact ⟨b1,o1,h2,hb,h3 i x hx⟩
 clear h1 h2 hl1 hl2
 obtain ⟨w1,hmk,own1,gr1⟩ := run_make_own (P:=Tryz.prog) w w.heap.size 24 5 i3 z3 1 Tryz.underlying24 HI.out.1 HI.out.2.1 HI.out.2.2.1 .i64 .i64 (n1+n2) (by rw [HI.out.2.2.2.1]; omega) (by simp only [maxLen]; omega) (Nat.le_refl _)
 have hmk : (Instr.makeSlice 24 (.int .i64 0) (.int .i64 ((n1:Int)+n2))).run Tryz.prog w = .ok (.slice (some ⟨w.heap.size,0,.none⟩) 0 (n1+n2)) w1 := by
  have e : ((n1+n2 : Nat) : Int)=(n1:Int)+n2 := by omega
  rw [e] at hmk
  exact hmk
 have b1 : Below w.heap.size w w1 := (Below.refl _ _).grown gr1 (Nat.le_refl _) (fun k hk => by cases hk)
 have HO1 : Hid (w1.ownsRow w.heap.size 5 1 (.slice (some ⟨w.heap.size,0,.none⟩) 0 (n1+n2)) 0 []∧Below w.heap.size w w1) := ⟨own1,b1⟩
 clear own1 gr1 b1
 go_enter Tryz.func130,Tryz.ntmps130
 go_upto_region 2 with fail
 clear hmk
 go_wp2_with fail
 go_loopw [5,6] (fun v k wr => ∃ i : Nat,i≤n1∧k = .int .i64 i ∧ ∃ q cq,v = .slice q i cq∧Hid (wr.ownsRow w.heap.size 5 1 (.slice q i cq) i (by8 (xs.take i))∧Below w.heap.size w wr)) (fun _ k _ => (n1 - intOf k).toNat)
 case atStart => exact ⟨0,by omega,rfl,_,_,rfl,HO1.out.1,HO1.out.2⟩
 case round =>
  obtain ⟨i,hi,rfl,q,cq,rfl,HO⟩ := hrel
  by_cases hlt : i<n1
  ·have g0 : (i:Int)<n1 := by omega
   have hx : ∃ x,xs[i]? = some x := ⟨xs[i]'(by rw [HX.out]; exact hlt),by simp⟩
   obtain ⟨x,hx⟩ := hx
   obtain ⟨b1,o1,rfl,hb,hc⟩ := H1.out i x hx
   have a0 : wr.cell? ⟨b1,o1+i,.none⟩=some (.int .u8 x) := (HO.out.2.cell hb).trans hc
   have HT : Hid (xs.take i ++ [x]=xs.take (i+1)) := take_next hx
   have z1 := HO.out.2.size
   clear hx hc
   go_wp2_with (first | (at_builtin; refine wpList_append_own _ rfl _ _ 24 rfl w.heap.size 5 i3 z3 1 1 Tryz.underlying24 HI.out.1 HI.out.2.1 HI.out.2.2.1 HI.out.2.2.2.1 HI.out.2.2.2.2 (by decide) (.slice q i cq) i (by8 (xs.take i)) rfl (HO.out.1.alloc _) ⟨wr.heap.size,0,.none⟩ 1 1 (by8 [x]) rfl rfl (le_cell1_new _ _ _) (by8_one _) ?c4 ?c5 ?c6 ?_) | fail)
   case c4 => simp only [maxLen]; omega
   case c5 => omega
   case c6 => simp only [World.size_alloc]; omega
   intro v' w2 own' grow fb
   clear fb
   obtain ⟨p',c',rfl⟩ := one_slice own'
   have HW : Hid (w2.ownsRow w.heap.size 5 1 (.slice p' (i+1) c') (i+1) (by8 (xs.take (i+1)))∧Below w.heap.size w w2) := by
    refine ⟨?_,below_append HO.out.2 _ grow z1 (own_block HO.out.1)⟩
    rw [← HT.out,by8_app]
    exact own'
   clear own' grow
   go_wp2_with fail
   exact ⟨⟨i+1,by omega,by simp,p',c',rfl,HW.out⟩,by simp only [intOf]; omega⟩
  ·obtain rfl : i=n1 := by omega
   have hn9 : ¬ ((i:Int)<i) := by omega
   have HO3 : Hid (wr.ownsRow w.heap.size 5 1 (.slice q i cq) i (by8 xs)∧Below w.heap.size w wr) := by
    have h := HO.out
    rw [← HX.out,List.take_length,HX.out] at h
    exact h
   clear HO HO1 hi hlt
   go_upto_region 7 with fail
   go_loopw [5,7] (fun v k W => ∃ j : Nat,j≤n2∧k = .int .i64 j ∧ ∃ q cq,v = .slice q (i+j) cq∧Hid (W.ownsRow w.heap.size 5 1 (.slice q (i+j) cq) (i+j) (by8 (xs ++ ys.take j))∧Below w.heap.size w W)) (fun _ k _ => (n2 - intOf k).toNat)
   case atStart =>
    refine ⟨0,by omega,rfl,q,cq,rfl,?_⟩
    have h := HO3.out
    rw [List.take_zero,List.append_nil,Nat.add_zero]
    exact h
   case round =>
    obtain ⟨j,hj,rfl,q,cq,rfl,HO⟩ := hrel
    by_cases hlj : j<n2
    ·have g1 : (j:Int)<n2 := by omega
     have hx : ∃ x,ys[j]? = some x := ⟨ys[j]'(by rw [HY.out]; exact hlj),by simp⟩
     obtain ⟨x,hx⟩ := hx
     obtain ⟨b1,o1,rfl,hb,hc⟩ := H2.out j x hx
     have a0 : wr.cell? ⟨b1,o1+j,.none⟩=some (.int .u8 x) := (HO.out.2.cell hb).trans hc
     have HT : Hid (ys.take j ++ [x]=ys.take (j+1)) := take_next hx
     have z1 := HO.out.2.size
     clear hx hc
     go_wp2_with (first | (at_builtin; refine wpList_append_own _ rfl _ _ 24 rfl w.heap.size 5 i3 z3 1 1 Tryz.underlying24 HI.out.1 HI.out.2.1 HI.out.2.2.1 HI.out.2.2.2.1 HI.out.2.2.2.2 (by decide) (.slice q (i+j) cq) (i+j) (by8 (xs ++ ys.take j)) rfl (HO.out.1.alloc _) ⟨wr.heap.size,0,.none⟩ 1 1 (by8 [x]) rfl rfl (le_cell1_new _ _ _) (by8_one _) ?c4 ?c5 ?c6 ?_) | fail)
     case c4 => simp only [maxLen]; omega
     case c5 => omega
     case c6 => simp only [World.size_alloc]; omega
     intro v' w2 own' grow fb
     clear fb
     obtain ⟨p',c',rfl⟩ := one_slice own'
     have HW : Hid (w2.ownsRow w.heap.size 5 1 (.slice p' (i+(j+1)) c') (i+(j+1)) (by8 (xs ++ ys.take (j+1)))∧Below w.heap.size w w2) := by
      refine ⟨?_,below_append HO.out.2 _ grow z1 (own_block HO.out.1)⟩
      rw [← HT.out,← List.append_assoc,by8_app,← Nat.add_assoc]
      exact own'
     clear own' grow
     go_wp2_with fail
     exact ⟨⟨j+1,by omega,by simp,p',c',by simp [Nat.add_assoc],HW.out⟩,by simp only [intOf]; omega⟩
    ·obtain rfl : j=n2 := by omega
     have hn8 : ¬ ((j:Int)<j) := by omega
     go_wp2_with fail
     go_ret
     have hlen : (xs ++ ys).length=i+j := by rw [List.length_append,HX.out,HY.out]
     refine ⟨q,cq,by rw [hlen]; rfl,?_,HO.out.2⟩
     have h := HO.out.1
     rw [← HY.out,List.take_length,HY.out] at h
     rw [hlen]
     exact h
end
section
open Go.RowKit
structure Sm (w:World) (g d:Nat) : Prop where
 s0 : w.cell? ⟨g,0,.none⟩=some (.int .u64 0)
 s1 : w.cell? ⟨g,1,.none⟩=some (.int .u32 5)
 s2 : w.cell? ⟨g,2,.none⟩=some (.slice (some ⟨d,0,.none⟩) 4 4)
 s3 : w.cell? ⟨g,3,.none⟩=some (.int .u64 4)
 d0 : w.cell? ⟨d,0,.none⟩=some (.int .u8 115)
 d1 : w.cell? ⟨d,1,.none⟩=some (.int .u8 0)
 d2 : w.cell? ⟨d,2,.none⟩=some (.int .u8 0)
 d3 : w.cell? ⟨d,3,.none⟩=some (.int .u8 0)
theorem Sm.below {w w':World} {g d:Nat} (h:Sm w g d) (k:Below w.heap.size w w') : Sm w' g d :=
 ⟨(k.cell (lt_of_cell h.s0)).trans h.s0,(k.cell (lt_of_cell h.s1)).trans h.s1,(k.cell (lt_of_cell h.s2)).trans h.s2,(k.cell (lt_of_cell h.s3)).trans h.s3,(k.cell (lt_of_cell h.d0)).trans h.d0,(k.cell (lt_of_cell h.d1)).trans h.d1,(k.cell (lt_of_cell h.d2)).trans h.d2,(k.cell (lt_of_cell h.d3)).trans h.d3⟩
set_option maxRecDepth 10000 in
set_option maxHeartbeats 1000000 in
theorem insideS_any {w:World} {g d:Nat} (h:Sm w g d) : Calls Tryz.prog 124 #[.int .u64 0,.slice (some ⟨g,0,.none⟩) 1 1] w fun e w' => e = .returned (.bool true)∧Below w.heap.size w w' := by
 have kS : (w.drew.cell? ⟨g,0,.none⟩=some (.int .u64 0)∧w.drew.cell? ⟨g,1,.none⟩=some (.int .u32 5)∧w.drew.cell? ⟨g,3,.none⟩=some (.int .u64 4)) := ⟨h.s0,h.s1,h.s3⟩
 have hb : Below w.heap.size w w.drew := (Below.refl _ _).drew
 clear h
 have hb5 : bits .and .u32 5 1=1 := by decide
 have hw4 : IntKind.u64.wrap 4=4 := by decide
 go_enter Tryz.func124,Tryz.ntmps124
 go_wp2_with fail
 go_loopw [5] (fun k wr => k = .int .i64 0∧wr=w) (fun k _ => (1 - intOf k).toNat)
 case atStart => exact ⟨rfl,rfl⟩
 case round =>
  obtain ⟨rfl,rfl⟩ := hrel
  go_upto_region 4 with fail
  refine wp_region_held_drew (S:=fun U => U.cell? ⟨g,0,.none⟩=some (.int .u64 0)∧U.cell? ⟨g,1,.none⟩=some (.int .u32 5)∧U.cell? ⟨g,3,.none⟩=some (.int .u64 4)) (by kernel_rfl) kS (fun hHeld => ?_)
  refine aT 0 (.slice (some ⟨g,0,.none⟩) 1 1) rfl ?_ (fun ww hSw => by (try dsimp only at hSw); obtain ⟨a0,a1,a3⟩ := hSw; go_simp)
  simp only [X0,X1,X2,X3,X4,X5,X6]
  refine aT 1 (.int .i64 0) rfl ?_ (fun ww hSw => by (try dsimp only at hSw); obtain ⟨a0,a1,a3⟩ := hSw; go_simp)
  simp only [X0,X1,X2,X3,X4,X5,X6]
  refine aT 2 (.pointer (some ⟨g,0,.none⟩)) rfl ?_ (fun ww hSw => by (try dsimp only at hSw); obtain ⟨a0,a1,a3⟩ := hSw; go_simp)
  simp only [X0,X1,X2,X3,X4,X5,X6]
  refine aT 3 (.pointer (some ⟨g,1,.none⟩)) rfl ?_ (fun ww hSw => by (try dsimp only at hSw); obtain ⟨a0,a1,a3⟩ := hSw; go_simp)
  simp only [X0,X1,X2,X3,X4,X5,X6]
  refine aT 4 (.int .u32 5) rfl ?_ (fun ww hSw => by (try dsimp only at hSw); obtain ⟨a0,a1,a3⟩ := hSw; go_simp)
  simp only [X0,X1,X2,X3,X4,X5,X6]
  refine aT 5 (.int .u32 1) rfl ?_ (fun ww hSw => by (try dsimp only at hSw); obtain ⟨a0,a1,a3⟩ := hSw; go_simp)
  simp only [X0,X1,X2,X3,X4,X5,X6]
  refine aT 6 (.bool true) rfl ?_ (fun ww hSw => by (try dsimp only at hSw); obtain ⟨a0,a1,a3⟩ := hSw; go_simp)
  simp only [X0,X1,X2,X3,X4,X5,X6]
  refine aT 7 (.bool true) rfl ?_ (fun ww hSw => by (try dsimp only at hSw); obtain ⟨a0,a1,a3⟩ := hSw; go_simp)
  simp only [X0,X1,X2,X3,X4,X5,X6]
  refine aT 8 (.int .u64 0) rfl ?_ (fun ww hSw => by (try dsimp only at hSw); obtain ⟨a0,a1,a3⟩ := hSw; go_simp)
  simp only [X0,X1,X2,X3,X4,X5,X6]
  refine aT 9 (.slice (some ⟨g,0,.none⟩) 1 1) rfl ?_ (fun ww hSw => by (try dsimp only at hSw); obtain ⟨a0,a1,a3⟩ := hSw; go_simp)
  simp only [X0,X1,X2,X3,X4,X5,X6]
  refine aT 10 (.int .i64 0) rfl ?_ (fun ww hSw => by (try dsimp only at hSw); obtain ⟨a0,a1,a3⟩ := hSw; go_simp)
  simp only [X0,X1,X2,X3,X4,X5,X6]
  refine aT 11 (.pointer (some ⟨g,0,.none⟩)) rfl ?_ (fun ww hSw => by (try dsimp only at hSw); obtain ⟨a0,a1,a3⟩ := hSw; go_simp)
  simp only [X0,X1,X2,X3,X4,X5,X6]
  refine aT 12 (.pointer (some ⟨g,0,.none⟩)) rfl ?_ (fun ww hSw => by (try dsimp only at hSw); obtain ⟨a0,a1,a3⟩ := hSw; go_simp)
  simp only [X0,X1,X2,X3,X4,X5,X6]
  refine aT 13 (.int .u64 0) rfl ?_ (fun ww hSw => by (try dsimp only at hSw); obtain ⟨a0,a1,a3⟩ := hSw; go_simp)
  simp only [X0,X1,X2,X3,X4,X5,X6]
  refine aT 14 (.bool true) rfl ?_ (fun ww hSw => by (try dsimp only at hSw); obtain ⟨a0,a1,a3⟩ := hSw; go_simp)
  simp only [X0,X1,X2,X3,X4,X5,X6]
  refine aT 15 (.bool true) rfl ?_ (fun ww hSw => by (try dsimp only at hSw); obtain ⟨a0,a1,a3⟩ := hSw; go_simp)
  simp only [X0,X1,X2,X3,X4,X5,X6]
  refine aT 16 (.bool true) rfl ?_ (fun ww hSw => by (try dsimp only at hSw); obtain ⟨a0,a1,a3⟩ := hSw; go_simp)
  simp only [X0,X1,X2,X3,X4,X5,X6]
  refine aT 17 (.int .u64 0) rfl ?_ (fun ww hSw => by (try dsimp only at hSw); obtain ⟨a0,a1,a3⟩ := hSw; go_simp)
  simp only [X0,X1,X2,X3,X4,X5,X6]
  refine aT 18 (.slice (some ⟨g,0,.none⟩) 1 1) rfl ?_ (fun ww hSw => by (try dsimp only at hSw); obtain ⟨a0,a1,a3⟩ := hSw; go_simp)
  simp only [X0,X1,X2,X3,X4,X5,X6]
  refine aT 19 (.int .i64 0) rfl ?_ (fun ww hSw => by (try dsimp only at hSw); obtain ⟨a0,a1,a3⟩ := hSw; go_simp)
  simp only [X0,X1,X2,X3,X4,X5,X6]
  refine aT 20 (.pointer (some ⟨g,0,.none⟩)) rfl ?_ (fun ww hSw => by (try dsimp only at hSw); obtain ⟨a0,a1,a3⟩ := hSw; go_simp)
  simp only [X0,X1,X2,X3,X4,X5,X6]
  refine aT 21 (.pointer (some ⟨g,0,.none⟩)) rfl ?_ (fun ww hSw => by (try dsimp only at hSw); obtain ⟨a0,a1,a3⟩ := hSw; go_simp)
  simp only [X0,X1,X2,X3,X4,X5,X6]
  refine aT 22 (.int .u64 0) rfl ?_ (fun ww hSw => by (try dsimp only at hSw); obtain ⟨a0,a1,a3⟩ := hSw; go_simp)
  simp only [X0,X1,X2,X3,X4,X5,X6]
  refine aT 23 (.slice (some ⟨g,0,.none⟩) 1 1) rfl ?_ (fun ww hSw => by (try dsimp only at hSw); obtain ⟨a0,a1,a3⟩ := hSw; go_simp)
  simp only [X0,X1,X2,X3,X4,X5,X6]
  refine aT 24 (.int .i64 0) rfl ?_ (fun ww hSw => by (try dsimp only at hSw); obtain ⟨a0,a1,a3⟩ := hSw; go_simp)
  simp only [X0,X1,X2,X3,X4,X5,X6]
  refine aT 25 (.pointer (some ⟨g,0,.none⟩)) rfl ?_ (fun ww hSw => by (try dsimp only at hSw); obtain ⟨a0,a1,a3⟩ := hSw; go_simp)
  simp only [X0,X1,X2,X3,X4,X5,X6]
  refine aT 26 (.pointer (some ⟨g,3,.none⟩)) rfl ?_ (fun ww hSw => by (try dsimp only at hSw); obtain ⟨a0,a1,a3⟩ := hSw; go_simp)
  simp only [X0,X1,X2,X3,X4,X5,X6]
  refine aT 27 (.int .u64 4) rfl ?_ (fun ww hSw => by (try dsimp only at hSw); obtain ⟨a0,a1,a3⟩ := hSw; go_simp)
  simp only [X0,X1,X2,X3,X4,X5,X6]
  refine aT 28 (.int .u64 4) rfl ?_ (fun ww hSw => by (try dsimp only at hSw); obtain ⟨a0,a1,a3⟩ := hSw; go_simp)
  simp only [X0,X1,X2,X3,X4,X5,X6]
  refine aT 29 (.bool true) rfl ?_ (fun ww hSw => by (try dsimp only at hSw); obtain ⟨a0,a1,a3⟩ := hSw; go_simp)
  simp only [X0,X1,X2,X3,X4,X5,X6]
  refine aT 30 (.bool true) rfl ?_ (fun ww hSw => by (try dsimp only at hSw); obtain ⟨a0,a1,a3⟩ := hSw; go_simp)
  simp only [X0,X1,X2,X3,X4,X5,X6]
  refine wpAnyH_done (by kernel_rfl) ?_ _
  go_wp2_with fail
  go_ret
  exact ⟨rfl,hb⟩
set_option maxRecDepth 10000 in
set_option maxHeartbeats 1000000 in
theorem formS_any {w:World} {g d:Nat} (h:Sm w g d) : Calls Tryz.prog 129 #[.agg #[.int .u64 0,.slice (some ⟨g,0,.none⟩) 1 1]] w fun e w' => e = .returned (.agg #[.slice .none 0 0,.int .i64 0])∧Below w.heap.size w w' := by
 obtain ⟨w1,hw1⟩ : ∃ w1,w1=(w.alloc (.cells #[.int .u64 0,.slice (some ⟨g,0,.none⟩) 1 1] 41)).alloc (.cells #[.slice .none 0 0,.int .i64 0] 121) := ⟨_,rfl⟩
 have b1 : Below w.heap.size w w1 := by rw [hw1]; exact ((Below.refl _ _).alloc (Nat.le_refl _) _).alloc (by simp) _
 have k0 : w1.cell? ⟨w.heap.size,0,.none⟩=some (.int .u64 0) := by rw [hw1]; simp
 have k1 : w1.cell? ⟨w.heap.size,1,.none⟩=some (.slice (some ⟨g,0,.none⟩) 1 1) := by rw [hw1]; simp
 have k2 : w1.cell? ⟨w.heap.size+1,0,.none⟩=some (.slice .none 0 0) := by rw [hw1]; simp
 have k3 : w1.cell? ⟨w.heap.size+1,1,.none⟩=some (.int .i64 0) := by rw [hw1]; simp
 have k4 : ∀ i,w1.frozen? ⟨w.heap.size+1,i,.none⟩=false := fun i => by
  have := World.frozen?_alloc_new (w.alloc (.cells #[.int .u64 0,.slice (some ⟨g,0,.none⟩) 1 1] 41)) #[.slice .none 0 0,.int .i64 0] 121 i
  rw [hw1]
  rwa [World.size_alloc] at this
 have z1 : w1.heap.size=w.heap.size+1+1 := by rw [hw1]; simp
 have HS : Hid (Sm w1 g d∧Below w.heap.size w w1) := ⟨h.below b1,b1⟩
 have HK : Hid (∀ i,w1.frozen? ⟨w.heap.size+1,i,.none⟩=false) := k4
 clear h k4
 go_enter Tryz.func129,Tryz.ntmps129
 go_upto_region 1 with fail
 rw [← hw1]
 clear hw1 b1
 obtain ⟨x,hx⟩ : ∃ x,x=w.heap.size := ⟨_,rfl⟩
 have HX : Hid (x=w.heap.size) := hx
 rw [← hx] at k0 k1 k2 k3 ⊢
 have hz1 : w1.heap.size=x+1+1 := by omega
 clear hx z1
 go_wp2_with fail
 go_loopw [3] (fun k wr => (k = .int .i64 0∧wr=w1)∨(k = .int .i64 1∧Hid (Below w1.heap.size w1 wr))) (fun k _ => (1 - intOf k).toNat)
 case atStart => exact .inl ⟨rfl,rfl⟩
 case round =>
  rcases hrel with ⟨rfl,rfl⟩ | ⟨rfl,HB⟩
  ·have s0 := HS.out.1.s0
   have s1 := HS.out.1.s1
   have s2 := HS.out.1.s2
   have s3 := HS.out.1.s3
   go_upto_region 7 with fail
   generalize hwz : (wr.alloc (.cells #[.int .u64 0,.int .u32 5,.slice (some ⟨d,0,.none⟩) 4 4,.int .u64 4] 38))=wz
   have hbz : Below wr.heap.size wr wz := by rw [← hwz]; exact (Below.refl _ _).alloc (Nat.le_refl _) _
   have HBz : Hid (Below wr.heap.size wr wz) := hbz
   have c0 : wz.cell? ⟨x+1+1,0,.none⟩=some (.int .u64 0) := by rw [← hwz,← hz1]; simp
   have c1 : wz.cell? ⟨x+1+1,1,.none⟩=some (.int .u32 5) := by rw [← hwz,← hz1]; simp
   have c2 : wz.cell? ⟨x+1+1,2,.none⟩=some (.slice (some ⟨d,0,.none⟩) 4 4) := by rw [← hwz,← hz1]; simp
   have c3 : wz.cell? ⟨x+1+1,3,.none⟩=some (.int .u64 4) := by rw [← hwz,← hz1]; simp
   clear hwz hbz
   have cc := one_any 0 5 4 4 wz (by omega) (by omega) (by omega) (by omega)
   rw [show ok1 0 5 4 4=true by decide] at cc
   go_upto_region 9 with (go_at_call 164; refine cc.mono ?_; rintro _ w5 ⟨rfl,e5⟩; obtain rfl : wz=w5 := e5.symm)
   refine wp_region_held_drew (S:=fun _ => True) (by kernel_rfl) trivial (fun hHeld => ?_)
   refine aT 0 (.int .i64 0) rfl ?_
   simp only [X0,X1,X2,X3,X4,X5,X6]
   refine aT 1 (.bool false) rfl ?_
   simp only [X0,X1,X2,X3,X4,X5,X6]
   refine aT 2 (.bool false) rfl ?_
   simp only [X0,X1,X2,X3,X4,X5,X6]
   refine aU 3 rfl ?_
   simp only [X0,X1,X2,X3,X4,X5,X6]
   refine aU 4 rfl ?_
   simp only [X0,X1,X2,X3,X4,X5,X6]
   refine aU 5 rfl ?_
   simp only [X0,X1,X2,X3,X4,X5,X6]
   refine aU 6 rfl ?_
   simp only [X0,X1,X2,X3,X4,X5,X6]
   refine aU 7 rfl ?_
   simp only [X0,X1,X2,X3,X4,X5,X6]
   refine aU 8 rfl ?_
   simp only [X0,X1,X2,X3,X4,X5,X6]
   refine aU 9 rfl ?_
   simp only [X0,X1,X2,X3,X4,X5,X6]
   refine aU 10 rfl ?_
   simp only [X0,X1,X2,X3,X4,X5,X6]
   refine aU 11 rfl ?_
   simp only [X0,X1,X2,X3,X4,X5,X6]
   refine aU 12 rfl ?_
   simp only [X0,X1,X2,X3,X4,X5,X6]
   refine aU 13 rfl ?_
   simp only [X0,X1,X2,X3,X4,X5,X6]
   refine aU 14 rfl ?_
   simp only [X0,X1,X2,X3,X4,X5,X6]
   refine aU 15 rfl ?_
   simp only [X0,X1,X2,X3,X4,X5,X6]
   refine aU 16 rfl ?_
   simp only [X0,X1,X2,X3,X4,X5,X6]
   refine aU 17 rfl ?_
   simp only [X0,X1,X2,X3,X4,X5,X6]
   refine aU 18 rfl ?_
   simp only [X0,X1,X2,X3,X4,X5,X6]
   refine aU 19 rfl ?_
   simp only [X0,X1,X2,X3,X4,X5,X6]
   refine aU 20 rfl ?_
   simp only [X0,X1,X2,X3,X4,X5,X6]
   refine aU 21 rfl ?_
   simp only [X0,X1,X2,X3,X4,X5,X6]
   refine aT 22 (.bool false) rfl ?_
   simp only [X0,X1,X2,X3,X4,X5,X6]
   refine wpAnyH_done (by kernel_rfl) ?_ _
   go_wp2_with fail
   exact ⟨.inr ⟨rfl,HBz.out.trans ((Below.refl _ _).drew)⟩,by decide⟩
  ·have l0 := (HB.out.cell (lt_of_cell k0)).trans k0
   have l1 := (HB.out.cell (lt_of_cell k1)).trans k1
   have ci := insideS_any (HS.out.1.below HB.out)
   go_upto_region 13 with (go_at_call 124; refine ci.mono ?_; rintro _ w6 ⟨rfl,b6⟩; have H6 : Hid (Below wr.heap.size wr w6) := b6; clear b6)
   have B6 : Hid (Below w1.heap.size w1 w6) := HB.out.trans (H6.out.mono HB.out.size)
   have cn := none_any w6
   go_wp2_with (go_at_call 163; refine cn.mono ?_; rintro _ w7 ⟨rfl,e7⟩; have H7 : Hid (Below w1.heap.size w1 w7) := (by rw [e7]; exact B6.out.alloc B6.out.size _); clear e7 cn; have m2 : w7.cell? ⟨x+1,0,.none⟩=some (.slice .none 0 0) := (H7.out.cell (lt_of_cell k2)).trans k2; have m3 : w7.cell? ⟨x+1,1,.none⟩=some (.int .i64 0) := (H7.out.cell (lt_of_cell k3)).trans k3; have f2 : w7.frozen? ⟨x+1,0,.none⟩=false := (H7.out.frozen (p:=⟨x+1,0,.none⟩) (lt_of_cell k2)).trans (by have := HK.out 0; rw [← HX.out] at this; exact this); have f3 : w7.frozen? ⟨x+1,1,.none⟩=false := (H7.out.frozen (p:=⟨x+1,1,.none⟩) (lt_of_cell k3)).trans (by have := HK.out 1; rw [← HX.out] at this; exact this))
   refine bodyPost_ret (v:=.agg #[.slice .none 0 0,.int .i64 0]) ?_ rfl ⟨rfl,?_⟩
   ·simp [results,Tryz.results129,go_sem,m2,m3]
   ·have hz := HX.out
    exact ((HS.out.2.trans (H7.out.mono HS.out.2.size)).setCell (by show w.heap.size≤x+1; omega) _).setCell (by show w.heap.size≤x+1; omega) _
end
end Go.Proofs.YtabnipbdbnmmpaaGreatDoor
