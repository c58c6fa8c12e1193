import Derived.Test.YtabnipbdbnmmpaaGreatDoorSh01
import Derived.Test.YtabnipbdbnmmpaaGreatDoorSh47
set_option linter.unusedVariables false
set_option linter.unusedSimpArgs false
namespace Go.Proofs.YtabnipbdbnmmpaaGreatDoor
section
open Go.RowKit
def hd0 : List Int := [127,69,76,70,2,1,1,0,0,0,0,0,0,0,0,0]
def smH : List Int := hd0 ++ nums 2 2 ++ nums 243 2 ++ nums 1 4 ++ nums 0 8 ++ nums 64 8 ++ nums 0 12 ++ nums 64 2 ++ nums 56 2 ++ nums 1 2 ++ nums 0 6
def smS : List Int := smH ++ nums 1 4 ++ nums 5 4 ++ nums 120 8 ++ nums 0 8 ++ nums 0 8 ++ nums 4 8 ++ nums 4 8 ++ nums 4096 8
def smF : List Int := smS ++ [115,0,0,0]
theorem bytU {w w':World} {p:Option Addr} {n c:Nat} {xs:List Int} (h:Byt w p n c xs) (hb:Below w.heap.size w w') : Byt w' p n c xs := by
 obtain ⟨h1,h2,h3,h4⟩ := h
 refine ⟨h1,h2,h3,?_⟩
 rcases h4 with h4 | ⟨b,o,rfl,h5,h6⟩
 ·exact .inl h4
 ·exact .inr ⟨b,o,rfl,Nat.lt_of_lt_of_le h5 hb.size,fun i x hx => (hb.cell (p:=⟨b,o+i,.none⟩) h5).trans (h6 i x hx)⟩
theorem gb_byt {xs:List Int} {w w':World} {e:Ending} (n:Nat) (hn:xs.length=n) (h:Gb xs w e w') : ∃ q c,e = .returned (.slice q n c)∧Byt w' q n c xs∧Below w.heap.size w w' := by
 obtain ⟨p,c,e1,h1,h2⟩ := h
 subst hn
 exact ⟨p,c,e1,byt_own h1,h2⟩
theorem gb_bytF {xs:List Int} {w w':World} {e:Ending} (n:Nat) (hn:xs.length=n) (h0:0<n) (h:Gb xs w e w') : ∃ b c,e = .returned (.slice (some ⟨b,0,.none⟩) n c)∧w.heap.size≤b∧Byt w' (some ⟨b,0,.none⟩) n c xs∧Below w.heap.size w w' := by
 obtain ⟨p,c,e1,h1,h2⟩ := h
 subst hn
 rcases h1.2 with ⟨hv,h3⟩ | ⟨g,cap,cur,hv,hb,hg,hn,hm,_⟩
 ·omega
 ·simp only [Value.slice.injEq,true_and] at hv
  obtain ⟨rfl,rfl⟩ := hv
  exact ⟨g,_,e1,hb,byt_own h1,h2⟩
theorem hd0_byt (w:World) : Byt (w.alloc (.cells #[.int .u8 127,.int .u8 69,.int .u8 76,.int .u8 70,.int .u8 2,.int .u8 1,.int .u8 1,.int .u8 0,.int .u8 0,.int .u8 0,.int .u8 0,.int .u8 0,.int .u8 0,.int .u8 0,.int .u8 0,.int .u8 0] 5)) (some ⟨w.heap.size,0,.none⟩) 16 16 hd0 := by
 refine ⟨rfl,Nat.le_refl _,by decide,.inr ⟨_,_,rfl,by simp,fun i x hx => ?_⟩⟩
 rw [World.cell?_alloc_at _ _ _ _ rfl]
 have hi : i<16 := (List.getElem?_eq_some_iff.1 hx).1
 rw [Nat.zero_add]
 have : (#[Value.int .u8 127,.int .u8 69,.int .u8 76,.int .u8 70,.int .u8 2,.int .u8 1,.int .u8 1,.int .u8 0,.int .u8 0,.int .u8 0,.int .u8 0,.int .u8 0,.int .u8 0,.int .u8 0,.int .u8 0,.int .u8 0] : Array Value)=(hd0.map (Value.int .u8)).toArray := rfl
 rw [this,List.getElem?_toArray,List.getElem?_map,hx]
 rfl
set_option maxRecDepth 10000 in
set_option maxHeartbeats 4000000 in
theorem writeS_any {w:World} {g d:Nat} (h:Sm w g d) : Calls Tryz.prog 71 #[.agg #[.int .u64 0,.slice (some ⟨g,0,.none⟩) 1 1]] w fun e w' => ∃ q c,e = .returned (.tuple #[.slice q 124 c,.agg #[.slice .none 0 0,.int .i64 0]])∧Byt w' q 124 c smF∧Below w.heap.size w w' := by
 obtain ⟨w1,hw1⟩ : ∃ w1,w1=(w.alloc (.cells #[.int .u64 0,.slice (some ⟨g,0,.none⟩) 1 1] 41)).alloc (.cells #[.slice .none 0 0,.int .i64 0] 121) := ⟨_,rfl⟩
 have b1 : Below w.heap.size w w1 := by rw [hw1]; exact ((Below.refl _ _).alloc (Nat.le_refl _) _).alloc (by simp) _
 have k0 : w1.cell? ⟨w.heap.size,0,.none⟩=some (.int .u64 0) := by rw [hw1]; simp
 have k1 : w1.cell? ⟨w.heap.size,1,.none⟩=some (.slice (some ⟨g,0,.none⟩) 1 1) := by rw [hw1]; simp
 have k2 : w1.cell? ⟨w.heap.size+1,0,.none⟩=some (.slice .none 0 0) := by rw [hw1]; simp
 have k3 : w1.cell? ⟨w.heap.size+1,1,.none⟩=some (.int .i64 0) := by rw [hw1]; simp
 have k4 : ∀ i,w1.frozen? ⟨w.heap.size+1,i,.none⟩=false := fun i => by
  have := World.frozen?_alloc_new (w.alloc (.cells #[.int .u64 0,.slice (some ⟨g,0,.none⟩) 1 1] 41)) #[.slice .none 0 0,.int .i64 0] 121 i
  rw [hw1]
  rwa [World.size_alloc] at this
 have z1 : w1.heap.size=w.heap.size+1+1 := by rw [hw1]; simp
 have HS : Hid (Sm w1 g d∧Below w.heap.size w w1) := ⟨h.below b1,b1⟩
 have HK : Hid (∀ i,w1.frozen? ⟨w.heap.size+1,i,.none⟩=false) := k4
 clear h k4
 go_enter Tryz.func71,Tryz.ntmps71
 go_upto_region 1 with fail
 rw [← hw1]
 clear hw1 b1
 obtain ⟨x,hx⟩ : ∃ x,x=w.heap.size := ⟨_,rfl⟩
 rw [← hx] at k0 k1 k2 k3 HK ⊢
 have HX : Hid (x=w.heap.size∧w1.heap.size=x+1+1) := ⟨hx,by omega⟩
 clear hx z1
 have cF := formS_any HS.out.1
 go_upto_region 2 with (go_at_call 129; refine cF.mono ?_; rintro _ w2 ⟨rfl,b2⟩; have H2 : Hid (Below w1.heap.size w1 w2) := b2; clear b2 cF)
 obtain ⟨w3,hw3⟩ : ∃ w3,w3=w2.alloc (.cells #[.slice .none 0 0,.int .i64 0] 121) := ⟨_,rfl⟩
 have b3 : Below w2.heap.size w2 w3 := by rw [hw3]; exact (Below.refl _ _).alloc (Nat.le_refl _) _
 have f0 : w3.cell? ⟨w2.heap.size,0,.none⟩=some (.slice .none 0 0) := by rw [hw3]; simp
 have f1 : w3.cell? ⟨w2.heap.size,1,.none⟩=some (.int .i64 0) := by rw [hw3]; simp
 rw [← hw3]
 clear hw3
 obtain ⟨y,hy⟩ : ∃ y,y=w2.heap.size := ⟨_,rfl⟩
 rw [← hy] at f0 f1 ⊢
 have hyx : y≠x+1 := by have h1 := H2.out.size; have h2 := HX.out.2; omega
 clear hy
 have B3 : Hid (Below w1.heap.size w1 w3) := H2.out.trans (b3.mono H2.out.size)
 clear b3
 have cA := any_any w3 (.agg #[.slice .none 0 0,.int .i64 0]) 0 0 (.inr ⟨rfl,rfl⟩)
 rw [show decide ((0:Int)≠0)=false by decide] at cA
 go_upto_region 4 with (go_at_call 120; refine cA.mono ?_; rintro _ w4 ⟨rfl,b4⟩; have H4 : Hid (Below w3.heap.size w3 w4∧Below w1.heap.size w1 w4) := ⟨b4,B3.out.trans (b4.mono B3.out.size)⟩; clear b4 cA)
 have HSm : Hid (Sm w4 g d) := HS.out.1.below H4.out.2
 replace f0 := (H4.out.1.cell (lt_of_cell f0)).trans f0
 replace f1 := (H4.out.1.cell (lt_of_cell f1)).trans f1
 replace k0 := (H4.out.2.cell (lt_of_cell k0)).trans k0
 replace k1 := (H4.out.2.cell (lt_of_cell k1)).trans k1
 have g2 : w4.cell? ⟨x+1,0,.none⟩=some (.slice .none 0 0) := (H4.out.2.cell (lt_of_cell k2)).trans k2
 have g3 : w4.cell? ⟨x+1,1,.none⟩=some (.int .i64 0) := (H4.out.2.cell (lt_of_cell k3)).trans k3
 have g4 : w4.frozen? ⟨x+1,0,.none⟩=false := (H4.out.2.frozen (p:=⟨x+1,0,.none⟩) (lt_of_cell k2)).trans (HK.out 0)
 have g5 : w4.frozen? ⟨x+1,1,.none⟩=false := (H4.out.2.frozen (p:=⟨x+1,1,.none⟩) (lt_of_cell k3)).trans (HK.out 1)
 have HB4 : Hid (Below w.heap.size w w4) := HS.out.2.trans (H4.out.2.mono HS.out.2.size)
 clear k2 k3 HK H4 B3 H2 HS
 have s0 := HSm.out.s0
 have s1 := HSm.out.s1
 have s2 := HSm.out.s2
 have s3 := HSm.out.s3
 go_wp2_with fail
 go_loopw [5,6] (fun z k wr => wr=w4∧((k = .int .i64 0∧z = .int .i64 120)∨(k = .int .i64 1∧z = .int .i64 124))) (fun _ k _ => (1 - intOf k).toNat)
 case atStart => exact ⟨rfl,.inl ⟨rfl,rfl⟩⟩
 case round =>
  obtain ⟨rfl,⟨rfl,rfl⟩ | ⟨rfl,rfl⟩⟩ := hrel
  ·go_wp2_with fail
   exact ⟨⟨trivial,.inr ⟨rfl,rfl⟩⟩,by decide⟩
  go_upto_region 12 with fail
  have hb0 := hd0_byt wr
  generalize hV0 : wr.alloc (.cells #[.int .u8 127,.int .u8 69,.int .u8 76,.int .u8 70,.int .u8 2,.int .u8 1,.int .u8 1,.int .u8 0,.int .u8 0,.int .u8 0,.int .u8 0,.int .u8 0,.int .u8 0,.int .u8 0,.int .u8 0,.int .u8 0] 5)=V0 at hb0 ⊢
  have HP0 : Hid (Byt V0 (some ⟨wr.heap.size,0,.none⟩) 16 16 hd0∧Below wr.heap.size wr V0) := ⟨hb0,by rw [← hV0]; exact (Below.refl _ _).alloc (Nat.le_refl _) _⟩
  generalize (some ⟨wr.heap.size,0,.none⟩ : Option Addr)=q0 at *
  obtain ⟨c0,hc0⟩ : ∃ c0,c0=16 := ⟨_,rfl⟩
  clear hb0 hV0 hc0
  go_upto_region 13 with (first | (go_at_call 131; refine (number_any 2 (by omega) 2 (by omega) _).mono ?_; rintro _ Vn hG; obtain ⟨qn,cn,rfl,hbn,bbn⟩ := gb_byt 2 (nums_len _ _) hG; have HN : Hid (Byt Vn qn 2 cn (nums 2 2)∧Below V0.heap.size V0 Vn) := ⟨hbn,bbn⟩; clear hG hbn bbn) | (go_at_call 130; refine (putQ_any (bytU HP0.out.1 HN.out.2) HN.out.1 (by omega) (by omega)).mono ?_; rintro _ V1 hG; obtain ⟨q1,c1,rfl,hb2,bb2⟩ := gb_byt 18 (by rw [List.length_append,HP0.out.1.1,nums_len]) hG; have HP1 : Hid (Byt V1 q1 18 c1 (hd0 ++ nums 2 2)∧Below wr.heap.size wr V1) := ⟨hb2,HP0.out.2.trans ((HN.out.2.trans (bb2.mono HN.out.2.size)).mono HP0.out.2.size)⟩; clear hG hb2 bb2 HN HP0))
  go_upto_region 14 with (first | (go_at_call 131; refine (number_any 243 (by omega) 2 (by omega) _).mono ?_; rintro _ Vn hG; obtain ⟨qn,cn,rfl,hbn,bbn⟩ := gb_byt 2 (nums_len _ _) hG; have HN : Hid (Byt Vn qn 2 cn (nums 243 2)∧Below V1.heap.size V1 Vn) := ⟨hbn,bbn⟩; clear hG hbn bbn) | (go_at_call 130; refine (putQ_any (bytU HP1.out.1 HN.out.2) HN.out.1 (by omega) (by omega)).mono ?_; rintro _ V2 hG; obtain ⟨q2,c2,rfl,hb2,bb2⟩ := gb_byt 20 (by rw [List.length_append,HP1.out.1.1,nums_len]) hG; have HP2 : Hid (Byt V2 q2 20 c2 (hd0 ++ nums 2 2 ++ nums 243 2)∧Below wr.heap.size wr V2) := ⟨hb2,HP1.out.2.trans ((HN.out.2.trans (bb2.mono HN.out.2.size)).mono HP1.out.2.size)⟩; clear hG hb2 bb2 HN HP1))
  go_upto_region 15 with (first | (go_at_call 131; refine (number_any 1 (by omega) 4 (by omega) _).mono ?_; rintro _ Vn hG; obtain ⟨qn,cn,rfl,hbn,bbn⟩ := gb_byt 4 (nums_len _ _) hG; have HN : Hid (Byt Vn qn 4 cn (nums 1 4)∧Below V2.heap.size V2 Vn) := ⟨hbn,bbn⟩; clear hG hbn bbn) | (go_at_call 130; refine (putQ_any (bytU HP2.out.1 HN.out.2) HN.out.1 (by omega) (by omega)).mono ?_; rintro _ V3 hG; obtain ⟨q3,c3,rfl,hb2,bb2⟩ := gb_byt 24 (by rw [List.length_append,HP2.out.1.1,nums_len]) hG; have HP3 : Hid (Byt V3 q3 24 c3 (hd0 ++ nums 2 2 ++ nums 243 2 ++ nums 1 4)∧Below wr.heap.size wr V3) := ⟨hb2,HP2.out.2.trans ((HN.out.2.trans (bb2.mono HN.out.2.size)).mono HP2.out.2.size)⟩; clear hG hb2 bb2 HN HP2))
  have l3k0 : V3.cell? ⟨x,0,.none⟩=some (.int .u64 0) := (HP3.out.2.cell (lt_of_cell k0)).trans k0
  go_upto_region 16 with (first | (go_at_call 131; refine (number_any 0 (by omega) 8 (by omega) _).mono ?_; rintro _ Vn hG; obtain ⟨qn,cn,rfl,hbn,bbn⟩ := gb_byt 8 (nums_len _ _) hG; have HN : Hid (Byt Vn qn 8 cn (nums 0 8)∧Below V3.heap.size V3 Vn) := ⟨hbn,bbn⟩; clear hG hbn bbn) | (go_at_call 130; refine (putQ_any (bytU HP3.out.1 HN.out.2) HN.out.1 (by omega) (by omega)).mono ?_; rintro _ V4 hG; obtain ⟨q4,c4,rfl,hb2,bb2⟩ := gb_byt 32 (by rw [List.length_append,HP3.out.1.1,nums_len]) hG; have HP4 : Hid (Byt V4 q4 32 c4 (hd0 ++ nums 2 2 ++ nums 243 2 ++ nums 1 4 ++ nums 0 8)∧Below wr.heap.size wr V4) := ⟨hb2,HP3.out.2.trans ((HN.out.2.trans (bb2.mono HN.out.2.size)).mono HP3.out.2.size)⟩; clear hG hb2 bb2 HN HP3))
  go_upto_region 17 with (first | (go_at_call 131; refine (number_any 64 (by omega) 8 (by omega) _).mono ?_; rintro _ Vn hG; obtain ⟨qn,cn,rfl,hbn,bbn⟩ := gb_byt 8 (nums_len _ _) hG; have HN : Hid (Byt Vn qn 8 cn (nums 64 8)∧Below V4.heap.size V4 Vn) := ⟨hbn,bbn⟩; clear hG hbn bbn) | (go_at_call 130; refine (putQ_any (bytU HP4.out.1 HN.out.2) HN.out.1 (by omega) (by omega)).mono ?_; rintro _ V5 hG; obtain ⟨q5,c5,rfl,hb2,bb2⟩ := gb_byt 40 (by rw [List.length_append,HP4.out.1.1,nums_len]) hG; have HP5 : Hid (Byt V5 q5 40 c5 (hd0 ++ nums 2 2 ++ nums 243 2 ++ nums 1 4 ++ nums 0 8 ++ nums 64 8)∧Below wr.heap.size wr V5) := ⟨hb2,HP4.out.2.trans ((HN.out.2.trans (bb2.mono HN.out.2.size)).mono HP4.out.2.size)⟩; clear hG hb2 bb2 HN HP4))
  go_upto_region 18 with (first | (go_at_call 131; refine (number_any 0 (by omega) 12 (by omega) _).mono ?_; rintro _ Vn hG; obtain ⟨qn,cn,rfl,hbn,bbn⟩ := gb_byt 12 (nums_len _ _) hG; have HN : Hid (Byt Vn qn 12 cn (nums 0 12)∧Below V5.heap.size V5 Vn) := ⟨hbn,bbn⟩; clear hG hbn bbn) | (go_at_call 130; refine (putQ_any (bytU HP5.out.1 HN.out.2) HN.out.1 (by omega) (by omega)).mono ?_; rintro _ V6 hG; obtain ⟨q6,c6,rfl,hb2,bb2⟩ := gb_byt 52 (by rw [List.length_append,HP5.out.1.1,nums_len]) hG; have HP6 : Hid (Byt V6 q6 52 c6 (hd0 ++ nums 2 2 ++ nums 243 2 ++ nums 1 4 ++ nums 0 8 ++ nums 64 8 ++ nums 0 12)∧Below wr.heap.size wr V6) := ⟨hb2,HP5.out.2.trans ((HN.out.2.trans (bb2.mono HN.out.2.size)).mono HP5.out.2.size)⟩; clear hG hb2 bb2 HN HP5))
  go_upto_region 19 with (first | (go_at_call 131; refine (number_any 64 (by omega) 2 (by omega) _).mono ?_; rintro _ Vn hG; obtain ⟨qn,cn,rfl,hbn,bbn⟩ := gb_byt 2 (nums_len _ _) hG; have HN : Hid (Byt Vn qn 2 cn (nums 64 2)∧Below V6.heap.size V6 Vn) := ⟨hbn,bbn⟩; clear hG hbn bbn) | (go_at_call 130; refine (putQ_any (bytU HP6.out.1 HN.out.2) HN.out.1 (by omega) (by omega)).mono ?_; rintro _ V7 hG; obtain ⟨q7,c7,rfl,hb2,bb2⟩ := gb_byt 54 (by rw [List.length_append,HP6.out.1.1,nums_len]) hG; have HP7 : Hid (Byt V7 q7 54 c7 (hd0 ++ nums 2 2 ++ nums 243 2 ++ nums 1 4 ++ nums 0 8 ++ nums 64 8 ++ nums 0 12 ++ nums 64 2)∧Below wr.heap.size wr V7) := ⟨hb2,HP6.out.2.trans ((HN.out.2.trans (bb2.mono HN.out.2.size)).mono HP6.out.2.size)⟩; clear hG hb2 bb2 HN HP6))
  go_upto_region 20 with (first | (go_at_call 131; refine (number_any 56 (by omega) 2 (by omega) _).mono ?_; rintro _ Vn hG; obtain ⟨qn,cn,rfl,hbn,bbn⟩ := gb_byt 2 (nums_len _ _) hG; have HN : Hid (Byt Vn qn 2 cn (nums 56 2)∧Below V7.heap.size V7 Vn) := ⟨hbn,bbn⟩; clear hG hbn bbn) | (go_at_call 130; refine (putQ_any (bytU HP7.out.1 HN.out.2) HN.out.1 (by omega) (by omega)).mono ?_; rintro _ V8 hG; obtain ⟨q8,c8,rfl,hb2,bb2⟩ := gb_byt 56 (by rw [List.length_append,HP7.out.1.1,nums_len]) hG; have HP8 : Hid (Byt V8 q8 56 c8 (hd0 ++ nums 2 2 ++ nums 243 2 ++ nums 1 4 ++ nums 0 8 ++ nums 64 8 ++ nums 0 12 ++ nums 64 2 ++ nums 56 2)∧Below wr.heap.size wr V8) := ⟨hb2,HP7.out.2.trans ((HN.out.2.trans (bb2.mono HN.out.2.size)).mono HP7.out.2.size)⟩; clear hG hb2 bb2 HN HP7))
  have l8k1 : V8.cell? ⟨x,1,.none⟩=some (.slice (some ⟨g,0,.none⟩) 1 1) := (HP8.out.2.cell (lt_of_cell k1)).trans k1
  go_upto_region 21 with (first | (go_at_call 131; refine (number_any 1 (by omega) 2 (by omega) _).mono ?_; rintro _ Vn hG; obtain ⟨qn,cn,rfl,hbn,bbn⟩ := gb_byt 2 (nums_len _ _) hG; have HN : Hid (Byt Vn qn 2 cn (nums 1 2)∧Below V8.heap.size V8 Vn) := ⟨hbn,bbn⟩; clear hG hbn bbn) | (go_at_call 130; refine (putQ_any (bytU HP8.out.1 HN.out.2) HN.out.1 (by omega) (by omega)).mono ?_; rintro _ V9 hG; obtain ⟨q9,c9,rfl,hb2,bb2⟩ := gb_byt 58 (by rw [List.length_append,HP8.out.1.1,nums_len]) hG; have HP9 : Hid (Byt V9 q9 58 c9 (hd0 ++ nums 2 2 ++ nums 243 2 ++ nums 1 4 ++ nums 0 8 ++ nums 64 8 ++ nums 0 12 ++ nums 64 2 ++ nums 56 2 ++ nums 1 2)∧Below wr.heap.size wr V9) := ⟨hb2,HP8.out.2.trans ((HN.out.2.trans (bb2.mono HN.out.2.size)).mono HP8.out.2.size)⟩; clear hG hb2 bb2 HN HP8))
  go_upto_region 22 with (first | (go_at_call 131; refine (number_any 0 (by omega) 6 (by omega) _).mono ?_; rintro _ Vn hG; obtain ⟨qn,cn,rfl,hbn,bbn⟩ := gb_byt 6 (nums_len _ _) hG; have HN : Hid (Byt Vn qn 6 cn (nums 0 6)∧Below V9.heap.size V9 Vn) := ⟨hbn,bbn⟩; clear hG hbn bbn) | (go_at_call 130; refine (putQ_any (bytU HP9.out.1 HN.out.2) HN.out.1 (by omega) (by omega)).mono ?_; rintro _ V10 hG; obtain ⟨q10,c10,rfl,hb2,bb2⟩ := gb_byt 64 (by rw [List.length_append,HP9.out.1.1,nums_len]) hG; have HP10 : Hid (Byt V10 q10 64 c10 (hd0 ++ nums 2 2 ++ nums 243 2 ++ nums 1 4 ++ nums 0 8 ++ nums 64 8 ++ nums 0 12 ++ nums 64 2 ++ nums 56 2 ++ nums 1 2 ++ nums 0 6)∧Below wr.heap.size wr V10) := ⟨hb2,HP9.out.2.trans ((HN.out.2.trans (bb2.mono HN.out.2.size)).mono HP9.out.2.size)⟩; clear hG hb2 bb2 HN HP9))
  have HQ : Hid (Byt V10 q10 64 c10 smH∧Below wr.heap.size wr V10) := HP10.out
  clear HP10
  have l10 : V10.cell? ⟨x,1,.none⟩=some (.slice (some ⟨g,0,.none⟩) 1 1) := (HQ.out.2.cell (lt_of_cell k1)).trans k1
  go_wp2_with fail
  obtain ⟨w4,hw4⟩ : ∃ w4,w4=wr := ⟨_,rfl⟩
  rw [← hw4] at HQ k0 k1 f0 f1 g2 g3 g4 g5 s0 s1 s2 s3 HSm HB4
  clear hw4
  go_loopw [7,8,9] (fun b a k wr => (k = .int .i64 0∧a = .int .i64 120 ∧ ∃ q c,b = .slice q 64 c∧Hid (Byt wr q 64 c smH∧Below w4.heap.size w4 wr))∨(k = .int .i64 1∧a = .int .i64 124 ∧ ∃ q c,b = .slice q 120 c∧Hid (Byt wr q 120 c smS∧Below w4.heap.size w4 wr))) (fun _ _ k _ => (1 - intOf k).toNat)
  case atStart => exact .inl ⟨rfl,rfl,q10,c10,rfl,HQ.out⟩
  case round =>
   rcases hrel with ⟨rfl,rfl,q,c,rfl,HR⟩ | ⟨rfl,rfl,q,c,rfl,HR⟩
   ·have m1 : wr.cell? ⟨x,1,.none⟩=some (.slice (some ⟨g,0,.none⟩) 1 1) := (HR.out.2.cell (lt_of_cell k1)).trans k1
    have t0 := (HR.out.2.cell (lt_of_cell s0)).trans s0
    have t1 := (HR.out.2.cell (lt_of_cell s1)).trans s1
    have t2 := (HR.out.2.cell (lt_of_cell s2)).trans s2
    have t3 := (HR.out.2.cell (lt_of_cell s3)).trans s3
    go_upto_region 27 with fail
    generalize hU : wr.alloc (.cells #[.int .u64 0,.int .u32 5,.slice (some ⟨d,0,.none⟩) 4 4,.int .u64 4] 38)=U
    have bU : Below wr.heap.size wr U := by rw [← hU]; exact (Below.refl _ _).alloc (Nat.le_refl _) _
    have u0 : U.cell? ⟨wr.heap.size,0,.none⟩=some (.int .u64 0) := by rw [← hU]; simp
    have u1 : U.cell? ⟨wr.heap.size,1,.none⟩=some (.int .u32 5) := by rw [← hU]; simp
    have u2 : U.cell? ⟨wr.heap.size,2,.none⟩=some (.slice (some ⟨d,0,.none⟩) 4 4) := by rw [← hU]; simp
    have u3 : U.cell? ⟨wr.heap.size,3,.none⟩=some (.int .u64 4) := by rw [← hU]; simp
    clear hU
    have HW : Hid (Below w4.heap.size w4 U) := HR.out.2.trans (bU.mono HR.out.2.size)
    have HQ0 : Hid (Byt U q 64 c smH) := bytU HR.out.1 bU
    generalize wr.heap.size=gb at *
    clear HR bU t0 t1 t2 t3 m1
    obtain ⟨V0,hV0⟩ : ∃ V,V=U := ⟨_,rfl⟩
    obtain ⟨wr,hwr⟩ : ∃ V,V=U := ⟨_,rfl⟩
    have HP0 : Hid (Byt V0 q 64 c smH∧Below wr.heap.size wr V0) := by rw [hV0,hwr]; exact ⟨HQ0.out,Below.refl _ _⟩
    rw [← hwr] at u0 u1 u2 u3 HW
    rw [← hV0]
    clear HQ0 hwr hV0
    go_upto_region 28 with (first | (go_at_call 131; refine (number_any 1 (by omega) 4 (by omega) _).mono ?_; rintro _ Vn hG; obtain ⟨qn,cn,rfl,hbn,bbn⟩ := gb_byt 4 (nums_len _ _) hG; have HN : Hid (Byt Vn qn 4 cn (nums 1 4)∧Below V0.heap.size V0 Vn) := ⟨hbn,bbn⟩; clear hG hbn bbn) | (go_at_call 130; refine (putQ_any (bytU HP0.out.1 HN.out.2) HN.out.1 (by omega) (by omega)).mono ?_; rintro _ V1 hG; obtain ⟨q1,c1,rfl,hb2,bb2⟩ := gb_byt 68 (by rw [List.length_append,HP0.out.1.1,nums_len]) hG; have HP1 : Hid (Byt V1 q1 68 c1 (smH ++ nums 1 4)∧Below wr.heap.size wr V1) := ⟨hb2,HP0.out.2.trans ((HN.out.2.trans (bb2.mono HN.out.2.size)).mono HP0.out.2.size)⟩; clear hG hb2 bb2 HN HP0))
    have l1u1 : V1.cell? ⟨gb,1,.none⟩=some (.int .u32 5) := (HP1.out.2.cell (lt_of_cell u1)).trans u1
    go_upto_region 29 with (first | (go_at_call 131; refine (number_any 5 (by omega) 4 (by omega) _).mono ?_; rintro _ Vn hG; obtain ⟨qn,cn,rfl,hbn,bbn⟩ := gb_byt 4 (nums_len _ _) hG; have HN : Hid (Byt Vn qn 4 cn (nums 5 4)∧Below V1.heap.size V1 Vn) := ⟨hbn,bbn⟩; clear hG hbn bbn) | (go_at_call 130; refine (putQ_any (bytU HP1.out.1 HN.out.2) HN.out.1 (by omega) (by omega)).mono ?_; rintro _ V2 hG; obtain ⟨q2,c2,rfl,hb2,bb2⟩ := gb_byt 72 (by rw [List.length_append,HP1.out.1.1,nums_len]) hG; have HP2 : Hid (Byt V2 q2 72 c2 (smH ++ nums 1 4 ++ nums 5 4)∧Below wr.heap.size wr V2) := ⟨hb2,HP1.out.2.trans ((HN.out.2.trans (bb2.mono HN.out.2.size)).mono HP1.out.2.size)⟩; clear hG hb2 bb2 HN HP1))
    go_upto_region 30 with (first | (go_at_call 131; refine (number_any 120 (by omega) 8 (by omega) _).mono ?_; rintro _ Vn hG; obtain ⟨qn,cn,rfl,hbn,bbn⟩ := gb_byt 8 (nums_len _ _) hG; have HN : Hid (Byt Vn qn 8 cn (nums 120 8)∧Below V2.heap.size V2 Vn) := ⟨hbn,bbn⟩; clear hG hbn bbn) | (go_at_call 130; refine (putQ_any (bytU HP2.out.1 HN.out.2) HN.out.1 (by omega) (by omega)).mono ?_; rintro _ V3 hG; obtain ⟨q3,c3,rfl,hb2,bb2⟩ := gb_byt 80 (by rw [List.length_append,HP2.out.1.1,nums_len]) hG; have HP3 : Hid (Byt V3 q3 80 c3 (smH ++ nums 1 4 ++ nums 5 4 ++ nums 120 8)∧Below wr.heap.size wr V3) := ⟨hb2,HP2.out.2.trans ((HN.out.2.trans (bb2.mono HN.out.2.size)).mono HP2.out.2.size)⟩; clear hG hb2 bb2 HN HP2))
    have l3u0 : V3.cell? ⟨gb,0,.none⟩=some (.int .u64 0) := (HP3.out.2.cell (lt_of_cell u0)).trans u0
    go_upto_region 31 with (first | (go_at_call 131; refine (number_any 0 (by omega) 8 (by omega) _).mono ?_; rintro _ Vn hG; obtain ⟨qn,cn,rfl,hbn,bbn⟩ := gb_byt 8 (nums_len _ _) hG; have HN : Hid (Byt Vn qn 8 cn (nums 0 8)∧Below V3.heap.size V3 Vn) := ⟨hbn,bbn⟩; clear hG hbn bbn) | (go_at_call 130; refine (putQ_any (bytU HP3.out.1 HN.out.2) HN.out.1 (by omega) (by omega)).mono ?_; rintro _ V4 hG; obtain ⟨q4,c4,rfl,hb2,bb2⟩ := gb_byt 88 (by rw [List.length_append,HP3.out.1.1,nums_len]) hG; have HP4 : Hid (Byt V4 q4 88 c4 (smH ++ nums 1 4 ++ nums 5 4 ++ nums 120 8 ++ nums 0 8)∧Below wr.heap.size wr V4) := ⟨hb2,HP3.out.2.trans ((HN.out.2.trans (bb2.mono HN.out.2.size)).mono HP3.out.2.size)⟩; clear hG hb2 bb2 HN HP3))
    have l4u0 : V4.cell? ⟨gb,0,.none⟩=some (.int .u64 0) := (HP4.out.2.cell (lt_of_cell u0)).trans u0
    go_upto_region 32 with (first | (go_at_call 131; refine (number_any 0 (by omega) 8 (by omega) _).mono ?_; rintro _ Vn hG; obtain ⟨qn,cn,rfl,hbn,bbn⟩ := gb_byt 8 (nums_len _ _) hG; have HN : Hid (Byt Vn qn 8 cn (nums 0 8)∧Below V4.heap.size V4 Vn) := ⟨hbn,bbn⟩; clear hG hbn bbn) | (go_at_call 130; refine (putQ_any (bytU HP4.out.1 HN.out.2) HN.out.1 (by omega) (by omega)).mono ?_; rintro _ V5 hG; obtain ⟨q5,c5,rfl,hb2,bb2⟩ := gb_byt 96 (by rw [List.length_append,HP4.out.1.1,nums_len]) hG; have HP5 : Hid (Byt V5 q5 96 c5 (smH ++ nums 1 4 ++ nums 5 4 ++ nums 120 8 ++ nums 0 8 ++ nums 0 8)∧Below wr.heap.size wr V5) := ⟨hb2,HP4.out.2.trans ((HN.out.2.trans (bb2.mono HN.out.2.size)).mono HP4.out.2.size)⟩; clear hG hb2 bb2 HN HP4))
    have l5u2 : V5.cell? ⟨gb,2,.none⟩=some (.slice (some ⟨d,0,.none⟩) 4 4) := (HP5.out.2.cell (lt_of_cell u2)).trans u2
    go_upto_region 33 with (first | (go_at_call 131; refine (number_any 4 (by omega) 8 (by omega) _).mono ?_; rintro _ Vn hG; obtain ⟨qn,cn,rfl,hbn,bbn⟩ := gb_byt 8 (nums_len _ _) hG; have HN : Hid (Byt Vn qn 8 cn (nums 4 8)∧Below V5.heap.size V5 Vn) := ⟨hbn,bbn⟩; clear hG hbn bbn) | (go_at_call 130; refine (putQ_any (bytU HP5.out.1 HN.out.2) HN.out.1 (by omega) (by omega)).mono ?_; rintro _ V6 hG; obtain ⟨q6,c6,rfl,hb2,bb2⟩ := gb_byt 104 (by rw [List.length_append,HP5.out.1.1,nums_len]) hG; have HP6 : Hid (Byt V6 q6 104 c6 (smH ++ nums 1 4 ++ nums 5 4 ++ nums 120 8 ++ nums 0 8 ++ nums 0 8 ++ nums 4 8)∧Below wr.heap.size wr V6) := ⟨hb2,HP5.out.2.trans ((HN.out.2.trans (bb2.mono HN.out.2.size)).mono HP5.out.2.size)⟩; clear hG hb2 bb2 HN HP5))
    have l6u3 : V6.cell? ⟨gb,3,.none⟩=some (.int .u64 4) := (HP6.out.2.cell (lt_of_cell u3)).trans u3
    go_upto_region 34 with (first | (go_at_call 131; refine (number_any 4 (by omega) 8 (by omega) _).mono ?_; rintro _ Vn hG; obtain ⟨qn,cn,rfl,hbn,bbn⟩ := gb_byt 8 (nums_len _ _) hG; have HN : Hid (Byt Vn qn 8 cn (nums 4 8)∧Below V6.heap.size V6 Vn) := ⟨hbn,bbn⟩; clear hG hbn bbn) | (go_at_call 130; refine (putQ_any (bytU HP6.out.1 HN.out.2) HN.out.1 (by omega) (by omega)).mono ?_; rintro _ V7 hG; obtain ⟨q7,c7,rfl,hb2,bb2⟩ := gb_byt 112 (by rw [List.length_append,HP6.out.1.1,nums_len]) hG; have HP7 : Hid (Byt V7 q7 112 c7 (smH ++ nums 1 4 ++ nums 5 4 ++ nums 120 8 ++ nums 0 8 ++ nums 0 8 ++ nums 4 8 ++ nums 4 8)∧Below wr.heap.size wr V7) := ⟨hb2,HP6.out.2.trans ((HN.out.2.trans (bb2.mono HN.out.2.size)).mono HP6.out.2.size)⟩; clear hG hb2 bb2 HN HP6))
    go_upto_region 35 with (first | (go_at_call 131; refine (number_any 4096 (by omega) 8 (by omega) _).mono ?_; rintro _ Vn hG; obtain ⟨qn,cn,rfl,hbn,bbn⟩ := gb_byt 8 (nums_len _ _) hG; have HN : Hid (Byt Vn qn 8 cn (nums 4096 8)∧Below V7.heap.size V7 Vn) := ⟨hbn,bbn⟩; clear hG hbn bbn) | (go_at_call 130; refine (putQ_any (bytU HP7.out.1 HN.out.2) HN.out.1 (by omega) (by omega)).mono ?_; rintro _ V8 hG; obtain ⟨q8,c8,rfl,hb2,bb2⟩ := gb_byt 120 (by rw [List.length_append,HP7.out.1.1,nums_len]) hG; have HP8 : Hid (Byt V8 q8 120 c8 (smH ++ nums 1 4 ++ nums 5 4 ++ nums 120 8 ++ nums 0 8 ++ nums 0 8 ++ nums 4 8 ++ nums 4 8 ++ nums 4096 8)∧Below wr.heap.size wr V8) := ⟨hb2,HP7.out.2.trans ((HN.out.2.trans (bb2.mono HN.out.2.size)).mono HP7.out.2.size)⟩; clear hG hb2 bb2 HN HP7))
    have HZ : Hid (Byt V8 q8 120 c8 smS∧Below w4.heap.size w4 V8) := ⟨HP8.out.1,HW.out.trans (HP8.out.2.mono HW.out.size)⟩
    have l82 : V8.cell? ⟨gb,2,.none⟩=some (.slice (some ⟨d,0,.none⟩) 4 4) := (HP8.out.2.cell (lt_of_cell u2)).trans u2
    clear HP8
    go_wp2_with fail
    exact ⟨.inr ⟨rfl,rfl,q8,c8,rfl,HZ.out⟩,by decide⟩
   ·have m1 : wr.cell? ⟨x,1,.none⟩=some (.slice (some ⟨g,0,.none⟩) 1 1) := (HR.out.2.cell (lt_of_cell k1)).trans k1
    go_wp2_with fail
    go_loopw [7,11] (fun b k wr => (k = .int .i64 0 ∧ ∃ q c,b = .slice q 120 c∧Hid (Byt wr q 120 c smS∧Below w4.heap.size w4 wr))∨(k = .int .i64 1 ∧ ∃ q c,b = .slice (some ⟨q,0,.none⟩) 124 c∧Hid (Byt wr (some ⟨q,0,.none⟩) 124 c smF∧Below w4.heap.size w4 wr∧w4.heap.size≤q))) (fun _ k _ => (1 - intOf k).toNat)
    case atStart => exact .inl ⟨rfl,q,c,rfl,HR.out⟩
    case round =>
     clear m1
     rcases hrel with ⟨rfl,q,c,rfl,HR⟩ | ⟨rfl,q,c,rfl,HR⟩
     ·have m1 : wr.cell? ⟨x,1,.none⟩=some (.slice (some ⟨g,0,.none⟩) 1 1) := (HR.out.2.cell (lt_of_cell k1)).trans k1
      have t2 := (HR.out.2.cell (lt_of_cell s2)).trans s2
      have HM := HSm.out.below HR.out.2
      have hbd : Byt wr (some ⟨d,0,.none⟩) 4 4 [115,0,0,0] := by
       refine ⟨rfl,Nat.le_refl _,by decide,.inr ⟨d,0,rfl,lt_of_cell HM.d0,fun i z hz => ?_⟩⟩
       have hi : i<4 := (List.getElem?_eq_some_iff.1 hz).1
       rcases (show i=0∨i=1∨i=2∨i=3 by omega) with rfl | rfl | rfl | rfl
       all_goals (simp at hz; subst hz)
       ·exact HM.d0
       ·exact HM.d1
       ·exact HM.d2
       ·exact HM.d3
      have cP := putQ_any HR.out.1 hbd (by omega) (by omega)
      clear hbd HM
      go_wp2_with (go_at_call 130; refine cP.mono ?_; rintro _ V hG; obtain ⟨qz,cz,rfl,hqz,hb2,bb2⟩ := gb_bytF 124 (by rw [List.length_append,HR.out.1.1]; rfl) (by omega) hG; have HZ : Hid (Byt V (some ⟨qz,0,.none⟩) 124 cz smF∧Below w4.heap.size w4 V∧w4.heap.size≤qz) := ⟨hb2,HR.out.2.trans (bb2.mono HR.out.2.size),Nat.le_trans HR.out.2.size hqz⟩; clear hG hb2 bb2 cP)
      exact ⟨.inr ⟨rfl,qz,cz,rfl,HZ.out⟩,by decide⟩
     ·have m1 : wr.cell? ⟨x,1,.none⟩=some (.slice (some ⟨g,0,.none⟩) 1 1) := (HR.out.2.1.cell (lt_of_cell k1)).trans k1
      have F0 := (HR.out.2.1.cell (lt_of_cell f0)).trans f0
      have F1 := (HR.out.2.1.cell (lt_of_cell f1)).trans f1
      have G2 := (HR.out.2.1.cell (lt_of_cell g2)).trans g2
      have G3 := (HR.out.2.1.cell (lt_of_cell g3)).trans g3
      have G4 : wr.frozen? ⟨x+1,0,.none⟩=false := (HR.out.2.1.frozen (p:=⟨x+1,0,.none⟩) (lt_of_cell g2)).trans g4
      have G5 : wr.frozen? ⟨x+1,1,.none⟩=false := (HR.out.2.1.frozen (p:=⟨x+1,1,.none⟩) (lt_of_cell g3)).trans g5
      go_upto_region 40 with fail
      go_region
      go_wp2_with fail
      have hxl : x+1<w4.heap.size := lt_of_cell g2
      have hq := HR.out.2.2
      have hb9 : Below w.heap.size w wr := HB4.out.trans (HR.out.2.1.mono HB4.out.size)
      have hxw := HX.out.1
      refine bodyPost_ret (v:=.tuple #[.slice (some ⟨q,0,.none⟩) 124 c,.agg #[.slice .none 0 0,.int .i64 0]]) ?_ rfl ⟨_,c,rfl,?_,?_⟩
      ·simp [results,Tryz.results71,go_sem,G2,G3]
      ·obtain ⟨h1,h2,h3,h4⟩ := HR.out.1
       refine ⟨h1,h2,h3,.inr ⟨q,0,rfl,?_,fun i z hz => ?_⟩⟩
       ·rcases h4 with h4 | ⟨b,o,e,h5,h6⟩
        ·omega
        ·cases e; show q < _; simp only [World.drew,World.size_setCell]; exact h5
       ·rcases h4 with h4 | ⟨b,o,e,h5,h6⟩
        ·omega
        ·cases e
         show ((wr.setCell ⟨x+1,0,.none⟩ (.slice none 0 0)).setCell ⟨x+1,1,.none⟩ (.int .i64 0)).cell? ⟨q,0+i,.none⟩ = _
         rw [World.cell?_setCell_other _ _ _ _ (by simp only [ne_eq,Addr.mk.injEq,not_and]; intro e; omega),World.cell?_setCell_other _ _ _ _ (by simp only [ne_eq,Addr.mk.injEq,not_and]; intro e; omega)]
         exact h6 i z hz
      ·exact ((hb9.setCell (by show w.heap.size≤x+1; omega) _).setCell (by show w.heap.size≤x+1; omega) _).drew
end
end Go.Proofs.YtabnipbdbnmmpaaGreatDoor
