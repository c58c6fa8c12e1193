import Derived.Test.YtabnipbdbnmmpaaGreatDoorSh01
import Derived.Test.YtabnipbdbnmmpaaGreatDoorSh42
import Derived.Laws.MakeOwn
set_option linter.unusedVariables false
set_option linter.unusedSimpArgs false
namespace Go.Proofs.YtabnipbdbnmmpaaGreatDoor
section
open Go.RowKit Go.Shelf
def dmE (r:Int) (xs:List Bs) : Int := if r≠0 then 280 else if 32<xs.length then 281 else if xs.any hz then 282 else if rm xs=false then 283 else 0
def dmN (r e:Int) (xs:List Bs) : Int := if dmE r xs≠0 then 0 else e+6+(e+513) / 512
structure Arg (w:World) (p:Option Addr) (n c:Nat) (xs:List Bs) : Prop where
 tex : Tex w p n c xs
 few : n<100
 len : ∀ x ∈ xs,x.length≤400000
theorem Arg.below {w w':World} {p:Option Addr} {n c:Nat} {xs:List Bs} (h:Arg w p n c xs) (hb:Below w.heap.size w w') : Arg w' p n c xs := ⟨h.tex.below hb,h.few,h.len⟩
def PlP (w:World) (r:Int) (S:List Sg) (xs:List Bs) (en0:Int) (B0:Nat→Int) (en:Ending) (w':World) : Prop :=
 Below w.heap.size w w'∧((dmE r xs≠0∧en = .returned (.tuple #[.agg #[.int .u64 0,.slice .none 0 0,.slice .none 0 0,.int .u64 0],.int .i64 (dmE r xs)])) ∨
  (dmE r xs=0 ∧ ∃ X q cs E B et pq pn pc sp,en = .returned (.tuple #[.agg #[.int .u64 et,.slice q E.length cs,.slice pq pn pc,.int .u64 sp],.int .i64 0])∧Segs w' X (.slice q E.length cs) E B∧E ≠ []∧E.length≤8∧E.map (·.1)=S∧w.heap.size≤X∧PgB w w' pq pn pc ((ePg S+1)*4096) xs sp∧(∀ i,0≤B i∧B i<256)∧et=en0∧B=B0))
theorem rd_some {n:Nat} {B:Nat→Int} {ha hr:Int} (h:(rdF n B ha hr).1.2=0) (hH:Hd B ha hr) : (rdF n B ha hr).2 ≠ [] := by
 unfold rdF at *
 split at h
 ·simp at h
 split at h
 ·simp at h
 split at h
 ·rename_i h3
  exact absurd h h3
 split at h
 ·simp at h
 split at h
 ·simp at h
 split at h
 ·rename_i h3
  exact absurd h h3
 split at h
 ·simp at h
 split at h
 ·simp at h
 ·rename_i h1 h2 h3 h4 h5 h6 h7 h8
  rw [if_neg h1,if_neg h2,if_neg h3,if_neg h4,if_neg h5,if_neg h6,if_neg h7,if_neg h8]
  intro e
  have e : (lp n B (cntB B) (froB B) []).2 = [] := e
  exact h7 (by rw [e]; rfl)
theorem dm_file {r:Int} {xs:List Bs} (h:r≠0) : dmE r xs=280 := by simp [dmE,h]
theorem dm_args {r:Int} {xs:List Bs} (h:r=0) (h1:32<xs.length) : dmE r xs=281 := by simp [dmE,h,h1]
theorem dm_arg {r:Int} {xs:List Bs} (h:r=0) (h1:xs.length≤32) (h2:xs.any hz=true) : dmE r xs=282 := by
 unfold dmE
 rw [if_neg (by omega),if_neg (by omega),if_pos h2]
theorem dm_stack {r:Int} {xs:List Bs} (h:r=0) (h1:xs.length≤32) (h2:xs.any hz=false) (h3:rm xs=false) : dmE r xs=283 := by
 unfold dmE
 rw [if_neg (by omega),if_neg (by omega),if_neg (by simp [h2]),if_pos h3]
theorem dm_ok {r:Int} {xs:List Bs} (h:r=0) (h1:xs.length≤32) (h2:xs.any hz=false) (h3:rm xs=true) : dmE r xs=0 := by
 unfold dmE
 rw [if_neg (by omega),if_neg (by omega),if_neg (by simp [h2]),if_neg (by simp [h3])]
theorem C4.other {w:World} {x y:Nat} {a b c d:Value} (h:C4 w x a b c d) (hy:x≠y) (k:Nat) (v:Value) : C4 (w.setCell ⟨y,k,.none⟩ v) x a b c d := by
 have hc : ∀ i,(w.setCell ⟨y,k,.none⟩ v).cell? ⟨x,i,.none⟩=w.cell? ⟨x,i,.none⟩ := fun i => World.cell?_setCell_other _ _ _ _ (by simp only [ne_eq,Addr.mk.injEq,not_and]; intro e; omega)
 exact ⟨(hc 0).trans h.a,(hc 1).trans h.b,(hc 2).trans h.c,(hc 3).trans h.d,fun i => by rw [World.frozen?_setCell]; exact h.f i⟩
set_option maxRecDepth 10000 in
set_option maxHeartbeats 4000000 in
theorem planOf_any {W:World} {b o fn fc:Nat} {B:Nat→Int} (hL:Laid W) (hrow:Row W b o fn B) (hbW:b<W.heap.size) (hB:∀ i,0≤B i∧B i<256) (hc:fn≤fc∧fc≤9223372036854775807) (ha hr:Int) (hH:Hd B ha hr)
  {p:Option Addr} {n c:Nat} {xs:List Bs} (hA:Arg W p n c xs) :
  Calls Tryz.prog 40 #[.slice (some ⟨b,o,.none⟩) fn fc,.slice p n c] W (PlP W (rdF fn B ha hr).1.2 (sgO fn B ha hr) xs (enO fn B ha hr) B) := by
 obtain ⟨W1,hW1⟩ : ∃ W1,W1=W.alloc (.cells #[.int .u64 0,.slice .none 0 0,.slice .none 0 0,.int .u64 0] 92) := ⟨_,rfl⟩
 have b1 : Below W.heap.size W W1 := by rw [hW1]; exact (Below.refl _ _).alloc (Nat.le_refl _) _
 have z1 : W1.heap.size=W.heap.size+1 := by rw [hW1]; simp
 have k1 : C4 W1 W.heap.size (.int .u64 0) (.slice .none 0 0) (.slice .none 0 0) (.int .u64 0) := by
  rw [hW1]
  exact C4.new _ _ _ _ _ _
 have cR := readP (hL.below b1) (hrow.keep b1) (by omega) hB hc ha hr hH
 obtain ⟨r,hr0⟩ : ∃ r,r=(rdF fn B ha hr).1.2 := ⟨_,rfl⟩
 obtain ⟨S,hS⟩ : ∃ S,S=sgO fn B ha hr := ⟨_,rfl⟩
 have hSn : r=0→S ≠ [] := fun h => by
  rw [hS]
  unfold sgO
  rw [if_neg (by rw [← hr0,h]; simp)]
  exact rd_some (by rw [← hr0,h]) hH
 have HX : Hid (r=0→S ≠ []) := hSn
 unfold PO at cR
 rw [← hr0,← hS] at cR ⊢
 have HW : Hid (Below W.heap.size W W1∧C4 W1 W.heap.size (.int .u64 0) (.slice .none 0 0) (.slice .none 0 0) (.int .u64 0)∧Arg W p n c xs) := ⟨b1,k1,hA⟩
 have hlen : xs.length=n := hA.tex.1
 have hn1 : n≤c∧c≤9223372036854775807 := ⟨hA.tex.2.1,hA.tex.2.2.1⟩
 have hfew := hA.few
 have HLn : Hid (xs.length=n) := hlen
 have HBB : Hid (∀ i,0≤B i∧B i<256) := hB
 clear hL hrow hB hH hA b1 k1 hSn hr0 hS hlen
 by_cases h0 : r≠0
 ·go_enter Tryz.func40,Tryz.ntmps40
  go_upto_region 1 with fail
  rw [← hW1]
  clear hW1
  go_upto_region 2 with (go_at_call 85; refine cR.mono ?_; rintro _ w2 ⟨q,cs,E,v,rfl,eS,sg,hl8,hv,b2⟩; obtain ⟨fb,rfl⟩ : ∃ fb,v = .iface 86 (.pointer (some ⟨fb,0,.none⟩)) := (by rcases hv with ⟨_,fb,_,_,e,_⟩ | ⟨h,_⟩; exact ⟨fb,e⟩; exact absurd h h0); have H2 : Hid (Below W.heap.size W w2∧C4 w2 W.heap.size (.int .u64 0) (.slice .none 0 0) (.slice .none 0 0) (.int .u64 0)∧Segs w2 W1.heap.size (.slice q E.length cs) E B∧E.length≤8∧E.map (·.1)=S) := ⟨HW.out.1.trans (b2.mono (by omega)),HW.out.2.1.below b2,sg,hl8,eS⟩; clear eS sg hl8 hv b2 cR)
  obtain ⟨w3,hw3⟩ : ∃ w3,w3=w2.alloc (.cells #[.int .u64 (enO fn B ha hr),.slice q E.length cs] 41) := ⟨_,rfl⟩
  have b3 : Below w2.heap.size w2 w3 := by rw [hw3]; exact (Below.refl _ _).alloc (Nat.le_refl _) _
  have p0 : w3.cell? ⟨w2.heap.size,0,.none⟩=some (.int .u64 (enO fn B ha hr)) := by rw [hw3]; simp
  have p1 : w3.cell? ⟨w2.heap.size,1,.none⟩=some (.slice q E.length cs) := by rw [hw3]; simp
  have z3 : w3.heap.size=w2.heap.size+1 := by rw [hw3]; simp
  have H3 : Hid (Below W.heap.size W w3∧C4 w3 W.heap.size (.int .u64 0) (.slice .none 0 0) (.slice .none 0 0) (.int .u64 0)∧Segs w3 W1.heap.size (.slice q E.length cs) E B∧E.length≤8∧E.map (·.1)=S) := ⟨H2.out.1.trans (b3.mono H2.out.1.size),H2.out.2.1.below b3,H2.out.2.2.1.below b3,H2.out.2.2.2⟩
  have HAr : Hid (Arg w3 p n c xs) := HW.out.2.2.below H3.out.1
  have z2 := H2.out.1.size
  rw [← hw3]
  clear hw3 b3 H2
  have k0 := H3.out.2.1.a
  have k1 := H3.out.2.1.b
  have k2 := H3.out.2.1.c
  have k3 := H3.out.2.1.d
  have kf0 := H3.out.2.1.f 0
  have kf1 := H3.out.2.1.f 1
  have kf2 := H3.out.2.1.f 2
  have kf3 := H3.out.2.1.f 3
  go_wp2_with fail
  obtain ⟨s0,s1,s2,s3,_⟩ := H3.out.2.1.set (.int .u64 0) (.slice .none 0 0) (.slice .none 0 0) (.int .u64 0)
  refine bodyPost_ret (v:=.tuple #[.agg #[.int .u64 0,.slice .none 0 0,.slice .none 0 0,.int .u64 0],.int .i64 280]) (by simp [results,Tryz.results40,go_sem,s0,s1,s2,s3]) rfl ⟨?_,.inl ⟨?_,?_⟩⟩
  ·exact (((H3.out.1.setCell (Nat.le_refl _) _).setCell (Nat.le_refl _) _).setCell (Nat.le_refl _) _).setCell (Nat.le_refl _) _
  ·rw [dm_file h0]; decide
  ·rw [dm_file h0]
 have h0 : r=0 := by omega
 by_cases h32 : 32<n
 ·go_enter Tryz.func40,Tryz.ntmps40
  go_upto_region 1 with fail
  rw [← hW1]
  clear hW1
  go_upto_region 2 with (go_at_call 85; refine cR.mono ?_; rintro _ w2 ⟨q,cs,E,v,rfl,eS,sg,hl8,hv,b2⟩; obtain rfl : v = .nilIface := (by rcases hv with ⟨h,_⟩ | ⟨_,e⟩; exact absurd h0 h; exact e); have H2 : Hid (Below W.heap.size W w2∧C4 w2 W.heap.size (.int .u64 0) (.slice .none 0 0) (.slice .none 0 0) (.int .u64 0)∧Segs w2 W1.heap.size (.slice q E.length cs) E B∧E.length≤8∧E.map (·.1)=S) := ⟨HW.out.1.trans (b2.mono (by omega)),HW.out.2.1.below b2,sg,hl8,eS⟩; clear eS sg hl8 hv b2 cR)
  obtain ⟨w3,hw3⟩ : ∃ w3,w3=w2.alloc (.cells #[.int .u64 (enO fn B ha hr),.slice q E.length cs] 41) := ⟨_,rfl⟩
  have b3 : Below w2.heap.size w2 w3 := by rw [hw3]; exact (Below.refl _ _).alloc (Nat.le_refl _) _
  have p0 : w3.cell? ⟨w2.heap.size,0,.none⟩=some (.int .u64 (enO fn B ha hr)) := by rw [hw3]; simp
  have p1 : w3.cell? ⟨w2.heap.size,1,.none⟩=some (.slice q E.length cs) := by rw [hw3]; simp
  have z3 : w3.heap.size=w2.heap.size+1 := by rw [hw3]; simp
  have H3 : Hid (Below W.heap.size W w3∧C4 w3 W.heap.size (.int .u64 0) (.slice .none 0 0) (.slice .none 0 0) (.int .u64 0)∧Segs w3 W1.heap.size (.slice q E.length cs) E B∧E.length≤8∧E.map (·.1)=S) := ⟨H2.out.1.trans (b3.mono H2.out.1.size),H2.out.2.1.below b3,H2.out.2.2.1.below b3,H2.out.2.2.2⟩
  have HAr : Hid (Arg w3 p n c xs) := HW.out.2.2.below H3.out.1
  have z2 := H2.out.1.size
  rw [← hw3]
  clear hw3 b3 H2
  have k0 := H3.out.2.1.a
  have k1 := H3.out.2.1.b
  have k2 := H3.out.2.1.c
  have k3 := H3.out.2.1.d
  have kf0 := H3.out.2.1.f 0
  have kf1 := H3.out.2.1.f 1
  have kf2 := H3.out.2.1.f 2
  have kf3 := H3.out.2.1.f 3
  have h32' : (32:Int)<n := by omega
  go_wp2_with fail
  obtain ⟨s0,s1,s2,s3,_⟩ := H3.out.2.1.set (.int .u64 0) (.slice .none 0 0) (.slice .none 0 0) (.int .u64 0)
  refine bodyPost_ret (v:=.tuple #[.agg #[.int .u64 0,.slice .none 0 0,.slice .none 0 0,.int .u64 0],.int .i64 281]) (by simp [results,Tryz.results40,go_sem,s0,s1,s2,s3]) rfl ⟨?_,.inl ⟨?_,?_⟩⟩
  ·exact (((H3.out.1.setCell (Nat.le_refl _) _).setCell (Nat.le_refl _) _).setCell (Nat.le_refl _) _).setCell (Nat.le_refl _) _
  ·rw [dm_args h0 (by rw [HLn.out]; exact h32)]; decide
  ·rw [dm_args h0 (by rw [HLn.out]; exact h32)]
 have h32' : ¬ (32:Int)<n := by omega
 cases hzz : xs.any hz
 case true =>
  have HZ : Hid (xs.any hz=true) := hzz
  clear hzz
  go_enter Tryz.func40,Tryz.ntmps40
  go_upto_region 1 with fail
  rw [← hW1]
  clear hW1
  go_upto_region 2 with (go_at_call 85; refine cR.mono ?_; rintro _ w2 ⟨q,cs,E,v,rfl,eS,sg,hl8,hv,b2⟩; obtain rfl : v = .nilIface := (by rcases hv with ⟨h,_⟩ | ⟨_,e⟩; exact absurd h0 h; exact e); have H2 : Hid (Below W.heap.size W w2∧C4 w2 W.heap.size (.int .u64 0) (.slice .none 0 0) (.slice .none 0 0) (.int .u64 0)∧Segs w2 W1.heap.size (.slice q E.length cs) E B∧E.length≤8∧E.map (·.1)=S) := ⟨HW.out.1.trans (b2.mono (by omega)),HW.out.2.1.below b2,sg,hl8,eS⟩; clear eS sg hl8 hv b2 cR)
  obtain ⟨w3,hw3⟩ : ∃ w3,w3=w2.alloc (.cells #[.int .u64 (enO fn B ha hr),.slice q E.length cs] 41) := ⟨_,rfl⟩
  have b3 : Below w2.heap.size w2 w3 := by rw [hw3]; exact (Below.refl _ _).alloc (Nat.le_refl _) _
  have p0 : w3.cell? ⟨w2.heap.size,0,.none⟩=some (.int .u64 (enO fn B ha hr)) := by rw [hw3]; simp
  have p1 : w3.cell? ⟨w2.heap.size,1,.none⟩=some (.slice q E.length cs) := by rw [hw3]; simp
  have z3 : w3.heap.size=w2.heap.size+1 := by rw [hw3]; simp
  have H3 : Hid (Below W.heap.size W w3∧C4 w3 W.heap.size (.int .u64 0) (.slice .none 0 0) (.slice .none 0 0) (.int .u64 0)∧Segs w3 W1.heap.size (.slice q E.length cs) E B∧E.length≤8∧E.map (·.1)=S) := ⟨H2.out.1.trans (b3.mono H2.out.1.size),H2.out.2.1.below b3,H2.out.2.2.1.below b3,H2.out.2.2.2⟩
  have HAr : Hid (Arg w3 p n c xs) := HW.out.2.2.below H3.out.1
  have z2 := H2.out.1.size
  rw [← hw3]
  clear hw3 b3 H2
  have k0 := H3.out.2.1.a
  have k1 := H3.out.2.1.b
  have k2 := H3.out.2.1.c
  have k3 := H3.out.2.1.d
  have kf0 := H3.out.2.1.f 0
  have kf1 := H3.out.2.1.f 1
  have kf2 := H3.out.2.1.f 2
  have kf3 := H3.out.2.1.f 3
  have c19 := contains_any p n c xs w3 (by omega) HAr.out.tex
  rw [HZ.out] at c19
  go_wp2_with (go_at_call 86; refine c19.mono ?_; rintro _ _ ⟨rfl,rfl⟩)
  obtain ⟨s0,s1,s2,s3,_⟩ := H3.out.2.1.set (.int .u64 0) (.slice .none 0 0) (.slice .none 0 0) (.int .u64 0)
  refine bodyPost_ret (v:=.tuple #[.agg #[.int .u64 0,.slice .none 0 0,.slice .none 0 0,.int .u64 0],.int .i64 282]) (by simp [results,Tryz.results40,go_sem,s0,s1,s2,s3]) rfl ⟨?_,.inl ⟨?_,?_⟩⟩
  ·exact (((H3.out.1.setCell (Nat.le_refl _) _).setCell (Nat.le_refl _) _).setCell (Nat.le_refl _) _).setCell (Nat.le_refl _) _
  ·rw [dm_arg h0 (by rw [HLn.out]; omega) HZ.out]; decide
  ·rw [dm_arg h0 (by rw [HLn.out]; omega) HZ.out]
 case false =>
  have HZ : Hid (xs.any hz=false) := hzz
  clear hzz
  go_enter Tryz.func40,Tryz.ntmps40
  go_upto_region 1 with fail
  rw [← hW1]
  clear hW1
  go_upto_region 2 with (go_at_call 85; refine cR.mono ?_; rintro _ w2 ⟨q,cs,E,v,rfl,eS,sg,hl8,hv,b2⟩; obtain rfl : v = .nilIface := (by rcases hv with ⟨h,_⟩ | ⟨_,e⟩; exact absurd h0 h; exact e); have H2 : Hid (Below W.heap.size W w2∧C4 w2 W.heap.size (.int .u64 0) (.slice .none 0 0) (.slice .none 0 0) (.int .u64 0)∧Segs w2 W1.heap.size (.slice q E.length cs) E B∧E.length≤8∧E.map (·.1)=S) := ⟨HW.out.1.trans (b2.mono (by omega)),HW.out.2.1.below b2,sg,hl8,eS⟩; clear eS sg hl8 hv b2 cR)
  obtain ⟨w3,hw3⟩ : ∃ w3,w3=w2.alloc (.cells #[.int .u64 (enO fn B ha hr),.slice q E.length cs] 41) := ⟨_,rfl⟩
  have b3 : Below w2.heap.size w2 w3 := by rw [hw3]; exact (Below.refl _ _).alloc (Nat.le_refl _) _
  have p0 : w3.cell? ⟨w2.heap.size,0,.none⟩=some (.int .u64 (enO fn B ha hr)) := by rw [hw3]; simp
  have p1 : w3.cell? ⟨w2.heap.size,1,.none⟩=some (.slice q E.length cs) := by rw [hw3]; simp
  have z3 : w3.heap.size=w2.heap.size+1 := by rw [hw3]; simp
  have H3 : Hid (Below W.heap.size W w3∧C4 w3 W.heap.size (.int .u64 0) (.slice .none 0 0) (.slice .none 0 0) (.int .u64 0)∧Segs w3 W1.heap.size (.slice q E.length cs) E B∧E.length≤8∧E.map (·.1)=S) := ⟨H2.out.1.trans (b3.mono H2.out.1.size),H2.out.2.1.below b3,H2.out.2.2.1.below b3,H2.out.2.2.2⟩
  have HAr : Hid (Arg w3 p n c xs) := HW.out.2.2.below H3.out.1
  have z2 := H2.out.1.size
  rw [← hw3]
  have B3 : Hid (Below w2.heap.size w2 w3∧Segs w2 W1.heap.size (.slice q E.length cs) E B∧Below W.heap.size W w2) := ⟨b3,H2.out.2.2.1,H2.out.1⟩
  clear hw3 b3 H2
  have k0 := H3.out.2.1.a
  have k1 := H3.out.2.1.b
  have k2 := H3.out.2.1.c
  have k3 := H3.out.2.1.d
  have kf0 := H3.out.2.1.f 0
  have kf1 := H3.out.2.1.f 1
  have kf2 := H3.out.2.1.f 2
  have kf3 := H3.out.2.1.f 3
  have c19 := contains_any p n c xs w3 (by omega) HAr.out.tex
  rw [HZ.out] at c19
  clear k0 k1 k2 k3 kf0 kf1 kf2 kf3
  go_upto_region 10 with (go_at_call 86; refine c19.mono ?_; rintro _ w4 ⟨rfl,e4⟩; obtain rfl : w3=w4 := e4.symm)
  obtain ⟨w4,hw4⟩ : ∃ w4,w4=w3.alloc (.cells #[.int .u64 (enO fn B ha hr),.slice q E.length cs,.slice .none 0 0,.int .u64 0] 92) := ⟨_,rfl⟩
  have b4 : Below w3.heap.size w3 w4 := by rw [hw4]; exact (Below.refl _ _).alloc (Nat.le_refl _) _
  have H4 : Hid (Below W.heap.size W w4∧C4 w4 W.heap.size (.int .u64 0) (.slice .none 0 0) (.slice .none 0 0) (.int .u64 0)∧Segs w4 W1.heap.size (.slice q E.length cs) E B∧C4 w4 (w2.heap.size+1) (.int .u64 (enO fn B ha hr)) (.slice q E.length cs) (.slice .none 0 0) (.int .u64 0)∧w2.heap.size+1<w4.heap.size) := ⟨H3.out.1.trans (b4.mono H3.out.1.size),H3.out.2.1.below b4,H3.out.2.2.1.below b4,by rw [← z3,hw4]; exact C4.new _ _ _ _ _ _,by rw [hw4,World.size_alloc]; omega⟩
  have HE : Hid (E ≠ []∧E.length≤8∧E.map (·.1)=S) := ⟨fun e => HX.out h0 (by rw [← H3.out.2.2.2.2,e]; rfl),H3.out.2.2.2⟩
  have hgd := ePg_bound E H3.out.2.2.1.gd
  have HA4 : Hid (Arg w4 p n c xs) := HAr.out.below b4
  have B4 : Hid (Below w2.heap.size w2 w4) := B3.out.1.trans (b4.mono (by omega))
  rw [← hw4]
  clear hw4 b4 p0 p1 H3
  have c22 := stackAt_any H4.out.2.2.1 HE.out.1 HE.out.2.1 (enO fn B ha hr) 0 none 0 0
  have t0 := H4.out.2.2.2.1.a
  have t1 := H4.out.2.2.2.1.b
  have t2 := H4.out.2.2.2.1.c
  have t3 := H4.out.2.2.2.1.d
  obtain ⟨eP,hP⟩ : ∃ eP,eP=ePg (E.map (·.1)) := ⟨_,rfl⟩
  rw [← hP] at c22 hgd
  have HP : Hid (eP=ePg (E.map (·.1))) := hP
  clear hP
  cases hrm : rm xs
  case false =>
   have HM : Hid (rm xs=false) := hrm
   clear hrm
   go_wp2_with first | (go_at_call 89; refine c22.mono ?_; rintro _ w5 ⟨rfl,b5⟩; clear c22) | (go_at_call 88; refine (stackOf_any w5 p n c xs (HA4.out.below b5).tex (by omega) HA4.out.len ((eP+1)*4096) (by omega)).mono ?_; rintro _ w6 ⟨pq,pn,pc,sp,rfl,b6,pb6⟩; have HPB : Hid ((rm xs=true→PgB w5 w6 pq pn pc ((eP+1)*4096) xs sp)∧w2.heap.size+1<w5.heap.size) := ⟨pb6,Nat.lt_of_lt_of_le H4.out.2.2.2.2 b5.size⟩; clear pb6; rw [HM.out]; have b46 := b5.trans (b6.mono b5.size); have B6 : Hid (Below w2.heap.size w2 w6) := B4.out.trans (b46.mono (by have := H4.out.2.2.2.2; omega)); have H6 : Hid (Below W.heap.size W w6∧C4 w6 W.heap.size (.int .u64 0) (.slice .none 0 0) (.slice .none 0 0) (.int .u64 0)∧C4 w6 (w2.heap.size+1) (.int .u64 (enO fn B ha hr)) (.slice q E.length cs) (.slice .none 0 0) (.int .u64 0)) := ⟨H4.out.1.trans (b46.mono H4.out.1.size),H4.out.2.1.below b46,H4.out.2.2.2.1.below b46⟩; clear t0 t1 t2 t3; have t2 := H6.out.2.2.c; have t3 := H6.out.2.2.d; have tf2 := H6.out.2.2.f 2; have tf3 := H6.out.2.2.f 3; have k0 := H6.out.2.1.a; have k1 := H6.out.2.1.b; have k2 := H6.out.2.1.c; have k3 := H6.out.2.1.d; have kf0 := H6.out.2.1.f 0; have kf1 := H6.out.2.1.f 1; have kf2 := H6.out.2.1.f 2; have kf3 := H6.out.2.1.f 3)
   have H7 := (H6.out.2.1.other (y:=w2.heap.size+1) (by omega) 2 (.slice pq pn pc)).other (y:=w2.heap.size+1) (by omega) 3 (.int .u64 sp)
   obtain ⟨s0,s1,s2,s3,_⟩ := H7.set (.int .u64 0) (.slice .none 0 0) (.slice .none 0 0) (.int .u64 0)
   refine bodyPost_ret (v:=.tuple #[.agg #[.int .u64 0,.slice .none 0 0,.slice .none 0 0,.int .u64 0],.int .i64 283]) (by simp [results,Tryz.results40,go_sem,s0,s1,s2,s3]) rfl ⟨?_,.inl ⟨?_,?_⟩⟩
   ·exact (((((H6.out.1.setCell (show W.heap.size≤w2.heap.size+1 by omega) _).setCell (show W.heap.size≤w2.heap.size+1 by omega) _).setCell (Nat.le_refl _) _).setCell (Nat.le_refl _) _).setCell (Nat.le_refl _) _).setCell (Nat.le_refl _) _
   ·rw [dm_stack h0 (by rw [HLn.out]; omega) HZ.out HM.out]; decide
   ·rw [dm_stack h0 (by rw [HLn.out]; omega) HZ.out HM.out]
  case true =>
   have HM : Hid (rm xs=true) := hrm
   clear hrm
   go_wp2_with first | (go_at_call 89; refine c22.mono ?_; rintro _ w5 ⟨rfl,b5⟩; clear c22) | (go_at_call 88; refine (stackOf_any w5 p n c xs (HA4.out.below b5).tex (by omega) HA4.out.len ((eP+1)*4096) (by omega)).mono ?_; rintro _ w6 ⟨pq,pn,pc,sp,rfl,b6,pb6⟩; have HPB : Hid ((rm xs=true→PgB w5 w6 pq pn pc ((eP+1)*4096) xs sp)∧w2.heap.size+1<w5.heap.size) := ⟨pb6,Nat.lt_of_lt_of_le H4.out.2.2.2.2 b5.size⟩; clear pb6; rw [HM.out]; have b46 := b5.trans (b6.mono b5.size); have B6 : Hid (Below w2.heap.size w2 w6) := B4.out.trans (b46.mono (by have := H4.out.2.2.2.2; omega)); have H6 : Hid (Below W.heap.size W w6∧C4 w6 W.heap.size (.int .u64 0) (.slice .none 0 0) (.slice .none 0 0) (.int .u64 0)∧C4 w6 (w2.heap.size+1) (.int .u64 (enO fn B ha hr)) (.slice q E.length cs) (.slice .none 0 0) (.int .u64 0)) := ⟨H4.out.1.trans (b46.mono H4.out.1.size),H4.out.2.1.below b46,H4.out.2.2.2.1.below b46⟩; clear t0 t1 t2 t3; have t0 := H6.out.2.2.a; have t1 := H6.out.2.2.b; have t2 := H6.out.2.2.c; have t3 := H6.out.2.2.d; have tf2 := H6.out.2.2.f 2; have tf3 := H6.out.2.2.f 3; have k0 := H6.out.2.1.a; have k1 := H6.out.2.1.b; have k2 := H6.out.2.1.c; have k3 := H6.out.2.1.d; have kf0 := H6.out.2.1.f 0; have kf1 := H6.out.2.1.f 1; have kf2 := H6.out.2.1.f 2; have kf3 := H6.out.2.1.f 3)
   have H7 := (H6.out.2.1.other (y:=w2.heap.size+1) (by omega) 2 (.slice pq pn pc)).other (y:=w2.heap.size+1) (by omega) 3 (.int .u64 sp)
   obtain ⟨s0,s1,s2,s3,_⟩ := H7.set (.int .u64 (enO fn B ha hr)) (.slice q E.length cs) (.slice pq pn pc) (.int .u64 sp)
   refine bodyPost_ret (v:=.tuple #[.agg #[.int .u64 (enO fn B ha hr),.slice q E.length cs,.slice pq pn pc,.int .u64 sp],.int .i64 0]) (by simp [results,Tryz.results40,go_sem,s0,s1,s2,s3]) rfl ⟨?_,.inr ⟨dm_ok h0 (by rw [HLn.out]; omega) HZ.out HM.out,W1.heap.size,q,cs,E,B,enO fn B ha hr,pq,pn,pc,sp,rfl,?_,HE.out.1,HE.out.2.1,HE.out.2.2,by omega,?_,HBB.out,rfl,rfl⟩⟩
   ·exact (((((H6.out.1.setCell (show W.heap.size≤w2.heap.size+1 by omega) _).setCell (show W.heap.size≤w2.heap.size+1 by omega) _).setCell (Nat.le_refl _) _).setCell (Nat.le_refl _) _).setCell (Nat.le_refl _) _).setCell (Nat.le_refl _) _
   ·have S7 := B3.out.2.1.below ((B6.out.setCell (show w2.heap.size≤w2.heap.size+1 by omega) (.slice pq pn pc) (p:=⟨w2.heap.size+1,2,.none⟩)).setCell (show w2.heap.size≤w2.heap.size+1 by omega) (.int .u64 sp) (p:=⟨w2.heap.size+1,3,.none⟩))
    have hs1 : W.heap.size<W1.heap.size := by omega
    exact (((S7.low (a:=⟨W.heap.size,0,.none⟩) hs1 _).low (a:=⟨W.heap.size,1,.none⟩) hs1 _).low (a:=⟨W.heap.size,2,.none⟩) hs1 _).low (a:=⟨W.heap.size,3,.none⟩) hs1 _
   ·obtain ⟨g,R,hg1,hg2,hg3,hg4,hg5,hg6,hg7⟩ := HPB.out.1 HM.out
    rw [HP.out,HE.out.2.2] at hg7
    have hgs := HPB.out.2
    refine ⟨g,R,hg1,hg2,hg3,by omega,hg5,fun i hi => ?_,hg7⟩
    rw [World.cell?_setCell_other _ _ _ _ (by simp only [ne_eq,Addr.mk.injEq,not_and]; intro e; omega),World.cell?_setCell_other _ _ _ _ (by simp only [ne_eq,Addr.mk.injEq,not_and]; intro e; omega),World.cell?_setCell_other _ _ _ _ (by simp only [ne_eq,Addr.mk.injEq,not_and]; intro e; omega),World.cell?_setCell_other _ _ _ _ (by simp only [ne_eq,Addr.mk.injEq,not_and]; intro e; omega),World.cell?_setCell_other _ _ _ _ (by simp only [ne_eq,Addr.mk.injEq,not_and]; intro e; omega),World.cell?_setCell_other _ _ _ _ (by simp only [ne_eq,Addr.mk.injEq,not_and]; intro e; omega)]
    exact hg6 i hi
end
section
open Go.RowKit Go.Shelf
set_option maxRecDepth 10000 in
set_option maxHeartbeats 4000000 in
theorem demand_any {W:World} {b o fn fc:Nat} {B:Nat→Int} (hL:Laid W) (hrow:Row W b o fn B) (hbW:b<W.heap.size) (hB:∀ i,0≤B i∧B i<256) (hc:fn≤fc∧fc≤9223372036854775807) (ha hr:Int) (hH:Hd B ha hr)
  {p:Option Addr} {n c:Nat} {xs:List Bs} (hA:Arg W p n c xs) :
  Calls Tryz.prog 16 #[.slice (some ⟨b,o,.none⟩) fn fc,.slice p n c] W fun e w' => e = .returned (.tuple #[.int .i64 (dmN (rdF fn B ha hr).1.2 (ePg (sgO fn B ha hr)) xs),.int .i64 (dmE (rdF fn B ha hr).1.2 xs)])∧Below W.heap.size W w' := by
 have cP := planOf_any hL hrow hbW hB hc ha hr hH hA
 generalize (rdF fn B ha hr).1.2=r at cP ⊢
 generalize hSg : sgO fn B ha hr=Sg' at cP ⊢
 clear hSg
 obtain ⟨eP,hEP⟩ : ∃ eP,eP=ePg Sg' := ⟨_,rfl⟩
 rw [← hEP]
 have HEP : Hid (eP=ePg Sg') := hEP
 clear hEP
 clear hL hrow hbW hB hc hH hA
 unfold PlP at cP
 by_cases h0 : dmE r xs≠0
 ·have hN : dmN r eP xs=0 := by simp [dmN,h0]
  rw [hN]
  generalize dmE r xs=d at h0 cP ⊢
  have hd : (d != 0)=true := by simpa using h0
  clear hN
  go_enter Tryz.func16,Tryz.ntmps16
  go_wp2_with (go_at_call 40; refine cP.mono ?_; rintro _ w1 ⟨b1,h1⟩; obtain rfl : _ = _ := (by rcases h1 with ⟨_,h⟩ | ⟨h,_⟩; exact h; exact absurd h h0); clear h1 cP)
  refine bodyPost_ret (v:=.tuple #[.int .i64 0,.int .i64 d]) (by simp [results,Tryz.results16,go_sem]) rfl ⟨rfl,b1.alloc b1.size _⟩
 ·have h0 : dmE r xs=0 := by omega
  have hN : dmN r eP xs=eP+6+(eP+513) / 512 := by simp [dmN,h0]
  rw [hN,h0]
  rw [h0] at cP
  have HN : Hid (dmE r xs=0) := h0
  clear hN h0
  go_enter Tryz.func16,Tryz.ntmps16
  go_upto_region 2 with (go_at_call 40; refine cP.mono ?_; rintro _ w1 ⟨b1,h1⟩; rcases h1 with ⟨h,_⟩ | ⟨_,X,q,cs,E,B',et,pq,pn,pc,sp,rfl,sg,hE,hl,hp,-⟩; exact absurd rfl h)
  have HB : Hid (Below w1.heap.size w1 (w1.alloc (.cells #[.int .u64 et,.slice q E.length cs,.slice pq pn pc,.int .u64 sp] 92))) := (Below.refl _ _).alloc (Nat.le_refl _) _
  have c12 := demandP_any (sg.below HB.out) hE hl et sp pq pn pc
  rw [hp,← HEP.out] at c12
  have HB1 : Hid (Below W.heap.size W w1) := b1
  clear sg hE hl hp cP b1
  go_wp2_with (go_at_call 42; refine c12.mono ?_; rintro _ w2 ⟨rfl,b2⟩)
  refine bodyPost_ret (v:=.tuple #[.int .i64 (eP+6+(eP+513) / 512),.int .i64 0]) (by simp [results,Tryz.results16,go_sem]) rfl ⟨rfl,HB1.out.trans ((HB.out.trans (b2.mono HB.out.size)).mono HB1.out.size)⟩
end
section
open Go.RowKit Go.Shelf
end
section
open Go.RowKit Go.Shelf
def FewP (w:World) (fn n:Nat) (xs:List Bs) (e:Ending) (w':World) : Prop := (∃ r,e = .returned (.bool r)∧(r=true→fn≤400000∧n<100 ∧ ∀ x ∈ xs,x.length≤400000))∧w'=w
set_option maxRecDepth 10000 in
set_option maxHeartbeats 1000000 in
theorem few_any (fp p:Option Addr) (fn fc n c:Nat) (xs:List Bs) (w:World) (h:Tex w p n c xs) (hf:fn≤140737488351232) (hn:n≤140737488351232) (hx:∀ x ∈ xs,x.length≤140737488351232) :
  Calls Tryz.prog 7 #[.slice fp fn fc,.slice p n c] w (FewP w fn n xs) := by
 have HT : Hid (Tex w p n c xs) := h
 have HL : Hid (xs.length=n) := h.1
 have HX : Hid (∀ x ∈ xs,x.length≤140737488351232) := hx
 have hc : n≤c∧c≤9223372036854775807 := ⟨h.2.1,h.2.2.1⟩
 clear h hx
 go_enter Tryz.func7,Tryz.ntmps7
 go_wp2_with fail
 go_loopw [5,6] (fun s k wr => ∃ i : Nat,i≤n∧i≤100∧k = .int .i64 i ∧ ∃ t : Int,s = .int .i64 t∧wr=w∧Hid (fn≤t∧t≤140737488351232*(i+1) ∧ ∀ j x,j<i→xs[j]? = some x→(x.length:Int)≤t)) (fun _ k _ => (n - intOf k).toNat)
 case atStart => exact ⟨0,by omega,by omega,rfl,fn,rfl,rfl,by omega,by omega,fun j x hj => by omega⟩
 case round =>
  obtain ⟨i,hi,hi2,rfl,t,rfl,rfl,HR⟩ := hrel
  have r1 := HR.out.1
  have r2 := HR.out.2.1
  by_cases hlt : i<n∧i<100
  ·have g0 : (i:Int)<n := by omega
   have g1 : (i:Int)<100 := by omega
   obtain ⟨b,o,x,rfl,hxi,a0⟩ := HT.out.at hlt.1
   have hxl := HX.out x (List.mem_of_getElem? hxi)
   have HN : Hid (∀ j y,j<i+1→xs[j]? = some y→(y.length:Int)≤t+x.length) := fun j y hj hy => by
    rcases Nat.lt_or_ge j i with e | e
    ·have := HR.out.2.2 j y e hy; omega
    ·obtain rfl : j=i := by omega
     rw [hxi] at hy
     injection hy with e
     subst e
     omega
   clear hxi
   go_wp2_with fail
   exact ⟨⟨i+1,by omega,by omega,rfl,t+x.length,rfl,trivial,by omega,by omega,HN.out⟩,by simp only [intOf]; omega⟩
  ·by_cases hn2 : i<n
   ·have g0 : (i:Int)<n := by omega
    obtain rfl : i=100 := by omega
    have g2 : ¬ ((n:Int)<100) := by omega
    go_wp2_with fail
    all_goals go_ret
    all_goals exact ⟨⟨false,rfl,fun h => by cases h⟩,rfl⟩
   ·obtain rfl : i=n := by omega
    have HJ : Hid (t≤400000→(i:Int)<100→fn≤400000∧i<100 ∧ ∀ x ∈ xs,x.length≤400000) := fun h1 h2 => ⟨by omega,by omega,fun x hx => by
     obtain ⟨j,hj⟩ := List.mem_iff_getElem?.1 hx
     have hj2 : j<i := by rw [← HL.out]; exact (List.getElem?_eq_some_iff.1 hj).1
     have := HR.out.2.2 j x hj2 hj
     omega⟩
    by_cases ht : t≤400000
    ·go_wp2_with fail
     go_ret
     exact ⟨⟨_,rfl,fun h => HJ.out ht (of_decide_eq_true h)⟩,rfl⟩
    ·go_wp2_with fail
     go_ret
     exact ⟨⟨false,rfl,fun h => by cases h⟩,rfl⟩
end
end Go.Proofs.YtabnipbdbnmmpaaGreatDoor
