/- Parts: 2. -/
import Derived.Test.YtiifpobhmnplaaaGreatVs13
import Derived.Test.YtiifpobhmnplaaaGreatVs17
import Derived.Test.YtiifpobhmnplaaaGreatVs20
set_option linter.unusedVariables false
set_option linter.unusedSimpArgs false
set_option maxRecDepth 100000
set_option maxHeartbeats 40000000

namespace Go.Proofs.YtiifpobhmnplaaaGreat
open Go.RowKit Go.Shelf
def unitQ (n k:Int):List Rat:=(List.range (min n.toNat 65536)).map fun i:Nat=>if (i:Int)=k then (1:Rat) else 0
theorem unitQ_length (n k:Int):(unitQ n k).length=min n.toNat 65536:=by simp[unitQ]
theorem unitQ_in {n k:Int}{i:Nat}(h:i<min n.toNat 65536):(unitQ n k).getD i 0=if (i:Int)=k then (1:Rat) else 0:=by
 rw[getD_lt (by rw[unitQ_length];exact h)]
 simp[unitQ]
theorem unit_out {w:World}{n k:Int}(hn:n<1)(hn2:n<=9223372036854775807) :
  Calls Tryz.prog 35 #[.int .i64 n,.int .i64 k] w fun e w'=>e=.returned (.slice none 0 0)/\Below w.heap.size w w':=by
 have HC:=Hd (resize_nil (w:=w) (A:=none) (c:=0) (l:=0) hn)
 by_cases hk:0<=k
 .have hk2:¬k<0:=by omega
  go_enter Tryz.func35,Tryz.ntmps35
  go_wp2_with fail
  refine HC.out.mono ?_
  rintro e V ⟨rfl,bb⟩
  go_wp2
  go_ret
  exact ⟨rfl,bb⟩
 .go_enter Tryz.func35,Tryz.ntmps35
  go_wp2_with fail
  refine HC.out.mono ?_
  rintro e V ⟨rfl,bb⟩
  go_wp2
  go_ret
  exact ⟨rfl,bb⟩
theorem unit_far {w:World}{n k:Int}(hn:1<=n)(hn2:n<=9223372036854775807){N:Nat}(hN:min n 65536=(N:Int))(hk:¬(0<=k/\k<(N:Int))) :
  Calls Tryz.prog 35 #[.int .i64 n,.int .i64 k] w fun e w'=>∃g fl,e=.returned (.slice (some ⟨g,0,none⟩) N N)/\w.heap.size<=g/\Row w' g fl/\fl.length=N/\(∀i,i<N->Qc w' (fl.getD i E4.z).a (fl.getD i E4.z).b (fl.getD i E4.z).c (fl.getD i E4.z).d (if (i:Int)=k then (1:Rat) else 0))/\Below w.heap.size w w':=by
 have HC:=Hd (resize_row (Vi.nil w (k:=1) (c:=0) (A:=none) (by decide)) (by decide) (by decide) hn hn2 hN)
 have HK:=Hd hk
 clear hN hn hn2
 by_cases h0:0<=k
 .have h1:¬k<(N:Int):=fun h=>hk ⟨h0,h⟩
  clear hk
  go_enter Tryz.func35,Tryz.ntmps35
  go_wp2_with fail
  refine HC.out.mono ?_
  rintro e V ⟨g,fl,rfl,hg,hr,hl,hq,bb⟩
  have HE:Hid (w.heap.size<=g/\Row V g fl/\fl.length=N/\(∀i,i<N->Qc V (fl.getD i E4.z).a (fl.getD i E4.z).b (fl.getD i E4.z).c (fl.getD i E4.z).d (if (i:Int)=k then (1:Rat) else 0))/\Below w.heap.size w V) :=
   ⟨hg,hr,hl,fun i hi=>by rw[if_neg (by omega)];exact hq i hi,bb⟩
  clear hg hr hl hq bb
  go_wp2
  go_ret
  first|exact ⟨g,fl,rfl,HE.out⟩|exact ⟨g,rfl,HE.out.1,fl,HE.out.2⟩
 .clear hk
  go_enter Tryz.func35,Tryz.ntmps35
  go_wp2_with fail
  refine HC.out.mono ?_
  rintro e V ⟨g,fl,rfl,hg,hr,hl,hq,bb⟩
  have HE:Hid (w.heap.size<=g/\Row V g fl/\fl.length=N/\(∀i,i<N->Qc V (fl.getD i E4.z).a (fl.getD i E4.z).b (fl.getD i E4.z).c (fl.getD i E4.z).d (if (i:Int)=k then (1:Rat) else 0))/\Below w.heap.size w V) :=
   ⟨hg,hr,hl,fun i hi=>by rw[if_neg (by omega)];exact hq i hi,bb⟩
  clear hg hr hl hq bb
  go_wp2
  go_ret
  first|exact ⟨g,fl,rfl,HE.out⟩|exact ⟨g,rfl,HE.out.1,fl,HE.out.2⟩
theorem unit_at {w:World}{n:Int}{k:Nat}(hn:1<=n)(hn2:n<=9223372036854775807){N:Nat}(hN:min n 65536=(N:Int))(hk:k<N) :
  Calls Tryz.prog 35 #[.int .i64 n,.int .i64 (k:Int)] w fun e w'=>∃g fl,e=.returned (.slice (some ⟨g,0,none⟩) N N)/\w.heap.size<=g/\Row w' g fl/\fl.length=N/\(∀i,i<N->Qc w' (fl.getD i E4.z).a (fl.getD i E4.z).b (fl.getD i E4.z).c (fl.getD i E4.z).d (if (i:Int)=(k:Int) then (1:Rat) else 0))/\Below w.heap.size w w':=by
 have HC:=Hd (resize_row (Vi.nil w (k:=1) (c:=0) (A:=none) (by decide)) (by decide) (by decide) hn hn2 hN)
 have HK:=Hd hk
 have h0:(0:Int)<=(k:Int):=by omega
 have h1:(k:Int)<(N:Int):=by omega
 clear hN hn hn2 hk
 go_enter Tryz.func35,Tryz.ntmps35
 go_wp2_with fail
 refine HC.out.mono ?_
 rintro e V ⟨g,fl,rfl,hg,hr,hl,hq,bb⟩
 have HE:=Hd (show w.heap.size<=g/\Row V g fl/\fl.length=N/\(∀i,i<N->Qc V (fl.getD i E4.z).a (fl.getD i E4.z).b (fl.getD i E4.z).c (fl.getD i E4.z).d (([]:List Rat).getD i 0))/\Below w.heap.size w V from ⟨hg,hr,hl,hq,bb⟩)
 clear hg hr hl hq bb
 go_wp2_with fail
 refine (fromInt_q 1 (by decide) (by decide) V).mono ?_
 rintro e U ⟨x1,x2,x3,x4,rfl,q,bb⟩
 obtain ⟨hg,hr,hl,hq,b0⟩:=HE.out
 have R1:=Hd (hr.to bb)
 have R2:Hid (k<fl.length):=by show _<_;have:=HK.out;omega
 have QF:=Hd (show (⟨x1,x2,x3,x4⟩:E4).fq from q.fq)
 have HF:Hid (w.heap.size<=g/\Row (U.setRow g (flat (fl.set k ⟨x1,x2,x3,x4⟩)).toArray) g (fl.set k ⟨x1,x2,x3,x4⟩)/\(fl.set k ⟨x1,x2,x3,x4⟩).length=N/\(∀i,i<N->Qc (U.setRow g (flat (fl.set k ⟨x1,x2,x3,x4⟩)).toArray) ((fl.set k ⟨x1,x2,x3,x4⟩).getD i E4.z).a ((fl.set k ⟨x1,x2,x3,x4⟩).getD i E4.z).b ((fl.set k ⟨x1,x2,x3,x4⟩).getD i E4.z).c ((fl.set k ⟨x1,x2,x3,x4⟩).getD i E4.z).d (if (i:Int)=(k:Int) then (1:Rat) else 0))/\Below w.heap.size w (U.setRow g (flat (fl.set k ⟨x1,x2,x3,x4⟩)).toArray)):=by
  have kw:Kw U (U.setRow g (flat (fl.set k ⟨x1,x2,x3,x4⟩)).toArray):=R1.out.kw
  refine ⟨hg,R1.out.app q.fq,by simpa using hl,fun i hi=>?_,below_setRow (Bxb b0 bb) hg _⟩
  by_cases hik:i=k
  .subst hik
   rw[show (fl.set i (⟨x1,x2,x3,x4⟩:E4)).getD i E4.z=⟨x1,x2,x3,x4⟩ from by simp[List.getD,show i<fl.length by omega],if_pos rfl]
   exact kw.qc q
  .rw[show (fl.set k (⟨x1,x2,x3,x4⟩:E4)).getD i E4.z=fl.getD i E4.z from by simp[List.getD,List.getElem?_set,Ne.symm hik],if_neg (by omega)]
   exact kw.qc ((hq i hi).to bb)
 clear hg hr hl hq b0 bb q HE
 go_wp2_with (refine wpList_storeq rfl (.tmp 19) (.tmp 18) rfl (by rfl) (by rfl) R1.out R2.out QF.out ?_;clear R1)
 go_ret
 exact ⟨g,_,rfl,HF.out⟩
theorem vunit_v {w:World}{n k:Int}(hn2:n<=9223372036854775807):Calls Tryz.prog 35 #[.int .i64 n,.int .i64 k] w (VR w (unitQ n k)):=by
 by_cases hn:n<1
 .refine (unit_out hn hn2).mono ?_
  rintro e w' ⟨rfl,hb⟩
  have h0:unitQ n k=[]:=List.eq_nil_of_length_eq_zero (by rw[unitQ_length];omega)
  rw[h0]
  exact ⟨none,0,[],rfl,Vc.nil _ (by decide),hb⟩
 .have hN:min n 65536=((min n.toNat 65536:Nat):Int):=by omega
  have fin:∀e w',(∃g fl,e=Ending.returned (.slice (some ⟨g,0,none⟩) (min n.toNat 65536) (min n.toNat 65536))/\w.heap.size<=g/\Row w' g fl/\fl.length=min n.toNat 65536/\(∀i,i<min n.toNat 65536->Qc w' (fl.getD i E4.z).a (fl.getD i E4.z).b (fl.getD i E4.z).c (fl.getD i E4.z).d (if (i:Int)=k then (1:Rat) else 0))/\Below w.heap.size w w')->VR w (unitQ n k) e w':=by
   rintro e w' ⟨g,fl,rfl,_,hr,hl,hq,hb⟩
   refine ⟨some ⟨g,0,none⟩,min n.toNat 65536,fl,by rw[unitQ_length],hr.vc hl (unitQ_length ..) (by omega) fun i hi=>?_,hb⟩
   rw[unitQ_in hi]
   exact hq i hi
  by_cases hk:0<=k/\k<((min n.toNat 65536:Nat):Int)
  .obtain ⟨m,rfl⟩:=Int.eq_ofNat_of_zero_le hk.1
   exact (unit_at (by omega) hn2 hN (by omega)).mono fin
  .exact (unit_far (by omega) hn2 hN hk).mono fin
theorem upD_abs {q:Int}(h:q≠0):upD q=(q.natAbs:Int):=by unfold upD;rw[if_neg h];split<;>omega
theorem rgcd_v {w:World}{x y x' y':Value}{a b:Int}(ha:Zl w x y a)(hb:Zl w x' y' b):Calls Tryz.prog 109 #[.agg #[x,y],.agg #[x',y']] w (ZR w (Int.gcd a b:Nat)):=rgcd_z ha hb
theorem rsign_v {w:World}{x y:Value}{a v:Int}(ha:Zl w x y a)(hv:sgn a=v):Calls Tryz.prog 105 #[.agg #[x,y]] w fun e w'=>e=.returned (.int .i64 v)/\Below w.heap.size w w':=by
 subst hv;exact rsign_z ha
theorem rcmp_v {w:World}{x y x' y':Value}{a b v:Int}(ha:Zl w x y a)(hb:Zl w x' y' b)(hv:cmpZ a b=v):Calls Tryz.prog 111 #[.agg #[x,y],.agg #[x',y']] w fun e w'=>e=.returned (.int .i64 v)/\Below w.heap.size w w':=by
 subst hv;exact rcmp_z ha hb
theorem rd_v {w:World}{x y x' y':Value}{a b q:Int}(ha:Zl w x y a)(hb:Zl w x' y' b)(h0:b≠0)(hq:a / b=q):Calls Tryz.prog 110 #[.agg #[x,y],.agg #[x',y']] w (ZE w q (a % b) 0):=by
 subst hq
 have h:=rd_x ha hb
 unfold dr de at h
 rw[if_neg h0,if_neg h0]at h
 exact h
theorem rone_z {w:World} :
  Calls Tryz.prog 107 #[] w (ZR w 1):=by
 obtain ⟨W0,hW0⟩:∃W0,W0=w.alloc (.cells #[.bool false,.slice none 0 0] 24):=⟨_,rfl⟩
 have hbw:Below w.heap.size w W0:=by rw[hW0];exact ((Below.refl _ _).alloc (Nat.le_refl _) _)
 have tR:Two W0 (w.heap.size) (.bool false) (.slice none 0 0):=by
  have h:=Two.new w (.bool false) (.slice none 0 0) 24
  rw[hW0];exact h
 have HW0:=Hd hW0
 have HB:=Hd hbw
 clear hW0 hbw
 go_enter Tryz.func107,Tryz.ntmps107
 go_wp2_with fail
 rw[<-HW0.out]
 clear HW0
 go_wp2_with fail
 refine (rfrom_z 1 (by decide) (by decide) _).mono ?_
 rintro e V1 ⟨x1,y1,rfl,z1,bb⟩
 replace tR:=tR.to bb
 replace HB:=Hxb HB bb
 clear bb
 have RZ:=Hd z1
 obtain ⟨V99,eV,u,kp,_⟩:=pack2 tR Fs.nil x1 y1
 obtain ⟨n1,A1,j1,m1,rfl,rfl⟩:=z1.fs
 obtain ⟨v0,v1,v2,v3,_⟩:=tR
 have EV:=Hd eV
 have KP:=Hd kp
 have U:=Hd u
 clear eV kp u z1
 go_wp2
 rw[EV.out]
 refine bodyPost_ret (v:=.agg #[.bool n1,.slice A1 j1 m1]) (by simp[results,Tryz.f107,go_sem,U.out.c0,U.out.c1]) rfl ?_
 exact ⟨_,_,rfl,KP.out.zc _ _ _ RZ.out,KP.out.bel _ _ HB.out (by omega)⟩
theorem rden_0 {w:World}{a1 a2 a3 a4:Value}{q:Int}(h:Zl w a3 a4 q)(hq:q=0) :
  Calls Tryz.prog 75 #[.agg #[a1,a2,a3,a4]] w (ZR w (upD q)):=by
 rw[show upD q=1 from by unfold upD;rw[if_pos hq]]
 have hs:Hid (sgn q=0):=sgn_zero.2 hq
 clear hq
 obtain ⟨W0,hW0⟩:∃W0,W0=(w.alloc (.cells #[a1,a2,a3,a4] 26)).alloc (.cells #[.bool false,.slice none 0 0] 24):=⟨_,rfl⟩
 have hbw:Below w.heap.size w W0:=by rw[hW0];exact (((Below.refl _ _).alloc (Nat.le_refl _) _).alloc (by simp) _)
 have tA:Four W0 (w.heap.size) a1 a2 a3 a4:=by
  have h:=Four.new w a1 a2 a3 a4 26
  rw[hW0];exact (h.alloc _)
 have tR:Two W0 (w.heap.size+1) (.bool false) (.slice none 0 0):=by
  have h:=Two.new (w.alloc (.cells #[a1,a2,a3,a4] 26)) (.bool false) (.slice none 0 0) 24
  rw[World.size_alloc]at h
  rw[hW0];exact h
 replace h:=h.to hbw
 have HW0:=Hd hW0
 have HB:=Hd hbw
 clear hW0 hbw
 go_enter Tryz.func75,Tryz.ntmps75
 go_wp2_with fail
 rw[<-HW0.out]
 clear HW0
 have kktA0:=tA.c0
 have kktA1:=tA.c1
 have kktA2:=tA.c2
 have kktA3:=tA.c3
 go_wp2_with fail
 refine (rsign_v h hs.out).mono ?_
 rintro e V1 ⟨rfl,bb⟩
 clear kktA0 kktA1 kktA2 kktA3
 replace tA:=tA.to bb
 replace tR:=tR.to bb
 replace HB:=Hxb HB bb
 clear bb
 have kktA0:=tA.c0
 have kktA1:=tA.c1
 have kktA2:=tA.c2
 have kktA3:=tA.c3
 go_wp2_with fail
 refine (rone_z).mono ?_
 rintro e V2 ⟨x2,y2,rfl,z2,bb⟩
 clear kktA0 kktA1 kktA2 kktA3
 replace tA:=tA.to bb
 replace tR:=tR.to bb
 replace HB:=Hxb HB bb
 clear bb
 have RZ:=Hd z2
 obtain ⟨V99,eV,u,kp,_⟩:=pack2 tR Fs.nil x2 y2
 obtain ⟨n1,A1,j1,m1,rfl,rfl⟩:=z2.fs
 obtain ⟨v0,v1,v2,v3,_⟩:=tR
 have EV:=Hd eV
 have KP:=Hd kp
 have U:=Hd u
 clear eV kp u z2
 clear tA
 go_wp2
 rw[EV.out]
 refine bodyPost_ret (v:=.agg #[.bool n1,.slice A1 j1 m1]) (by simp[results,Tryz.f75,go_sem,U.out.c0,U.out.c1]) rfl ?_
 exact ⟨_,_,rfl,KP.out.zc _ _ _ RZ.out,KP.out.bel _ _ HB.out (by omega)⟩
theorem rden_n {w:World}{a1 a2 a3 a4:Value}{q:Int}(h:Zl w a3 a4 q)(hq:q≠0) :
  Calls Tryz.prog 75 #[.agg #[a1,a2,a3,a4]] w (ZR w (upD q)):=by
 rw[upD_abs hq]
 obtain ⟨s,es⟩:∃s,sgn q=s:=⟨_,rfl⟩
 have hs0:(s==0)=false:=by rw[beq_eq_false_iff_ne,<-es];exact fun h=>hq (sgn_zero.1 h)
 have hs:=Hd es
 clear hq es
 obtain ⟨W0,hW0⟩:∃W0,W0=(w.alloc (.cells #[a1,a2,a3,a4] 26)).alloc (.cells #[.bool false,.slice none 0 0] 24):=⟨_,rfl⟩
 have hbw:Below w.heap.size w W0:=by rw[hW0];exact (((Below.refl _ _).alloc (Nat.le_refl _) _).alloc (by simp) _)
 have tA:Four W0 (w.heap.size) a1 a2 a3 a4:=by
  have h:=Four.new w a1 a2 a3 a4 26
  rw[hW0];exact (h.alloc _)
 have tR:Two W0 (w.heap.size+1) (.bool false) (.slice none 0 0):=by
  have h:=Two.new (w.alloc (.cells #[a1,a2,a3,a4] 26)) (.bool false) (.slice none 0 0) 24
  rw[World.size_alloc]at h
  rw[hW0];exact h
 replace h:=h.to hbw
 have HW0:=Hd hW0
 have HB:=Hd hbw
 clear hW0 hbw
 go_enter Tryz.func75,Tryz.ntmps75
 go_wp2_with fail
 rw[<-HW0.out]
 clear HW0
 have kktA0:=tA.c0
 have kktA1:=tA.c1
 have kktA2:=tA.c2
 have kktA3:=tA.c3
 go_wp2_with fail
 refine (rsign_v h hs.out).mono ?_
 rintro e V1 ⟨rfl,bb⟩
 clear kktA0 kktA1 kktA2 kktA3
 replace tA:=tA.to bb
 replace tR:=tR.to bb
 replace h:=h.to bb
 replace HB:=Hxb HB bb
 clear bb
 have kktA0:=tA.c0
 have kktA1:=tA.c1
 have kktA2:=tA.c2
 have kktA3:=tA.c3
 go_wp2_with fail
 refine (rabs_z h).mono ?_
 rintro e V2 ⟨x2,y2,rfl,z2,bb⟩
 clear kktA0 kktA1 kktA2 kktA3
 replace tA:=tA.to bb
 replace tR:=tR.to bb
 replace HB:=Hxb HB bb
 clear bb
 have RZ:=Hd z2
 obtain ⟨V99,eV,u,kp,_⟩:=pack2 tR Fs.nil x2 y2
 obtain ⟨n1,A1,j1,m1,rfl,rfl⟩:=z2.fs
 obtain ⟨v0,v1,v2,v3,_⟩:=tR
 have EV:=Hd eV
 have KP:=Hd kp
 have U:=Hd u
 clear eV kp u z2
 clear tA
 go_wp2
 rw[EV.out]
 refine bodyPost_ret (v:=.agg #[.bool n1,.slice A1 j1 m1]) (by simp[results,Tryz.f75,go_sem,U.out.c0,U.out.c1]) rfl ?_
 exact ⟨_,_,rfl,KP.out.zc _ _ _ RZ.out,KP.out.bel _ _ HB.out (by omega)⟩
theorem rden_z {w:World}{a1 a2 a3 a4:Value}{q:Int}(h:Zl w a3 a4 q):Calls Tryz.prog 75 #[.agg #[a1,a2,a3,a4]] w (ZR w (upD q)):=by
 by_cases hq:q=0
 .exact rden_0 h hq
 .exact rden_n h hq
theorem rnum_n {w:World}{a1 a2 a3 a4:Value}{p q:Int}(h1:Zl w a1 a2 p)(h:Zl w a3 a4 q)(hq:q<0) :
  Calls Tryz.prog 74 #[.agg #[a1,a2,a3,a4]] w (ZR w (upN p q)):=by
 rw[show upN p q=-p from by unfold upN;rw[if_pos hq]]
 have hs:Hid (sgn q=-1):=sgn_neg hq
 clear hq
 obtain ⟨W0,hW0⟩:∃W0,W0=(w.alloc (.cells #[a1,a2,a3,a4] 26)).alloc (.cells #[.bool false,.slice none 0 0] 24):=⟨_,rfl⟩
 have hbw:Below w.heap.size w W0:=by rw[hW0];exact (((Below.refl _ _).alloc (Nat.le_refl _) _).alloc (by simp) _)
 have tA:Four W0 (w.heap.size) a1 a2 a3 a4:=by
  have h:=Four.new w a1 a2 a3 a4 26
  rw[hW0];exact (h.alloc _)
 have tR:Two W0 (w.heap.size+1) (.bool false) (.slice none 0 0):=by
  have h:=Two.new (w.alloc (.cells #[a1,a2,a3,a4] 26)) (.bool false) (.slice none 0 0) 24
  rw[World.size_alloc]at h
  rw[hW0];exact h
 replace h1:=h1.to hbw
 replace h:=h.to hbw
 have HW0:=Hd hW0
 have HB:=Hd hbw
 clear hW0 hbw
 go_enter Tryz.func74,Tryz.ntmps74
 go_wp2_with fail
 rw[<-HW0.out]
 clear HW0
 have kktA0:=tA.c0
 have kktA1:=tA.c1
 have kktA2:=tA.c2
 have kktA3:=tA.c3
 go_wp2_with fail
 refine (rsign_v h hs.out).mono ?_
 rintro e V1 ⟨rfl,bb⟩
 clear kktA0 kktA1 kktA2 kktA3
 replace tA:=tA.to bb
 replace tR:=tR.to bb
 replace h1:=h1.to bb
 replace HB:=Hxb HB bb
 clear bb
 have kktA0:=tA.c0
 have kktA1:=tA.c1
 have kktA2:=tA.c2
 have kktA3:=tA.c3
 go_wp2_with fail
 refine (rneg_z h1).mono ?_
 rintro e V2 ⟨x2,y2,rfl,z2,bb⟩
 clear kktA0 kktA1 kktA2 kktA3
 replace tA:=tA.to bb
 replace tR:=tR.to bb
 replace HB:=Hxb HB bb
 clear bb
 have RZ:=Hd z2
 obtain ⟨V99,eV,u,kp,_⟩:=pack2 tR Fs.nil x2 y2
 obtain ⟨n1,A1,j1,m1,rfl,rfl⟩:=z2.fs
 obtain ⟨v0,v1,v2,v3,_⟩:=tR
 have EV:=Hd eV
 have KP:=Hd kp
 have U:=Hd u
 clear eV kp u z2
 clear tA
 go_wp2
 rw[EV.out]
 refine bodyPost_ret (v:=.agg #[.bool n1,.slice A1 j1 m1]) (by simp[results,Tryz.f74,go_sem,U.out.c0,U.out.c1]) rfl ?_
 exact ⟨_,_,rfl,KP.out.zc _ _ _ RZ.out,KP.out.bel _ _ HB.out (by omega)⟩
theorem rnum_p {w:World}{a1 a2 a3 a4:Value}{p q:Int}(h1:Zl w a1 a2 p)(h:Zl w a3 a4 q)(hq:¬q<0) :
  Calls Tryz.prog 74 #[.agg #[a1,a2,a3,a4]] w (ZR w (upN p q)):=by
 rw[show upN p q=p from by unfold upN;rw[if_neg hq]]
 obtain ⟨s,es⟩:∃s,sgn q=s:=⟨_,rfl⟩
 have hs0:¬s<0:=by rw[<-es];unfold sgn;split<;>(try split)<;>omega
 have hs:=Hd es
 clear hq es
 obtain ⟨W0,hW0⟩:∃W0,W0=(w.alloc (.cells #[a1,a2,a3,a4] 26)).alloc (.cells #[.bool false,.slice none 0 0] 24):=⟨_,rfl⟩
 have hbw:Below w.heap.size w W0:=by rw[hW0];exact (((Below.refl _ _).alloc (Nat.le_refl _) _).alloc (by simp) _)
 have tA:Four W0 (w.heap.size) a1 a2 a3 a4:=by
  have h:=Four.new w a1 a2 a3 a4 26
  rw[hW0];exact (h.alloc _)
 have tR:Two W0 (w.heap.size+1) (.bool false) (.slice none 0 0):=by
  have h:=Two.new (w.alloc (.cells #[a1,a2,a3,a4] 26)) (.bool false) (.slice none 0 0) 24
  rw[World.size_alloc]at h
  rw[hW0];exact h
 replace h1:=h1.to hbw
 replace h:=h.to hbw
 have HW0:=Hd hW0
 have HB:=Hd hbw
 clear hW0 hbw
 go_enter Tryz.func74,Tryz.ntmps74
 go_wp2_with fail
 rw[<-HW0.out]
 clear HW0
 have kktA0:=tA.c0
 have kktA1:=tA.c1
 have kktA2:=tA.c2
 have kktA3:=tA.c3
 go_wp2_with fail
 refine (rsign_v h hs.out).mono ?_
 rintro e V1 ⟨rfl,bb⟩
 clear kktA0 kktA1 kktA2 kktA3
 replace tA:=tA.to bb
 replace tR:=tR.to bb
 replace h1:=h1.to bb
 replace HB:=Hxb HB bb
 clear bb
 have kktA0:=tA.c0
 have kktA1:=tA.c1
 have kktA2:=tA.c2
 have kktA3:=tA.c3
 go_wp2_with fail
 refine (rleast_z h1).mono ?_
 rintro e V2 ⟨x2,y2,rfl,z2,bb⟩
 clear kktA0 kktA1 kktA2 kktA3
 replace tA:=tA.to bb
 replace tR:=tR.to bb
 replace HB:=Hxb HB bb
 clear bb
 have RZ:=Hd z2
 obtain ⟨V99,eV,u,kp,_⟩:=pack2 tR Fs.nil x2 y2
 obtain ⟨n1,A1,j1,m1,rfl,rfl⟩:=z2.fs
 obtain ⟨v0,v1,v2,v3,_⟩:=tR
 have EV:=Hd eV
 have KP:=Hd kp
 have U:=Hd u
 clear eV kp u z2
 clear tA
 go_wp2
 rw[EV.out]
 refine bodyPost_ret (v:=.agg #[.bool n1,.slice A1 j1 m1]) (by simp[results,Tryz.f74,go_sem,U.out.c0,U.out.c1]) rfl ?_
 exact ⟨_,_,rfl,KP.out.zc _ _ _ RZ.out,KP.out.bel _ _ HB.out (by omega)⟩
theorem rnum_z {w:World}{a1 a2 a3 a4:Value}{p q:Int}(h1:Zl w a1 a2 p)(h:Zl w a3 a4 q):Calls Tryz.prog 74 #[.agg #[a1,a2,a3,a4]] w (ZR w (upN p q)):=by
 by_cases hq:q<0
 .exact rnum_n h1 h hq
 .exact rnum_p h1 h hq
theorem over_1 {w:World}{n1 n2 d1 d2:Value}{n d:Int}(h1:Zl w n1 n2 n)(h2:Zl w d1 d2 d)(hd:0<d)(hone:(Rat.divInt n d).den=1) :
  Calls Tryz.prog 76 #[.agg #[n1,n2],.agg #[d1,d2]] w (QR w (Rat.divInt n d)):=by
 have hg:cmn n d=(Int.gcd n d:Int):=by unfold cmn;rw[if_neg (by omega)]
 have hd0:d≠0:=by omega
 have hG:Hid ((Int.gcd n d:Int)≠0):=by show _≠_;rw[<-hg];exact cmn_ne n d hd0
 have e1:Hid (n / (Int.gcd n d:Int)=(Rat.divInt n d).num):=by show _=_;rw[<-hg];exact cmn_num n d hd0
 have e2:Hid (d / (Int.gcd n d:Int)=((Rat.divInt n d).den:Int)):=by show _=_;rw[<-hg];exact cmn_den n d hd0
 have sG:Hid (Sg (Int.gcd n d:Nat)):=by
  show Sg _
  exact (h2.sg.sm.le (by have:=gcd_le n d hd0;omega)).sg (Nat.le_refl _)
 have sD:Hid (Sg ((Rat.divInt n d).den:Int)):=by
  show Sg _
  rw[<-e2.out]
  exact (h2.sg.sm.le (Int.natAbs_ediv_le_natAbs _ _)).sg (Nat.le_refl _)
 obtain ⟨G,eG⟩:∃G:Int,((Int.gcd n d:Nat):Int)=G:=⟨_,rfl⟩
 obtain ⟨R,eR⟩:∃R,Rat.divInt n d=R:=⟨_,rfl⟩
 rw[eG]at hG e1 e2 sG
 rw[eR]at e1 e2 sD hone ⊢
 have EG:=Hd eG
 obtain ⟨c,ec⟩:∃c,cmpZ (R.den:Int) 1=c:=⟨_,rfl⟩
 have hc:(c==0)=true:=by
  rw[<-ec];unfold cmpZ
  rw[if_neg (by omega),if_neg (by omega)];rfl
 have EC:=Hd ec
 have HO:=Hd hone
 clear hd0 hg eG eR ec hone hd
 obtain ⟨W0,hW0⟩:∃W0,W0=((w.alloc (.cells #[n1,n2] 24)).alloc (.cells #[d1,d2] 24)).alloc (.cells #[.bool false,.slice none 0 0,.bool false,.slice none 0 0] 26):=⟨_,rfl⟩
 have hbw:Below w.heap.size w W0:=by rw[hW0];exact ((((Below.refl _ _).alloc (Nat.le_refl _) _).alloc (by simp) _).alloc (by simp;omega) _)
 have tA:Two W0 (w.heap.size) n1 n2:=by
  have h:=Two.new w n1 n2 24
  rw[hW0];exact ((h.alloc _).alloc _)
 have tB:Two W0 (w.heap.size+1) d1 d2:=by
  have h:=Two.new (w.alloc (.cells #[n1,n2] 24)) d1 d2 24
  rw[World.size_alloc]at h
  rw[hW0];exact (h.alloc _)
 have tR:Four W0 (w.heap.size+1+1) (.bool false) (.slice none 0 0) (.bool false) (.slice none 0 0):=by
  have h:=Four.new ((w.alloc (.cells #[n1,n2] 24)).alloc (.cells #[d1,d2] 24)) (.bool false) (.slice none 0 0) (.bool false) (.slice none 0 0) 26
  rw[World.size_alloc,World.size_alloc]at h
  rw[hW0];exact h
 replace h1:=h1.to hbw
 replace h2:=h2.to hbw
 have HW0:=Hd hW0
 have HB:=Hd hbw
 clear hW0 hbw
 go_enter Tryz.func76,Tryz.ntmps76
 go_wp2_with fail
 rw[<-HW0.out]
 clear HW0
 have kktA0:=tA.c0
 have kktA1:=tA.c1
 have kktB0:=tB.c0
 have kktB1:=tB.c1
 go_wp2_with fail
 refine (rgcd_v h1 h2).mono ?_
 rintro e V1 ⟨x1,y1,rfl,z1,bb⟩
 clear kktA0 kktA1 kktB0 kktB1
 replace tA:=tA.to bb
 replace tB:=tB.to bb
 replace tR:=tR.to bb
 replace h1:=h1.to bb
 replace h2:=h2.to bb
 replace HB:=Hxb HB bb
 clear bb
 rw[EG.out]at z1
 obtain ⟨nntG0,AAtG0,jjtG0,mmtG0,rfl,rfl⟩:=z1.fs
 have tG:=Two.new V1 (.bool nntG0) (.slice AAtG0 jjtG0 mmtG0) 24
 have bb:=(Below.refl V1.heap.size V1).alloc (by simp) (.cells #[.bool nntG0,.slice AAtG0 jjtG0 mmtG0] 24)
 replace tA:=tA.to bb
 replace tB:=tB.to bb
 replace tR:=tR.to bb
 replace h1:=h1.to bb
 replace h2:=h2.to bb
 replace z1:=z1.to bb
 replace HB:=Hxb HB bb
 clear bb
 have kktA0:=tA.c0
 have kktA1:=tA.c1
 have kktB0:=tB.c0
 have kktB1:=tB.c1
 have kktG0:=tG.c0
 have kktG1:=tG.c1
 go_wp2_with fail
 obtain ⟨X2,hX2⟩:∃W,W=V1.alloc (.cells #[.bool nntG0,.slice AAtG0 jjtG0 mmtG0] 24):=⟨_,rfl⟩
 obtain ⟨gtG,hgtG⟩:∃g,g=V1.heap.size:=⟨_,rfl⟩
 rw[<-hX2,<-hgtG]
 rw[<-hX2,<-hgtG]at tG
 rw[<-hX2]at tA tB tR h1 h2 z1 HB
 clear hX2 hgtG
 refine (rd_v h1 (z1.zs sG.out) hG.out e1.out).mono ?_
 rintro e V3 ⟨xq3,yq3,xr3,yr3,rfl,zq3,zr3,bb⟩
 clear kktA0 kktA1 kktB0 kktB1 kktG0 kktG1
 replace tA:=tA.to bb
 replace tB:=tB.to bb
 replace tG:=tG.to bb
 replace tR:=tR.to bb
 replace h2:=h2.to bb
 replace z1:=z1.to bb
 replace HB:=Hxb HB bb
 clear bb
 obtain ⟨nntP0,AAtP0,jjtP0,mmtP0,rfl,rfl⟩:=zq3.fs
 have tP:=Two.new V3 (.bool nntP0) (.slice AAtP0 jjtP0 mmtP0) 24
 obtain ⟨nntS0,AAtS0,jjtS0,mmtS0,rfl,rfl⟩:=zr3.fs
 have tS:=Two.new (V3.alloc (.cells #[.bool nntP0,.slice AAtP0 jjtP0 mmtP0] 24)) (.bool nntS0) (.slice AAtS0 jjtS0 mmtS0) 24
 rw[World.size_alloc]at tS
 replace tP:=(tP.alloc (.cells #[.bool nntS0,.slice AAtS0 jjtS0 mmtS0] 24))
 have bb:=((Below.refl V3.heap.size V3).alloc (by simp) (.cells #[.bool nntP0,.slice AAtP0 jjtP0 mmtP0] 24)).alloc (by simp) (.cells #[.bool nntS0,.slice AAtS0 jjtS0 mmtS0] 24)
 replace tA:=tA.to bb
 replace tB:=tB.to bb
 replace tG:=tG.to bb
 replace tR:=tR.to bb
 replace h2:=h2.to bb
 replace z1:=z1.to bb
 replace zq3:=zq3.to bb
 replace zr3:=zr3.to bb
 replace HB:=Hxb HB bb
 clear bb
 have kktA0:=tA.c0
 have kktA1:=tA.c1
 have kktB0:=tB.c0
 have kktB1:=tB.c1
 have kktG0:=tG.c0
 have kktG1:=tG.c1
 have kktP0:=tP.c0
 have kktP1:=tP.c1
 have kktS0:=tS.c0
 have kktS1:=tS.c1
 go_wp2_with fail
 obtain ⟨X4,hX4⟩:∃W,W=(V3.alloc (.cells #[.bool nntP0,.slice AAtP0 jjtP0 mmtP0] 24)).alloc (.cells #[.bool nntS0,.slice AAtS0 jjtS0 mmtS0] 24):=⟨_,rfl⟩
 obtain ⟨gtP,hgtP⟩:∃g,g=V3.heap.size:=⟨_,rfl⟩
 obtain ⟨gtS,hgtS⟩:∃g,g=V3.heap.size+1:=⟨_,rfl⟩
 rw[<-hX4,<-hgtS,<-hgtP]
 rw[<-hX4,<-hgtP]at tP
 rw[<-hX4,<-hgtS]at tS
 rw[<-hX4]at tA tB tG tR h2 z1 zq3 zr3 HB
 clear hX4 hgtP hgtS
 refine (rd_v h2 (z1.zs sG.out) hG.out e2.out).mono ?_
 rintro e V5 ⟨xq5,yq5,xr5,yr5,rfl,zq5,zr5,bb⟩
 clear kktA0 kktA1 kktB0 kktB1 kktG0 kktG1 kktP0 kktP1 kktS0 kktS1
 replace tA:=tA.to bb
 replace tB:=tB.to bb
 replace tG:=tG.to bb
 replace tP:=tP.to bb
 replace tS:=tS.to bb
 replace tR:=tR.to bb
 replace z1:=z1.to bb
 replace zq3:=zq3.to bb
 replace zr3:=zr3.to bb
 replace HB:=Hxb HB bb
 clear bb
 obtain ⟨nntQ0,AAtQ0,jjtQ0,mmtQ0,rfl,rfl⟩:=zq5.fs
 have tQ:=Two.new V5 (.bool nntQ0) (.slice AAtQ0 jjtQ0 mmtQ0) 24
 obtain ⟨nntU0,AAtU0,jjtU0,mmtU0,rfl,rfl⟩:=zr5.fs
 have tU:=Two.new (V5.alloc (.cells #[.bool nntQ0,.slice AAtQ0 jjtQ0 mmtQ0] 24)) (.bool nntU0) (.slice AAtU0 jjtU0 mmtU0) 24
 rw[World.size_alloc]at tU
 replace tQ:=(tQ.alloc (.cells #[.bool nntU0,.slice AAtU0 jjtU0 mmtU0] 24))
 have bb:=((Below.refl V5.heap.size V5).alloc (by simp) (.cells #[.bool nntQ0,.slice AAtQ0 jjtQ0 mmtQ0] 24)).alloc (by simp) (.cells #[.bool nntU0,.slice AAtU0 jjtU0 mmtU0] 24)
 replace tA:=tA.to bb
 replace tB:=tB.to bb
 replace tG:=tG.to bb
 replace tP:=tP.to bb
 replace tS:=tS.to bb
 replace tR:=tR.to bb
 replace z1:=z1.to bb
 replace zq3:=zq3.to bb
 replace zr3:=zr3.to bb
 replace zq5:=zq5.to bb
 replace zr5:=zr5.to bb
 replace HB:=Hxb HB bb
 clear bb
 go_wp2_with fail
 obtain ⟨X6,hX6⟩:∃W,W=(V5.alloc (.cells #[.bool nntQ0,.slice AAtQ0 jjtQ0 mmtQ0] 24)).alloc (.cells #[.bool nntU0,.slice AAtU0 jjtU0 mmtU0] 24):=⟨_,rfl⟩
 obtain ⟨gtQ,hgtQ⟩:∃g,g=V5.heap.size:=⟨_,rfl⟩
 obtain ⟨gtU,hgtU⟩:∃g,g=V5.heap.size+1:=⟨_,rfl⟩
 rw[<-hX6,<-hgtU,<-hgtQ]
 rw[<-hX6,<-hgtQ]at tQ
 rw[<-hX6,<-hgtU]at tU
 rw[<-hX6]at tA tB tG tP tS tR z1 zq3 zr3 zq5 zr5 HB
 clear hX6 hgtQ hgtU
 clear tA tB tG tS tU
 refine wp_region_plan (S:=fun w'=>Below w.heap.size w w'/\Two w' (gtP) (.bool nntP0) (.slice AAtP0 jjtP0 mmtP0)/\Two w' (gtQ) (.bool nntQ0) (.slice AAtQ0 jjtQ0 mmtQ0)) [(0,true),(1,false),(2,false),(3,true)] (by kernel_rfl) (by kernel_rfl) ⟨HB.out.drew,tP.to (Below.refl _ _).drew,tQ.to (Below.refl _ _).drew⟩ ?_
 have hb:=HB.out.drew
 replace tP:=tP.to (Below.refl _ _).drew
 replace tQ:=tQ.to (Below.refl _ _).drew
 replace tR:=tR.to (Below.refl _ _).drew
 replace z1:=z1.to (Below.refl _ _).drew
 replace zq3:=zq3.to (Below.refl _ _).drew
 replace zr3:=zr3.to (Below.refl _ _).drew
 replace zq5:=zq5.to (Below.refl _ _).drew
 replace zr5:=zr5.to (Below.refl _ _).drew
 clear HB
 refine plan_take rfl (by rfl) (fun w' hS=>load_two (by rfl) (hS.2.2)) ?_
 refine plan_call rfl (by rfl) (fun K hK=>?_)
 go_simp
 refine (rone_z).mono ?_
 rintro e V7 ⟨x7,y7,rfl,z7,bb⟩
 replace hb:=Bxb hb bb
 replace tP:=tP.to bb
 replace tQ:=tQ.to bb
 replace tR:=tR.to bb
 replace z1:=z1.to bb
 replace zq3:=zq3.to bb
 replace zr3:=zr3.to bb
 replace zq5:=zq5.to bb
 replace zr5:=zr5.to bb
 refine hK.out _ _ ⟨hb,tP,tQ⟩ ?_
 clear hK K bb
 refine plan_call rfl (by rfl) (fun K hK=>?_)
 go_simp
 refine (rcmp_v (zq5.zs sD.out) (z7.zs (sg_lit (by decide))) EC.out).mono ?_
 rintro e V8 ⟨rfl,bb⟩
 replace hb:=Bxb hb bb
 replace tP:=tP.to bb
 replace tQ:=tQ.to bb
 replace tR:=tR.to bb
 replace z1:=z1.to bb
 replace zq3:=zq3.to bb
 replace zr3:=zr3.to bb
 replace zq5:=zq5.to bb
 replace zr5:=zr5.to bb
 replace z7:=z7.to bb
 refine hK.out _ _ ⟨hb,tP,tQ⟩ ?_
 clear hK K bb
 refine plan_take (v:=?_) rfl (by rfl) ?_ ?_;rotate_left;(focus (intro w' hS;go_simp;try with_reducible rfl))
 refine plan_done ?_
 have HB:=Hd hb
 clear hb
 have kktP0:=tP.c0
 have kktP1:=tP.c1
 have kktQ0:=tQ.c0
 have kktQ1:=tQ.c1
 have rq:Qc _ (.bool nntP0) (.slice AAtP0 jjtP0 mmtP0) (.bool false) (.slice none 0 0) R:=⟨zq3,by rw[if_pos HO.out];exact zc_nil _⟩
 have RZ:=Hd rq
 obtain ⟨V99,eV,u,kp⟩:=pack4 tR Fq.nil (.bool nntP0) (.slice AAtP0 jjtP0 mmtP0) (.bool false) (.slice none 0 0)
 obtain ⟨v0,v1,v2,v3,v4,v5,v6,v7,_⟩:=tR
 have EV:=Hd eV
 have KP:=Hd kp
 have U:=Hd u
 clear eV kp u rq
 go_wp2
 rw[EV.out]
 refine bodyPost_ret (v:=.agg #[.bool nntP0,.slice AAtP0 jjtP0 mmtP0,.bool false,.slice none 0 0]) (by simp[results,Tryz.f76,go_sem,U.out.c0,U.out.c1,U.out.c2,U.out.c3]) rfl ?_
 exact ⟨_,_,_,_,rfl,RZ.out.k4 KP.out,KP.out.bel _ _ HB.out (by omega)⟩
theorem over_n {w:World}{n1 n2 d1 d2:Value}{n d:Int}(h1:Zl w n1 n2 n)(h2:Zl w d1 d2 d)(hd:0<d)(hone:(Rat.divInt n d).den≠1) :
  Calls Tryz.prog 76 #[.agg #[n1,n2],.agg #[d1,d2]] w (QR w (Rat.divInt n d)):=by
 have hg:cmn n d=(Int.gcd n d:Int):=by unfold cmn;rw[if_neg (by omega)]
 have hd0:d≠0:=by omega
 have hG:Hid ((Int.gcd n d:Int)≠0):=by show _≠_;rw[<-hg];exact cmn_ne n d hd0
 have e1:Hid (n / (Int.gcd n d:Int)=(Rat.divInt n d).num):=by show _=_;rw[<-hg];exact cmn_num n d hd0
 have e2:Hid (d / (Int.gcd n d:Int)=((Rat.divInt n d).den:Int)):=by show _=_;rw[<-hg];exact cmn_den n d hd0
 have sG:Hid (Sg (Int.gcd n d:Nat)):=by
  show Sg _
  exact (h2.sg.sm.le (by have:=gcd_le n d hd0;omega)).sg (Nat.le_refl _)
 have sD:Hid (Sg ((Rat.divInt n d).den:Int)):=by
  show Sg _
  rw[<-e2.out]
  exact (h2.sg.sm.le (Int.natAbs_ediv_le_natAbs _ _)).sg (Nat.le_refl _)
 obtain ⟨G,eG⟩:∃G:Int,((Int.gcd n d:Nat):Int)=G:=⟨_,rfl⟩
 obtain ⟨R,eR⟩:∃R,Rat.divInt n d=R:=⟨_,rfl⟩
 rw[eG]at hG e1 e2 sG
 rw[eR]at e1 e2 sD hone ⊢
 have EG:=Hd eG
 obtain ⟨c,ec⟩:∃c,cmpZ (R.den:Int) 1=c:=⟨_,rfl⟩
 have hc:(c==0)=false:=by
  rw[<-ec];unfold cmpZ
  have:=R.den_pos
  rw[if_neg (by omega),if_pos (by omega)];rfl
 have EC:=Hd ec
 have HO:=Hd hone
 clear hd0 hg eG eR ec hone hd
 obtain ⟨W0,hW0⟩:∃W0,W0=((w.alloc (.cells #[n1,n2] 24)).alloc (.cells #[d1,d2] 24)).alloc (.cells #[.bool false,.slice none 0 0,.bool false,.slice none 0 0] 26):=⟨_,rfl⟩
 have hbw:Below w.heap.size w W0:=by rw[hW0];exact ((((Below.refl _ _).alloc (Nat.le_refl _) _).alloc (by simp) _).alloc (by simp;omega) _)
 have tA:Two W0 (w.heap.size) n1 n2:=by
  have h:=Two.new w n1 n2 24
  rw[hW0];exact ((h.alloc _).alloc _)
 have tB:Two W0 (w.heap.size+1) d1 d2:=by
  have h:=Two.new (w.alloc (.cells #[n1,n2] 24)) d1 d2 24
  rw[World.size_alloc]at h
  rw[hW0];exact (h.alloc _)
 have tR:Four W0 (w.heap.size+1+1) (.bool false) (.slice none 0 0) (.bool false) (.slice none 0 0):=by
  have h:=Four.new ((w.alloc (.cells #[n1,n2] 24)).alloc (.cells #[d1,d2] 24)) (.bool false) (.slice none 0 0) (.bool false) (.slice none 0 0) 26
  rw[World.size_alloc,World.size_alloc]at h
  rw[hW0];exact h
 replace h1:=h1.to hbw
 replace h2:=h2.to hbw
 have HW0:=Hd hW0
 have HB:=Hd hbw
 clear hW0 hbw
 go_enter Tryz.func76,Tryz.ntmps76
 go_wp2_with fail
 rw[<-HW0.out]
 clear HW0
 have kktA0:=tA.c0
 have kktA1:=tA.c1
 have kktB0:=tB.c0
 have kktB1:=tB.c1
 go_wp2_with fail
 refine (rgcd_v h1 h2).mono ?_
 rintro e V1 ⟨x1,y1,rfl,z1,bb⟩
 clear kktA0 kktA1 kktB0 kktB1
 replace tA:=tA.to bb
 replace tB:=tB.to bb
 replace tR:=tR.to bb
 replace h1:=h1.to bb
 replace h2:=h2.to bb
 replace HB:=Hxb HB bb
 clear bb
 rw[EG.out]at z1
 obtain ⟨nntG0,AAtG0,jjtG0,mmtG0,rfl,rfl⟩:=z1.fs
 have tG:=Two.new V1 (.bool nntG0) (.slice AAtG0 jjtG0 mmtG0) 24
 have bb:=(Below.refl V1.heap.size V1).alloc (by simp) (.cells #[.bool nntG0,.slice AAtG0 jjtG0 mmtG0] 24)
 replace tA:=tA.to bb
 replace tB:=tB.to bb
 replace tR:=tR.to bb
 replace h1:=h1.to bb
 replace h2:=h2.to bb
 replace z1:=z1.to bb
 replace HB:=Hxb HB bb
 clear bb
 have kktA0:=tA.c0
 have kktA1:=tA.c1
 have kktB0:=tB.c0
 have kktB1:=tB.c1
 have kktG0:=tG.c0
 have kktG1:=tG.c1
 go_wp2_with fail
 obtain ⟨X2,hX2⟩:∃W,W=V1.alloc (.cells #[.bool nntG0,.slice AAtG0 jjtG0 mmtG0] 24):=⟨_,rfl⟩
 obtain ⟨gtG,hgtG⟩:∃g,g=V1.heap.size:=⟨_,rfl⟩
 rw[<-hX2,<-hgtG]
 rw[<-hX2,<-hgtG]at tG
 rw[<-hX2]at tA tB tR h1 h2 z1 HB
 clear hX2 hgtG
 refine (rd_v h1 (z1.zs sG.out) hG.out e1.out).mono ?_
 rintro e V3 ⟨xq3,yq3,xr3,yr3,rfl,zq3,zr3,bb⟩
 clear kktA0 kktA1 kktB0 kktB1 kktG0 kktG1
 replace tA:=tA.to bb
 replace tB:=tB.to bb
 replace tG:=tG.to bb
 replace tR:=tR.to bb
 replace h2:=h2.to bb
 replace z1:=z1.to bb
 replace HB:=Hxb HB bb
 clear bb
 obtain ⟨nntP0,AAtP0,jjtP0,mmtP0,rfl,rfl⟩:=zq3.fs
 have tP:=Two.new V3 (.bool nntP0) (.slice AAtP0 jjtP0 mmtP0) 24
 obtain ⟨nntS0,AAtS0,jjtS0,mmtS0,rfl,rfl⟩:=zr3.fs
 have tS:=Two.new (V3.alloc (.cells #[.bool nntP0,.slice AAtP0 jjtP0 mmtP0] 24)) (.bool nntS0) (.slice AAtS0 jjtS0 mmtS0) 24
 rw[World.size_alloc]at tS
 replace tP:=(tP.alloc (.cells #[.bool nntS0,.slice AAtS0 jjtS0 mmtS0] 24))
 have bb:=((Below.refl V3.heap.size V3).alloc (by simp) (.cells #[.bool nntP0,.slice AAtP0 jjtP0 mmtP0] 24)).alloc (by simp) (.cells #[.bool nntS0,.slice AAtS0 jjtS0 mmtS0] 24)
 replace tA:=tA.to bb
 replace tB:=tB.to bb
 replace tG:=tG.to bb
 replace tR:=tR.to bb
 replace h2:=h2.to bb
 replace z1:=z1.to bb
 replace zq3:=zq3.to bb
 replace zr3:=zr3.to bb
 replace HB:=Hxb HB bb
 clear bb
 have kktA0:=tA.c0
 have kktA1:=tA.c1
 have kktB0:=tB.c0
 have kktB1:=tB.c1
 have kktG0:=tG.c0
 have kktG1:=tG.c1
 have kktP0:=tP.c0
 have kktP1:=tP.c1
 have kktS0:=tS.c0
 have kktS1:=tS.c1
 go_wp2_with fail
 obtain ⟨X4,hX4⟩:∃W,W=(V3.alloc (.cells #[.bool nntP0,.slice AAtP0 jjtP0 mmtP0] 24)).alloc (.cells #[.bool nntS0,.slice AAtS0 jjtS0 mmtS0] 24):=⟨_,rfl⟩
 obtain ⟨gtP,hgtP⟩:∃g,g=V3.heap.size:=⟨_,rfl⟩
 obtain ⟨gtS,hgtS⟩:∃g,g=V3.heap.size+1:=⟨_,rfl⟩
 rw[<-hX4,<-hgtS,<-hgtP]
 rw[<-hX4,<-hgtP]at tP
 rw[<-hX4,<-hgtS]at tS
 rw[<-hX4]at tA tB tG tR h2 z1 zq3 zr3 HB
 clear hX4 hgtP hgtS
 refine (rd_v h2 (z1.zs sG.out) hG.out e2.out).mono ?_
 rintro e V5 ⟨xq5,yq5,xr5,yr5,rfl,zq5,zr5,bb⟩
 clear kktA0 kktA1 kktB0 kktB1 kktG0 kktG1 kktP0 kktP1 kktS0 kktS1
 replace tA:=tA.to bb
 replace tB:=tB.to bb
 replace tG:=tG.to bb
 replace tP:=tP.to bb
 replace tS:=tS.to bb
 replace tR:=tR.to bb
 replace z1:=z1.to bb
 replace zq3:=zq3.to bb
 replace zr3:=zr3.to bb
 replace HB:=Hxb HB bb
 clear bb
 obtain ⟨nntQ0,AAtQ0,jjtQ0,mmtQ0,rfl,rfl⟩:=zq5.fs
 have tQ:=Two.new V5 (.bool nntQ0) (.slice AAtQ0 jjtQ0 mmtQ0) 24
 obtain ⟨nntU0,AAtU0,jjtU0,mmtU0,rfl,rfl⟩:=zr5.fs
 have tU:=Two.new (V5.alloc (.cells #[.bool nntQ0,.slice AAtQ0 jjtQ0 mmtQ0] 24)) (.bool nntU0) (.slice AAtU0 jjtU0 mmtU0) 24
 rw[World.size_alloc]at tU
 replace tQ:=(tQ.alloc (.cells #[.bool nntU0,.slice AAtU0 jjtU0 mmtU0] 24))
 have bb:=((Below.refl V5.heap.size V5).alloc (by simp) (.cells #[.bool nntQ0,.slice AAtQ0 jjtQ0 mmtQ0] 24)).alloc (by simp) (.cells #[.bool nntU0,.slice AAtU0 jjtU0 mmtU0] 24)
 replace tA:=tA.to bb
 replace tB:=tB.to bb
 replace tG:=tG.to bb
 replace tP:=tP.to bb
 replace tS:=tS.to bb
 replace tR:=tR.to bb
 replace z1:=z1.to bb
 replace zq3:=zq3.to bb
 replace zr3:=zr3.to bb
 replace zq5:=zq5.to bb
 replace zr5:=zr5.to bb
 replace HB:=Hxb HB bb
 clear bb
 go_wp2_with fail
 obtain ⟨X6,hX6⟩:∃W,W=(V5.alloc (.cells #[.bool nntQ0,.slice AAtQ0 jjtQ0 mmtQ0] 24)).alloc (.cells #[.bool nntU0,.slice AAtU0 jjtU0 mmtU0] 24):=⟨_,rfl⟩
 obtain ⟨gtQ,hgtQ⟩:∃g,g=V5.heap.size:=⟨_,rfl⟩
 obtain ⟨gtU,hgtU⟩:∃g,g=V5.heap.size+1:=⟨_,rfl⟩
 rw[<-hX6,<-hgtU,<-hgtQ]
 rw[<-hX6,<-hgtQ]at tQ
 rw[<-hX6,<-hgtU]at tU
 rw[<-hX6]at tA tB tG tP tS tR z1 zq3 zr3 zq5 zr5 HB
 clear hX6 hgtQ hgtU
 clear tA tB tG tS tU
 refine wp_region_plan (S:=fun w'=>Below w.heap.size w w'/\Two w' (gtP) (.bool nntP0) (.slice AAtP0 jjtP0 mmtP0)/\Two w' (gtQ) (.bool nntQ0) (.slice AAtQ0 jjtQ0 mmtQ0)) [(0,true),(1,false),(2,false),(3,true)] (by kernel_rfl) (by kernel_rfl) ⟨HB.out.drew,tP.to (Below.refl _ _).drew,tQ.to (Below.refl _ _).drew⟩ ?_
 have hb:=HB.out.drew
 replace tP:=tP.to (Below.refl _ _).drew
 replace tQ:=tQ.to (Below.refl _ _).drew
 replace tR:=tR.to (Below.refl _ _).drew
 replace z1:=z1.to (Below.refl _ _).drew
 replace zq3:=zq3.to (Below.refl _ _).drew
 replace zr3:=zr3.to (Below.refl _ _).drew
 replace zq5:=zq5.to (Below.refl _ _).drew
 replace zr5:=zr5.to (Below.refl _ _).drew
 clear HB
 refine plan_take rfl (by rfl) (fun w' hS=>load_two (by rfl) (hS.2.2)) ?_
 refine plan_call rfl (by rfl) (fun K hK=>?_)
 go_simp
 refine (rone_z).mono ?_
 rintro e V7 ⟨x7,y7,rfl,z7,bb⟩
 replace hb:=Bxb hb bb
 replace tP:=tP.to bb
 replace tQ:=tQ.to bb
 replace tR:=tR.to bb
 replace z1:=z1.to bb
 replace zq3:=zq3.to bb
 replace zr3:=zr3.to bb
 replace zq5:=zq5.to bb
 replace zr5:=zr5.to bb
 refine hK.out _ _ ⟨hb,tP,tQ⟩ ?_
 clear hK K bb
 refine plan_call rfl (by rfl) (fun K hK=>?_)
 go_simp
 refine (rcmp_v (zq5.zs sD.out) (z7.zs (sg_lit (by decide))) EC.out).mono ?_
 rintro e V8 ⟨rfl,bb⟩
 replace hb:=Bxb hb bb
 replace tP:=tP.to bb
 replace tQ:=tQ.to bb
 replace tR:=tR.to bb
 replace z1:=z1.to bb
 replace zq3:=zq3.to bb
 replace zr3:=zr3.to bb
 replace zq5:=zq5.to bb
 replace zr5:=zr5.to bb
 replace z7:=z7.to bb
 refine hK.out _ _ ⟨hb,tP,tQ⟩ ?_
 clear hK K bb
 refine plan_take (v:=?_) rfl (by rfl) ?_ ?_;rotate_left;(focus (intro w' hS;go_simp;try with_reducible rfl))
 refine plan_done ?_
 have HB:=Hd hb
 clear hb
 have kktP0:=tP.c0
 have kktP1:=tP.c1
 have kktQ0:=tQ.c0
 have kktQ1:=tQ.c1
 have rq:Qc _ (.bool nntP0) (.slice AAtP0 jjtP0 mmtP0) (.bool nntQ0) (.slice AAtQ0 jjtQ0 mmtQ0) R:=⟨zq3,by rw[if_neg HO.out];exact zq5⟩
 have RZ:=Hd rq
 obtain ⟨V99,eV,u,kp⟩:=pack4 tR Fq.nil (.bool nntP0) (.slice AAtP0 jjtP0 mmtP0) (.bool nntQ0) (.slice AAtQ0 jjtQ0 mmtQ0)
 obtain ⟨v0,v1,v2,v3,v4,v5,v6,v7,_⟩:=tR
 have EV:=Hd eV
 have KP:=Hd kp
 have U:=Hd u
 clear eV kp u rq
 go_wp2
 rw[EV.out]
 refine bodyPost_ret (v:=.agg #[.bool nntP0,.slice AAtP0 jjtP0 mmtP0,.bool nntQ0,.slice AAtQ0 jjtQ0 mmtQ0]) (by simp[results,Tryz.f76,go_sem,U.out.c0,U.out.c1,U.out.c2,U.out.c3]) rfl ?_
 exact ⟨_,_,_,_,rfl,RZ.out.k4 KP.out,KP.out.bel _ _ HB.out (by omega)⟩
theorem over_z {w:World}{n1 n2 d1 d2:Value}{n d:Int}(h1:Zl w n1 n2 n)(h2:Zl w d1 d2 d)(hd:0<d):Calls Tryz.prog 76 #[.agg #[n1,n2],.agg #[d1,d2]] w (QR w (Rat.divInt n d)):=by
 by_cases h:(Rat.divInt n d).den=1
 .exact over_1 h1 h2 hd h
 .exact over_n h1 h2 hd h
end Go.Proofs.YtiifpobhmnplaaaGreat
