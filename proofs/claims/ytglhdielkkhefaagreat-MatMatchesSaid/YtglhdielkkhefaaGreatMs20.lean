/- Parts: 2. -/
import Derived.Test.YtglhdielkkhefaaGreatMs13
import Derived.Test.YtglhdielkkhefaaGreatMs17
import Derived.Test.YtglhdielkkhefaaGreatMs18
set_option linter.unusedVariables false
set_option linter.unusedSimpArgs false
set_option maxRecDepth 100000
set_option maxHeartbeats 40000000

namespace Go.Proofs.YtglhdielkkhefaaGreat
open Go.RowKit Go.Shelf
def Rfit (W:World)(g N k:Nat)(f:Nat->Rat):Prop:=∃fl,Row W g fl/\fl.length=N/\(∀i,i<k->Qc W (fl.getD i E4.z).a (fl.getD i E4.z).b (fl.getD i E4.z).c (fl.getD i E4.z).d (f i))/\∀i,k<=i->fl.getD i E4.z=E4.z
theorem fit_set {fl:List E4}{k:Nat}{e:E4}(h:∀i,k<=i->fl.getD i E4.z=E4.z):∀i,k+1<=i->(fl.set k e).getD i E4.z=E4.z:=fun i hi=>by
 rw[show (fl.set k e).getD i E4.z=fl.getD i E4.z from by simp[List.getD,List.getElem?_set,show k≠i by omega]]
 exact h i (by omega)
theorem resize_row {w:World}{A:Option Addr}{c:Nat}{es:List E4}{rs:List Rat}{k:Nat}(hA:Vi w A c es rs k)(hk:k<=10000)(h1:rs.length<=4398046511104){n:Int}(hn:1<=n)(hn2:n<=9223372036854775807){N:Nat}(hN:min n 65536=(N:Int)) :
  Calls Tryz.prog 62 #[.slice A rs.length c,.int .i64 n] w fun e w'=>∃g fl,e=.returned (.slice (some ⟨g,0,none⟩) N N)/\w.heap.size<=g/\Row w' g fl/\fl.length=N/\(∀i,i<N->Qc w' (fl.getD i E4.z).a (fl.getD i E4.z).b (fl.getD i E4.z).c (fl.getD i E4.z).d (rs.getD i 0))/\Below w.heap.size w w':=by
 have H:=Hd hA
 have HK:=Hd hk
 have hN2:N<=65536:=by omega
 have hn1:¬n<1:=by omega
 have HNN:=Hd hN2
 have HL:=Hd h1
 have hlen:=hA.len
 obtain ⟨f,hf⟩:∃f:Nat->Rat,Hid (f=fun i=>rs.getD i 0):=⟨_,rfl⟩
 obtain ⟨M,hM⟩:∃M:Nat,min rs.length N=M:=⟨_,rfl⟩
 obtain ⟨L,hL⟩:∃L,rs.length=L:=⟨_,rfl⟩
 have HLen:=Hd (hlen.trans hL)
 have HM:=Hd hM
 rw[hL]at h1 hM ⊢
 have hM':min (L:Int) (N:Int)=(M:Int):=by omega
 clear hA hlen hM
 have HMI:=Hd hM'
 go_enter Tryz.func62,Tryz.ntmps62
 go_wp2_with (at_make;refine wpList_makeq _ rfl _ _ rfl N N rfl rfl rfl rfl (Nat.le_refl _) (by omega) ?_)
 have hacc:Rfit (w.alloc (.cells (flat (List.replicate N E4.z)).toArray 32)) w.heap.size N 0 f:=⟨_,Row.new w N,by simp,fun i hi=>by omega,fun i hi=>by by_cases h:i<N<;>simp[List.getD,List.getElem?_replicate,h]⟩
 have hbw:Below w.heap.size w (w.alloc (.cells (flat (List.replicate N E4.z)).toArray 32)):=(Below.refl _ _).alloc (Nat.le_refl _) _
 generalize w.alloc (.cells (flat (List.replicate N E4.z)).toArray 32)=w1 at hacc hbw ⊢
 go_loopw [17] (fun i wr=>∃k:Nat,i=.int .i64 k/\k<=M/\Rfit wr w.heap.size N k f/\Below w.heap.size w wr) (fun i _=>M-(intOf i).toNat)
 case atStart=>exact ⟨0,rfl,Nat.zero_le _,hacc,hbw⟩
 case round =>
  obtain ⟨k,rfl,hk,hra,hb⟩:=hrel
  clear hacc hbw
  have hM63:(M:Int)<=65536:=by omega
  by_cases hlt:k<M
  .have hk1:(0:Int)<=(k:Int):=by omega
   have hk2:(k:Int)<(M:Int):=by omega
   have hk4:(k:Int)<(L:Int):=by omega
   have hk5:(k:Int)<(N:Int):=by omega
   have hkn:k<es.length:=by have:=HLen.out;omega
   obtain ⟨b,o,rfl,hB,g0,g1,g2,g3⟩:=H.out.row k hkn
   have hq:=H.out.el k
   have hfk:Hid (f k=rs.getD k 0):=by show _=_;rw[hf.out]
   rw[getD_at' hkn]at hq
   have f0:=(hb.cell (p:=⟨b,o+k*4,none⟩) hB).trans g0
   have f1:=(hb.cell (p:=⟨b,o+k*4+1,none⟩) hB).trans g1
   have f2:=(hb.cell (p:=⟨b,o+k*4+2,none⟩) hB).trans g2
   have f3:=(hb.cell (p:=⟨b,o+k*4+3,none⟩) hB).trans g3
   have HQ:=Hd (hq.to hb)
   clear g0 g1 g2 g3 hq
   generalize es[k]=E at f0 f1 f2 f3 HQ
   have HR:=Hd hra
   have HB:=Hd hb
   have HLT:Hid (k<M/\k<N):=⟨hlt,by omega⟩
   clear hra hb hkn hlt hk
   go_wp2_with fail
   refine (canonical_q HQ.out HK.out).mono ?_
   rintro e V ⟨x1,x2,x3,x4,rfl,q,bb⟩
   obtain ⟨fl,r1,r2,r3,r4⟩:=HR.out
   have r1':=r1.to bb
   have hq3:∀i,i<k->Qc V (fl.getD i E4.z).a (fl.getD i E4.z).b (fl.getD i E4.z).c (fl.getD i E4.z).d (f i):=fun i hi=>(r3 i hi).to bb
   have hs:=Racc.set (e:=⟨x1,x2,x3,x4⟩) r1' r2 hq3 HLT.out.2 q.fq (by rw[hfk.out];exact q)
   have HE:Hid (Rfit (V.setRow w.heap.size (flat (fl.set k ⟨x1,x2,x3,x4⟩)).toArray) w.heap.size N (k+1) f/\Below w.heap.size w (V.setRow w.heap.size (flat (fl.set k ⟨x1,x2,x3,x4⟩)).toArray)):=by
    have kw:Kw V (V.setRow w.heap.size (flat (fl.set k ⟨x1,x2,x3,x4⟩)).toArray):=r1'.kw
    refine ⟨⟨fl.set k ⟨x1,x2,x3,x4⟩,r1'.app q.fq,by simpa using r2,fun i hi=>?_,fit_set r4⟩,below_setRow (HB.out.trans (bb.mono HB.out.size)) (Nat.le_refl _) _⟩
    by_cases hik:i=k
    .subst hik
     rw[show (fl.set i (⟨x1,x2,x3,x4⟩:E4)).getD i E4.z=⟨x1,x2,x3,x4⟩ from by have:=HLT.out.2;simp[List.getD,show i<fl.length by omega]]
     rw[hfk.out]
     exact kw.qc q
    .rw[show (fl.set k (⟨x1,x2,x3,x4⟩:E4)).getD i E4.z=fl.getD i E4.z from by simp[List.getD,List.getElem?_set,Ne.symm hik]]
     exact kw.qc (hq3 i (by omega))
   have R1:=Hd r1'
   have R2:Hid (k<fl.length):=by show _<_;have:=HLT.out.2;omega
   have QF:=Hd (show (⟨x1,x2,x3,x4⟩:E4).fq from q.fq)
   clear hs r1 r1' r2 r3 r4 hq3 bb q
   go_wp2_with (refine wpList_storeq rfl (.tmp 27) (.tmp 26) rfl (by rfl) (by rfl) R1.out R2.out QF.out ?_;clear R1)
   go_roundw
   case rel=>exact ⟨k+1,by simp,HLT.out.1,HE.out.1,HE.out.2⟩
   case measure=>have:=HLT.out.1;simp[intOf];omega
  .obtain rfl:k=M:=by omega
   have HR:=Hd hra
   have HB:=Hd hb
   clear hra hb hlt
   go_wp2
   go_ret
   obtain ⟨fl,r1,r2,r3,r4⟩:=HR.out
   refine ⟨w.heap.size,fl,rfl,Nat.le_refl _,r1,r2,fun i hi=>?_,HB.out⟩
   by_cases hik:i<k
   .have h:=r3 i hik
    rw[hf.out]at h
    exact h
   .have hm:=HM.out
    rw[r4 i (by omega),getD_ge (l:=rs) (by omega)]
    exact ⟨Zc.zero _,Zc.zero _⟩
theorem resize_nil {w:World}{A:Option Addr}{c l:Nat}{n:Int}(hn:n<1) :
  Calls Tryz.prog 62 #[.slice A l c,.int .i64 n] w fun e w'=>e=.returned (.slice none 0 0)/\Below w.heap.size w w':=by
 go_enter Tryz.func62,Tryz.ntmps62
 go_wp2
 go_ret
 exact ⟨rfl,Below.refl _ _⟩
def fitQ (rs:List Rat)(n:Int):List Rat:=(List.range (min n.toNat 65536)).map fun i=>rs.getD i 0
theorem fitQ_length (rs:List Rat)(n:Int):(fitQ rs n).length=min n.toNat 65536:=by simp[fitQ]
theorem fitQ_in {rs:List Rat}{n:Int}{i:Nat}(h:i<min n.toNat 65536):(fitQ rs n).getD i 0=rs.getD i 0:=by
 rw[getD_lt (by rw[fitQ_length];exact h)]
 simp[fitQ]
theorem vresize_v {w:World}{A:Option Addr}{c:Nat}{es:List E4}{rs:List Rat}{k:Nat}(hA:Vi w A c es rs k)(hk:k<=10000)(h1:rs.length<=4398046511104){n:Int}(hn2:n<=9223372036854775807) :
  Calls Tryz.prog 62 #[.slice A rs.length c,.int .i64 n] w (VR w (fitQ rs n)):=by
 by_cases hn:n<1
 .refine (resize_nil hn).mono ?_
  rintro e w' ⟨rfl,hb⟩
  have h0:fitQ rs n=[]:=List.eq_nil_of_length_eq_zero (by rw[fitQ_length];omega)
  rw[h0]
  exact ⟨none,0,[],rfl,Vc.nil _ (by decide),hb⟩
 .refine (resize_row (N:=min n.toNat 65536) hA hk h1 (by omega) hn2 (by omega)).mono ?_
  rintro e w' ⟨g,fl,rfl,_,hr,hl,hq,hb⟩
  refine ⟨some ⟨g,0,none⟩,min n.toNat 65536,fl,by rw[fitQ_length],hr.vc hl (fitQ_length ..) (by omega) fun i hi=>?_,hb⟩
  rw[fitQ_in hi]
  exact hq i hi
theorem upD_abs {q:Int}(h:q≠0):upD q=(q.natAbs:Int):=by unfold upD;rw[if_neg h];split<;>omega
theorem rgcd_v {w:World}{x y x' y':Value}{a b:Int}(ha:Zl w x y a)(hb:Zl w x' y' b):Calls Tryz.prog 125 #[.agg #[x,y],.agg #[x',y']] w (ZR w (Int.gcd a b:Nat)):=rgcd_z ha hb
theorem rsign_v {w:World}{x y:Value}{a v:Int}(ha:Zl w x y a)(hv:sgn a=v):Calls Tryz.prog 129 #[.agg #[x,y]] w fun e w'=>e=.returned (.int .i64 v)/\Below w.heap.size w w':=by
 subst hv;exact rsign_z ha
theorem rcmp_v {w:World}{x y x' y':Value}{a b v:Int}(ha:Zl w x y a)(hb:Zl w x' y' b)(hv:cmpZ a b=v):Calls Tryz.prog 127 #[.agg #[x,y],.agg #[x',y']] w fun e w'=>e=.returned (.int .i64 v)/\Below w.heap.size w w':=by
 subst hv;exact rcmp_z ha hb
theorem rd_v {w:World}{x y x' y':Value}{a b q:Int}(ha:Zl w x y a)(hb:Zl w x' y' b)(h0:b≠0)(hq:a / b=q):Calls Tryz.prog 126 #[.agg #[x,y],.agg #[x',y']] w (ZE w q (a % b) 0):=by
 subst hq
 have h:=rd_x ha hb
 unfold dr de at h
 rw[if_neg h0,if_neg h0]at h
 exact h
theorem rone_z {w:World} :
  Calls Tryz.prog 128 #[] w (ZR w 1):=by
 obtain ⟨W0,hW0⟩:∃W0,W0=w.alloc (.cells #[.bool false,.slice none 0 0] 30):=⟨_,rfl⟩
 have hbw:Below w.heap.size w W0:=by rw[hW0];exact ((Below.refl _ _).alloc (Nat.le_refl _) _)
 have tR:Two W0 (w.heap.size) (.bool false) (.slice none 0 0):=by
  have h:=Two.new w (.bool false) (.slice none 0 0) 30
  rw[hW0];exact h
 have HW0:=Hd hW0
 have HB:=Hd hbw
 clear hW0 hbw
 go_enter Tryz.func128,Tryz.ntmps128
 go_wp2_with fail
 rw[<-HW0.out]
 clear HW0
 go_wp2_with fail
 refine (rfrom_z 1 (by decide) (by decide) _).mono ?_
 rintro e V1 ⟨x1,y1,rfl,z1,bb⟩
 replace tR:=tR.to bb
 replace HB:=Hxb HB bb
 clear bb
 have RZ:=Hd z1
 obtain ⟨V99,eV,u,kp,_⟩:=pack2 tR Fs.nil x1 y1
 obtain ⟨n1,A1,j1,m1,rfl,rfl⟩:=z1.fs
 obtain ⟨v0,v1,v2,v3,_⟩:=tR
 have EV:=Hd eV
 have KP:=Hd kp
 have U:=Hd u
 clear eV kp u z1
 go_wp2
 rw[EV.out]
 refine bodyPost_ret (v:=.agg #[.bool n1,.slice A1 j1 m1]) (by simp[results,Tryz.f128,go_sem,U.out.c0,U.out.c1]) rfl ?_
 exact ⟨_,_,rfl,KP.out.zc _ _ _ RZ.out,KP.out.bel _ _ HB.out (by omega)⟩
theorem rden_0 {w:World}{a1 a2 a3 a4:Value}{q:Int}(h:Zl w a3 a4 q)(hq:q=0) :
  Calls Tryz.prog 100 #[.agg #[a1,a2,a3,a4]] w (ZR w (upD q)):=by
 rw[show upD q=1 from by unfold upD;rw[if_pos hq]]
 have hs:Hid (sgn q=0):=sgn_zero.2 hq
 clear hq
 obtain ⟨W0,hW0⟩:∃W0,W0=(w.alloc (.cells #[a1,a2,a3,a4] 32)).alloc (.cells #[.bool false,.slice none 0 0] 30):=⟨_,rfl⟩
 have hbw:Below w.heap.size w W0:=by rw[hW0];exact (((Below.refl _ _).alloc (Nat.le_refl _) _).alloc (by simp) _)
 have tA:Four W0 (w.heap.size) a1 a2 a3 a4:=by
  have h:=Four.new w a1 a2 a3 a4 32
  rw[hW0];exact (h.alloc _)
 have tR:Two W0 (w.heap.size+1) (.bool false) (.slice none 0 0):=by
  have h:=Two.new (w.alloc (.cells #[a1,a2,a3,a4] 32)) (.bool false) (.slice none 0 0) 30
  rw[World.size_alloc]at h
  rw[hW0];exact h
 replace h:=h.to hbw
 have HW0:=Hd hW0
 have HB:=Hd hbw
 clear hW0 hbw
 go_enter Tryz.func100,Tryz.ntmps100
 go_wp2_with fail
 rw[<-HW0.out]
 clear HW0
 have kktA0:=tA.c0
 have kktA1:=tA.c1
 have kktA2:=tA.c2
 have kktA3:=tA.c3
 go_wp2_with fail
 refine (rsign_v h hs.out).mono ?_
 rintro e V1 ⟨rfl,bb⟩
 clear kktA0 kktA1 kktA2 kktA3
 replace tA:=tA.to bb
 replace tR:=tR.to bb
 replace HB:=Hxb HB bb
 clear bb
 have kktA0:=tA.c0
 have kktA1:=tA.c1
 have kktA2:=tA.c2
 have kktA3:=tA.c3
 go_wp2_with fail
 refine (rone_z).mono ?_
 rintro e V2 ⟨x2,y2,rfl,z2,bb⟩
 clear kktA0 kktA1 kktA2 kktA3
 replace tA:=tA.to bb
 replace tR:=tR.to bb
 replace HB:=Hxb HB bb
 clear bb
 have RZ:=Hd z2
 obtain ⟨V99,eV,u,kp,_⟩:=pack2 tR Fs.nil x2 y2
 obtain ⟨n1,A1,j1,m1,rfl,rfl⟩:=z2.fs
 obtain ⟨v0,v1,v2,v3,_⟩:=tR
 have EV:=Hd eV
 have KP:=Hd kp
 have U:=Hd u
 clear eV kp u z2
 clear tA
 go_wp2
 rw[EV.out]
 refine bodyPost_ret (v:=.agg #[.bool n1,.slice A1 j1 m1]) (by simp[results,Tryz.f100,go_sem,U.out.c0,U.out.c1]) rfl ?_
 exact ⟨_,_,rfl,KP.out.zc _ _ _ RZ.out,KP.out.bel _ _ HB.out (by omega)⟩
theorem rden_n {w:World}{a1 a2 a3 a4:Value}{q:Int}(h:Zl w a3 a4 q)(hq:q≠0) :
  Calls Tryz.prog 100 #[.agg #[a1,a2,a3,a4]] w (ZR w (upD q)):=by
 rw[upD_abs hq]
 obtain ⟨s,es⟩:∃s,sgn q=s:=⟨_,rfl⟩
 have hs0:(s==0)=false:=by rw[beq_eq_false_iff_ne,<-es];exact fun h=>hq (sgn_zero.1 h)
 have hs:=Hd es
 clear hq es
 obtain ⟨W0,hW0⟩:∃W0,W0=(w.alloc (.cells #[a1,a2,a3,a4] 32)).alloc (.cells #[.bool false,.slice none 0 0] 30):=⟨_,rfl⟩
 have hbw:Below w.heap.size w W0:=by rw[hW0];exact (((Below.refl _ _).alloc (Nat.le_refl _) _).alloc (by simp) _)
 have tA:Four W0 (w.heap.size) a1 a2 a3 a4:=by
  have h:=Four.new w a1 a2 a3 a4 32
  rw[hW0];exact (h.alloc _)
 have tR:Two W0 (w.heap.size+1) (.bool false) (.slice none 0 0):=by
  have h:=Two.new (w.alloc (.cells #[a1,a2,a3,a4] 32)) (.bool false) (.slice none 0 0) 30
  rw[World.size_alloc]at h
  rw[hW0];exact h
 replace h:=h.to hbw
 have HW0:=Hd hW0
 have HB:=Hd hbw
 clear hW0 hbw
 go_enter Tryz.func100,Tryz.ntmps100
 go_wp2_with fail
 rw[<-HW0.out]
 clear HW0
 have kktA0:=tA.c0
 have kktA1:=tA.c1
 have kktA2:=tA.c2
 have kktA3:=tA.c3
 go_wp2_with fail
 refine (rsign_v h hs.out).mono ?_
 rintro e V1 ⟨rfl,bb⟩
 clear kktA0 kktA1 kktA2 kktA3
 replace tA:=tA.to bb
 replace tR:=tR.to bb
 replace h:=h.to bb
 replace HB:=Hxb HB bb
 clear bb
 have kktA0:=tA.c0
 have kktA1:=tA.c1
 have kktA2:=tA.c2
 have kktA3:=tA.c3
 go_wp2_with fail
 refine (rabs_z h).mono ?_
 rintro e V2 ⟨x2,y2,rfl,z2,bb⟩
 clear kktA0 kktA1 kktA2 kktA3
 replace tA:=tA.to bb
 replace tR:=tR.to bb
 replace HB:=Hxb HB bb
 clear bb
 have RZ:=Hd z2
 obtain ⟨V99,eV,u,kp,_⟩:=pack2 tR Fs.nil x2 y2
 obtain ⟨n1,A1,j1,m1,rfl,rfl⟩:=z2.fs
 obtain ⟨v0,v1,v2,v3,_⟩:=tR
 have EV:=Hd eV
 have KP:=Hd kp
 have U:=Hd u
 clear eV kp u z2
 clear tA
 go_wp2
 rw[EV.out]
 refine bodyPost_ret (v:=.agg #[.bool n1,.slice A1 j1 m1]) (by simp[results,Tryz.f100,go_sem,U.out.c0,U.out.c1]) rfl ?_
 exact ⟨_,_,rfl,KP.out.zc _ _ _ RZ.out,KP.out.bel _ _ HB.out (by omega)⟩
theorem rden_z {w:World}{a1 a2 a3 a4:Value}{q:Int}(h:Zl w a3 a4 q):Calls Tryz.prog 100 #[.agg #[a1,a2,a3,a4]] w (ZR w (upD q)):=by
 by_cases hq:q=0
 .exact rden_0 h hq
 .exact rden_n h hq
theorem rnum_n {w:World}{a1 a2 a3 a4:Value}{p q:Int}(h1:Zl w a1 a2 p)(h:Zl w a3 a4 q)(hq:q<0) :
  Calls Tryz.prog 99 #[.agg #[a1,a2,a3,a4]] w (ZR w (upN p q)):=by
 rw[show upN p q=-p from by unfold upN;rw[if_pos hq]]
 have hs:Hid (sgn q=-1):=sgn_neg hq
 clear hq
 obtain ⟨W0,hW0⟩:∃W0,W0=(w.alloc (.cells #[a1,a2,a3,a4] 32)).alloc (.cells #[.bool false,.slice none 0 0] 30):=⟨_,rfl⟩
 have hbw:Below w.heap.size w W0:=by rw[hW0];exact (((Below.refl _ _).alloc (Nat.le_refl _) _).alloc (by simp) _)
 have tA:Four W0 (w.heap.size) a1 a2 a3 a4:=by
  have h:=Four.new w a1 a2 a3 a4 32
  rw[hW0];exact (h.alloc _)
 have tR:Two W0 (w.heap.size+1) (.bool false) (.slice none 0 0):=by
  have h:=Two.new (w.alloc (.cells #[a1,a2,a3,a4] 32)) (.bool false) (.slice none 0 0) 30
  rw[World.size_alloc]at h
  rw[hW0];exact h
 replace h1:=h1.to hbw
 replace h:=h.to hbw
 have HW0:=Hd hW0
 have HB:=Hd hbw
 clear hW0 hbw
 go_enter Tryz.func99,Tryz.ntmps99
 go_wp2_with fail
 rw[<-HW0.out]
 clear HW0
 have kktA0:=tA.c0
 have kktA1:=tA.c1
 have kktA2:=tA.c2
 have kktA3:=tA.c3
 go_wp2_with fail
 refine (rsign_v h hs.out).mono ?_
 rintro e V1 ⟨rfl,bb⟩
 clear kktA0 kktA1 kktA2 kktA3
 replace tA:=tA.to bb
 replace tR:=tR.to bb
 replace h1:=h1.to bb
 replace HB:=Hxb HB bb
 clear bb
 have kktA0:=tA.c0
 have kktA1:=tA.c1
 have kktA2:=tA.c2
 have kktA3:=tA.c3
 go_wp2_with fail
 refine (rneg_z h1).mono ?_
 rintro e V2 ⟨x2,y2,rfl,z2,bb⟩
 clear kktA0 kktA1 kktA2 kktA3
 replace tA:=tA.to bb
 replace tR:=tR.to bb
 replace HB:=Hxb HB bb
 clear bb
 have RZ:=Hd z2
 obtain ⟨V99,eV,u,kp,_⟩:=pack2 tR Fs.nil x2 y2
 obtain ⟨n1,A1,j1,m1,rfl,rfl⟩:=z2.fs
 obtain ⟨v0,v1,v2,v3,_⟩:=tR
 have EV:=Hd eV
 have KP:=Hd kp
 have U:=Hd u
 clear eV kp u z2
 clear tA
 go_wp2
 rw[EV.out]
 refine bodyPost_ret (v:=.agg #[.bool n1,.slice A1 j1 m1]) (by simp[results,Tryz.f99,go_sem,U.out.c0,U.out.c1]) rfl ?_
 exact ⟨_,_,rfl,KP.out.zc _ _ _ RZ.out,KP.out.bel _ _ HB.out (by omega)⟩
theorem rnum_p {w:World}{a1 a2 a3 a4:Value}{p q:Int}(h1:Zl w a1 a2 p)(h:Zl w a3 a4 q)(hq:¬q<0) :
  Calls Tryz.prog 99 #[.agg #[a1,a2,a3,a4]] w (ZR w (upN p q)):=by
 rw[show upN p q=p from by unfold upN;rw[if_neg hq]]
 obtain ⟨s,es⟩:∃s,sgn q=s:=⟨_,rfl⟩
 have hs0:¬s<0:=by rw[<-es];unfold sgn;split<;>(try split)<;>omega
 have hs:=Hd es
 clear hq es
 obtain ⟨W0,hW0⟩:∃W0,W0=(w.alloc (.cells #[a1,a2,a3,a4] 32)).alloc (.cells #[.bool false,.slice none 0 0] 30):=⟨_,rfl⟩
 have hbw:Below w.heap.size w W0:=by rw[hW0];exact (((Below.refl _ _).alloc (Nat.le_refl _) _).alloc (by simp) _)
 have tA:Four W0 (w.heap.size) a1 a2 a3 a4:=by
  have h:=Four.new w a1 a2 a3 a4 32
  rw[hW0];exact (h.alloc _)
 have tR:Two W0 (w.heap.size+1) (.bool false) (.slice none 0 0):=by
  have h:=Two.new (w.alloc (.cells #[a1,a2,a3,a4] 32)) (.bool false) (.slice none 0 0) 30
  rw[World.size_alloc]at h
  rw[hW0];exact h
 replace h1:=h1.to hbw
 replace h:=h.to hbw
 have HW0:=Hd hW0
 have HB:=Hd hbw
 clear hW0 hbw
 go_enter Tryz.func99,Tryz.ntmps99
 go_wp2_with fail
 rw[<-HW0.out]
 clear HW0
 have kktA0:=tA.c0
 have kktA1:=tA.c1
 have kktA2:=tA.c2
 have kktA3:=tA.c3
 go_wp2_with fail
 refine (rsign_v h hs.out).mono ?_
 rintro e V1 ⟨rfl,bb⟩
 clear kktA0 kktA1 kktA2 kktA3
 replace tA:=tA.to bb
 replace tR:=tR.to bb
 replace h1:=h1.to bb
 replace HB:=Hxb HB bb
 clear bb
 have kktA0:=tA.c0
 have kktA1:=tA.c1
 have kktA2:=tA.c2
 have kktA3:=tA.c3
 go_wp2_with fail
 refine (rleast_z h1).mono ?_
 rintro e V2 ⟨x2,y2,rfl,z2,bb⟩
 clear kktA0 kktA1 kktA2 kktA3
 replace tA:=tA.to bb
 replace tR:=tR.to bb
 replace HB:=Hxb HB bb
 clear bb
 have RZ:=Hd z2
 obtain ⟨V99,eV,u,kp,_⟩:=pack2 tR Fs.nil x2 y2
 obtain ⟨n1,A1,j1,m1,rfl,rfl⟩:=z2.fs
 obtain ⟨v0,v1,v2,v3,_⟩:=tR
 have EV:=Hd eV
 have KP:=Hd kp
 have U:=Hd u
 clear eV kp u z2
 clear tA
 go_wp2
 rw[EV.out]
 refine bodyPost_ret (v:=.agg #[.bool n1,.slice A1 j1 m1]) (by simp[results,Tryz.f99,go_sem,U.out.c0,U.out.c1]) rfl ?_
 exact ⟨_,_,rfl,KP.out.zc _ _ _ RZ.out,KP.out.bel _ _ HB.out (by omega)⟩
theorem rnum_z {w:World}{a1 a2 a3 a4:Value}{p q:Int}(h1:Zl w a1 a2 p)(h:Zl w a3 a4 q):Calls Tryz.prog 99 #[.agg #[a1,a2,a3,a4]] w (ZR w (upN p q)):=by
 by_cases hq:q<0
 .exact rnum_n h1 h hq
 .exact rnum_p h1 h hq
theorem over_1 {w:World}{n1 n2 d1 d2:Value}{n d:Int}(h1:Zl w n1 n2 n)(h2:Zl w d1 d2 d)(hd:0<d)(hone:(Rat.divInt n d).den=1) :
  Calls Tryz.prog 98 #[.agg #[n1,n2],.agg #[d1,d2]] w (QR w (Rat.divInt n d)):=by
 have hg:cmn n d=(Int.gcd n d:Int):=by unfold cmn;rw[if_neg (by omega)]
 have hd0:d≠0:=by omega
 have hG:Hid ((Int.gcd n d:Int)≠0):=by show _≠_;rw[<-hg];exact cmn_ne n d hd0
 have e1:Hid (n / (Int.gcd n d:Int)=(Rat.divInt n d).num):=by show _=_;rw[<-hg];exact cmn_num n d hd0
 have e2:Hid (d / (Int.gcd n d:Int)=((Rat.divInt n d).den:Int)):=by show _=_;rw[<-hg];exact cmn_den n d hd0
 have sG:Hid (Sg (Int.gcd n d:Nat)):=by
  show Sg _
  exact (h2.sg.sm.le (by have:=gcd_le n d hd0;omega)).sg (Nat.le_refl _)
 have sD:Hid (Sg ((Rat.divInt n d).den:Int)):=by
  show Sg _
  rw[<-e2.out]
  exact (h2.sg.sm.le (Int.natAbs_ediv_le_natAbs _ _)).sg (Nat.le_refl _)
 obtain ⟨G,eG⟩:∃G:Int,((Int.gcd n d:Nat):Int)=G:=⟨_,rfl⟩
 obtain ⟨R,eR⟩:∃R,Rat.divInt n d=R:=⟨_,rfl⟩
 rw[eG]at hG e1 e2 sG
 rw[eR]at e1 e2 sD hone ⊢
 have EG:=Hd eG
 obtain ⟨c,ec⟩:∃c,cmpZ (R.den:Int) 1=c:=⟨_,rfl⟩
 have hc:(c==0)=true:=by
  rw[<-ec];unfold cmpZ
  rw[if_neg (by omega),if_neg (by omega)];rfl
 have EC:=Hd ec
 have HO:=Hd hone
 clear hd0 hg eG eR ec hone hd
 obtain ⟨W0,hW0⟩:∃W0,W0=((w.alloc (.cells #[n1,n2] 30)).alloc (.cells #[d1,d2] 30)).alloc (.cells #[.bool false,.slice none 0 0,.bool false,.slice none 0 0] 32):=⟨_,rfl⟩
 have hbw:Below w.heap.size w W0:=by rw[hW0];exact ((((Below.refl _ _).alloc (Nat.le_refl _) _).alloc (by simp) _).alloc (by simp;omega) _)
 have tA:Two W0 (w.heap.size) n1 n2:=by
  have h:=Two.new w n1 n2 30
  rw[hW0];exact ((h.alloc _).alloc _)
 have tB:Two W0 (w.heap.size+1) d1 d2:=by
  have h:=Two.new (w.alloc (.cells #[n1,n2] 30)) d1 d2 30
  rw[World.size_alloc]at h
  rw[hW0];exact (h.alloc _)
 have tR:Four W0 (w.heap.size+1+1) (.bool false) (.slice none 0 0) (.bool false) (.slice none 0 0):=by
  have h:=Four.new ((w.alloc (.cells #[n1,n2] 30)).alloc (.cells #[d1,d2] 30)) (.bool false) (.slice none 0 0) (.bool false) (.slice none 0 0) 32
  rw[World.size_alloc,World.size_alloc]at h
  rw[hW0];exact h
 replace h1:=h1.to hbw
 replace h2:=h2.to hbw
 have HW0:=Hd hW0
 have HB:=Hd hbw
 clear hW0 hbw
 go_enter Tryz.func98,Tryz.ntmps98
 go_wp2_with fail
 rw[<-HW0.out]
 clear HW0
 have kktA0:=tA.c0
 have kktA1:=tA.c1
 have kktB0:=tB.c0
 have kktB1:=tB.c1
 go_wp2_with fail
 refine (rgcd_v h1 h2).mono ?_
 rintro e V1 ⟨x1,y1,rfl,z1,bb⟩
 clear kktA0 kktA1 kktB0 kktB1
 replace tA:=tA.to bb
 replace tB:=tB.to bb
 replace tR:=tR.to bb
 replace h1:=h1.to bb
 replace h2:=h2.to bb
 replace HB:=Hxb HB bb
 clear bb
 rw[EG.out]at z1
 obtain ⟨nntG0,AAtG0,jjtG0,mmtG0,rfl,rfl⟩:=z1.fs
 have tG:=Two.new V1 (.bool nntG0) (.slice AAtG0 jjtG0 mmtG0) 30
 have bb:=(Below.refl V1.heap.size V1).alloc (by simp) (.cells #[.bool nntG0,.slice AAtG0 jjtG0 mmtG0] 30)
 replace tA:=tA.to bb
 replace tB:=tB.to bb
 replace tR:=tR.to bb
 replace h1:=h1.to bb
 replace h2:=h2.to bb
 replace z1:=z1.to bb
 replace HB:=Hxb HB bb
 clear bb
 have kktA0:=tA.c0
 have kktA1:=tA.c1
 have kktB0:=tB.c0
 have kktB1:=tB.c1
 have kktG0:=tG.c0
 have kktG1:=tG.c1
 go_wp2_with fail
 obtain ⟨X2,hX2⟩:∃W,W=V1.alloc (.cells #[.bool nntG0,.slice AAtG0 jjtG0 mmtG0] 30):=⟨_,rfl⟩
 obtain ⟨gtG,hgtG⟩:∃g,g=V1.heap.size:=⟨_,rfl⟩
 rw[<-hX2,<-hgtG]
 rw[<-hX2,<-hgtG]at tG
 rw[<-hX2]at tA tB tR h1 h2 z1 HB
 clear hX2 hgtG
 refine (rd_v h1 (z1.zs sG.out) hG.out e1.out).mono ?_
 rintro e V3 ⟨xq3,yq3,xr3,yr3,rfl,zq3,zr3,bb⟩
 clear kktA0 kktA1 kktB0 kktB1 kktG0 kktG1
 replace tA:=tA.to bb
 replace tB:=tB.to bb
 replace tG:=tG.to bb
 replace tR:=tR.to bb
 replace h2:=h2.to bb
 replace z1:=z1.to bb
 replace HB:=Hxb HB bb
 clear bb
 obtain ⟨nntP0,AAtP0,jjtP0,mmtP0,rfl,rfl⟩:=zq3.fs
 have tP:=Two.new V3 (.bool nntP0) (.slice AAtP0 jjtP0 mmtP0) 30
 obtain ⟨nntS0,AAtS0,jjtS0,mmtS0,rfl,rfl⟩:=zr3.fs
 have tS:=Two.new (V3.alloc (.cells #[.bool nntP0,.slice AAtP0 jjtP0 mmtP0] 30)) (.bool nntS0) (.slice AAtS0 jjtS0 mmtS0) 30
 rw[World.size_alloc]at tS
 replace tP:=(tP.alloc (.cells #[.bool nntS0,.slice AAtS0 jjtS0 mmtS0] 30))
 have bb:=((Below.refl V3.heap.size V3).alloc (by simp) (.cells #[.bool nntP0,.slice AAtP0 jjtP0 mmtP0] 30)).alloc (by simp) (.cells #[.bool nntS0,.slice AAtS0 jjtS0 mmtS0] 30)
 replace tA:=tA.to bb
 replace tB:=tB.to bb
 replace tG:=tG.to bb
 replace tR:=tR.to bb
 replace h2:=h2.to bb
 replace z1:=z1.to bb
 replace zq3:=zq3.to bb
 replace zr3:=zr3.to bb
 replace HB:=Hxb HB bb
 clear bb
 have kktA0:=tA.c0
 have kktA1:=tA.c1
 have kktB0:=tB.c0
 have kktB1:=tB.c1
 have kktG0:=tG.c0
 have kktG1:=tG.c1
 have kktP0:=tP.c0
 have kktP1:=tP.c1
 have kktS0:=tS.c0
 have kktS1:=tS.c1
 go_wp2_with fail
 obtain ⟨X4,hX4⟩:∃W,W=(V3.alloc (.cells #[.bool nntP0,.slice AAtP0 jjtP0 mmtP0] 30)).alloc (.cells #[.bool nntS0,.slice AAtS0 jjtS0 mmtS0] 30):=⟨_,rfl⟩
 obtain ⟨gtP,hgtP⟩:∃g,g=V3.heap.size:=⟨_,rfl⟩
 obtain ⟨gtS,hgtS⟩:∃g,g=V3.heap.size+1:=⟨_,rfl⟩
 rw[<-hX4,<-hgtS,<-hgtP]
 rw[<-hX4,<-hgtP]at tP
 rw[<-hX4,<-hgtS]at tS
 rw[<-hX4]at tA tB tG tR h2 z1 zq3 zr3 HB
 clear hX4 hgtP hgtS
 refine (rd_v h2 (z1.zs sG.out) hG.out e2.out).mono ?_
 rintro e V5 ⟨xq5,yq5,xr5,yr5,rfl,zq5,zr5,bb⟩
 clear kktA0 kktA1 kktB0 kktB1 kktG0 kktG1 kktP0 kktP1 kktS0 kktS1
 replace tA:=tA.to bb
 replace tB:=tB.to bb
 replace tG:=tG.to bb
 replace tP:=tP.to bb
 replace tS:=tS.to bb
 replace tR:=tR.to bb
 replace z1:=z1.to bb
 replace zq3:=zq3.to bb
 replace zr3:=zr3.to bb
 replace HB:=Hxb HB bb
 clear bb
 obtain ⟨nntQ0,AAtQ0,jjtQ0,mmtQ0,rfl,rfl⟩:=zq5.fs
 have tQ:=Two.new V5 (.bool nntQ0) (.slice AAtQ0 jjtQ0 mmtQ0) 30
 obtain ⟨nntU0,AAtU0,jjtU0,mmtU0,rfl,rfl⟩:=zr5.fs
 have tU:=Two.new (V5.alloc (.cells #[.bool nntQ0,.slice AAtQ0 jjtQ0 mmtQ0] 30)) (.bool nntU0) (.slice AAtU0 jjtU0 mmtU0) 30
 rw[World.size_alloc]at tU
 replace tQ:=(tQ.alloc (.cells #[.bool nntU0,.slice AAtU0 jjtU0 mmtU0] 30))
 have bb:=((Below.refl V5.heap.size V5).alloc (by simp) (.cells #[.bool nntQ0,.slice AAtQ0 jjtQ0 mmtQ0] 30)).alloc (by simp) (.cells #[.bool nntU0,.slice AAtU0 jjtU0 mmtU0] 30)
 replace tA:=tA.to bb
 replace tB:=tB.to bb
 replace tG:=tG.to bb
 replace tP:=tP.to bb
 replace tS:=tS.to bb
 replace tR:=tR.to bb
 replace z1:=z1.to bb
 replace zq3:=zq3.to bb
 replace zr3:=zr3.to bb
 replace zq5:=zq5.to bb
 replace zr5:=zr5.to bb
 replace HB:=Hxb HB bb
 clear bb
 go_wp2_with fail
 obtain ⟨X6,hX6⟩:∃W,W=(V5.alloc (.cells #[.bool nntQ0,.slice AAtQ0 jjtQ0 mmtQ0] 30)).alloc (.cells #[.bool nntU0,.slice AAtU0 jjtU0 mmtU0] 30):=⟨_,rfl⟩
 obtain ⟨gtQ,hgtQ⟩:∃g,g=V5.heap.size:=⟨_,rfl⟩
 obtain ⟨gtU,hgtU⟩:∃g,g=V5.heap.size+1:=⟨_,rfl⟩
 rw[<-hX6,<-hgtU,<-hgtQ]
 rw[<-hX6,<-hgtQ]at tQ
 rw[<-hX6,<-hgtU]at tU
 rw[<-hX6]at tA tB tG tP tS tR z1 zq3 zr3 zq5 zr5 HB
 clear hX6 hgtQ hgtU
 clear tA tB tG tS tU
 refine wp_region_plan (S:=fun w'=>Below w.heap.size w w'/\Two w' (gtP) (.bool nntP0) (.slice AAtP0 jjtP0 mmtP0)/\Two w' (gtQ) (.bool nntQ0) (.slice AAtQ0 jjtQ0 mmtQ0)) [(0,true),(1,false),(2,false),(3,true)] (by kernel_rfl) (by kernel_rfl) ⟨HB.out.drew,tP.to (Below.refl _ _).drew,tQ.to (Below.refl _ _).drew⟩ ?_
 have hb:=HB.out.drew
 replace tP:=tP.to (Below.refl _ _).drew
 replace tQ:=tQ.to (Below.refl _ _).drew
 replace tR:=tR.to (Below.refl _ _).drew
 replace z1:=z1.to (Below.refl _ _).drew
 replace zq3:=zq3.to (Below.refl _ _).drew
 replace zr3:=zr3.to (Below.refl _ _).drew
 replace zq5:=zq5.to (Below.refl _ _).drew
 replace zr5:=zr5.to (Below.refl _ _).drew
 clear HB
 refine plan_take rfl (by rfl) (fun w' hS=>load_two (by rfl) (hS.2.2)) ?_
 refine plan_call rfl (by rfl) (fun K hK=>?_)
 go_simp
 refine (rone_z).mono ?_
 rintro e V7 ⟨x7,y7,rfl,z7,bb⟩
 replace hb:=Bxb hb bb
 replace tP:=tP.to bb
 replace tQ:=tQ.to bb
 replace tR:=tR.to bb
 replace z1:=z1.to bb
 replace zq3:=zq3.to bb
 replace zr3:=zr3.to bb
 replace zq5:=zq5.to bb
 replace zr5:=zr5.to bb
 refine hK.out _ _ ⟨hb,tP,tQ⟩ ?_
 clear hK K bb
 refine plan_call rfl (by rfl) (fun K hK=>?_)
 go_simp
 refine (rcmp_v (zq5.zs sD.out) (z7.zs (sg_lit (by decide))) EC.out).mono ?_
 rintro e V8 ⟨rfl,bb⟩
 replace hb:=Bxb hb bb
 replace tP:=tP.to bb
 replace tQ:=tQ.to bb
 replace tR:=tR.to bb
 replace z1:=z1.to bb
 replace zq3:=zq3.to bb
 replace zr3:=zr3.to bb
 replace zq5:=zq5.to bb
 replace zr5:=zr5.to bb
 replace z7:=z7.to bb
 refine hK.out _ _ ⟨hb,tP,tQ⟩ ?_
 clear hK K bb
 refine plan_take (v:=?_) rfl (by rfl) ?_ ?_;rotate_left;(focus (intro w' hS;go_simp;try with_reducible rfl))
 refine plan_done ?_
 have HB:=Hd hb
 clear hb
 have kktP0:=tP.c0
 have kktP1:=tP.c1
 have kktQ0:=tQ.c0
 have kktQ1:=tQ.c1
 have rq:Qc _ (.bool nntP0) (.slice AAtP0 jjtP0 mmtP0) (.bool false) (.slice none 0 0) R:=⟨zq3,by rw[if_pos HO.out];exact zc_nil _⟩
 have RZ:=Hd rq
 obtain ⟨V99,eV,u,kp⟩:=pack4 tR Fq.nil (.bool nntP0) (.slice AAtP0 jjtP0 mmtP0) (.bool false) (.slice none 0 0)
 obtain ⟨v0,v1,v2,v3,v4,v5,v6,v7,_⟩:=tR
 have EV:=Hd eV
 have KP:=Hd kp
 have U:=Hd u
 clear eV kp u rq
 go_wp2
 rw[EV.out]
 refine bodyPost_ret (v:=.agg #[.bool nntP0,.slice AAtP0 jjtP0 mmtP0,.bool false,.slice none 0 0]) (by simp[results,Tryz.f98,go_sem,U.out.c0,U.out.c1,U.out.c2,U.out.c3]) rfl ?_
 exact ⟨_,_,_,_,rfl,RZ.out.k4 KP.out,KP.out.bel _ _ HB.out (by omega)⟩
theorem over_n {w:World}{n1 n2 d1 d2:Value}{n d:Int}(h1:Zl w n1 n2 n)(h2:Zl w d1 d2 d)(hd:0<d)(hone:(Rat.divInt n d).den≠1) :
  Calls Tryz.prog 98 #[.agg #[n1,n2],.agg #[d1,d2]] w (QR w (Rat.divInt n d)):=by
 have hg:cmn n d=(Int.gcd n d:Int):=by unfold cmn;rw[if_neg (by omega)]
 have hd0:d≠0:=by omega
 have hG:Hid ((Int.gcd n d:Int)≠0):=by show _≠_;rw[<-hg];exact cmn_ne n d hd0
 have e1:Hid (n / (Int.gcd n d:Int)=(Rat.divInt n d).num):=by show _=_;rw[<-hg];exact cmn_num n d hd0
 have e2:Hid (d / (Int.gcd n d:Int)=((Rat.divInt n d).den:Int)):=by show _=_;rw[<-hg];exact cmn_den n d hd0
 have sG:Hid (Sg (Int.gcd n d:Nat)):=by
  show Sg _
  exact (h2.sg.sm.le (by have:=gcd_le n d hd0;omega)).sg (Nat.le_refl _)
 have sD:Hid (Sg ((Rat.divInt n d).den:Int)):=by
  show Sg _
  rw[<-e2.out]
  exact (h2.sg.sm.le (Int.natAbs_ediv_le_natAbs _ _)).sg (Nat.le_refl _)
 obtain ⟨G,eG⟩:∃G:Int,((Int.gcd n d:Nat):Int)=G:=⟨_,rfl⟩
 obtain ⟨R,eR⟩:∃R,Rat.divInt n d=R:=⟨_,rfl⟩
 rw[eG]at hG e1 e2 sG
 rw[eR]at e1 e2 sD hone ⊢
 have EG:=Hd eG
 obtain ⟨c,ec⟩:∃c,cmpZ (R.den:Int) 1=c:=⟨_,rfl⟩
 have hc:(c==0)=false:=by
  rw[<-ec];unfold cmpZ
  have:=R.den_pos
  rw[if_neg (by omega),if_pos (by omega)];rfl
 have EC:=Hd ec
 have HO:=Hd hone
 clear hd0 hg eG eR ec hone hd
 obtain ⟨W0,hW0⟩:∃W0,W0=((w.alloc (.cells #[n1,n2] 30)).alloc (.cells #[d1,d2] 30)).alloc (.cells #[.bool false,.slice none 0 0,.bool false,.slice none 0 0] 32):=⟨_,rfl⟩
 have hbw:Below w.heap.size w W0:=by rw[hW0];exact ((((Below.refl _ _).alloc (Nat.le_refl _) _).alloc (by simp) _).alloc (by simp;omega) _)
 have tA:Two W0 (w.heap.size) n1 n2:=by
  have h:=Two.new w n1 n2 30
  rw[hW0];exact ((h.alloc _).alloc _)
 have tB:Two W0 (w.heap.size+1) d1 d2:=by
  have h:=Two.new (w.alloc (.cells #[n1,n2] 30)) d1 d2 30
  rw[World.size_alloc]at h
  rw[hW0];exact (h.alloc _)
 have tR:Four W0 (w.heap.size+1+1) (.bool false) (.slice none 0 0) (.bool false) (.slice none 0 0):=by
  have h:=Four.new ((w.alloc (.cells #[n1,n2] 30)).alloc (.cells #[d1,d2] 30)) (.bool false) (.slice none 0 0) (.bool false) (.slice none 0 0) 32
  rw[World.size_alloc,World.size_alloc]at h
  rw[hW0];exact h
 replace h1:=h1.to hbw
 replace h2:=h2.to hbw
 have HW0:=Hd hW0
 have HB:=Hd hbw
 clear hW0 hbw
 go_enter Tryz.func98,Tryz.ntmps98
 go_wp2_with fail
 rw[<-HW0.out]
 clear HW0
 have kktA0:=tA.c0
 have kktA1:=tA.c1
 have kktB0:=tB.c0
 have kktB1:=tB.c1
 go_wp2_with fail
 refine (rgcd_v h1 h2).mono ?_
 rintro e V1 ⟨x1,y1,rfl,z1,bb⟩
 clear kktA0 kktA1 kktB0 kktB1
 replace tA:=tA.to bb
 replace tB:=tB.to bb
 replace tR:=tR.to bb
 replace h1:=h1.to bb
 replace h2:=h2.to bb
 replace HB:=Hxb HB bb
 clear bb
 rw[EG.out]at z1
 obtain ⟨nntG0,AAtG0,jjtG0,mmtG0,rfl,rfl⟩:=z1.fs
 have tG:=Two.new V1 (.bool nntG0) (.slice AAtG0 jjtG0 mmtG0) 30
 have bb:=(Below.refl V1.heap.size V1).alloc (by simp) (.cells #[.bool nntG0,.slice AAtG0 jjtG0 mmtG0] 30)
 replace tA:=tA.to bb
 replace tB:=tB.to bb
 replace tR:=tR.to bb
 replace h1:=h1.to bb
 replace h2:=h2.to bb
 replace z1:=z1.to bb
 replace HB:=Hxb HB bb
 clear bb
 have kktA0:=tA.c0
 have kktA1:=tA.c1
 have kktB0:=tB.c0
 have kktB1:=tB.c1
 have kktG0:=tG.c0
 have kktG1:=tG.c1
 go_wp2_with fail
 obtain ⟨X2,hX2⟩:∃W,W=V1.alloc (.cells #[.bool nntG0,.slice AAtG0 jjtG0 mmtG0] 30):=⟨_,rfl⟩
 obtain ⟨gtG,hgtG⟩:∃g,g=V1.heap.size:=⟨_,rfl⟩
 rw[<-hX2,<-hgtG]
 rw[<-hX2,<-hgtG]at tG
 rw[<-hX2]at tA tB tR h1 h2 z1 HB
 clear hX2 hgtG
 refine (rd_v h1 (z1.zs sG.out) hG.out e1.out).mono ?_
 rintro e V3 ⟨xq3,yq3,xr3,yr3,rfl,zq3,zr3,bb⟩
 clear kktA0 kktA1 kktB0 kktB1 kktG0 kktG1
 replace tA:=tA.to bb
 replace tB:=tB.to bb
 replace tG:=tG.to bb
 replace tR:=tR.to bb
 replace h2:=h2.to bb
 replace z1:=z1.to bb
 replace HB:=Hxb HB bb
 clear bb
 obtain ⟨nntP0,AAtP0,jjtP0,mmtP0,rfl,rfl⟩:=zq3.fs
 have tP:=Two.new V3 (.bool nntP0) (.slice AAtP0 jjtP0 mmtP0) 30
 obtain ⟨nntS0,AAtS0,jjtS0,mmtS0,rfl,rfl⟩:=zr3.fs
 have tS:=Two.new (V3.alloc (.cells #[.bool nntP0,.slice AAtP0 jjtP0 mmtP0] 30)) (.bool nntS0) (.slice AAtS0 jjtS0 mmtS0) 30
 rw[World.size_alloc]at tS
 replace tP:=(tP.alloc (.cells #[.bool nntS0,.slice AAtS0 jjtS0 mmtS0] 30))
 have bb:=((Below.refl V3.heap.size V3).alloc (by simp) (.cells #[.bool nntP0,.slice AAtP0 jjtP0 mmtP0] 30)).alloc (by simp) (.cells #[.bool nntS0,.slice AAtS0 jjtS0 mmtS0] 30)
 replace tA:=tA.to bb
 replace tB:=tB.to bb
 replace tG:=tG.to bb
 replace tR:=tR.to bb
 replace h2:=h2.to bb
 replace z1:=z1.to bb
 replace zq3:=zq3.to bb
 replace zr3:=zr3.to bb
 replace HB:=Hxb HB bb
 clear bb
 have kktA0:=tA.c0
 have kktA1:=tA.c1
 have kktB0:=tB.c0
 have kktB1:=tB.c1
 have kktG0:=tG.c0
 have kktG1:=tG.c1
 have kktP0:=tP.c0
 have kktP1:=tP.c1
 have kktS0:=tS.c0
 have kktS1:=tS.c1
 go_wp2_with fail
 obtain ⟨X4,hX4⟩:∃W,W=(V3.alloc (.cells #[.bool nntP0,.slice AAtP0 jjtP0 mmtP0] 30)).alloc (.cells #[.bool nntS0,.slice AAtS0 jjtS0 mmtS0] 30):=⟨_,rfl⟩
 obtain ⟨gtP,hgtP⟩:∃g,g=V3.heap.size:=⟨_,rfl⟩
 obtain ⟨gtS,hgtS⟩:∃g,g=V3.heap.size+1:=⟨_,rfl⟩
 rw[<-hX4,<-hgtS,<-hgtP]
 rw[<-hX4,<-hgtP]at tP
 rw[<-hX4,<-hgtS]at tS
 rw[<-hX4]at tA tB tG tR h2 z1 zq3 zr3 HB
 clear hX4 hgtP hgtS
 refine (rd_v h2 (z1.zs sG.out) hG.out e2.out).mono ?_
 rintro e V5 ⟨xq5,yq5,xr5,yr5,rfl,zq5,zr5,bb⟩
 clear kktA0 kktA1 kktB0 kktB1 kktG0 kktG1 kktP0 kktP1 kktS0 kktS1
 replace tA:=tA.to bb
 replace tB:=tB.to bb
 replace tG:=tG.to bb
 replace tP:=tP.to bb
 replace tS:=tS.to bb
 replace tR:=tR.to bb
 replace z1:=z1.to bb
 replace zq3:=zq3.to bb
 replace zr3:=zr3.to bb
 replace HB:=Hxb HB bb
 clear bb
 obtain ⟨nntQ0,AAtQ0,jjtQ0,mmtQ0,rfl,rfl⟩:=zq5.fs
 have tQ:=Two.new V5 (.bool nntQ0) (.slice AAtQ0 jjtQ0 mmtQ0) 30
 obtain ⟨nntU0,AAtU0,jjtU0,mmtU0,rfl,rfl⟩:=zr5.fs
 have tU:=Two.new (V5.alloc (.cells #[.bool nntQ0,.slice AAtQ0 jjtQ0 mmtQ0] 30)) (.bool nntU0) (.slice AAtU0 jjtU0 mmtU0) 30
 rw[World.size_alloc]at tU
 replace tQ:=(tQ.alloc (.cells #[.bool nntU0,.slice AAtU0 jjtU0 mmtU0] 30))
 have bb:=((Below.refl V5.heap.size V5).alloc (by simp) (.cells #[.bool nntQ0,.slice AAtQ0 jjtQ0 mmtQ0] 30)).alloc (by simp) (.cells #[.bool nntU0,.slice AAtU0 jjtU0 mmtU0] 30)
 replace tA:=tA.to bb
 replace tB:=tB.to bb
 replace tG:=tG.to bb
 replace tP:=tP.to bb
 replace tS:=tS.to bb
 replace tR:=tR.to bb
 replace z1:=z1.to bb
 replace zq3:=zq3.to bb
 replace zr3:=zr3.to bb
 replace zq5:=zq5.to bb
 replace zr5:=zr5.to bb
 replace HB:=Hxb HB bb
 clear bb
 go_wp2_with fail
 obtain ⟨X6,hX6⟩:∃W,W=(V5.alloc (.cells #[.bool nntQ0,.slice AAtQ0 jjtQ0 mmtQ0] 30)).alloc (.cells #[.bool nntU0,.slice AAtU0 jjtU0 mmtU0] 30):=⟨_,rfl⟩
 obtain ⟨gtQ,hgtQ⟩:∃g,g=V5.heap.size:=⟨_,rfl⟩
 obtain ⟨gtU,hgtU⟩:∃g,g=V5.heap.size+1:=⟨_,rfl⟩
 rw[<-hX6,<-hgtU,<-hgtQ]
 rw[<-hX6,<-hgtQ]at tQ
 rw[<-hX6,<-hgtU]at tU
 rw[<-hX6]at tA tB tG tP tS tR z1 zq3 zr3 zq5 zr5 HB
 clear hX6 hgtQ hgtU
 clear tA tB tG tS tU
 refine wp_region_plan (S:=fun w'=>Below w.heap.size w w'/\Two w' (gtP) (.bool nntP0) (.slice AAtP0 jjtP0 mmtP0)/\Two w' (gtQ) (.bool nntQ0) (.slice AAtQ0 jjtQ0 mmtQ0)) [(0,true),(1,false),(2,false),(3,true)] (by kernel_rfl) (by kernel_rfl) ⟨HB.out.drew,tP.to (Below.refl _ _).drew,tQ.to (Below.refl _ _).drew⟩ ?_
 have hb:=HB.out.drew
 replace tP:=tP.to (Below.refl _ _).drew
 replace tQ:=tQ.to (Below.refl _ _).drew
 replace tR:=tR.to (Below.refl _ _).drew
 replace z1:=z1.to (Below.refl _ _).drew
 replace zq3:=zq3.to (Below.refl _ _).drew
 replace zr3:=zr3.to (Below.refl _ _).drew
 replace zq5:=zq5.to (Below.refl _ _).drew
 replace zr5:=zr5.to (Below.refl _ _).drew
 clear HB
 refine plan_take rfl (by rfl) (fun w' hS=>load_two (by rfl) (hS.2.2)) ?_
 refine plan_call rfl (by rfl) (fun K hK=>?_)
 go_simp
 refine (rone_z).mono ?_
 rintro e V7 ⟨x7,y7,rfl,z7,bb⟩
 replace hb:=Bxb hb bb
 replace tP:=tP.to bb
 replace tQ:=tQ.to bb
 replace tR:=tR.to bb
 replace z1:=z1.to bb
 replace zq3:=zq3.to bb
 replace zr3:=zr3.to bb
 replace zq5:=zq5.to bb
 replace zr5:=zr5.to bb
 refine hK.out _ _ ⟨hb,tP,tQ⟩ ?_
 clear hK K bb
 refine plan_call rfl (by rfl) (fun K hK=>?_)
 go_simp
 refine (rcmp_v (zq5.zs sD.out) (z7.zs (sg_lit (by decide))) EC.out).mono ?_
 rintro e V8 ⟨rfl,bb⟩
 replace hb:=Bxb hb bb
 replace tP:=tP.to bb
 replace tQ:=tQ.to bb
 replace tR:=tR.to bb
 replace z1:=z1.to bb
 replace zq3:=zq3.to bb
 replace zr3:=zr3.to bb
 replace zq5:=zq5.to bb
 replace zr5:=zr5.to bb
 replace z7:=z7.to bb
 refine hK.out _ _ ⟨hb,tP,tQ⟩ ?_
 clear hK K bb
 refine plan_take (v:=?_) rfl (by rfl) ?_ ?_;rotate_left;(focus (intro w' hS;go_simp;try with_reducible rfl))
 refine plan_done ?_
 have HB:=Hd hb
 clear hb
 have kktP0:=tP.c0
 have kktP1:=tP.c1
 have kktQ0:=tQ.c0
 have kktQ1:=tQ.c1
 have rq:Qc _ (.bool nntP0) (.slice AAtP0 jjtP0 mmtP0) (.bool nntQ0) (.slice AAtQ0 jjtQ0 mmtQ0) R:=⟨zq3,by rw[if_neg HO.out];exact zq5⟩
 have RZ:=Hd rq
 obtain ⟨V99,eV,u,kp⟩:=pack4 tR Fq.nil (.bool nntP0) (.slice AAtP0 jjtP0 mmtP0) (.bool nntQ0) (.slice AAtQ0 jjtQ0 mmtQ0)
 obtain ⟨v0,v1,v2,v3,v4,v5,v6,v7,_⟩:=tR
 have EV:=Hd eV
 have KP:=Hd kp
 have U:=Hd u
 clear eV kp u rq
 go_wp2
 rw[EV.out]
 refine bodyPost_ret (v:=.agg #[.bool nntP0,.slice AAtP0 jjtP0 mmtP0,.bool nntQ0,.slice AAtQ0 jjtQ0 mmtQ0]) (by simp[results,Tryz.f98,go_sem,U.out.c0,U.out.c1,U.out.c2,U.out.c3]) rfl ?_
 exact ⟨_,_,_,_,rfl,RZ.out.k4 KP.out,KP.out.bel _ _ HB.out (by omega)⟩
theorem over_z {w:World}{n1 n2 d1 d2:Value}{n d:Int}(h1:Zl w n1 n2 n)(h2:Zl w d1 d2 d)(hd:0<d):Calls Tryz.prog 98 #[.agg #[n1,n2],.agg #[d1,d2]] w (QR w (Rat.divInt n d)):=by
 by_cases h:(Rat.divInt n d).den=1
 .exact over_1 h1 h2 hd h
 .exact over_n h1 h2 hd h
end Go.Proofs.YtglhdielkkhefaaGreat
