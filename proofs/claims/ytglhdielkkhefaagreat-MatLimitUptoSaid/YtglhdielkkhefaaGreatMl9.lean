/- Parts: 6. -/
import Derived.Test.YtglhdielkkhefaaGreatMl3
import Derived.Test.YtglhdielkkhefaaGreatMl4
import Derived.Test.YtglhdielkkhefaaGreatMl5
import Derived.Test.YtglhdielkkhefaaGreatMl6
import Derived.Test.YtglhdielkkhefaaGreatMl7
import Derived.Test.YtglhdielkkhefaaGreatMl8
set_option linter.unusedVariables false
set_option linter.unusedSimpArgs false
set_option maxRecDepth 100000
set_option maxHeartbeats 40000000

namespace Go.Proofs.YtglhdielkkhefaaGreat
open Go.RowKit Go.Shelf
def StepsRet (a0 b0:Nat)(p q r s:Int):Prop:=q=0∨∃(P Q R S a b:Nat) (σ:Bool),Sg4 σ P Q R S p q r s/\Lm a0 b0 P Q R S a b σ/\P<=Q/\1<=Q/\S<=b/\b+Q+S<=a
theorem stepB {a0 b0 P Q R S b m T:Nat}{σ:Bool}(h:Lm a0 b0 P Q R S b m σ)(hT:T<=S)(hm:m<b)(hS:S<=m)(h0:a0<9223372036854775808) :
  ∃bm SSS:Nat,(b:Int)-(m:Int)=(bm:Int)/\(T:Int)+(S:Int)=(SSS:Int)/\bm<9223372036854775808/\SSS<9223372036854775808/\(SSS<=bm->m+T+S<=b):=by
 have hS62:S<4611686018427387904:=by
  rcases Nat.lt_or_ge S 4611686018427387904 with h3|h3
  .exact h3
  .have h4:4611686018427387904*4611686018427387904<=S*b:=Nat.mul_le_mul h3 (by omega);have h5:=h.ha;omega
 have hb:b<9223372036854775808:=by
  have h4:=Nat.mul_le_mul_right b h.s1;have h5:=h.ha;omega
 exact ⟨b-m,T+S,by omega,by omega,by omega,by omega,fun h=>by omega⟩
theorem mx1 (x:Nat):max (x:Int) (-(x:Int))=(x:Int):=by omega
theorem mx2 (x:Nat):max (-(x:Int)) (x:Int)=(x:Int):=by omega
theorem wpos (x:Nat)(h:x<9223372036854775808):wrap64 (x:Int)=(x:Int):=IntWalk.wrap64_in _ (by omega)
theorem wneg (x:Nat)(h:x<9223372036854775808):wrap64 (-(x:Int))=-(x:Int):=IntWalk.wrap64_in _ (by omega)
theorem leadingSteps_any (a0 b0:Nat)(hle:b0<=a0)(ha0:a0<9223372036854775808)(w:World) :
  Calls Tryz.prog 172 #[.int .i64 (a0:Nat),.int .i64 (b0:Nat)] w fun e w'=>∃p q r s:Int,e=.returned (.agg #[.int .i64 p,.int .i64 q,.int .i64 r,.int .i64 s])/\Below w.heap.size w w'/\StepsRet a0 b0 p q r s:=by
 have s5:St4 ((w.alloc (.cells #[.int .i64 0,.int .i64 0,.int .i64 0,.int .i64 0] 147)).alloc (.cells #[.int .i64 1,.int .i64 0,.int .i64 0,.int .i64 1] 147)) (w.heap.size+1) (.int .i64 1) (.int .i64 0) (.int .i64 0) (.int .i64 1):=by
  have h:=St4.new (w.alloc (.cells #[.int .i64 0,.int .i64 0,.int .i64 0,.int .i64 0] 147)) (.int .i64 1) (.int .i64 0) (.int .i64 0) (.int .i64 1) 147
  rwa [szA]at h
 have s4:St4 ((w.alloc (.cells #[.int .i64 0,.int .i64 0,.int .i64 0,.int .i64 0] 147)).alloc (.cells #[.int .i64 1,.int .i64 0,.int .i64 0,.int .i64 1] 147)) w.heap.size (.int .i64 0) (.int .i64 0) (.int .i64 0) (.int .i64 0):=(St4.new w (.int .i64 0) (.int .i64 0) (.int .i64 0) (.int .i64 0) 147).alloc _;have hb0:Below w.heap.size w ((w.alloc (.cells #[.int .i64 0,.int .i64 0,.int .i64 0,.int .i64 0] 147)).alloc (.cells #[.int .i64 1,.int .i64 0,.int .i64 0,.int .i64 1] 147)):=bRR.alloc (by simp) _;have S5:=Hd s5;have S4:=Hd s4;have HB0:=Hd hb0;clear s5 s4 hb0
 go_enter Tryz.func172,Tryz.ntmps172
 go_wp2_with fail
 go_loopw [0,1] (fun u v wr=>∃(a b P Q R S:Nat) (σ:Bool) (p q r s:Int),u=.int .i64 (a:Nat)/\v=.int .i64 (b:Nat)/\Lm a0 b0 P Q R S a b σ/\(P<=Q∨Q=0/\R=0/\P=1)/\(Q=0∨(1<=Q/\P<=Q/\S<=b/\b+Q+S<=a))/\Sg4 σ P Q R S p q r s /\
   St4 wr (w.heap.size+1) (.int .i64 p) (.int .i64 q) (.int .i64 r) (.int .i64 s)/\St4 wr w.heap.size (.int .i64 0) (.int .i64 0) (.int .i64 0) (.int .i64 0)/\Below w.heap.size w wr) (fun _ v _=>(intOf v).toNat)
 case atStart=>exact ⟨a0,b0,1,0,0,1,true,1,0,0,1,rfl,rfl,Lm.start hle,.inr ⟨rfl,rfl,rfl⟩,.inl rfl,by simp[Sg4],S5.out,S4.out,HB0.out⟩
 case round =>
  obtain ⟨a,b,P,Q,R,S,σ,p,q,r,s,rfl,rfl,hL,hpq,hsure,hsg,t5,t4,hb⟩:=hrel;clear S5 S4 HB0;have HL:=Hd hL;have HSU:=Hd hsure;have HSG:=Hd hsg;have HB:=Hd hb;have T4:=Hd t4;have T5:=Hd t5
  rcases Nat.eq_zero_or_pos b with h0|h0
  .subst h0;clear hL hsure hsg hb hpq
   have RES:Hid (StepsRet a0 b0 p q r s):=by
    rcases HSU.out with h|⟨h1,h2,h3,h4⟩
    .left
     have h5:=HSG.out;unfold Sg4 at h5;subst h;cases σ<;>simp at h5<;>exact h5.2.1
    .exact .inr ⟨P,Q,R,S,a,0,σ,HSG.out,HL.out,h2,h1,h3,h4⟩
   have HBV:=HB;have T5V:=T5;have T4V:=T4;clear t5 t4;have hbV1:=HBV.out;obtain ⟨i0,i1,i2,i3,g0,g1,g2,g3,glt⟩:=T5V.out;obtain ⟨j0,j1,j2,j3,h0',h1',h2',h3',hlt'⟩:=T4V.out;clear hbV1;go_wp2
   have tE:=lay4_st (.int .i64 p) (.int .i64 q) (.int .i64 r) (.int .i64 s) T4V.out;have tc0:=tE.c0;have tc1:=tE.c1;have tc2:=tE.c2;have tc3:=tE.c3;unfold lay4 at tc0 tc1 tc2 tc3;have HBE:=lay4_below (.int .i64 p) (.int .i64 q) (.int .i64 r) (.int .i64 s) HBV.out;refine bodyPost_ret (v:=.agg #[(.int .i64 p),(.int .i64 q),(.int .i64 r),(.int .i64 s)]) (by simp[results,Tryz.f172,go_sem,tc0,tc1,tc2,tc3]) rfl ?_;exact ⟨_,_,_,_,rfl,HBE,RES.out⟩
  .have hba:a<9223372036854775808:=by
    have h1:=hL.ha;have h2:=Nat.mul_le_mul_right a hL.s1;omega
   have hbla:=hL.ba;obtain ⟨hN,hrs⟩:=hL.next h0 hpq;have hml:=Nat.mod_lt a h0;have hdm:=Nat.div_add_mod a b;obtain ⟨n,en⟩:∃n,a / b=n:=⟨_,rfl⟩
   obtain ⟨m,em⟩:∃m,a % b=m:=⟨_,rfl⟩
   rw[en,em]at hN;rw[em]at hml;rw[en,em]at hdm;obtain ⟨hS63,hR63⟩:=hN.small h0 ha0 hle;have hb64:b<9223372036854775808:=by omega
   obtain ⟨nb,enb⟩:∃nb,n*b=nb:=⟨_,rfl⟩
   rw[Nat.mul_comm,enb]at hdm;have TD:Int.tdiv (a:Int) (b:Int)=(n:Int):=by rw[<-en];rfl
   have TD2:(a:Int) / (b:Int)=(n:Int):=by rw[<-en];rfl
   have hn64:n<9223372036854775808:=by rw[<-en];exact Nat.lt_of_le_of_lt (Nat.div_le_self _ _) hba
   have cn:(n:Int)*(b:Int)=(nb:Int):=by rw[<-enb];simp
   have cm:(a:Int)-(nb:Int)=(m:Int):=by omega
   obtain ⟨nR,enR⟩:∃nR,n*R=nR:=⟨_,rfl⟩
   obtain ⟨nS,enS⟩:∃nS,n*S=nS:=⟨_,rfl⟩
   rw[enR,enS]at hN;rw[enS]at hS63;rw[enR]at hR63;have cR:(n:Int)*(R:Int)=(nR:Int):=by rw[<-enR];simp
   have cS:(n:Int)*(S:Int)=(nS:Int):=by rw[<-enS];simp
   have hS1:=hL.s1;have hSn:1<=Q+nS:=hN.s1;have hSS:S<=Q+nS:=hN.qs;obtain ⟨RR,eRR⟩:∃RR,P+nR=RR:=⟨_,rfl⟩
   obtain ⟨SS,eSS⟩:∃SS,Q+nS=SS:=⟨_,rfl⟩
   have hnRw:nR<9223372036854775808:=Nat.lt_of_le_of_lt (Nat.le_add_left _ _) hR63;have hnSw:nS<9223372036854775808:=Nat.lt_of_le_of_lt (Nat.le_add_left _ _) hS63;rw[eRR]at hN hR63;rw[eSS]at hN hS63 hSn hSS;have hSSw:=hS63;have hRRw:=hR63;have hSw:S<9223372036854775808:=Nat.lt_of_le_of_lt hSS hS63;have hS63':S<9223372036854775808:=by omega
   have hR63':R<9223372036854775808:=by omega
   have hb1:¬b=0:=by omega
   have hb2:((b:Int)==0)=false:=by simp;omega
   have hb3:(0:Int)<(b:Int):=by omega
   have hnb64:nb<9223372036854775808:=Nat.lt_of_le_of_lt (by rw[<-hdm];exact Nat.le_add_right _ _) hba;have hm64:m<9223372036854775808:=Nat.lt_trans hml hb64;have HN:=Hd hN;have HRS:=Hd hrs;have HML:=Hd hml;have H0:=Hd h0;clear hL hsure hb hpq en em hdm enb enR enS hN hrs hsg;have wn:=wpos n hn64;have wnb:=wpos nb hnb64;have wm:=wpos m hm64;cases σ
   .obtain ⟨rfl,rfl,rfl,rfl⟩:p=(-(P:Int))/\q=(Q:Int)/\r=(R:Int)/\s=(-(S:Int)):=by have h:=HSG.out;simpa [Sg4]using h
    have k1:-(P:Int)-(nR:Int)=-(RR:Int):=by omega
    have k2:(Q:Int) - -(nS:Int)=(SS:Int):=by omega
    have cS2:(n:Int)*-(S:Int)=-(nS:Int):=by rw[Int.mul_neg,cS]
    have w5:=wpos nR hnRw;have w6:=wpos SS hSSw;have w7:=wpos S hSw;have w1:=wneg RR hRRw;have w2:=wneg nS hnSw;have w3:=wneg SS hSSw;have w4:=wneg S hSw;have M1:=mx2 S;have M2:=mx1 SS;have HSS:=Hd hSS;have HSN:=Hd hSn;have HB64:=Hd hb64;clear hb64 hnb64 hm64 hnRw hnSw hSSw hRRw hSw hS63' hR63' hml hbla hS1 hSn hSS;obtain ⟨i0,i1,i2,i3,g0,g1,g2,g3,glt⟩:=t5;have n7:=St4.new wr (.int .i64 (R:Int)) (.int .i64 (-(S:Int))) (.int .i64 (-(RR:Int))) (.int .i64 (SS:Int)) 147;have z1:=n7.c1;have z3:=n7.c3;have N7:=Hd n7;clear n7 t4 HSG eRR eSS hR63 hS63 hn64 hba
    go_wp2_with fail
    go_quiet (fail)
    rename_i nq
    have bV:Below (wr.alloc (.cells #[(.int .i64 (R:Int)),(.int .i64 (-(S:Int))),(.int .i64 (-(RR:Int))),(.int .i64 (SS:Int))] 147)).heap.size (wr.alloc (.cells #[(.int .i64 (R:Int)),(.int .i64 (-(S:Int))),(.int .i64 (-(RR:Int))),(.int .i64 (SS:Int))] 147)) ((wr.alloc (.cells #[(.int .i64 (R:Int)),(.int .i64 (-(S:Int))),(.int .i64 (-(RR:Int))),(.int .i64 (SS:Int))] 147)).drewN nq):=bel_drewN (Below.refl _ _) nq;have t5V:=(T5.out.alloc (.cells #[(.int .i64 (R:Int)),(.int .i64 (-(S:Int))),(.int .i64 (-(RR:Int))),(.int .i64 (SS:Int))] 147)).toB bV (T5.out.alloc (.cells #[(.int .i64 (R:Int)),(.int .i64 (-(S:Int))),(.int .i64 (-(RR:Int))),(.int .i64 (SS:Int))] 147)).lt;have t4V:=(T4.out.alloc (.cells #[(.int .i64 (R:Int)),(.int .i64 (-(S:Int))),(.int .i64 (-(RR:Int))),(.int .i64 (SS:Int))] 147)).toB bV (T4.out.alloc (.cells #[(.int .i64 (R:Int)),(.int .i64 (-(S:Int))),(.int .i64 (-(RR:Int))),(.int .i64 (SS:Int))] 147)).lt;have n7V:=N7.out.toB bV N7.out.lt;have hbV:=(HB.out.alloc (o:=(.cells #[(.int .i64 (R:Int)),(.int .i64 (-(S:Int))),(.int .i64 (-(RR:Int))),(.int .i64 (SS:Int))] 147)) HB.out.size).trans (bV.mono (HB.out.alloc (o:=(.cells #[(.int .i64 (R:Int)),(.int .i64 (-(S:Int))),(.int .i64 (-(RR:Int))),(.int .i64 (SS:Int))] 147)) HB.out.size).size);generalize (wr.alloc (.cells #[(.int .i64 (R:Int)),(.int .i64 (-(S:Int))),(.int .i64 (-(RR:Int))),(.int .i64 (SS:Int))] 147)).drewN nq=V at t5V t4V n7V hbV ⊢;have T5V:=Hd t5V;have T4V:=Hd t4V;have N7V:=Hd n7V;have HBV:=Hd hbV;have hB1:=T5.out.lt;have hB2:w.heap.size+1≠wr.heap.size:=Nat.ne_of_lt hB1;clear bV t5V t4V n7V hbV z1 z3 i0 i1 i2 i3 g0 g1 g2 g3 glt TD TD2 cn cm cR cS k1 k2 w1 w3 w4 w5 w6 w7
    have RES:Hid (StepsRet a0 b0 (-(P:Int)) (Q:Int) (R:Int) (-(S:Int))):=by
     rcases HSU.out with h|⟨h1,h2,h3,h4⟩
     .left;rw[h];rfl
     .exact .inr ⟨P,Q,R,S,a,b,false,by simp[Sg4],HL.out,h2,h1,h3,h4⟩
    rcases Nat.lt_or_ge m SS with hA|hA
    .have hAi:(m:Int)<(SS:Int):=Int.ofNat_lt.2 hA;have hbV1:=HBV.out;obtain ⟨i0,i1,i2,i3,g0,g1,g2,g3,glt⟩:=T5V.out;obtain ⟨j0,j1,j2,j3,h0',h1',h2',h3',hlt'⟩:=T4V.out;clear hbV1;go_wp2
     have tE:=lay4_st (.int .i64 (-(P:Int))) (.int .i64 (Q:Int)) (.int .i64 (R:Int)) (.int .i64 (-(S:Int))) T4V.out;have tc0:=tE.c0;have tc1:=tE.c1;have tc2:=tE.c2;have tc3:=tE.c3;unfold lay4 at tc0 tc1 tc2 tc3;have HBE:=lay4_below (.int .i64 (-(P:Int))) (.int .i64 (Q:Int)) (.int .i64 (R:Int)) (.int .i64 (-(S:Int))) HBV.out;refine bodyPost_ret (v:=.agg #[(.int .i64 (-(P:Int))),(.int .i64 (Q:Int)),(.int .i64 (R:Int)),(.int .i64 (-(S:Int)))]) (by simp[results,Tryz.f172,go_sem,tc0,tc1,tc2,tc3]) rfl ?_;exact ⟨_,_,_,_,rfl,HBE,RES.out⟩
    .have hAi:¬((m:Int)<(SS:Int)):=fun h=>absurd (Int.ofNat_lt.1 h) (Nat.not_lt.2 hA)
     obtain ⟨bm,SSS,cbm,cs,hbmw,hsumw,hB3⟩:=stepB HN.out HSS.out HML.out hA ha0;have wsum:=wpos SSS hsumw;have wbm:=wpos bm hbmw;have HB3:=Hd hB3;clear hbmw hsumw hB3
     rcases Nat.lt_or_ge bm SSS with hB|hB
     .have hBi:(bm:Int)<(SSS:Int):=Int.ofNat_lt.2 hB;have hbV1:=HBV.out;obtain ⟨i0,i1,i2,i3,g0,g1,g2,g3,glt⟩:=T5V.out;obtain ⟨j0,j1,j2,j3,h0',h1',h2',h3',hlt'⟩:=T4V.out;clear hbV1;go_wp2
      have tE:=lay4_st (.int .i64 (-(P:Int))) (.int .i64 (Q:Int)) (.int .i64 (R:Int)) (.int .i64 (-(S:Int))) T4V.out;have tc0:=tE.c0;have tc1:=tE.c1;have tc2:=tE.c2;have tc3:=tE.c3;unfold lay4 at tc0 tc1 tc2 tc3;have HBE:=lay4_below (.int .i64 (-(P:Int))) (.int .i64 (Q:Int)) (.int .i64 (R:Int)) (.int .i64 (-(S:Int))) HBV.out;refine bodyPost_ret (v:=.agg #[(.int .i64 (-(P:Int))),(.int .i64 (Q:Int)),(.int .i64 (R:Int)),(.int .i64 (-(S:Int)))]) (by simp[results,Tryz.f172,go_sem,tc0,tc1,tc2,tc3]) rfl ?_;exact ⟨_,_,_,_,rfl,HBE,RES.out⟩
     .have hBi:¬((bm:Int)<(SSS:Int)):=fun h=>absurd (Int.ofNat_lt.1 h) (Nat.not_lt.2 hB)
      obtain ⟨i0,i1,i2,i3,g0,g1,g2,g3,glt⟩:=T5V.out;obtain ⟨j0,j1,j2,j3,h0',h1',h2',h3',hlt'⟩:=N7V.out;go_wp2
      go_roundw
      case rel=>exact ⟨b,m,R,S,RR,SS,true,(R:Int),(-(S:Int)),(-(RR:Int)),(SS:Int),rfl,by rw[wm],HN.out,.inl HRS.out,.inr ⟨HL.out.s1,HRS.out,hA,HB3.out hB⟩,by simp[Sg4],lay4_st (.int .i64 (R:Int)) (.int .i64 (-(S:Int))) (.int .i64 (-(RR:Int))) (.int .i64 (SS:Int)) T5V.out,lay4_far (.int .i64 (R:Int)) (.int .i64 (-(S:Int))) (.int .i64 (-(RR:Int))) (.int .i64 (SS:Int)) T4V.out (Nat.ne_of_lt (Nat.lt_succ_self _)),lay4_below' (.int .i64 (R:Int)) (.int .i64 (-(S:Int))) (.int .i64 (-(RR:Int))) (.int .i64 (SS:Int)) HBV.out (Nat.le_succ _)⟩
      case measure=>rw[wm];exact HML.out
   .obtain ⟨rfl,rfl,rfl,rfl⟩:p=(P:Int)/\q=(-(Q:Int))/\r=(-(R:Int))/\s=(S:Int):=by have h:=HSG.out;simpa [Sg4]using h
    have k1:(P:Int) - -(nR:Int)=(RR:Int):=by omega
    have cR2:(n:Int)*-(R:Int)=-(nR:Int):=by rw[Int.mul_neg,cR]
    have k2:-(Q:Int)-(nS:Int)=-(SS:Int):=by omega
    have w5:=wpos RR hRRw;have w6:=wpos nS hnSw;have w7:=wpos SS hSSw;have w1:=wneg nR hnRw;have w3:=wneg SS hSSw;have w4:=wneg S hSw;have M1:=mx1 S;have M2:=mx2 SS;have HSS:=Hd hSS;have HSN:=Hd hSn;have HB64:=Hd hb64;clear hb64 hnb64 hm64 hnRw hnSw hSSw hRRw hSw hS63' hR63' hml hbla hS1 hSn hSS;obtain ⟨i0,i1,i2,i3,g0,g1,g2,g3,glt⟩:=t5;have n7:=St4.new wr (.int .i64 (-(R:Int))) (.int .i64 (S:Int)) (.int .i64 (RR:Int)) (.int .i64 (-(SS:Int))) 147;have z1:=n7.c1;have z3:=n7.c3;have N7:=Hd n7;clear n7 t4 HSG eRR eSS hR63 hS63 hn64 hba
    go_wp2_with fail
    go_quiet (fail)
    rename_i nq
    have bV:Below (wr.alloc (.cells #[(.int .i64 (-(R:Int))),(.int .i64 (S:Int)),(.int .i64 (RR:Int)),(.int .i64 (-(SS:Int)))] 147)).heap.size (wr.alloc (.cells #[(.int .i64 (-(R:Int))),(.int .i64 (S:Int)),(.int .i64 (RR:Int)),(.int .i64 (-(SS:Int)))] 147)) ((wr.alloc (.cells #[(.int .i64 (-(R:Int))),(.int .i64 (S:Int)),(.int .i64 (RR:Int)),(.int .i64 (-(SS:Int)))] 147)).drewN nq):=bel_drewN (Below.refl _ _) nq;have t5V:=(T5.out.alloc (.cells #[(.int .i64 (-(R:Int))),(.int .i64 (S:Int)),(.int .i64 (RR:Int)),(.int .i64 (-(SS:Int)))] 147)).toB bV (T5.out.alloc (.cells #[(.int .i64 (-(R:Int))),(.int .i64 (S:Int)),(.int .i64 (RR:Int)),(.int .i64 (-(SS:Int)))] 147)).lt;have t4V:=(T4.out.alloc (.cells #[(.int .i64 (-(R:Int))),(.int .i64 (S:Int)),(.int .i64 (RR:Int)),(.int .i64 (-(SS:Int)))] 147)).toB bV (T4.out.alloc (.cells #[(.int .i64 (-(R:Int))),(.int .i64 (S:Int)),(.int .i64 (RR:Int)),(.int .i64 (-(SS:Int)))] 147)).lt;have n7V:=N7.out.toB bV N7.out.lt;have hbV:=(HB.out.alloc (o:=(.cells #[(.int .i64 (-(R:Int))),(.int .i64 (S:Int)),(.int .i64 (RR:Int)),(.int .i64 (-(SS:Int)))] 147)) HB.out.size).trans (bV.mono (HB.out.alloc (o:=(.cells #[(.int .i64 (-(R:Int))),(.int .i64 (S:Int)),(.int .i64 (RR:Int)),(.int .i64 (-(SS:Int)))] 147)) HB.out.size).size);generalize (wr.alloc (.cells #[(.int .i64 (-(R:Int))),(.int .i64 (S:Int)),(.int .i64 (RR:Int)),(.int .i64 (-(SS:Int)))] 147)).drewN nq=V at t5V t4V n7V hbV ⊢;have T5V:=Hd t5V;have T4V:=Hd t4V;have N7V:=Hd n7V;have HBV:=Hd hbV;have hB1:=T5.out.lt;have hB2:w.heap.size+1≠wr.heap.size:=Nat.ne_of_lt hB1;clear bV t5V t4V n7V hbV z1 z3 i0 i1 i2 i3 g0 g1 g2 g3 glt TD TD2 cn cm cR cS k1 k2 w1 w3 w4 w5 w6 w7
    have RES:Hid (StepsRet a0 b0 (P:Int) (-(Q:Int)) (-(R:Int)) (S:Int)):=by
     rcases HSU.out with h|⟨h1,h2,h3,h4⟩
     .left;rw[h];rfl
     .exact .inr ⟨P,Q,R,S,a,b,true,by simp[Sg4],HL.out,h2,h1,h3,h4⟩
    rcases Nat.lt_or_ge m SS with hA|hA
    .have hAi:(m:Int)<(SS:Int):=Int.ofNat_lt.2 hA;have hbV1:=HBV.out;obtain ⟨i0,i1,i2,i3,g0,g1,g2,g3,glt⟩:=T5V.out;obtain ⟨j0,j1,j2,j3,h0',h1',h2',h3',hlt'⟩:=T4V.out;clear hbV1;go_wp2
     have tE:=lay4_st (.int .i64 (P:Int)) (.int .i64 (-(Q:Int))) (.int .i64 (-(R:Int))) (.int .i64 (S:Int)) T4V.out;have tc0:=tE.c0;have tc1:=tE.c1;have tc2:=tE.c2;have tc3:=tE.c3;unfold lay4 at tc0 tc1 tc2 tc3;have HBE:=lay4_below (.int .i64 (P:Int)) (.int .i64 (-(Q:Int))) (.int .i64 (-(R:Int))) (.int .i64 (S:Int)) HBV.out;refine bodyPost_ret (v:=.agg #[(.int .i64 (P:Int)),(.int .i64 (-(Q:Int))),(.int .i64 (-(R:Int))),(.int .i64 (S:Int))]) (by simp[results,Tryz.f172,go_sem,tc0,tc1,tc2,tc3]) rfl ?_;exact ⟨_,_,_,_,rfl,HBE,RES.out⟩
    .have hAi:¬((m:Int)<(SS:Int)):=fun h=>absurd (Int.ofNat_lt.1 h) (Nat.not_lt.2 hA)
     obtain ⟨bm,SSS,cbm,cs,hbmw,hsumw,hB3⟩:=stepB HN.out HSS.out HML.out hA ha0;have wsum:=wpos SSS hsumw;have wbm:=wpos bm hbmw;have HB3:=Hd hB3;clear hbmw hsumw hB3
     rcases Nat.lt_or_ge bm SSS with hB|hB
     .have hBi:(bm:Int)<(SSS:Int):=Int.ofNat_lt.2 hB;have hbV1:=HBV.out;obtain ⟨i0,i1,i2,i3,g0,g1,g2,g3,glt⟩:=T5V.out;obtain ⟨j0,j1,j2,j3,h0',h1',h2',h3',hlt'⟩:=T4V.out;clear hbV1;go_wp2
      have tE:=lay4_st (.int .i64 (P:Int)) (.int .i64 (-(Q:Int))) (.int .i64 (-(R:Int))) (.int .i64 (S:Int)) T4V.out;have tc0:=tE.c0;have tc1:=tE.c1;have tc2:=tE.c2;have tc3:=tE.c3;unfold lay4 at tc0 tc1 tc2 tc3;have HBE:=lay4_below (.int .i64 (P:Int)) (.int .i64 (-(Q:Int))) (.int .i64 (-(R:Int))) (.int .i64 (S:Int)) HBV.out;refine bodyPost_ret (v:=.agg #[(.int .i64 (P:Int)),(.int .i64 (-(Q:Int))),(.int .i64 (-(R:Int))),(.int .i64 (S:Int))]) (by simp[results,Tryz.f172,go_sem,tc0,tc1,tc2,tc3]) rfl ?_;exact ⟨_,_,_,_,rfl,HBE,RES.out⟩
     .have hBi:¬((bm:Int)<(SSS:Int)):=fun h=>absurd (Int.ofNat_lt.1 h) (Nat.not_lt.2 hB)
      obtain ⟨i0,i1,i2,i3,g0,g1,g2,g3,glt⟩:=T5V.out;obtain ⟨j0,j1,j2,j3,h0',h1',h2',h3',hlt'⟩:=N7V.out;go_wp2
      go_roundw
      case rel=>exact ⟨b,m,R,S,RR,SS,false,(-(R:Int)),(S:Int),(RR:Int),(-(SS:Int)),rfl,by rw[wm],HN.out,.inl HRS.out,.inr ⟨HL.out.s1,HRS.out,hA,HB3.out hB⟩,by simp[Sg4],lay4_st (.int .i64 (-(R:Int))) (.int .i64 (S:Int)) (.int .i64 (RR:Int)) (.int .i64 (-(SS:Int))) T5V.out,lay4_far (.int .i64 (-(R:Int))) (.int .i64 (S:Int)) (.int .i64 (RR:Int)) (.int .i64 (-(SS:Int))) T4V.out (Nat.ne_of_lt (Nat.lt_succ_self _)),lay4_below' (.int .i64 (-(R:Int))) (.int .i64 (S:Int)) (.int .i64 (RR:Int)) (.int .i64 (-(SS:Int))) HBV.out (Nat.le_succ _)⟩
      case measure=>rw[wm];exact HML.out
end Go.Proofs.YtglhdielkkhefaaGreat

namespace Go.Proofs.YtglhdielkkhefaaGreat
def Op2 (p q:Int):Prop:=(0<=p/\p<2147483648/\-2147483648<q/\q<=0)∨(-2147483648<p/\p<=0/\0<=q/\q<2147483648)
theorem mul_bd {p:Int}{u:Nat}(h0:0<=p)(h1:p<2147483648)(hu:u<4294967296):0<=p*(u:Int)/\p*(u:Int)<=9223372030412324865:=by
 obtain ⟨P,rfl⟩:=Int.eq_ofNat_of_zero_le h0;have h2:P*u<=2147483647*4294967295:=Nat.mul_le_mul (by omega) (by omega);have h3:(P:Int)*(u:Int)=((P*u:Nat):Int):=by simp
 rw[h3];omega
theorem mul_bd' {p:Int}{u:Nat}(h0:p<=0)(h1:-2147483648<p)(hu:u<4294967296):-9223372030412324865<=p*(u:Int)/\p*(u:Int)<=0:=by
 have h:=mul_bd (p:=-p) (u:=u) (by omega) (by omega) hu;rw[Int.neg_mul]at h;omega
theorem op2_bd {p q:Int}{u v:Nat}(h:Op2 p q)(hu:u<4294967296)(hv:v<4294967296) :
  (-9223372030412324865<=p*(u:Int)/\p*(u:Int)<=9223372030412324865)/\(-9223372030412324865<=q*(v:Int)/\q*(v:Int)<=9223372030412324865)/\-9223372030412324865<=p*(u:Int)+q*(v:Int)/\p*(u:Int)+q*(v:Int)<=9223372030412324865:=by
 rcases h with ⟨a,b,c,d⟩|⟨a,b,c,d⟩
 .have h1:=mul_bd a b hu;have h2:=mul_bd' d c hv;omega
 .have h1:=mul_bd' b a hu;have h2:=mul_bd c d hv;omega
def Cy (c:Int):Prop:=-2147483648<=c/\c<=2147483648
theorem op2_step {p q c:Int}{u v:Nat}(h:Op2 p q)(hu:u<4294967296)(hv:v<4294967296)(hc:Cy c) :
  ∃(d:Nat) (c':Int),d<4294967296/\Cy c'/\(p*u+q*v+c) % 4294967296=(d:Int)/\(p*u+q*v+c) / 4294967296=c'/\p*u+q*v+c=d+4294967296*c':=by
 obtain ⟨_,_,h3,h4⟩:=op2_bd h hu hv;obtain ⟨t,et⟩:∃t,p*(u:Int)+q*(v:Int)+c=t:=⟨_,rfl⟩
 unfold Cy at *;refine ⟨(t % 4294967296).toNat,t / 4294967296,by omega,by omega,by omega,by omega,by omega⟩
def Cmb (p q:Int)(xs ys Z:List Nat)(k:Nat)(c:Int):Prop:=(val b32 (Z.take k):Int)+(b32:Int) ^ k*c=p*(val b32 (xs.take k):Int)+q*(val b32 (ys.take k):Int)
theorem Cmb.step {p q c c':Int}{xs ys Z:List Nat}{k d u v:Nat}(h:Cmb p q xs ys Z k c)(hk:k<Z.length)(hu:xs.getD k 0=u)(hv:ys.getD k 0=v)(ht:p*u+q*v+c=d+4294967296*c'):Cmb p q xs ys (Z.set k d) (k+1) c':=by
 unfold Cmb at *;have e1:=val_take_succ (b:=b32) xs k;have e2:=val_take_succ (b:=b32) ys k;have e3:=val_take_succ (b:=b32) (Z.set k d) k;rw[hu]at e1;rw[hv]at e2;rw[getD_at (by rw[List.length_set];exact hk),List.getElem_set_self,List.take_set_of_le (Nat.le_refl k)]at e3;rw[e1,e2,e3]
 push_cast
 rw[Int.pow_succ];have h2:(b32:Int) ^ k*(p*u+q*v+c)=(b32:Int) ^ k*(d+4294967296*c'):=by rw[ht]
 generalize (b32:Int) ^ k=B at *;rw[show (b32:Int)=4294967296 from rfl];clear e1 e2 e3 ht hk hu hv
 grind
theorem Cmb.last {p q c:Int}{xs ys Z:List Nat}{n X':Nat}(h:Cmb p q xs ys Z n c)(hn:Z.length=n)(hx:xs.length=n)(hy:ys.length=n)(hd:Dg b32 Z)(hX:p*(val b32 xs:Int)+q*(val b32 ys:Int)=(X':Int))(hlt:X'<b32 ^ n):val b32 Z=X':=by
 unfold Cmb at h;rw[List.take_of_length_le (by omega),List.take_of_length_le (by omega),List.take_of_length_le (by omega),hX]at h;have hz:=val_lt hd;rw[hn]at hz;have hp:(b32:Int) ^ n=((b32 ^ n:Nat):Int):=by push_cast;rfl
 rw[hp]at h;generalize b32 ^ n=B at *
 rcases Int.lt_trichotomy c 0 with h1|h1|h1
 .have:(B:Int)*c<=(B:Int)*(-1):=Int.mul_le_mul_of_nonneg_left (by omega) (by omega);omega
 .subst h1;omega
 .have:(B:Int)*1<=(B:Int)*c:=Int.mul_le_mul_of_nonneg_left (by omega) (by omega);omega
open Go.RowKit Go.Shelf
def ApSt (w0:World)(K gx sx gy sy B:Nat)(p q r s c1 c2:Int)(Zx Zy:List Nat)(W:World):Prop :=
 Buf .u32 89 gx sx Zx W/\Buf .u32 89 gy sy Zy W/\Boxed W B 2 (.int .i64 p)/\Boxed W (B+1) 2 (.int .i64 q)/\Boxed W (B+2) 2 (.int .i64 c1) /\
  Boxed W (B+3) 2 (.int .i64 r)/\Boxed W (B+4) 2 (.int .i64 s)/\Boxed W (B+5) 2 (.int .i64 c2)/\Below K w0 W
section
variable {w0 W : World} {K gx sx gy sy B : Nat} {p q r s c1 c2 : Int} {Zx Zy : List Nat}
theorem ApSt.one (h:ApSt w0 K gx sx gy sy B p q r s c1 c2 Zx Zy W)(hg:gx<B)(hg2:gy<B)(hK:K<=B)(c:Int):ApSt w0 K gx sx gy sy B p q r s c c2 Zx Zy (W.setCell ⟨B+2,0,none⟩ (.int .i64 c)):=by
 obtain ⟨a,b,d,e,f,g,i,j,k⟩:=h;have G:=grownBy_at W (B+2) 0 (.int .i64 c);exact ⟨a.kept G (by simp;omega),b.kept G (by simp;omega),d.kept G (by simp),e.kept G (by simp),f.set _,g.kept G (by simp),i.kept G (by simp),j.kept G (by simp),k.setCell (p:=⟨B+2,0,none⟩) (by show K<=B+2;omega) _⟩
theorem ApSt.two (h:ApSt w0 K gx sx gy sy B p q r s c1 c2 Zx Zy W)(hg:gx<B)(hg2:gy<B)(hK:K<=B)(c:Int):ApSt w0 K gx sx gy sy B p q r s c1 c Zx Zy (W.setCell ⟨B+5,0,none⟩ (.int .i64 c)):=by
 obtain ⟨a,b,d,e,f,g,i,j,k⟩:=h;have G:=grownBy_at W (B+5) 0 (.int .i64 c);exact ⟨a.kept G (by simp;omega),b.kept G (by simp;omega),d.kept G (by simp),e.kept G (by simp),f.kept G (by simp),g.kept G (by simp),i.kept G (by simp),j.set _,k.setCell (p:=⟨B+5,0,none⟩) (by show K<=B+5;omega) _⟩
theorem ApSt.putx (h:ApSt w0 K gx sx gy sy B p q r s c1 c2 Zx Zy W)(hg:gx<B)(hne:gx≠gy)(hK:K<=gx)(j d:Nat):ApSt w0 K gx sx gy sy B p q r s c1 c2 (Zx.set j d) Zy (W.setCell ⟨gx,j,none⟩ (.int .u32 (d:Nat))):=by
 obtain ⟨a,b,d',e,f,g,i,j',k⟩:=h;have G:=grownBy_at W gx j (.int .u32 (d:Nat));exact ⟨a.set _ _,b.kept G (by simp;omega),d'.kept G (by simp;omega),e.kept G (by simp;omega),f.kept G (by simp;omega),g.kept G (by simp;omega),i.kept G (by simp;omega),j'.kept G (by simp;omega),k.setCell (p:=⟨gx,j,none⟩) hK _⟩
theorem ApSt.puty (h:ApSt w0 K gx sx gy sy B p q r s c1 c2 Zx Zy W)(hg:gy<B)(hne:gx≠gy)(hK:K<=gy)(j d:Nat):ApSt w0 K gx sx gy sy B p q r s c1 c2 Zx (Zy.set j d) (W.setCell ⟨gy,j,none⟩ (.int .u32 (d:Nat))):=by
 obtain ⟨a,b,d',e,f,g,i,j',k⟩:=h;have G:=grownBy_at W gy j (.int .u32 (d:Nat));exact ⟨a.kept G (by simp;omega),b.set _ _,d'.kept G (by simp;omega),e.kept G (by simp;omega),f.kept G (by simp;omega),g.kept G (by simp;omega),i.kept G (by simp;omega),j'.kept G (by simp;omega),k.setCell (p:=⟨gy,j,none⟩) hK _⟩
theorem ApSt.start (ha:Buf .u32 89 gx sx Zx W)(hb:Buf .u32 89 gy sy Zy W)(hK:Below K w0 W)(hKs:K<=W.heap.size):ApSt w0 K gx sx gy sy W.heap.size p q r s 0 0 Zx Zy
  ((((((W.alloc (.cells #[.int .i64 p] 2)).alloc (.cells #[.int .i64 q] 2)).alloc (.cells #[.int .i64 0] 2)).alloc (.cells #[.int .i64 r] 2)).alloc (.cells #[.int .i64 s] 2)).alloc (.cells #[.int .i64 0] 2)):=by
 have G:∀(V:World) (o:Obj),V.grownBy (V.alloc o) none:=fun V o=>World.grownBy_alloc _ _ none
 obtain ⟨V1,e1⟩:∃V1,V1=W.alloc (.cells #[.int .i64 p] 2):=⟨_,rfl⟩
 obtain ⟨V2,e2⟩:∃V2,V2=V1.alloc (.cells #[.int .i64 q] 2):=⟨_,rfl⟩
 obtain ⟨V3,e3⟩:∃V3,V3=V2.alloc (.cells #[.int .i64 0] 2):=⟨_,rfl⟩
 obtain ⟨V4,e4⟩:∃V4,V4=V3.alloc (.cells #[.int .i64 r] 2):=⟨_,rfl⟩
 obtain ⟨V5,e5⟩:∃V5,V5=V4.alloc (.cells #[.int .i64 s] 2):=⟨_,rfl⟩
 have z1:V1.heap.size=W.heap.size+1:=by rw[e1];simp
 have z2:V2.heap.size=W.heap.size+2:=by rw[e2];simp[z1]
 have z3:V3.heap.size=W.heap.size+3:=by rw[e3];simp[z2]
 have z4:V4.heap.size=W.heap.size+4:=by rw[e4];simp[z3]
 have z5:V5.heap.size=W.heap.size+5:=by rw[e5];simp[z4]
 have b0:=Boxed.new W 2 (.int .i64 p);have b1:=Boxed.new V1 2 (.int .i64 q);have b2:=Boxed.new V2 2 (.int .i64 0);have b3:=Boxed.new V3 2 (.int .i64 r);have b4:=Boxed.new V4 2 (.int .i64 s);have b5:=Boxed.new V5 2 (.int .i64 0);rw[<-e1]at b0 ⊢;rw[<-e2]at b1 ⊢;rw[<-e3]at b2 ⊢;rw[<-e4]at b3 ⊢;rw[<-e5]at b4 ⊢;rw[z1]at b1;rw[z2]at b2;rw[z3]at b3;rw[z4]at b4;rw[z5]at b5;have up1:∀{B:Nat} {v:Value},Boxed V1 B 2 v->Boxed V2 B 2 v:=fun h=>by rw[e2];exact h.alloc _
 have up2:∀{B:Nat} {v:Value},Boxed V2 B 2 v->Boxed V3 B 2 v:=fun h=>by rw[e3];exact h.alloc _
 have up3:∀{B:Nat} {v:Value},Boxed V3 B 2 v->Boxed V4 B 2 v:=fun h=>by rw[e4];exact h.alloc _
 have up4:∀{B:Nat} {v:Value},Boxed V4 B 2 v->Boxed V5 B 2 v:=fun h=>by rw[e5];exact h.alloc _
 have bup:Below W.heap.size W (V5.alloc (.cells #[.int .i64 0] 2)):=by
  rw[e5,e4,e3,e2,e1];exact ((((bRR.alloc (by simp) _).alloc (by simp;omega) _).alloc (by simp;omega) _).alloc (by simp;omega) _).alloc (by simp;omega) _
 exact ⟨ha.onto bup ha.lt,hb.onto bup hb.lt,(up4 (up3 (up2 (up1 b0)))).alloc _,(up4 (up3 (up2 b1))).alloc _,(up4 (up3 b2)).alloc _,(up4 b3).alloc _,b4.alloc _,b5,hK.trans (bup.mono hKs)⟩
end
theorem comb_any {p q c:Int}{u v Bp Bq Br:Nat}{w:World}(h:Op2 p q)(hu:u<4294967296)(hv:v<4294967296)(hc:Cy c)(bp:Boxed w Bp 2 (.int .i64 p))(bq:Boxed w Bq 2 (.int .i64 q))(br:Boxed w Br 2 (.int .i64 c)){d:Nat}{c':Int}(hd:(p*u+q*v+c) % 4294967296=(d:Int))(hc':(p*u+q*v+c) / 4294967296=c') :
  Calls Tryz.prog 189 #[.int .u32 (u:Nat),.int .u32 (v:Nat),.pointer (some ⟨Bp,0,none⟩),.pointer (some ⟨Bq,0,none⟩),.pointer (some ⟨Br,0,none⟩)] w fun e w'=>e=.returned (.int .u32 (d:Nat))/\w'=w.setCell ⟨Br,0,none⟩ (.int .i64 c'):=by
 obtain ⟨h1,h2,h3,h4⟩:=op2_bd h hu hv;unfold Cy at hc;have H:=combiner1_any p q c u v Bp Bq Br w hu hv bp.cell bq.cell br.cell br.frozen (by omega) (by omega) (by omega) (by omega) (by omega) (by omega) (by omega) (by omega);rw[hd,hc']at H;exact H
def Rest (k:Nat)(xs Z:List Nat):Prop:=∀j,k<=j->Z.getD j 0=xs.getD j 0
theorem Rest.set {k d:Nat}{xs Z:List Nat}(h:Rest k xs Z):Rest (k+1) xs (Z.set k d):=fun j hj=>by rw[getD_set_other Z d (by omega)];exact h j (by omega)
theorem apply_any {w0 w:World}{K gx sx gy sy cx cy n:Nat}{p q r s:Int}{xs ys:List Nat}{X' Y':Nat}(bx:Buf .u32 89 gx sx xs w)(by_:Buf .u32 89 gy sy ys w)(dx:Dg b32 xs)(dy:Dg b32 ys)(lx:xs.length=n)(ly:ys.length=n)(hne:gx≠gy)(hn:n<=4294967296)
  (hK:Below K w0 w) (hKx:K<=gx) (hKy:K<=gy) (hpq:Op2 p q) (hrs:Op2 r s) (hX:p*(val b32 xs:Int)+q*(val b32 ys:Int)=(X':Int)) (hY:r*(val b32 xs:Int)+s*(val b32 ys:Int)=(Y':Int)) (hX':X'<b32 ^ n) (hY':Y'<b32 ^ n) :
  Calls Tryz.prog 174 #[.agg #[.int .i64 p,.int .i64 q,.int .i64 r,.int .i64 s],.slice (some ⟨gx,0,none⟩) n cx,.slice (some ⟨gy,0,none⟩) n cy] w fun e w'=>(∃v,e=.returned v)/\∃Zx Zy:List Nat,Zx.length=n/\Zy.length=n/\Dg b32 Zx/\Dg b32 Zy/\val b32 Zx=X'/\val b32 Zy=Y' /\
   Buf .u32 89 gx sx Zx w'/\Buf .u32 89 gy sy Zy w'/\Below K w0 w':=by
 have hgx:=bx.lt;have hgy:=by_.lt;obtain ⟨W0,hW0⟩:∃W0,W0=w.alloc (.cells #[.int .i64 p,.int .i64 q,.int .i64 r,.int .i64 s] 147):=⟨_,rfl⟩
 have hb0:Below w.heap.size w W0:=by rw[hW0];exact bRR
 have hs0:W0.heap.size=w.heap.size+1:=by rw[hW0];simp
 have st0:St4 W0 w.heap.size (.int .i64 p) (.int .i64 q) (.int .i64 r) (.int .i64 s):=by rw[hW0];exact St4.new w _ _ _ _ _
 have k0:=st0.c0;have k1:=st0.c1;have k2:=st0.c2;have k3:=st0.c3;have HW0:=Hd hW0;clear hW0
 go_enter Tryz.func174,Tryz.ntmps174
 go_wp2_with fail
 rw[<-HW0.out];refine wp_region_plan (S:=fun w'=>Below W0.heap.size W0 w') [(0,true),(1,true),(2,true),(3,true),(5,true),(6,true),(7,true),(8,true),(4,false),(9,false),(10,true),(11,true)] (by kernel_rfl) (by kernel_rfl) (Below.refl _ _).drew ?_;have hlt0:w.heap.size<W0.heap.size:=by omega
 repeat (refine plan_take (v:=?_) rfl (by rfl) ?_ ?_;rotate_left;(focus (intro w' hS;have e0:=(hS.cell (p:=⟨w.heap.size,0,none⟩) hlt0).trans k0;have e1:=(hS.cell (p:=⟨w.heap.size,1,none⟩) hlt0).trans k1;have e2:=(hS.cell (p:=⟨w.heap.size,2,none⟩) hlt0).trans k2;have e3:=(hS.cell (p:=⟨w.heap.size,3,none⟩) hlt0).trans k3;go_simp;try with_reducible rfl));simp only[Act.put,pqA,pqB,pqC])
 refine plan_call rfl (by rfl) (fun K hK=>?_);go_simp;refine (combiner_any p q _).mono ?_;rintro e w' ⟨rfl,rfl⟩;refine hK.out _ _ ((((Below.refl _ _).drew.alloc (Nat.le_refl _) _).alloc (by simp) _).alloc (by simp;omega) _) ?_;clear hK K
 try simp only[Act.put,pqA,pqB,pqC]
 refine plan_call rfl (by rfl) (fun K hK=>?_);go_simp;refine (combiner_any r s _).mono ?_;rintro e w' ⟨rfl,rfl⟩;refine hK.out _ _ ((((((Below.refl _ _).drew.alloc (Nat.le_refl _) _).alloc (by simp) _).alloc (by simp;omega) _).alloc (by simp;omega) _).alloc (by simp;omega) _ |>.alloc (by simp;omega) _) ?_;clear hK K
 try simp only[Act.put,pqA,pqB,pqC]
 repeat (refine plan_take (v:=?_) rfl (by rfl) ?_ ?_;rotate_left;(focus (intro w' hS;have e0:=(hS.cell (p:=⟨w.heap.size,0,none⟩) hlt0).trans k0;have e1:=(hS.cell (p:=⟨w.heap.size,1,none⟩) hlt0).trans k1;have e2:=(hS.cell (p:=⟨w.heap.size,2,none⟩) hlt0).trans k2;have e3:=(hS.cell (p:=⟨w.heap.size,3,none⟩) hlt0).trans k3;go_simp;try with_reducible rfl));simp only[Act.put,pqA,pqB,pqC])
 refine plan_done ?_;obtain ⟨W1,hW1⟩:∃W1,W1=((((((W0.alloc (.cells #[.int .i64 p] 2)).alloc (.cells #[.int .i64 q] 2)).alloc (.cells #[.int .i64 0] 2)).drew.alloc (.cells #[.int .i64 r] 2)).alloc (.cells #[.int .i64 s] 2)).alloc (.cells #[.int .i64 0] 2)):=⟨_,rfl⟩
 have S0:ApSt w0 K gx sx gy sy W0.heap.size p q r s 0 0 xs ys W1:=by
  rw[hW1];obtain ⟨a1,a2,a3,a4,a5,a6,a7,a8,a9⟩:=ApSt.start (p:=p) (q:=q) (r:=r) (s:=s) (W:=W0) (bx.onto hb0 hgx) (by_.onto hb0 hgy) (hK.trans (hb0.mono (Nat.le_trans hKx (Nat.le_of_lt hgx)))) (show K<=W0.heap.size by omega);exact ⟨a1,a2,a3,a4,a5,a6,a7,a8,⟨a9.os,a9.tape,a9.output,a9.size,a9.block⟩⟩
 rw[<-hW1];have hdz:∀V:World,V.drew.heap.size=V.heap.size:=fun _=>rfl
 simp only[hdz,szA,hs0];clear hdz;have hBx:gx<W0.heap.size:=by omega
 have hBy:gy<W0.heap.size:=by omega
 have hBK:K<=W0.heap.size:=by omega
 rw[hs0]at S0 hBx hBy hBK;obtain ⟨B,eB⟩:∃B,w.heap.size+1=B:=⟨_,rfl⟩
 rw[eB]at S0 hBx hBy hBK ⊢;have LX:=Hd lx;have LY:=Hd ly;have HX:=Hd hX;have HY:=Hd hY;clear hW1 k0 k1 k2 k3 st0 hb0 hs0 bx by_ hlt0 eB hX hY lx ly;have i0:Hid (Cmb p q xs ys xs 0 0/\Cmb r s xs ys ys 0 0):=by show _/\_;constructor<;>(unfold Cmb;simp[val])
 go_wp2
 go_loopw [23] (fun kv wi=>∃(k:Nat) (Zx Zy:List Nat) (c1 c2:Int),kv=.int .i64 k/\k<=n/\Zx.length=n/\Zy.length=n/\Dg b32 Zx/\Dg b32 Zy/\Hid (Rest k xs Zx)/\Hid (Rest k ys Zy)/\Cy c1/\Cy c2/\Hid (Cmb p q xs ys Zx k c1)/\Hid (Cmb r s xs ys Zy k c2)/\ApSt w0 K gx sx gy sy B p q r s c1 c2 Zx Zy wi)
  (fun kv _=>n-(intOf kv).toNat)
 case atStart=>exact ⟨0,xs,ys,0,0,rfl,Nat.zero_le _,LX.out,LY.out,dx,dy,fun _ _=>rfl,fun _ _=>rfl,by unfold Cy;omega,by unfold Cy;omega,i0.out.1,i0.out.2,S0⟩
 case round =>
  obtain ⟨k,Zx,Zy,c1,c2,rfl,hk,hlx,hly,hdx,hdy,hrx,hry,hc1,hc2,hcx,hcy,hst⟩:=hrel
  by_cases hkl:k<n
  .have hkx:k<Zx.length:=by omega
   have hky:k<Zy.length:=by omega
   have ex:=hst.1.cell hkx;rw[<-getD_at hkx,hrx.out k (Nat.le_refl _)]at ex;have ey:=hst.2.1.cell hky;rw[<-getD_at hky,hry.out k (Nat.le_refl _)]at ey;have hu:=getD_dg (by decide) dx k;have hv:=getD_dg (by decide) dy k;obtain ⟨u,eu⟩:∃u,Hid (xs.getD k 0=u):=⟨_,rfl⟩
   obtain ⟨v,ev⟩:∃v,Hid (ys.getD k 0=v):=⟨_,rfl⟩
   rw[eu.out]at ex hu;rw[ev.out]at ey hv;obtain ⟨d1,c1',hd1,hc1',e11,e12,e13⟩:=op2_step hpq hu hv hc1;obtain ⟨d2,c2',hd2,hc2',e21,e22,e23⟩:=op2_step hrs hu hv hc2;have N1:=Hd (Cmb.step hcx.out hkx eu.out ev.out e13);have N2:=Hd (Cmb.step hcy.out hky eu.out ev.out e23);have s1:=hst.one hBx hBy hBK c1';have s2:=s1.two hBx hBy hBK c2';have s3:=s2.putx hBx hne hKx k d1;have s4:=s3.puty hBy hne hKy k d2;have ST1:=Hd (comb_any hpq hu hv hc1 hst.2.2.1 hst.2.2.2.1 hst.2.2.2.2.1 e11 e12);have ST2:=Hd (comb_any hrs hu hv hc2 s1.2.2.2.2.2.1 s1.2.2.2.2.2.2.1 s1.2.2.2.2.2.2.2.1 e21 e22);have x2:=s2.1.cell hkx;have f2:=s2.1.frozen k;have y3:=s3.2.1.cell hky;have f3:=s3.2.1.frozen k;obtain ⟨ox,eox⟩:∃ox,Zx[k]=ox:=⟨_,rfl⟩
   obtain ⟨oy,eoy⟩:∃oy,Zy[k]=oy:=⟨_,rfl⟩
   rw[eox]at x2;rw[eoy]at y3;have fx0:=hst.1.frozen k;have fy0:=hst.2.1.frozen k;have S4:=Hd s4;have hkn:(k:Int)<(n:Int):=by omega
   clear s1 s2 s3 s4 e11 e12 e13 e21 e22 e23 hst eox eoy i0
   go_wp2_with fail
   refine ST1.out.mono ?_;rintro e w' ⟨rfl,rfl⟩
   go_wp2_with fail
   refine ST2.out.mono ?_;rintro e w' ⟨rfl,rfl⟩;go_wp2
   go_roundw
   case rel=>exact ⟨k+1,Zx.set k d1,Zy.set k d2,c1',c2',by simp,hkl,by rw[List.length_set];exact hlx,by rw[List.length_set];exact hly,hdx.set _ hd1,hdy.set _ hd2,hrx.out.set,hry.out.set,hc1',hc2',N1,N2,S4.out⟩
   case measure=>simp[intOf];omega
  .obtain rfl:k=n:=by omega
   have V1:=Hd (Cmb.last hcx.out hlx LX.out LY.out hdx HX.out hX');have V2:=Hd (Cmb.last hcy.out hly LX.out LY.out hdy HY.out hY');have HST:=Hd hst;clear hst hcx hcy hX' hY';go_wp2
   go_end0
   exact ⟨⟨_,rfl⟩,Zx,Zy,hlx,hly,hdx,hdy,V1.out,V2.out,HST.out.1,HST.out.2.1,HST.out.2.2.2.2.2.2.2.2⟩
end Go.Proofs.YtglhdielkkhefaaGreat

namespace Go.Proofs.YtglhdielkkhefaaGreat
open Go.RowKit
noncomputable def magW (w:World)(v:Value):Nat:=open Classical in if h:∃n,∃A c xs,v=.slice A xs.length c/\Rd .u32 w w.heap.size A xs/\val b32 xs=n then h.choose else 0
theorem rd_same {w:World}{B B':Nat}{A:Option Addr}{xs ys:List Nat}(h:Rd .u32 w B A xs)(k:Rd .u32 w B' A ys)(hl:xs.length=ys.length):xs=ys:=by
 apply List.ext_getElem hl;intro i h1 h2;obtain ⟨b,o,e,_,c⟩:=h i h1;obtain ⟨b',o',e',_,c'⟩:=k i h2;rw[e]at e';simp only[Option.some.injEq,Addr.mk.injEq,and_true]at e';obtain ⟨rfl,rfl⟩:=e';rw[c]at c';simp only[Option.some.injEq,Value.int.injEq,true_and]at c';omega
theorem magW_eq {w:World}{A:Option Addr}{c:Nat}{xs:List Nat}(h:Rd .u32 w w.heap.size A xs):magW w (.slice A xs.length c)=val b32 xs:=by
 have hx:∃n,∃A' c' xs',Value.slice A xs.length c=.slice A' xs'.length c'/\Rd .u32 w w.heap.size A' xs'/\val b32 xs'=n:=⟨_,A,c,xs,rfl,h,rfl⟩
 unfold magW;rw[dif_pos hx];obtain ⟨A',c',xs',e,h',hv⟩:=hx.choose_spec
 injection e with e1 e2 e3
 subst e1;rw[<-hv,rd_same h' h e2.symm]
theorem top_le {xs ys:List Nat}{n:Nat}(dx:Dg b32 xs)(lx:xs.length=n+1)(ly:ys.length=n+1)(h:val b32 ys<=val b32 xs):ys.getD n 0<=xs.getD n 0:=by
 have e1:=top_one b32 xs n lx;have e2:=top_one b32 ys n ly
 have l1:val b32 (xs.take n)<b32 ^ n:=by
  have:=val_lt (dx.take n)
  rwa [List.length_take,Nat.min_eq_left (by omega)]at this
 rcases Nat.lt_or_ge (xs.getD n 0) (ys.getD n 0) with h1|h1
 .have:=Nat.mul_le_mul_left (b32 ^ n) h1;rw[Nat.succ_eq_add_one,Nat.mul_add,Nat.mul_one]at this;omega
 .exact h1
theorem val_take_small {zs:List Nat}{m:Nat}(hm:m<=zs.length)(h:val b32 zs<b32 ^ m):val b32 (zs.take m)=val b32 zs:=by
 have e1:=val_split b32 zs m hm
 rcases Nat.eq_zero_or_pos (val b32 (zs.drop m)) with h1|h1
 .rw[h1,Nat.mul_zero,Nat.add_zero]at e1;exact e1.symm
 .have:b32 ^ m*1<=b32 ^ m*val b32 (zs.drop m):=Nat.mul_le_mul_left _ h1;omega
theorem steps_less {X Y X' Y' P Q R S:Nat}(hX:X=S*X'+Q*Y')(hY:Y=R*X'+P*Y')(h0:0<Y)(hlt:Y'<X')(hS:1<=S)(hQ:1<=Q):X'+Y'<X+Y:=by
 have h1:1*X'<=S*X':=Nat.mul_le_mul_right _ hS;have h2:1*Y'<=Q*Y':=Nat.mul_le_mul_right _ hQ;omega
theorem steps_use {X Y T n:Nat}{p q r s:Int}(hT:0<T)(hle:Y<=X)(h63:X / T<9223372036854775808)(hret:StepsRet (X / T) (Y / T) p q r s)(hq:q≠0)(hXn:X<b32 ^ n)(hY0:0<Y) :
  ∃X' Y':Nat,Op2 p q/\Op2 r s/\p*(X:Int)+q*(Y:Int)=(X':Int)/\r*(X:Int)+s*(Y:Int)=(Y':Int)/\X'<b32 ^ n/\Y'<X'/\Nat.gcd X' Y'=Nat.gcd X Y/\X'+Y'<X+Y:=by
 rcases hret with h|⟨P,Q,R,S,a,b,σ,hsg,hL,hpq,hQ,h1,h2⟩
 .exact absurd h hq
 .have hS:=hL.sure h63 h1 h2;obtain ⟨X',Y',hrel,hlt,eX,eY⟩:=steps_whole hT hL hpq hQ h1 h2;have hg:=steps_gcd hrel eX eY;have hless:=steps_less eX eY hY0 hlt hL.s1 hQ;have hrs:=hL.rs;have hqs:=hL.qs;have hs1:=hL.s1
  have hX':X'<=X:=by
   have:1*X'<=S*X':=Nat.mul_le_mul_right _ hs1;omega
  refine ⟨X',Y',?_,?_,?_,?_,by omega,hlt,hg,hless⟩
  .cases σ<;>simp[Sg4]at hsg<;>obtain ⟨rfl,rfl,rfl,rfl⟩:=hsg<;>unfold Op2<;>omega
  .cases σ<;>simp[Sg4]at hsg<;>obtain ⟨rfl,rfl,rfl,rfl⟩:=hsg<;>unfold Op2<;>omega
  .cases σ
   .simp only[Bool.false_eq_true,if_false]at hrel;simp[Sg4]at hsg;obtain ⟨rfl,rfl,rfl,rfl⟩:=hsg;have:=congrArg (Int.ofNat) hrel.1;simp only[Int.ofNat_eq_natCast]at this
    push_cast at this
    rw[Int.neg_mul];omega
   .simp only[if_true]at hrel;simp[Sg4]at hsg;obtain ⟨rfl,rfl,rfl,rfl⟩:=hsg;have:=congrArg (Int.ofNat) hrel.1;simp only[Int.ofNat_eq_natCast]at this
    push_cast at this
    rw[Int.neg_mul];omega
  .cases σ
   .simp only[Bool.false_eq_true,if_false]at hrel;simp[Sg4]at hsg;obtain ⟨rfl,rfl,rfl,rfl⟩:=hsg;have:=congrArg (Int.ofNat) hrel.2;simp only[Int.ofNat_eq_natCast]at this
    push_cast at this
    rw[Int.neg_mul];omega
   .simp only[if_true]at hrel;simp[Sg4]at hsg;obtain ⟨rfl,rfl,rfl,rfl⟩:=hsg;have:=congrArg (Int.ofNat) hrel.2;simp only[Int.ofNat_eq_natCast]at this
    push_cast at this
    rw[Int.neg_mul];omega
open Go.Shelf
theorem or_w1 (a b:Nat)(ha:a<4294967296)(hb:b<4294967296):bits .or .u64 (a:Int) ((b:Int)*4294967296)=((a+b*4294967296:Nat):Int):=by
 have h:=or_words a b ha hb
 rwa [or_word a ha]at h
theorem toU64_any {A:Option Addr}{c:Nat}{xs:List Nat}{w:World}(hx:Rd .u32 w w.heap.size A xs)(hd:Dg b32 xs)(hv:val b32 xs<18446744073709551616)(hl:xs.length<=4294967296) :
  Calls Tryz.prog 159 #[.slice A xs.length c] w fun e w'=>e=.returned (.int .u64 (val b32 xs:Nat))/\w=w':=by
 go_enter Tryz.func159,Tryz.ntmps159
 go_wp2
 go_loopw [3,8] (fun nv iv wr=>∃(i n:Nat),iv=.int .i64 (i:Nat)/\nv=.int .u64 (n:Nat)/\i<=xs.length/\Hid (n=val b32 (xs.take i))/\wr=w) (fun _ iv _=>xs.length-(intOf iv).toNat)
 case atStart=>exact ⟨0,0,rfl,rfl,Nat.zero_le _,rfl,rfl⟩
 case round =>
  obtain ⟨i,n,rfl,rfl,hi,hn,rfl⟩:=hrel
  by_cases hlt:i<xs.length
  .obtain ⟨bx,ox,rfl,_,hcx⟩:=hx.at_ hlt;have ex:=hcx i hlt;rw[<-getD_at hlt]at ex;have hf:xs.getD i 0<4294967296:=getD_dg (by decide) hd i;have HTK:=Hd (val_take_succ (b:=b32) xs i);have HVS:=val_split b32 xs i (by omega);have HDS:=val_drop_step b32 xs i hlt;obtain ⟨x,ef⟩:∃f,Hid (xs.getD i 0=f):=⟨_,rfl⟩
   rw[ef.out]at ex hf HTK HDS;have wx:IntKind.u64.wrap (x:Int)=(x:Int):=by rw[IntKind.wrap_u64];omega
   rcases Nat.lt_or_ge i 2 with hi2|hi2
   .rcases Nat.eq_zero_or_pos i with h0|h0
    .subst h0;have h0:n=0:=by have:=hn.out;simpa [val]using this
     subst h0;have T:=or_word x hf;have HN:Hid (x=val b32 (xs.take (0+1))):=by show _=_;rw[HTK.out];simp[val]
     rw[Nat.add_zero]at ex;clear hcx HTK hn;go_wp2
     go_roundw
     case rel=>exact ⟨0+1,x,rfl,rfl,hlt,HN,by first|trivial|rfl⟩
     case measure=>simp[intOf];omega
    .obtain rfl:i=1:=by omega
     have hn1:n<4294967296:=by
      have h1:=val_lt (hd.take 1);rw[<-hn.out,List.length_take,Nat.min_eq_left hi,Nat.pow_one]at h1;exact h1
     have T:=or_w1 n x hn1 hf;have wx2:IntKind.u64.wrap ((x:Int)*4294967296)=(x:Int)*4294967296:=by rw[IntKind.wrap_u64];omega
     have HN:Hid (n+x*4294967296=val b32 (xs.take (1+1))):=by show _=_;rw[HTK.out,hn.out,Nat.pow_one,Nat.mul_comm];rfl
     clear hcx HTK hn;go_wp2
     go_roundw
     case rel=>exact ⟨1+1,n+x*4294967296,rfl,by rw[Int.natCast_add,Int.natCast_mul];rfl,hlt,HN,by first|trivial|rfl⟩
     case measure=>simp[intOf];omega
   .have hx0:x=0:=by
     rcases Nat.eq_zero_or_pos x with h|h
     .exact h
     .exfalso
      have h1:b32 ^ i*1<=b32 ^ i*val b32 (xs.drop i):=Nat.mul_le_mul_left _ (by omega);have h2:b32 ^ 2<=b32 ^ i:=Nat.pow_le_pow_right (by decide) (by omega);have h3:b32 ^ 2=18446744073709551616:=by decide
      omega
    subst hx0
    have hn64:n<18446744073709551616:=by
     rw[hn.out];omega
    have T:bits .or .u64 (n:Int) 0=(n:Int):=by
     have h:=bits_or_u64_nat n 0 hn64 (by omega);rw[Nat.or_zero]at h;exact h
    have HN:Hid (n=val b32 (xs.take (i+1))):=by show _=_;rw[HTK.out,hn.out,Nat.mul_zero];rfl
    obtain ⟨C,eC⟩:∃C,32*i=C:=⟨_,rfl⟩
    have cC:(32:Int)*(i:Int)=(C:Int):=by omega
    have hC1:64<=C:=by omega
    have hC2:C<9223372036854775807:=by omega
    clear hcx HTK hn HVS HDS eC;go_wp2
    go_roundw
    case rel=>exact ⟨i+1,n,by push_cast;rfl,rfl,hlt,HN,by first|trivial|rfl⟩
    case measure=>simp[intOf];omega
  .obtain rfl:i=xs.length:=by omega
   have HN:Hid (n=val b32 xs):=by have:=hn.out;rwa [List.take_of_length_le (Nat.le_refl _)]at this
   clear hn;go_wp2
   go_ret
   exact ⟨ret_u64 (by rw[HN.out]),rfl⟩
theorem lead_val {w0 V s:Nat}(hs:s<32):(V*2 ^ s+w0 / 2 ^ (32-s)) / 2=(w0+4294967296*V) / 2 ^ (33-s):=by
 have h1:2 ^ (33-s)=2 ^ (32-s)*2:=by rw[<-Nat.pow_succ];congr 1;omega
 rw[h1,<-Nat.div_div_eq_div_mul]
 congr 1
 rw[pow_split hs,Nat.mul_comm (2 ^ s),Nat.mul_assoc,Nat.add_mul_div_left _ _ (Nat.pow_pos (by decide)),Nat.mul_comm V];omega
theorem lead_three {ws:List Nat}{f:Nat}(hl:ws.length=f+3):val b32 (ws.drop f)=ws.getD f 0+b32*(ws.getD (f+1) 0+ws.getD (f+2) 0*b32):=by
 rw[val_drop_step b32 ws f (by omega),val_drop_step b32 ws (f+1) (by omega),val_drop_step b32 ws (f+2) (by omega),List.drop_of_length_le (by omega)];simp only[val,Nat.mul_zero,Nat.add_zero];rw[Nat.mul_comm b32 (ws.getD (f+2) 0)]
theorem lead_div {ws:List Nat}{f K:Nat}(hd:Dg b32 ws)(hl:f<=ws.length):val b32 (ws.drop f) / K=val b32 ws / (b32 ^ f*K):=by
 have h1:=val_split b32 ws f hl
 have h2:val b32 (ws.take f)<b32 ^ f:=by
  have:=val_lt (hd.take f)
  rwa [List.length_take,Nat.min_eq_left hl]at this
 rw[<-Nat.div_div_eq_div_mul,h1,Nat.add_mul_div_left _ _ (Nat.pow_pos (by decide)),Nat.div_eq_of_lt h2,Nat.zero_add]
theorem toU64_q {A:Option Addr}{c:Nat}{xs:List Nat}{w:World}(hx:Rd .u32 w w.heap.size A xs)(hd:Dg b32 xs)(hv:val b32 xs<18446744073709551616)(hl:xs.length<=4294967296) :
  Calls Tryz.prog 159 #[.slice A xs.length c] w fun e w'=>e=.returned (.int .u64 (val b32 xs:Nat))/\w'=w:=(toU64_any hx hd hv hl).mono fun _ _ ⟨h1,h2⟩=>⟨h1,h2.symm⟩
theorem lead_any {A:Option Addr}{c f s B1 B2:Nat}{ws:List Nat}{w:World}(hx:Rd .u32 w w.heap.size A ws)(hd:Dg b32 ws)(hl:ws.length=f+3)(hc:ws.length<=c)(hs:s<32)(hf:f<4294967296)(hcc:c<=9223372036854775807)
  (htop:ws.getD (f+2) 0*2 ^ s<4294967296) (c1:w.cell? ⟨B1,0,none⟩=some (.int .i64 (f:Nat))) (c2:w.cell? ⟨B2,0,none⟩=some (.int .i64 (s:Nat))) :
  Calls Tryz.prog 183 #[.slice A ws.length c,.pointer (some ⟨B1,0,none⟩),.pointer (some ⟨B2,0,none⟩)] w fun e w'=>e=.returned (.int .i64 ((val b32 ws / (b32 ^ f*2 ^ (33-s)):Nat):Int))/\val b32 ws / (b32 ^ f*2 ^ (33-s))<9223372036854775808/\∃n,w'=w.drewN n:=by
 obtain ⟨b,o,rfl,hb,hcx⟩:=hx.at_ (k:=0) (by omega);have x0:=hcx f (by omega);have x1:=hcx (f+1) (by omega);have x2:=hcx (f+2) (by omega);rw[<-getD_at (by omega)]at x0 x1 x2
 have HV:Hid (val b32 ws / (b32 ^ f*2 ^ (33-s))=((ws.getD (f+1) 0+ws.getD (f+2) 0*b32)*2 ^ s+ws.getD f 0 / 2 ^ (32-s)) / 2):=by
  show _=_
  rw[lead_val hs,<-lead_div hd (by omega),lead_three hl];rfl
 have u0:ws.getD f 0<4294967296:=getD_dg (by decide) hd f;have u1:ws.getD (f+1) 0<4294967296:=getD_dg (by decide) hd (f+1);have u2:ws.getD (f+2) 0<4294967296:=getD_dg (by decide) hd (f+2);generalize ws.getD f 0=w0 at *;generalize ws.getD (f+1) 0=w1 at *;generalize ws.getD (f+2) 0=w2 at *
 have hrd:Rd .u32 w w.heap.size (some ⟨b,o+(f+1),none⟩) [w1,w2]:=by
  intro k hk;refine ⟨b,o+(f+1),rfl,hb,?_⟩
  match k,hk with
  | 0,_=>exact x1
  | 1,_=>exact x2
 have hv:val b32 [w1,w2]=w1+w2*b32:=by simp only[val,Nat.mul_zero,Nat.add_zero];rw[Nat.mul_comm]
 obtain ⟨V,eV⟩:∃V,w1+w2*b32=V:=⟨_,rfl⟩
 have hp:=pow_split hs
 have hVs:V*2 ^ s<18446744073709551616:=by
  have h1:w2<2 ^ (32-s):=by
   rw[hp,Nat.mul_comm (2 ^ s)]at htop;exact Nat.lt_of_mul_lt_mul_right htop
  have h2:V<2 ^ (32-s)*4294967296:=by
   have h3:=Nat.mul_le_mul_right 4294967296 h1;rw[Nat.succ_eq_add_one,Nat.add_mul,Nat.one_mul]at h3;rw[<-eV];unfold b32;omega
  have h4:=Nat.mul_lt_mul_of_pos_right h2 (Nat.pow_pos (n:=s) (show 0<2 by decide));rw[Nat.mul_right_comm,Nat.mul_comm (2 ^ (32-s)),<-hp]at h4;omega
 have hV64:V<18446744073709551616:=Nat.lt_of_le_of_lt (Nat.le_mul_of_pos_right _ (Nat.pow_pos (by decide))) hVs;have hvt:val b32 [w1,w2]<18446744073709551616:=by rw[hv,eV];exact hV64
 have TU:=fun (V:World) (n:Nat) (e:V=w.drewN n)=>toU64_q (A:=some ⟨b,o+(f+1),none⟩) (c:=c-(f+1)) (xs:=[w1,w2]) (w:=V) (by subst e;exact hrd) (Dg.cons u1 (Dg.one u2)) hvt (by simp)
 rw[hv,eV,show ([w1,w2]:List Nat).length=ws.length-(f+1) from by simp;omega]at TU;have TUH:=Hd TU;obtain ⟨P,eP⟩:∃P,V*2 ^ s=P:=⟨_,rfl⟩
 obtain ⟨L,eL⟩:∃L,w0 / 2 ^ (32-s)=L:=⟨_,rfl⟩
 have hL:L<2 ^ s:=by
  rw[<-eL,Nat.div_lt_iff_lt_mul (Nat.pow_pos (by decide)),<-hp];exact u0
 have cP:(V:Int)*2 ^ s=(P:Int):=by rw[<-eP];push_cast;rfl
 have wP:IntKind.u64.wrap (P:Int)=(P:Int):=by rw[IntKind.wrap_u64];omega
 have w0w:IntKind.u64.wrap (w0:Int)=(w0:Int):=by rw[IntKind.wrap_u64];omega
 obtain ⟨r,er⟩:∃r,32-s=r:=⟨_,rfl⟩
 rw[er]at eL;have cr:(32:Int)-(s:Int)=(r:Int):=by omega
 have hr:r<=32:=by omega
 have cL:(w0:Int) / 2 ^ r=(L:Int):=by rw[<-eL];push_cast;rfl
 have hL64:L<18446744073709551616:=Nat.lt_of_le_of_lt (by rw[<-eL];exact Nat.div_le_self _ _) (show w0<18446744073709551616 by omega);have wL:IntKind.u64.wrap (L:Int)=(L:Int):=by rw[IntKind.wrap_u64];omega
 have hPL:P+L<18446744073709551616:=by
  have h1:=or_low (y:=V) hL;rw[eP]at h1;have h2:L ||| P<2 ^ 64:=Nat.or_lt_two_pow (by omega) (by omega)
  omega
 have TOR:bits .or .u64 (P:Int) (L:Int)=((P+L:Nat):Int):=by
  have h:=bits_or_u64_nat P L (by omega) (by omega);have h1:=or_low (y:=V) hL;rw[eP]at h1;rw[Nat.or_comm,h1,Nat.add_comm]at h;exact h
 obtain ⟨H,eH⟩:∃H,P+L=H:=⟨_,rfl⟩
 rw[eH]at TOR hPL
 have HRES:Hid (((H / 2:Nat):Int)=((val b32 ws / (b32 ^ f*2 ^ (33-s)):Nat):Int)):=by
  show _=_
  rw[HV.out,eV,eP,er,eL,eH]
 have HLT:Hid (val b32 ws / (b32 ^ f*2 ^ (33-s))<9223372036854775808):=by
  show _<_
  rw[HV.out,eV,eP,er,eL,eH];omega
 have WH:=Hd (show wrap64 ((H:Int) / 2)=((H / 2:Nat):Int) by unfold wrap64;omega);have HLS:=Hd hl;have hcne:¬c=f+1:=by omega
 have hlI:(f:Int)+1<=(ws.length:Int):=by omega
 have hlI2:(f:Int)<(ws.length:Int):=by omega
 have hcI:(ws.length:Int)<=(c:Int):=by omega
 clear hcx hx hd hl HV hv eV hp hVs eP eL hL hvt TU htop hPL
 go_enter Tryz.func183,Tryz.ntmps183
 go_wp2_with fail
 go_quiet ((go_at_call 159;with_reducible exact Calls.quiet_of_same (TUH.out _ _ rfl)))
 go_wp2
 go_ret
 exact ⟨by rw[<-HRES.out,<-WH.out];rfl,HLT.out,_,rfl⟩
theorem leadingBits_any {A A':Option Addr}{c c' f:Nat}{xs ys:List Nat}{w:World}(hx:Rd .u32 w w.heap.size A xs)(hy:Rd .u32 w w.heap.size A' ys)(dx:Dg b32 xs)(dy:Dg b32 ys)(lx:xs.length=f+3)(ly:ys.length=f+3)(hcx:xs.length<=c)(hcy:ys.length<=c')(hf:f<4294967296)
  (hcc:c<=9223372036854775807) (hcc':c'<=9223372036854775807) (htop:xs.getD (f+2) 0≠0) (hle:ys.getD (f+2) 0<=xs.getD (f+2) 0) :
  Calls Tryz.prog 173 #[.slice A xs.length c,.slice A' ys.length c'] w fun e w'=>∃T:Nat,0<T/\e=.returned (.tuple #[.int .i64 ((val b32 xs / T:Nat):Int),.int .i64 ((val b32 ys / T:Nat):Int)])/\val b32 xs / T<9223372036854775808/\Below w.heap.size w w':=by
 obtain ⟨b,o,rfl,hb,hc0⟩:=hx.at_ (k:=0) (by omega);have x2:=hc0 (f+2) (by omega);rw[<-getD_at (by omega)]at x2;have u2:xs.getD (f+2) 0<4294967296:=getD_dg (by decide) dx (f+2);obtain ⟨t,et⟩:∃t,Hid (xs.getD (f+2) 0=t):=⟨_,rfl⟩
 rw[et.out]at x2 u2 htop hle;obtain ⟨t',et'⟩:∃t',Hid (ys.getD (f+2) 0=t'):=⟨_,rfl⟩
 rw[et'.out]at hle;have i1:(xs.length:Int)-3=(f:Int):=by omega
 have hfl:(f:Int)+2<(xs.length:Int):=by omega
 have hba:=hb;obtain ⟨V1,hV1⟩:∃V1,V1=w.alloc (.cells #[.int .i64 (f:Nat)] 3):=⟨_,rfl⟩
 have HX:=Hd hx;have HY:=Hd hy;have LX:=Hd lx;have LY:=Hd ly;clear hc0 hx hy lx ly
 go_enter Tryz.func173,Tryz.ntmps173
 go_wp2_with fail
 refine (lz_any t u2 (by omega) _).mono ?_;rintro e w' ⟨s,rfl,hs,hs1,hs2,ew⟩;subst ew;have HS1:=Hd hs1;have HS2:=Hd hs2;have hy2:t'*2 ^ s<4294967296:=Nat.lt_of_le_of_lt (Nat.mul_le_mul_right _ hle) hs2;have HY2:=Hd hy2;obtain ⟨V2,hV2⟩:∃V2,V2=(w.alloc (.cells #[.int .i64 (f:Nat)] 3)).alloc (.cells #[.int .i64 (s:Nat)] 3):=⟨_,rfl⟩
 have hb2:Below w.heap.size w V2:=by rw[hV2];exact bRR.alloc (by simp) _
 have b1:Boxed V2 w.heap.size 3 (.int .i64 (f:Nat)):=by rw[hV2];exact (Boxed.new w _ _).alloc _
 have b2:Boxed V2 (w.heap.size+1) 3 (.int .i64 (s:Nat)):=by
  have h:=Boxed.new (w.alloc (.cells #[.int .i64 (f:Nat)] 3)) 3 (.int .i64 (s:Nat));rw[szA]at h;rw[hV2];exact h
 have HV2:=Hd hV2;have L1:=Hd (lead_any (c:=c) (B1:=w.heap.size) (B2:=w.heap.size+1) (HX.out.to hb2) dx LX.out hcx hs hf hcc (by rw[et.out];exact HS2.out) b1.cell b2.cell);obtain ⟨T,eT⟩:∃T,Hid (b32 ^ f*2 ^ (33-s)=T):=⟨_,rfl⟩
 have hT:0<T:=by rw[<-eT.out];exact Nat.mul_pos (Nat.pow_pos (by decide)) (Nat.pow_pos (by decide))
 have HT:=Hd hT;obtain ⟨a0,ea⟩:∃a0,Hid (val b32 xs / T=a0):=⟨_,rfl⟩
 obtain ⟨b0,eb⟩:∃b0,Hid (val b32 ys / T=b0):=⟨_,rfl⟩
 rw[eT.out,ea.out]at L1;have HB2:=Hd hb2;have B1:=Hd b1;have B2:=Hd b2;clear hs1 hs2 hy2 x2 hV2 hb2 b1 b2 hV1
 go_wp2_with fail
 rw[<-HV2.out];refine L1.out.mono ?_;rintro e w' ⟨rfl,hlt,n,rfl⟩;have hb3:=bel_drewN HB2.out n;have L2:=Hd (lead_any (c:=c') (B1:=w.heap.size) (B2:=w.heap.size+1) (HY.out.to hb3) dy LY.out hcy hs hf hcc' (by rw[et'.out];exact HY2.out) (boxed_onto B1.out (bel_drewN (Below.refl _ _) n) B1.out.lt).cell (boxed_onto B2.out (bel_drewN (Below.refl _ _) n) B2.out.lt).cell);rw[eT.out,eb.out]at L2;have HLT:=Hd hlt;clear hlt L1 hT
 go_wp2_with fail
 refine L2.out.mono ?_;rintro e w' ⟨rfl,hlt2,m,rfl⟩;have HB4:=Hd (bel_drewN HB2.out (n+m));clear hlt2 hb3 L2;go_wp2
 go_ret2
 exact ⟨T,HT.out,by rw[ea.out,eb.out];rfl,by rw[ea.out];exact HLT.out,HB4.out⟩
end Go.Proofs.YtglhdielkkhefaaGreat
