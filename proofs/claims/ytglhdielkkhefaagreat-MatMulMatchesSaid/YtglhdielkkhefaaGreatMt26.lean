/- Parts: 4. -/
import Derived.Test.YtglhdielkkhefaaGreatMt21
import Derived.Test.YtglhdielkkhefaaGreatMt22
import Derived.Test.YtglhdielkkhefaaGreatMt24
import Derived.Test.YtglhdielkkhefaaGreatMt25
set_option linter.unusedVariables false
set_option linter.unusedSimpArgs false
set_option maxRecDepth 100000
set_option maxHeartbeats 40000000

namespace Go.Proofs.YtglhdielkkhefaaGreat
open Go.RowKit Go.Shelf
theorem radd4_m {w:World}{P Q:Option Addr}{N C M D m l:Nat}{rs ss:Nat->List Rat}(hM:Mi w P N C rs m)(hB:Mi w Q M D ss l)(hm:0<m)(hl:0<l)(hml:1+m+l+1<=10000)(hN:N<=99999)(hMM:M<=99999)(hr:∀k,k<N->(rs k).length<=99999)(hs:∀k,k<M->(ss k).length<=99999) :
  Calls Tryz.prog 32 #[.slice P N C,.slice Q M D] w (MR w (max N M) (fun i=>ptw (fun r s=>r+s) (rowL rs N i) (rowL ss M i))):=by
 have HX:=Hd (fun (V:World) (i:Nat) (hV:Below w.heap.size w V)=>rowr_l (i:=i) (hM.to hV));have HY:=Hd (fun (V:World) (i:Nat) (hV:Below w.heap.size w V)=>rowr_l (i:=i) (hB.to hV));have HLX:Hid (∀k,(rowL rs N k).length+1<=1000000):=fun k=>by have:=rowL_le hr k;omega
 have HLY:Hid (∀k,(rowL ss M k).length+1<=1000000):=fun k=>by have:=rowL_le hs k;omega
 have HMM:Hid (0<m/\0<l/\1+m+l+1<=10000):=⟨hm,hl,hml⟩
 obtain ⟨rr,hrr⟩:∃rr:Nat->List Rat,rr=fun i=>ptw (fun r s=>r+s) (rowL rs N i) (rowL ss M i):=⟨_,rfl⟩
 have HRK:Hid (∀i,ptw (fun r s=>r+s) (rowL rs N i) (rowL ss M i)=rr i):=fun i=>by rw[hrr]
 rw[<-hrr];have HNM:Hid (max N M<=99999):=by show _<=_;omega
 clear hM hB hm hl hml hr hs hrr
 go_enter Tryz.func32,Tryz.ntmps32
 go_wp2
 go_loopw [5,6] (fun v i wr=>∃(k:Nat) (A1:Option Addr) (c1:Nat),v=.slice A1 k c1/\i=.int .i64 k/\k<=max N M/\Hid (TotS (Vs rr) wr (.slice A1 k c1) k w.heap.size)/\Below w.heap.size w wr) (fun _ i _=>max N M-(intOf i).toNat)
 case atStart=>exact ⟨0,none,0,rfl,rfl,Nat.zero_le _,.inl ⟨rfl,rfl⟩,Below.refl _ _⟩
 case round =>
  obtain ⟨k,A1,c1,rfl,rfl,hk',hT,hb⟩:=hrel;have HBB:=Hd hb;clear hb;have hki:(0:Int)<=(k:Int):=by omega
  have hk63:(k:Int)+1<=9223372036854775807:=by omega
  by_cases hx:k<N
  .have hx1:(k:Int)<(N:Int):=by omega
   go_wp2_with fail
   refine (HX.out wr k HBB.out).mono ?_;rintro e V1 ⟨A2,c2,es1,rfl,x1,b1⟩;have B1:=Hxb HBB b1;have hT1:=hT.out.mv (Vs.kept rr) b1;clear b1
   go_wp2_with fail
   refine (HY.out V1 k B1.out).mono ?_;rintro e V2 ⟨A3,c3,es2,rfl,x2,b2⟩;have B2:=Hxb B1 b2;replace x1:=x1.to b2;replace hT1:=hT1.mv (Vs.kept rr) b2;have HT1:=Hd hT1;have hc:=raddv_v (c:=c2) (c':=c3) x1 x2 HMM.out.1 HMM.out.2.1 HMM.out.2.2 (HLX.out k) (HLY.out k);rw[HRK.out k]at hc;have HC2:=Hd hc;have HLT:Hid (k<max N M):=by show _<_;omega
   clear b2 B1 x1 x2 hc hT1
   go_wp2_with fail
   refine HC2.out.mono ?_;rintro e V ⟨A4,c4,fl4,rfl,hv,bb⟩;have bb2:Below V.heap.size V (V.alloc (.cells #[.slice A4 (rr k).length c4] 38)):=bRR;have c5:=(Hp.new V #[.slice A4 (rr k).length c4] 38).one;have hB1:=B2.out.trans (bb.mono B2.out.size);have hB2:=Bxb hB1 bb2;obtain ⟨v',X,hrun,hT2,hbel⟩:=sapp (Vs.kept rr) ((HT1.out.mv (Vs.kept rr) bb).mv (Vs.kept rr) bb2) hB2.size (by have:=HNM.out;have:=HLT.out;omega) ⟨_,_,_,rfl⟩ ⟨A4,c4,fl4,rfl,hv.to bb2⟩ (a:=⟨V.heap.size,0,none⟩) (c:=1) c5 22;obtain ⟨A5,c5',rfl⟩:=hT2.sl;have HRUN:=Hd hrun;have HE:Hid (TotS (Vs rr) X (.slice A5 (k+1) c5') (k+1) w.heap.size/\Below w.heap.size w X):=⟨hT2,hB2.trans hbel⟩
   clear bb2 c5 hbel hrun bb hv hT2 hB1 hB2 HC2 HT1 B2
   go_wp2_with (at_builtin;refine wpList_append_run rfl (.tmp 19) (.tmp 27) 22 rfl (by rfl) (by rfl) HRUN.out ?_;clear HRUN)
   go_roundw
   case rel=>exact ⟨k+1,A5,c5',rfl,by simp,HLT.out,HE.out.1,HE.out.2⟩
   case measure=>have:=HLT.out;simp[intOf];omega
  .have hx1:¬(k:Int)<(N:Int):=by omega
   by_cases hy:k<M
   .have hy1:(k:Int)<(M:Int):=by omega
    go_wp2_with fail
    refine (HX.out wr k HBB.out).mono ?_;rintro e V1 ⟨A2,c2,es1,rfl,x1,b1⟩;have B1:=Hxb HBB b1;have hT1:=hT.out.mv (Vs.kept rr) b1;clear b1
    go_wp2_with fail
    refine (HY.out V1 k B1.out).mono ?_;rintro e V2 ⟨A3,c3,es2,rfl,x2,b2⟩;have B2:=Hxb B1 b2;replace x1:=x1.to b2;replace hT1:=hT1.mv (Vs.kept rr) b2;have HT1:=Hd hT1;have hc:=raddv_v (c:=c2) (c':=c3) x1 x2 HMM.out.1 HMM.out.2.1 HMM.out.2.2 (HLX.out k) (HLY.out k);rw[HRK.out k]at hc;have HC2:=Hd hc;have HLT:Hid (k<max N M):=by show _<_;omega
    clear b2 B1 x1 x2 hc hT1
    go_wp2_with fail
    refine HC2.out.mono ?_;rintro e V ⟨A4,c4,fl4,rfl,hv,bb⟩;have bb2:Below V.heap.size V (V.alloc (.cells #[.slice A4 (rr k).length c4] 38)):=bRR;have c5:=(Hp.new V #[.slice A4 (rr k).length c4] 38).one;have hB1:=B2.out.trans (bb.mono B2.out.size);have hB2:=Bxb hB1 bb2;obtain ⟨v',X,hrun,hT2,hbel⟩:=sapp (Vs.kept rr) ((HT1.out.mv (Vs.kept rr) bb).mv (Vs.kept rr) bb2) hB2.size (by have:=HNM.out;have:=HLT.out;omega) ⟨_,_,_,rfl⟩ ⟨A4,c4,fl4,rfl,hv.to bb2⟩ (a:=⟨V.heap.size,0,none⟩) (c:=1) c5 22;obtain ⟨A5,c5',rfl⟩:=hT2.sl;have HRUN:=Hd hrun;have HE:Hid (TotS (Vs rr) X (.slice A5 (k+1) c5') (k+1) w.heap.size/\Below w.heap.size w X):=⟨hT2,hB2.trans hbel⟩
    clear bb2 c5 hbel hrun bb hv hT2 hB1 hB2 HC2 HT1 B2
    go_wp2_with (at_builtin;refine wpList_append_run rfl (.tmp 19) (.tmp 27) 22 rfl (by rfl) (by rfl) HRUN.out ?_;clear HRUN)
    go_roundw
    case rel=>exact ⟨k+1,A5,c5',rfl,by simp,HLT.out,HE.out.1,HE.out.2⟩
    case measure=>have:=HLT.out;simp[intOf];omega
   .have hy1:¬(k:Int)<(M:Int):=by omega
    obtain ⟨Z,hZ⟩:∃Z,max N M=Z:=⟨_,rfl⟩
    obtain rfl:k=Z:=by omega
    rw[hZ];go_wp2
    go_ret
    exact ⟨A1,c1,rfl,hT.out.mc,HBB.out⟩
theorem rscalev_v {w:World}{t1 t2 t3 t4:Value}{t:Rat}{l m:Nat}{A:Option Addr}{c:Nat}{es:List E4}{rs:List Rat}(hT:Qi w t1 t2 t3 t4 t l)(hA:Vi w A c es rs m)(hl:0<l)(hm:0<m)(hlm:l+m+1+1<=10000)(h1:rs.length+1<=1000000) :
  Calls Tryz.prog 79 #[.agg #[t1,t2,t3,t4],.slice A rs.length c] w (VR w (scaleQ t rs)):=by
 obtain ⟨W0,hW0⟩:∃W0,W0=w.alloc (.cells #[t1,t2,t3,t4] 32):=⟨_,rfl⟩
 have hbw:Below w.heap.size w W0:=by rw[hW0];exact bRR
 have tT:Four W0 w.heap.size t1 t2 t3 t4:=by rw[hW0];exact Four.new w _ _ _ _ _
 have HC:=Hd (rcomb_v (w:=W0) (c:=c) (c':=0) (A':=none) (hT.to hbw) (hA.to hbw) (Vi.nil W0 (k:=1) (by decide)) hl hm (by decide) hlm h1 (by decide));obtain ⟨v0,v1,v2,v3,v4,v5,v6,v7,_⟩:=tT;have HB:=Hd hbw;have HW0:=Hd hW0;obtain ⟨u,hu⟩:∃u,ptw (fun r s=>t*r+s) rs []=u:=⟨_,rfl⟩
 have hu2:scaleQ t rs=u:=hu;rw[hu]at HC;rw[hu2];rw[hW0]at v0 v1 v2 v3;clear hT hA hl hm hlm h1 hbw hW0 v4 v5 v6 v7 hu hu2
 go_enter Tryz.func79,Tryz.ntmps79
 go_wp2_with fail
 rw[<-HW0.out];refine HC.out.mono ?_;rintro e V ⟨A4,c4,fl4,rfl,hv,bb⟩;have HE:=Hxb HB bb;have HV:=Hd hv;clear bb hv HC v0 v1 v2 v3;go_wp2
 go_ret
 exact ⟨A4,c4,fl4,rfl,HV.out,HE.out⟩
theorem rscale4_m {w:World}{P:Option Addr}{N C m l:Nat}{rs:Nat->List Rat}{t:Rat}{t1 t2 t3 t4:Value}(hT:Qi w t1 t2 t3 t4 t l)(hM:Mi w P N C rs m)(hl:0<l)(hm:0<m)(hml:l+m+1+1<=10000)(hN:N+1<=1000000)(hr:∀i,i<N->(rs i).length+1<=1000000) :
  Calls Tryz.prog 34 #[.agg #[t1,t2,t3,t4],.slice P N C] w (MR w N (fun i=>scaleQ t (rs i))):=by
 obtain ⟨rr,hrr⟩:∃rr:Nat->List Rat,rr=fun i=>scaleQ t (rs i):=⟨_,rfl⟩
 obtain ⟨W0,hW0⟩:∃W0,W0=w.alloc (.cells #[t1,t2,t3,t4] 32):=⟨_,rfl⟩
 have hbw:Below w.heap.size w W0:=by rw[hW0];exact bRR
 have tT:Four W0 w.heap.size t1 t2 t3 t4:=by rw[hW0];exact Four.new w _ _ _ _ _
 have HS:=Hd (fun (V:World) (hV:Below W0.heap.size W0 V) (k:Nat) (hk:k<N) (A:Option Addr) (c:Nat) (es:List E4) (hv:Vi V A c es (rs k) m)=>by
  have h1:=Bxb hbw hV;have h:=rscalev_v (c:=c) (hT.to h1) hv hl hm hml (hr k hk)
  rwa [show scaleQ t (rs k)=rr k from by rw[hrr]]at h)
 have HR:=Hd (fun (V:World) (hV:Below W0.heap.size W0 V)=>((hM.to hbw).to hV).row);rw[<-hrr];have HN:=Hd hN;have HT:=Hd tT;have HB:=Hd hbw;have HW0:=Hd hW0;clear hT hM hl hm hml hN hr hrr hW0 hbw tT
 go_enter Tryz.func34,Tryz.ntmps34
 go_wp2
 rw[<-HW0.out];clear HW0
 go_loopw [5,6] (fun v i wr=>∃(k:Nat) (A1:Option Addr) (c1:Nat),v=.slice A1 k c1/\i=.int .i64 k/\k<=N/\Hid (TotS (Vs rr) wr (.slice A1 k c1) k W0.heap.size)/\Below W0.heap.size W0 wr) (fun _ i _=>N-(intOf i).toNat)
 case atStart=>exact ⟨0,none,0,rfl,rfl,Nat.zero_le _,.inl ⟨rfl,rfl⟩,Below.refl _ _⟩
 case round =>
  obtain ⟨k,A1,c1,rfl,rfl,hk,hTT,hb⟩:=hrel
  by_cases hlt:k<N
  .have hk1:(0:Int)<=(k:Int):=by omega
   have hk2:(k:Int)<(N:Int):=by omega
   have hk3:(k:Int)+1<=9223372036854775807:=by have:=HN.out;omega
   obtain ⟨b,o,A,c,es,e1,hb1,hc1,hv⟩:=HR.out W0 (Below.refl _ _) k hlt;subst e1;have F1:Hid (∀V,Below W0.heap.size W0 V->V.cell? ⟨b,o+k,none⟩=some (.slice A (rs k).length c)):=fun V hV=>(hV.cell (p:=⟨b,_,none⟩) hb1).trans hc1
   have HC:=Hd (fun (V:World) (hV:Below W0.heap.size W0 V)=>HS.out V hV k hlt A c es (hv.to hV));have HBB:=Hd hb;have HLT:=Hd hlt;clear hb hb1 hc1 hv hlt hk HS HR
   go_wp2_with fail
   refine wp_region_plan (S:=fun w'=>Below W0.heap.size W0 w') [(0,true),(1,true),(2,true),(3,true),(4,true),(5,true),(6,false),(7,false),(8,false),(9,true)] (by kernel_rfl) (by kernel_rfl) HBB.out.drew ?_;refine plan_take (v:=?_) rfl (by rfl) ?_ ?_;rotate_left;(focus (intro w' _;go_simp;try with_reducible rfl));simp only[Act.put,pqA,pqB,pqC];refine plan_take rfl (by rfl) (fun w' hS=>load_four (by rfl) (HT.out.to hS)) ?_;simp only[Act.put,pqA,pqB,pqC]
   iterate 3 (refine plan_take (v:=?_) rfl (by rfl) ?_ ?_;rotate_left;(focus (intro w' _;go_simp;try with_reducible rfl));simp only[Act.put,pqA,pqB,pqC])
   refine plan_take (v:=?_) rfl (by rfl) ?_ ?_;rotate_left;(focus (intro w' hS;have k1:=F1.out w' hS;go_simp;try with_reducible rfl));simp only[Act.put,pqA,pqB,pqC];have hb:=HBB.out.drew;have hT1:=hTT.out.mv (Vs.kept rr) (Below.refl wr.heap.size wr).drew;refine plan_call rfl (by rfl) (fun K hK=>?_);go_simp
   refine (HC.out _ hb).mono ?_;rintro e V ⟨A4,c4,fl4,rfl,hv,bb⟩;replace hb:=Bxb hb bb;replace hT1:=hT1.mv (Vs.kept rr) bb;refine hK.out _ _ hb ?_;clear hK K bb;have bb2:Below V.heap.size V (V.alloc (.cells #[.slice A4 (rr k).length c4] 38)):=bRR;have c5:=(Hp.new V #[.slice A4 (rr k).length c4] 38).one;have hb2:=Bxb hb bb2;obtain ⟨v',X,hrun,hT2,hbel⟩:=sapp (Vs.kept rr) (hT1.mv (Vs.kept rr) bb2) hb2.size (by have:=HN.out;have:=HLT.out;omega) ⟨_,_,_,rfl⟩ ⟨A4,c4,fl4,rfl,hv.to bb2⟩ (a:=⟨V.heap.size,0,none⟩) (c:=1) c5 22;obtain ⟨A5,c6,rfl⟩:=hT2.sl;have HE:Hid (TotS (Vs rr) X (.slice A5 (k+1) c6) (k+1) W0.heap.size/\Below W0.heap.size W0 X):=⟨hT2,hb2.trans hbel⟩
   refine plan_call rfl (by rfl) (fun K hK=>?_);go_simp
   refine hK.out _ _ hb2 ?_;clear hK K;refine plan_call rfl (by rfl) (fun K hK=>?_);refine op_append_run (.tmp 13) (.tmp 20) _ _ (by rfl) (by rfl) hrun ?_;refine hK.out _ _ HE.out.2 ?_;clear hK K hrun hT2 hbel hb2 c5 bb2 hv hb hT1;refine plan_take (v:=?_) rfl (by rfl) ?_ ?_;rotate_left;(focus (intro w' _;go_simp;try with_reducible rfl));simp only[Act.put,pqA,pqB,pqC];refine plan_done ?_;go_wp2
   go_roundw
   case rel=>exact ⟨k+1,A5,c6,rfl,by simp,HLT.out,HE.out.1,HE.out.2⟩
   case measure=>have:=HLT.out;simp[intOf];omega
  .obtain rfl:k=N:=by omega
   have HE:=Hxb HB hb;clear hb hlt hk HS HR;go_wp2
   go_ret
   exact ⟨A1,c1,rfl,hTT.out.mc,HE.out⟩
theorem rtimes_v {w:World}{P A':Option Addr}{N C m c' l:Nat}{rs:Nat->List Rat}{fs:List E4}{ss:List Rat}(hM:Mi w P N C rs m)(hX:Vi w A' c' fs ss l)(hm:0<m)(hl0:0<l)(hl:N+1<=1000000)(hr:∀i,i<N->(rs i).length<=1000000)(hs:ss.length<=1000000)(hb0:∀i,i<N->(rs i).length*(m+l+1)+1+(m+l)+1<=10000) :
  Calls Tryz.prog 39 #[.slice P N C,.slice A' ss.length c'] w (VR w (tab N (fun i=>dotQ (rs i) ss))):=by
 have HL:=Hd hl;obtain ⟨g,hg⟩:∃g:Nat->Rat,g=fun i=>dotQ (rs i) ss:=⟨_,rfl⟩
 have HD:=Hd (fun (V:World) (hV:Below w.heap.size w V) k (hk:k<N) {A:Option Addr} {c:Nat} {es:List E4} (h:Vi V A c es (rs k) m)=>rdot_v (c:=c) (c':=c') h (hX.to hV) hm hl0 (hr k hk) hs (hb0 k hk));have HR:=Hd (fun (V:World) (hV:Below w.heap.size w V)=>(hM.to hV).row);have hgk:∀i,dotQ (rs i) ss=g i:=fun i=>by rw[hg]
 simp only[hgk]at HD;rw[<-hg];clear hM hX hm hl0 hr hs hb0 hg hgk
 go_enter Tryz.func39,Tryz.ntmps39
 go_wp2
 go_loopw [5,6] (fun v i wr=>∃(k:Nat) (A1:Option Addr) (c1:Nat),v=.slice A1 k c1/\i=.int .i64 k/\k<=N/\Hid (TotV wr (.slice A1 k c1) k g w.heap.size)/\Below w.heap.size w wr) (fun _ i _=>N-(intOf i).toNat)
 case atStart=>exact ⟨0,none,0,rfl,rfl,Nat.zero_le _,.inl ⟨rfl,rfl⟩,Below.refl _ _⟩
 case round =>
  obtain ⟨k,A1,c1,rfl,rfl,hk,hT,hb⟩:=hrel
  by_cases hlt:k<N
  .have hk1:(0:Int)<=(k:Int):=by omega
   have hk2:(k:Int)<(N:Int):=by omega
   have hk3:(k:Int)+1<=9223372036854775807:=by have:=HL.out;omega
   obtain ⟨b,o,A,c,es,rfl,hb1,cc,hv⟩:=HR.out wr hb k hlt;have HC:=Hd (HD.out wr hb k hlt hv);clear hb1 hv;have HB:=Hd hb;have HLT:=Hd hlt;clear hb hlt hk
   go_wp2_with fail
   refine (HC.out).mono ?_;rintro e V ⟨x1,x2,x3,x4,rfl,q,bb⟩;have bb2:Below V.heap.size V (V.alloc (.cells #[x1,x2,x3,x4] 32)):=bRR;have c5:=(Hp.new V #[x1,x2,x3,x4] 32).four;have hB1:=HB.out.trans (bb.mono HB.out.size);have hB2:=Bxb hB1 bb2;obtain ⟨v',X,hrun,hT2,hbel⟩:=qapp ((hT.out.to bb).to bb2) hB2.size (by have:=HL.out;have:=HLT.out;omega) (e:=⟨x1,x2,x3,x4⟩) q.fq (q.to bb2) (a:=⟨V.heap.size,0,none⟩) (c:=1) c5.c0 c5.c1 c5.c2 c5.c3 38;obtain ⟨A3,c3,rfl⟩:=hT2.sl;have HRUN:=Hd hrun;have HE:Hid (TotV X (.slice A3 (k+1) c3) (k+1) g w.heap.size/\Below w.heap.size w X):=⟨hT2,hB2.trans hbel⟩
   clear bb2 c5 hbel hrun bb q hT2 hB1 hB2 cc HC
   go_wp2_with (at_builtin;refine wpList_append_run rfl (.tmp 13) (.tmp 20) 38 rfl (by rfl) (by rfl) HRUN.out ?_;clear HRUN)
   go_roundw
   case rel=>exact ⟨k+1,A3,c3,rfl,by simp,HLT.out,HE.out.1,HE.out.2⟩
   case measure=>have:=HLT.out;simp[intOf];omega
  .obtain rfl:k=N:=by omega
   have HT:=hT;have HB:=Hd hb;clear hT hb hlt hk;go_wp2
   go_ret
   exact HT.out.vtab (by have:=HL.out;omega) HB.out
theorem rleft_v {w:World}{P A':Option Addr}{N C m c' l:Nat}{rs:Nat->List Rat}{fs:List E4}{ys:List Rat}(hY:Vi w A' c' fs ys l)(hM:Mi w P N C rs m)(hq:∀i j,Qm m (el rs N i j))(hy:∀i,Qm l (ys.getD i 0))(hm:m<=10000)(hN:N<=99999)(hr:∀k,k<N->(rs k).length<=99999)(hbnd:N*(l+m+1)+1+(l+m)+1<=10000) :
  Calls Tryz.prog 41 #[.slice A' ys.length c',.slice P N C] w (VR w (tab (colsN rs N) (rowMul ys rs N))):=by
 have hm0:=(hq 0 0).pos;have hl0:=(hy 0).pos;have hcA:colsN rs N<=99999:=colsN_le hr;obtain ⟨F,hF⟩:∃F:Nat->Nat->Rat,F=fun k n=>ys.getD n 0*el rs N n k:=⟨_,rfl⟩
 obtain ⟨xf,hxf⟩:∃xf:Nat->Rat,xf=fun n=>ys.getD n 0:=⟨_,rfl⟩
 obtain ⟨g,hg⟩:∃g:Nat->Rat,g=rowMul ys rs N:=⟨_,rfl⟩
 have HG:Hid (∀k,sumF (F k) N=g k):=fun k=>by rw[hg,rowMul_el ys rs N k N (by omega),hF]
 have mF:∀k n,Qm (l+m) (F k n):=fun k n=>by rw[hF];exact (hy n).mul (hq n k)
 have hfm:∀k n,xf n*el rs N n k=F k n:=fun k n=>by rw[hF,hxf]
 have HC:=Hd (fun (V:World) (hV:Below w.heap.size w V)=>rcols_m (C:=C) (hM.to hV).rs (by omega) (fun k hk=>by have:=hr k hk;omega))
 have G1:=Hd (fun (n:Nat) (V:World) (hV:Below w.heap.size w V)=>(rat_i (c:=c') (k:=(n:Int)) (hY.to hV)).mono fun e w' (h:∃a b c d,e=.returned (.agg #[a,b,c,d])/\Qi w' a b c d (if (0:Int)<=(n:Int) then ys.getD (n:Int).toNat 0 else 0) l/\Below V.heap.size V w')=>(by
  rw[if_pos (Int.natCast_nonneg _),Int.toNat_natCast,show ys.getD n 0=xf n from by rw[hxf]]at h
  exact h:QI V (xf n) l e w'))
 have G2:=Hd (fun (k n:Nat) (V:World) (hV:Below w.heap.size w V)=>by
  have h:=(rat4_i (i:=(n:Int)) (j:=(k:Int)) (hM.to hV) hm0 hm).mono fun _ _ h=>QR.i h (by rw[elI_nat];exact hq n k) hm
  rwa [elI_nat]at h)
 have GM:=Hd (fun (k n:Nat) (V:World) (x1 x2 x3 x4 y1 y2 y3 y4:Value) (hx:Qi V x1 x2 x3 x4 (xf n) l) (hy:Qi V y1 y2 y3 y4 (el rs N n k) m)=>rmul_q hx hy hl0 hm0 (by omega))
 have GA:=Hd (fun (k n:Nat) (hn:n<N) (V:World) (x1 x2 x3 x4 y1 y2 y3 y4:Value) (p:Qc V x1 x2 x3 x4 (sumF (F k) n)) (q:Qc V y1 y2 y3 y4 (F k n))=>by
  have h2:n*(l+m+1)<=N*(l+m+1):=Nat.mul_le_mul_right _ (by omega)
  exact radd_q (p.qi (Qm.sumF (mF k) n) (by omega)) (q.qi (mF k n) (by omega)) (by omega) (by omega) (by omega))
 simp only[hfm]at GM;rw[<-hg];obtain ⟨L,hL⟩:∃L,colsN rs N=L:=⟨_,rfl⟩
 rw[hL]at HC hcA ⊢;obtain ⟨Y,hYY⟩:∃Y,ys.length=Y:=⟨_,rfl⟩
 rw[hYY]at G1 ⊢;have HNN:=Hd hN;have HLL:=Hd hcA;clear hY hM hq hy hm hN hr hbnd hm0 hl0 hcA hF hxf hg mF hfm hL hYY
 go_enter Tryz.func41,Tryz.ntmps41
 go_wp2
 go_loopw [5,6] (fun v i wr=>∃(k:Nat) (A1:Option Addr) (c1:Nat),v=.slice A1 k c1/\i=.int .i64 k/\k<=L/\Hid (TotV wr (.slice A1 k c1) k g w.heap.size)/\Below w.heap.size w wr) (fun _ i _=>L-(intOf i).toNat)
 case atStart=>exact ⟨0,none,0,rfl,rfl,Nat.zero_le _,.inl ⟨rfl,rfl⟩,Below.refl _ _⟩
 case round =>
  obtain ⟨k,A1,c1,rfl,rfl,hk,hT,hb⟩:=hrel;have HB:=Hd hb;clear hb
  go_wp2_with fail
  refine (HC.out _ HB.out).mono ?_;rintro e Vb ⟨rfl,bb⟩;have HT:=Hd (hT.out.to bb);have HBV:=Hxb HB bb;clear hT HB bb
  by_cases hlt:k<L
  .have hk1:(0:Int)<=(k:Int):=by omega
   have hk2:(k:Int)<(L:Int):=by omega
   have hk3:(k:Int)+1<=9223372036854775807:=by have:=HLL.out;omega
   obtain ⟨f,hf⟩:∃f,F k=f:=⟨_,rfl⟩
   obtain ⟨yf,hyf⟩:∃yf:Nat->Rat,yf=fun n=>el rs N n k:=⟨_,rfl⟩
   have hyn:∀n,el rs N n k=yf n:=fun n=>by rw[hyf]
   have g2:=G2.out k;have gm:=GM.out k;have ga:=GA.out k;have hgk:=HG.out k;rw[hf]at gm ga hgk;simp only[hyn]at g2 gm;have J1:=Hd (fun (n:Nat) (V:World) (hV:Below Vb.heap.size Vb V)=>G1.out n V (HBV.out.trans (hV.mono HBV.out.size)));have J2:=Hd (fun (n:Nat) (V:World) (hV:Below Vb.heap.size Vb V)=>g2 n V (HBV.out.trans (hV.mono HBV.out.size)));have JM:=Hd gm;have JA:=Hd ga;have HGK:=Hd hgk;have HLT:=Hd hlt;obtain ⟨W1,hW1⟩:∃W1,W1=Vb.alloc (.cells #[.bool false,.slice none 0 0,.bool false,.slice none 0 0] 32):=⟨_,rfl⟩
   have hb1:Below Vb.heap.size Vb W1:=by rw[hW1];exact bRR
   have tS:Four W1 Vb.heap.size (.bool false) (.slice none 0 0) (.bool false) (.slice none 0 0):=by rw[hW1];exact Four.new Vb _ _ _ _ _
   have HS:Hid (TotB W1 Vb.heap.size (sumF f 0)):=⟨_,_,_,_,tS,Zc.zero _,Zc.zero _⟩
   have HW1:=Hd hW1;have HB1:=Hd hb1;clear hf hyf hyn g2 gm ga hgk hlt hk hW1 hb1 tS;go_wp2
   rw[<-HW1.out];clear HW1
   go_loopw [8] (fun iv wi=>∃n:Nat,iv=.int .i64 n/\n<=N/\Hid (TotB wi Vb.heap.size (sumF f n))/\Below Vb.heap.size Vb wi) (fun iv _=>N-(intOf iv).toNat)
   case atStart=>exact ⟨0,rfl,Nat.zero_le _,HS,HB1.out⟩
   case round =>
    clear HS HB1;obtain ⟨n,rfl,hn,hS,hb⟩:=hrel;have HBB:=Hd hb;obtain ⟨e1,e2,e3,e4,tE,qE⟩:=hS.out;have TE:=Hd tE;have QE:=Hd qE;clear hb hS tE qE
    by_cases hlt:n<N
    .have hj0:(0:Int)<=(n:Int):=by omega
     have hj2:(n:Int)<(N:Int):=by omega
     have hj3:(n:Int)+1<=9223372036854775807:=by have:=HNN.out;omega
     have HC1:=Hd (J1.out n);have HC2:=Hd (J2.out n);have HM:=Hd (JM.out n);have HA:=Hd (JA.out n hlt);have HLN:=Hd hlt;clear hlt hn J1 J2 JM JA
     go_wp2_with fail
     refine wp_region_planTo (S:=fun w'=>Below Vb.heap.size Vb w') [(1,true),(2,true),(4,true),(5,true),(6,true)] #[false,true,true,false,true,true,true,false,false,false,false] 6 (by kernel_rfl) (by kernel_rfl) HBB.out.drew ?_
     iterate 5 (refine plan_take (v:=?_) rfl (by rfl) ?_ ?_;rotate_left;(focus (intro w' _;go_simp;try with_reducible rfl));simp only[Act.put,pqA,pqB,pqC])
     intro _;obtain ⟨W2,hW2⟩:∃W2,W2=wr.drew:=⟨_,rfl⟩
     have hbd:Below wr.heap.size wr W2:=by rw[hW2];exact (Below.refl _ _).drew
     rw[<-hW2];replace TE:=Hd (TE.out.to hbd);replace QE:=Hd (QE.out.to hbd);replace HBB:=Hxb HBB hbd;clear hW2 hbd;refine act_intro (F:=fun a=>wpAnyH _ _ _ _ _ _ _ a _) ?_;intro a0 ha0;obtain ⟨k00,h00⟩:∃k:Act,k=a0:=⟨_,rfl⟩
     simp only[ha0,Act.put,pqA,pqB,pqC]at h00;obtain ⟨k01,h01⟩:∃k:Value->Act,k=fun X=>(a0.put (some 25) X):=⟨_,rfl⟩
     simp only[ha0,Act.put,pqA,pqB,pqC]at h01;obtain ⟨k02,h02⟩:∃k:Value->Value->Act,k=fun X Y=>((a0.put (some 25) X).put (some 29) Y):=⟨_,rfl⟩
     simp only[ha0,Act.put,pqA,pqB,pqC]at h02;obtain ⟨k03,h03⟩:∃k:Value->Value->Value->Act,k=fun X Y M=>(((a0.put (some 25) X).put (some 29) Y).put (some 30) M):=⟨_,rfl⟩
     simp only[ha0,Act.put,pqA,pqB,pqC]at h03;obtain ⟨k10,h10⟩:∃k:Act,k=(a0.put (some 22) (.agg #[e1,e2,e3,e4])):=⟨_,rfl⟩
     simp only[ha0,Act.put,pqA,pqB,pqC]at h10;obtain ⟨k11,h11⟩:∃k:Value->Act,k=fun X=>((a0.put (some 22) (.agg #[e1,e2,e3,e4])).put (some 25) X):=⟨_,rfl⟩
     simp only[ha0,Act.put,pqA,pqB,pqC]at h11;obtain ⟨k12,h12⟩:∃k:Value->Value->Act,k=fun X Y=>(((a0.put (some 22) (.agg #[e1,e2,e3,e4])).put (some 25) X).put (some 29) Y):=⟨_,rfl⟩
     simp only[ha0,Act.put,pqA,pqB,pqC]at h12;obtain ⟨k13,h13⟩:∃k:Value->Value->Value->Act,k=fun X Y M=>((((a0.put (some 22) (.agg #[e1,e2,e3,e4])).put (some 25) X).put (some 29) Y).put (some 30) M):=⟨_,rfl⟩
     simp only[ha0,Act.put,pqA,pqB,pqC]at h13;have HA0:=Hd ha0;clear ha0;refine dag (fun G up dn=>?_)
     have D13:∀(V:World) (hV:Below W2.heap.size W2 V) (X Y m1 m2 m3 m4:Value) (hm:Qc V m1 m2 m3 m4 (f n)),G 2 #[true,true,true,true,true,true,true,true,true,false,false] (k13 X Y (.agg #[m1,m2,m3,m4])) V:=by
      intro V hV X Y m1 m2 m3 m4 hm;refine up ?_;simp only[h13];refine rdy1 (i:=9) (by kernel_rfl) rfl (by rfl) (fun K hK=>?_);go_simp
      refine (HA.out _ _ _ _ _ _ _ _ _ (QE.out.to hV) hm).mono ?_;rintro e V1 ⟨s1,s2,s3,s4,rfl,q2,bb⟩;have hbw:=((HBB.out.trans (hV.mono HBB.out.size)).trans (bb.mono (HBB.out.trans (hV.mono HBB.out.size)).size))
      refine hK.out _ _ hbw ?_;clear hK K;have tV:=(TE.out.to hV).to bb;have fE:=QE.out.fq;refine rdy1 (i:=10) (by kernel_rfl) rfl (by rfl) (fun K hK=>?_);refine wp_store_q (by rfl) (by rfl) tV fE q2.fq (fun V' u kp=>?_);replace hbw:=kp.bel _ _ hbw (Nat.le_refl _);replace q2:=kp.qc q2;refine hK.out _ _ hbw ?_;have HE:Hid (TotB V' Vb.heap.size (sumF f (n+1))/\Below Vb.heap.size Vb V'):=⟨⟨_,_,_,_,u,q2⟩,hbw⟩
      clear hK K kp bb tV fE u hm q2 hbw hV TE QE HBB h00 h01 h02 h03 h10 h11 h12 h13;refine wpAnyH_done (by kernel_rfl) ?_ _
      show NoPanic _ _ _ _
      go_wp2
      apply_assumption
      go_wp2
      clear HC1 HC2 HM HA;go_roundw
      case rel=>exact ⟨n+1,by simp,HLN.out,HE.out.1,HE.out.2⟩
      case measure=>have:=HLN.out;simp[intOf];omega
     have D03:∀(V:World) (hV:Below W2.heap.size W2 V) (X Y m1 m2 m3 m4:Value) (hm:Qc V m1 m2 m3 m4 (f n)),G 3 #[false,true,true,true,true,true,true,true,true,false,false] (k03 X Y (.agg #[m1,m2,m3,m4])) V:=by
      intro V hV X Y m1 m2 m3 m4 hm;refine up ?_;simp only[h03];refine rdy1 (i:=0) (by kernel_rfl) rfl (by rfl) (fun K hK=>?_);have kT:=TE.out.to hV;have k0:=kT.c0;have k1:=kT.c1;have k2:=kT.c2;have k3:=kT.c3;go_simp
      refine hK.out _ _ (HBB.out.trans (hV.mono HBB.out.size)) ?_;have hD:=D13 V hV X Y m1 m2 m3 m4 hm;rw[h13]at hD;exact dn hD
     have D12:∀(V:World) (hV:Below W2.heap.size W2 V) (x1 x2 x3 x4:Value) (hx:Qi V x1 x2 x3 x4 (xf n) l) (y1 y2 y3 y4:Value) (hy:Qi V y1 y2 y3 y4 (yf n) m),G 3 #[true,true,true,true,true,true,true,true,false,false,false] (k12 (.agg #[x1,x2,x3,x4]) (.agg #[y1,y2,y3,y4])) V:=by
      intro V hV x1 x2 x3 x4 hx y1 y2 y3 y4 hy;refine up ?_;simp only[h12];refine rdy1 (i:=8) (by kernel_rfl) rfl (by rfl) (fun K hK=>?_);go_simp
      refine (HM.out _ _ _ _ _ _ _ _ _ hx hy).mono ?_;rintro e V1 ⟨m1,m2,m3,m4,rfl,hm,bb⟩;refine hK.out _ _ ((HBB.out.trans (hV.mono HBB.out.size)).trans (bb.mono (HBB.out.trans (hV.mono HBB.out.size)).size)) ?_;have hD:=D13 V1 (Bxb hV bb) (.agg #[x1,x2,x3,x4]) (.agg #[y1,y2,y3,y4]) m1 m2 m3 m4 hm;rw[h13]at hD;exact dn hD
     have D02:∀(V:World) (hV:Below W2.heap.size W2 V) (x1 x2 x3 x4:Value) (hx:Qi V x1 x2 x3 x4 (xf n) l) (y1 y2 y3 y4:Value) (hy:Qi V y1 y2 y3 y4 (yf n) m),G 4 #[false,true,true,true,true,true,true,true,false,false,false] (k02 (.agg #[x1,x2,x3,x4]) (.agg #[y1,y2,y3,y4])) V:=by
      intro V hV x1 x2 x3 x4 hx y1 y2 y3 y4 hy;refine up ?_;simp only[h02];refine wpAnyH_ready (rs:=[0,8]) (by kernel_rfl) (by simp) (ready_cons rfl (by rfl) (fun K hK=>?_) (ready_cons rfl (by rfl) (fun K hK=>?_) AllReadyH.nil))
      .have kT:=TE.out.to hV;have k0:=kT.c0;have k1:=kT.c1;have k2:=kT.c2;have k3:=kT.c3;go_simp
       refine hK.out _ _ (HBB.out.trans (hV.mono HBB.out.size)) ?_;have hD:=D12 V hV x1 x2 x3 x4 hx y1 y2 y3 y4 hy;rw[h12]at hD;exact dn hD
      .go_simp
       refine (HM.out _ _ _ _ _ _ _ _ _ hx hy).mono ?_;rintro e V1 ⟨m1,m2,m3,m4,rfl,hm,bb⟩;refine hK.out _ _ ((HBB.out.trans (hV.mono HBB.out.size)).trans (bb.mono (HBB.out.trans (hV.mono HBB.out.size)).size)) ?_;have hD:=D03 V1 (Bxb hV bb) (.agg #[x1,x2,x3,x4]) (.agg #[y1,y2,y3,y4]) m1 m2 m3 m4 hm;rw[h03]at hD;exact dn hD
     have D11:∀(V:World) (hV:Below W2.heap.size W2 V) (x1 x2 x3 x4:Value) (hx:Qi V x1 x2 x3 x4 (xf n) l),G 4 #[true,true,true,true,true,true,true,false,false,false,false] (k11 (.agg #[x1,x2,x3,x4])) V:=by
      intro V hV x1 x2 x3 x4 hx;refine up ?_;simp only[h11];refine rdy1 (i:=7) (by kernel_rfl) rfl (by rfl) (fun K hK=>?_);go_simp
      refine (HC2.out _ (HBB.out.trans (hV.mono HBB.out.size))).mono ?_;rintro e V1 ⟨y1,y2,y3,y4,rfl,hy,bb⟩;refine hK.out _ _ ((HBB.out.trans (hV.mono HBB.out.size)).trans (bb.mono (HBB.out.trans (hV.mono HBB.out.size)).size)) ?_;have hD:=D12 V1 (Bxb hV bb) x1 x2 x3 x4 (hx.to bb) y1 y2 y3 y4 hy;rw[h12]at hD;exact dn hD
     have D01:∀(V:World) (hV:Below W2.heap.size W2 V) (x1 x2 x3 x4:Value) (hx:Qi V x1 x2 x3 x4 (xf n) l),G 5 #[false,true,true,true,true,true,true,false,false,false,false] (k01 (.agg #[x1,x2,x3,x4])) V:=by
      intro V hV x1 x2 x3 x4 hx;refine up ?_;simp only[h01];refine wpAnyH_ready (rs:=[0,7]) (by kernel_rfl) (by simp) (ready_cons rfl (by rfl) (fun K hK=>?_) (ready_cons rfl (by rfl) (fun K hK=>?_) AllReadyH.nil))
      .have kT:=TE.out.to hV;have k0:=kT.c0;have k1:=kT.c1;have k2:=kT.c2;have k3:=kT.c3;go_simp
       refine hK.out _ _ (HBB.out.trans (hV.mono HBB.out.size)) ?_;have hD:=D11 V hV x1 x2 x3 x4 hx;rw[h11]at hD;exact dn hD
      .go_simp
       refine (HC2.out _ (HBB.out.trans (hV.mono HBB.out.size))).mono ?_;rintro e V1 ⟨y1,y2,y3,y4,rfl,hy,bb⟩;refine hK.out _ _ ((HBB.out.trans (hV.mono HBB.out.size)).trans (bb.mono (HBB.out.trans (hV.mono HBB.out.size)).size)) ?_;have hD:=D02 V1 (Bxb hV bb) x1 x2 x3 x4 (hx.to bb) y1 y2 y3 y4 hy;rw[h02]at hD;exact dn hD
     have D10:∀(V:World) (hV:Below W2.heap.size W2 V),G 5 #[true,true,true,false,true,true,true,false,false,false,false] (k10) V:=by
      intro V hV;refine up ?_;simp only[h10];refine rdy1 (i:=3) (by kernel_rfl) rfl (by rfl) (fun K hK=>?_);go_simp
      refine (HC1.out _ (HBB.out.trans (hV.mono HBB.out.size))).mono ?_;rintro e V1 ⟨x1,x2,x3,x4,rfl,hx,bb⟩;refine hK.out _ _ ((HBB.out.trans (hV.mono HBB.out.size)).trans (bb.mono (HBB.out.trans (hV.mono HBB.out.size)).size)) ?_;have hD:=D11 V1 (Bxb hV bb) x1 x2 x3 x4 hx;rw[h11]at hD;exact dn hD
     have D00:∀(V:World) (hV:Below W2.heap.size W2 V),G 6 #[false,true,true,false,true,true,true,false,false,false,false] (k00) V:=by
      intro V hV;refine up ?_;simp only[h00];refine wpAnyH_ready (rs:=[0,3]) (by kernel_rfl) (by simp) (ready_cons rfl (by rfl) (fun K hK=>?_) (ready_cons rfl (by rfl) (fun K hK=>?_) AllReadyH.nil))
      .have kT:=TE.out.to hV;have k0:=kT.c0;have k1:=kT.c1;have k2:=kT.c2;have k3:=kT.c3;go_simp
       refine hK.out _ _ (HBB.out.trans (hV.mono HBB.out.size)) ?_;have hD:=D10 V hV;rw[h10]at hD;exact dn hD
      .go_simp
       refine (HC1.out _ (HBB.out.trans (hV.mono HBB.out.size))).mono ?_;rintro e V1 ⟨x1,x2,x3,x4,rfl,hx,bb⟩;refine hK.out _ _ ((HBB.out.trans (hV.mono HBB.out.size)).trans (bb.mono (HBB.out.trans (hV.mono HBB.out.size)).size)) ?_;have hD:=D01 V1 (Bxb hV bb) x1 x2 x3 x4 hx;rw[h01]at hD;exact dn hD
     have hD:=D00 W2 (Below.refl _ _);rw[h00]at hD;rw[HA0.out];exact hD
    .obtain rfl:n=N:=by omega
     have fE:=QE.out.fq;obtain ⟨u0,u1,u2,u3,_,_,_,_,_⟩:=TE.out;have q:=QE.out;rw[HGK.out]at q;have bb2:Below wr.heap.size wr (wr.alloc (.cells #[e1,e2,e3,e4] 32)):=bRR;have c5:=(Hp.new wr #[e1,e2,e3,e4] 32).four;have hB1:=HBV.out.trans (HBB.out.mono HBV.out.size);have hB2:=Bxb hB1 bb2;obtain ⟨v',X,hrun,hT2,hbel⟩:=qapp ((HT.out.to HBB.out).to bb2) hB2.size (by have:=HLL.out;have:=HLT.out;omega) (e:=⟨e1,e2,e3,e4⟩) q.fq (q.to bb2) (a:=⟨wr.heap.size,0,none⟩) (c:=1) c5.c0 c5.c1 c5.c2 c5.c3 38;obtain ⟨A3,c3,rfl⟩:=hT2.sl;have HRUN:=Hd hrun;have HE:Hid (TotV X (.slice A3 (k+1) c3) (k+1) g w.heap.size/\Below w.heap.size w X):=⟨hT2,hB2.trans hbel⟩
     clear bb2 c5 hbel hrun q hT2 hB1 hB2 hlt hn J1 J2 JM JA TE QE HBB fE
     go_wp2_with (at_builtin;refine wpList_append_run rfl (.tmp 32) (.tmp 34) 38 rfl (by rfl) (by rfl) HRUN.out ?_;clear HRUN)
     go_roundw
     case rel=>exact ⟨k+1,A3,c3,rfl,by simp,HLT.out,HE.out.1,HE.out.2⟩
     case measure=>have:=HLT.out;simp[intOf];omega
  .obtain rfl:k=L:=by omega
   clear hlt hk;go_wp2
   go_ret
   exact HT.out.vtab (by have:=HLL.out;omega) HBV.out
def intsV (ns:List Int):Array Value:=(ns.map (fun n=>Value.int .i64 n)).toArray
theorem rn_lit {W:World}{g:Nat}{ns:List Int}{t:TypeId}(h:Hp W g (.cells (intsV ns) t (0,0))):Rn W (some ⟨g,0,none⟩) ns:=fun k hk=>⟨g,0,rfl,by
 rw[Nat.zero_add,h.cellAt k]
 simp[intsV,hk]⟩
def mR (l:List (List Int))(k:Nat):List Rat:=ratsOf (l.getD k [])
def i64s (l:List (List Int)):Bool:=l.all fun r=>decide (r.length<=100)&&r.all fun n=>decide (-9223372036854775808<=n)&&decide (n<=9223372036854775807)
theorem i64s_row {l:List (List Int)}(h:i64s l=true)(k:Nat):(l.getD k []).length<=100/\∀n∈l.getD k [],-9223372036854775808<=n/\n<=9223372036854775807:=by
 by_cases hk:k<l.length
 .have h1:=(List.all_eq_true.1 h) _ (List.getElem_mem hk);rw[show l.getD k []=l[k] from by simp[List.getD,hk]];simp only[Bool.and_eq_true,decide_eq_true_eq,List.all_eq_true]at h1;exact ⟨h1.1,fun n hn=>h1.2 n hn⟩
 .rw[show l.getD k []=[] from by simp[List.getD,Nat.le_of_not_lt hk]];exact ⟨by decide,fun n hn=>by cases hn⟩
theorem mlit_any {w W:World}{g:Nat}{l:List (List Int)}{cs:Array Value}(hb:Below w.heap.size w W)(hg:Hp W g (.cells cs 60 (0,0)))(hr:∀k,k<l.length->∃A c,cs[k]?=some (.slice A (l.getD k []).length c)/\Rn W A (l.getD k []))(hl:l.length<=100)(h64:i64s l=true){n:Nat}(hn:l.length=n) :
  Calls Tryz.prog 42 #[.slice (some ⟨g,0,none⟩) n n] W (MR w n (mR l)):=by
 subst hn
 have h:=rints4_m (w:=W) (P:=some ⟨g,0,none⟩) (N:=l.length) (C:=l.length) (ns:=fun k=>l.getD k []) ⟨fun k hk=>by
  obtain ⟨A,c,h1,h2⟩:=hr k hk
  exact ⟨g,0,A,c,rfl,hg.lt,by rw[Nat.zero_add,hg.cellAt k];exact h1,h2⟩,fun k _=>(i64s_row h64 k).2,fun k _=>by have:=(i64s_row h64 k).1;omega⟩ (by omega)
 refine h.mono ?_;rintro e V ⟨P,C,rfl,hm,bb⟩;exact ⟨P,C,rfl,hm,Bxb hb bb⟩
theorem mlit1 {w:World}(a:List Int)(h:i64s [a]=true) :
  Calls Tryz.prog 42 #[.slice (some ⟨w.heap.size+1,0,none⟩) 1 1] ((w.alloc (.cells (intsV a) 2)).alloc (.cells #[.slice (some ⟨w.heap.size,0,none⟩) a.length a.length] 60)) (MR w 1 (mR [a])):=by
 have h1:=(Hp.new w (intsV a) 2).alloc (.cells #[.slice (some ⟨w.heap.size,0,none⟩) a.length a.length] 60);have h2:=Hp.new (w.alloc (.cells (intsV a) 2)) #[.slice (some ⟨w.heap.size,0,none⟩) a.length a.length] 60;rw[szA]at h2
 exact mlit_any (bRR.alloc (by simp) _) h2 (fun k hk=>by
  obtain rfl:k=0:=by simp at hk;omega
  exact ⟨_,_,rfl,rn_lit h1⟩) (by simp) h rfl
theorem mlit2 {w:World}(a b:List Int)(h:i64s [a,b]=true) :
  Calls Tryz.prog 42 #[.slice (some ⟨w.heap.size+1+1,0,none⟩) 2 2] (((w.alloc (.cells (intsV a) 2)).alloc (.cells (intsV b) 2)).alloc (.cells #[.slice (some ⟨w.heap.size,0,none⟩) a.length a.length,.slice (some ⟨w.heap.size+1,0,none⟩) b.length b.length] 60)) (MR w 2 (mR [a,b])):=by
 have h1:=((Hp.new w (intsV a) 2).alloc (.cells (intsV b) 2)).alloc (.cells #[.slice (some ⟨w.heap.size,0,none⟩) a.length a.length,.slice (some ⟨w.heap.size+1,0,none⟩) b.length b.length] 60);have h2:=(Hp.new (w.alloc (.cells (intsV a) 2)) (intsV b) 2).alloc (.cells #[.slice (some ⟨w.heap.size,0,none⟩) a.length a.length,.slice (some ⟨w.heap.size+1,0,none⟩) b.length b.length] 60);have h3:=Hp.new ((w.alloc (.cells (intsV a) 2)).alloc (.cells (intsV b) 2)) #[.slice (some ⟨w.heap.size,0,none⟩) a.length a.length,.slice (some ⟨w.heap.size+1,0,none⟩) b.length b.length] 60;rw[szA]at h2;rw[szA,szA]at h3
 exact mlit_any ((bRR.alloc (by simp) _).alloc (by simp;omega) _) h3 (fun k hk=>by
  match k,hk with
  | 0,_=>exact ⟨_,_,rfl,rn_lit h1⟩
  | 1,_=>exact ⟨_,_,rfl,rn_lit h2⟩) (by simp) h rfl
theorem rlit {w:World}(a:List Int)(h:i64s [a]=true){n:Nat}(hn:a.length=n) :
  Calls Tryz.prog 50 #[.slice (some ⟨w.heap.size,0,none⟩) n n] (w.alloc (.cells (intsV a) 2)) fun e w'=>∃A c es,e=.returned (.slice A n c)/\Vc w' A c es (ratsOf a)/\Below w.heap.size w w':=by
 subst hn;have hb:Below w.heap.size w (w.alloc (.cells (intsV a) 2)):=bRR;have h0:=i64s_row h 0;refine (rints_v (c:=a.length) (rn_lit (Hp.new w (intsV a) 2)) h0.2 (by have:=h0.1;simp at this;omega)).mono ?_;rintro e V ⟨A,c,es,rfl,hv,bb⟩;exact ⟨A,c,es,by rw[ratsOf_length],hv,Bxb hb bb⟩
theorem plit {w:World}(a:List Int)(h:i64s [a]=true){n:Nat}(hn:a.length=n) :
  Calls Tryz.prog 49 #[.slice (some ⟨w.heap.size,0,none⟩) n n] (w.alloc (.cells (intsV a) 2)) fun e w'=>∃A c es,e=.returned (.slice A n c)/\Vc w' A c es (ratsOf a)/\Below w.heap.size w w':=by
 subst hn;have hb:Below w.heap.size w (w.alloc (.cells (intsV a) 2)):=bRR;have h0:=i64s_row h 0;refine (ints_v (c:=a.length) (rn_lit (Hp.new w (intsV a) 2)) h0.2 (by have:=h0.1;simp at this;omega)).mono ?_;rintro e V ⟨A,c,es,rfl,hv,bb⟩;exact ⟨A,c,es,by rw[ratsOf_length],hv,Bxb hb bb⟩
theorem small_m {w:World} : Calls Tryz.prog 48 #[] w (MR w 2 (mR [[1,2],[3]])):=by
 go_enter Tryz.func48,Tryz.ntmps48
 go_wp2_with fail
 refine (mlit2 [1,2] [3] (by decide +kernel)).mono ?_;rintro e V ⟨P,C,rfl,hm,bb⟩;have HB:=Hd bb;clear bb;go_wp2
 go_ret
 exact ⟨P,C,rfl,hm,HB.out⟩
theorem malive_any (w:World):Calls Tryz.prog 11 #[] w fun e w'=>e=.returned (.bool true)/\Below w.heap.size w w':=by
 have MQ:∀k,k<2->∀i,Qm 2 ((mR [[1,2],[3]] k).getD i 0):=fun k hk i=>rats_qm (by match k,hk with
  | 0,_=>decide +kernel
  | 1,_=>decide +kernel) i
 have ML:∀k,k<2->(mR [[1,2],[3]] k).length<=2:=fun k hk=>by match k,hk with
  | 0,_=>decide +kernel
  | 1,_=>decide +kernel
 have hc:colsN (mR [[1,2],[3]]) 2=2:=by decide +kernel
 have HMI:=Hd (fun (V:World) (P:Option Addr) (C:Nat) (h:Mc V P 2 C (mR [[1,2],[3]]))=>h.mi (m:=2) (by decide) MQ);have HCO:=Hd (fun (V:World) (P:Option Addr) (C:Nat) (h:Mc V P 2 C (mR [[1,2],[3]]))=>cols_m (C:=C) h.rs (by decide) (fun k hk=>Nat.le_trans (ML k hk) (by decide)))
 have HMV:=Hd (fun (V:World) (P A:Option Addr) (C c:Nat) (es:List E4) (h:Mc V P 2 C (mR [[1,2],[3]])) (hv:Vc V A c es (ratsOf [5,7]))=>mulVec_m (c':=c) (HMI.out _ _ _ h) (hv.vi (fun i=>rats_qm (by decide +kernel) i) (by decide)) (by decide) (by decide) (by decide) (fun k hk=>Nat.le_trans (ML k hk) (by decide)) (by decide) (fun k hk=>by match k,hk with
  | 0,_=>decide +kernel
  | 1,_=>decide +kernel))
 have HVM:=Hd (fun (V:World) (P A:Option Addr) (C c:Nat) (es:List E4) (h:Mc V P 2 C (mR [[1,2],[3]])) (hv:Vc V A c es (ratsOf [1,1]))=>vecMul_m (c':=c) (C:=C) (hv.vi (fun i=>rats_qm (by decide +kernel) i) (by decide)) (HMI.out _ _ _ h) (by decide) (by decide) (fun k hk=>Nat.le_trans (ML k hk) (by decide)) (by decide) (by decide) (by decide));have HTU:=Hd (fun (V:World) (P:Option Addr) (C:Nat) (h:Mc V P 2 C (mR [[1,2],[3]]))=>turn_m (HMI.out _ _ _ h) (by decide) (by decide) (fun k hk=>Nat.le_trans (Nat.succ_le_succ (ML k hk)) (by decide)))
 have HMU:=Hd (fun (V:World) (P:Option Addr) (C:Nat) (h:Mc V P 2 C (mR [[1,2],[3]]))=>mul_m (HMI.out _ _ _ h) (HMI.out _ _ _ h) (by decide) (by decide) (by decide) (by decide) (fun k hk=>Nat.le_trans (ML k hk) (by decide)) (fun k hk=>Nat.le_trans (ML k hk) (by decide)) (fun k hk=>by match k,hk with
  | 0,_=>decide +kernel
  | 1,_=>decide +kernel))
 have HCA:=Hd (fun (V:World) (P Q:Option Addr) (C D:Nat) (h:Mc V P 2 C (mR [[1,2],[3]])) (h9:Mc V Q 1 D (mR [[9]]))=>cat_m (HMI.out _ _ _ h) (h9.mi (m:=2) (by decide) (fun k hk i=>rats_qm (by match k,hk with
  | 0,_=>decide +kernel) i)) (by decide) (by decide) (by decide) (fun k hk=>Nat.le_trans (ML k hk) (by decide)) (fun k hk=>by match k,hk with
  | 0,_=>decide +kernel))
 simp only[hc]at HCO HTU HVM HMU HCA;simp only[show max 2 1=2 from rfl]at HCA;have HB:=Hd (Below.refl w.heap.size w);clear MQ ML hc HMI
 go_enter Tryz.func11,Tryz.ntmps11
 go_wp2_with fail
 refine (small_m).mono ?_;rintro e V ⟨_,_,rfl,hm,bb⟩;replace HB:=Hxb HB bb;clear bb
 go_wp2_with fail
 refine (HCO.out _ _ _ hm).mono ?_;rintro e V ⟨rfl,bb⟩;replace hm:=hm.to bb;replace HB:=Hxb HB bb;clear bb
 go_wp2_with fail
 refine (plit [5,7] (by decide +kernel) rfl).mono ?_;rintro e V ⟨_,_,_,rfl,r,bb⟩;replace hm:=hm.to bb;replace HB:=Hxb HB bb;clear bb
 go_wp2_with fail
 refine (HMV.out _ _ _ _ _ _ hm r).mono ?_;rintro e V ⟨_,_,_,rfl,s,bb⟩;clear r;replace hm:=hm.to bb;replace HB:=Hxb HB bb;clear bb
 go_wp2_with fail
 refine (rlit [19,15] (by decide +kernel) rfl).mono ?_;rintro e V ⟨_,_,_,rfl,r,bb⟩;replace hm:=hm.to bb;replace s:=s.to bb;replace HB:=Hxb HB bb;clear bb
 go_wp2_with fail
 refine (vis_v s r (by decide +kernel) (v:=true) (by decide +kernel)).mono ?_;rintro e V ⟨rfl,bb⟩;clear s r;replace hm:=hm.to bb;replace HB:=Hxb HB bb;clear bb
 go_wp2_with fail
 refine (plit [1,1] (by decide +kernel) rfl).mono ?_;rintro e V ⟨_,_,_,rfl,r,bb⟩;replace hm:=hm.to bb;replace HB:=Hxb HB bb;clear bb
 go_wp2_with fail
 refine (HVM.out _ _ _ _ _ _ hm r).mono ?_;rintro e V ⟨_,_,_,rfl,s,bb⟩;clear r;replace hm:=hm.to bb;replace HB:=Hxb HB bb;clear bb
 go_wp2_with fail
 refine (rlit [4,2] (by decide +kernel) rfl).mono ?_;rintro e V ⟨_,_,_,rfl,r,bb⟩;replace hm:=hm.to bb;replace s:=s.to bb;replace HB:=Hxb HB bb;clear bb
 go_wp2_with fail
 refine (vis_v s r (by decide +kernel) (v:=true) (by decide +kernel)).mono ?_;rintro e V ⟨rfl,bb⟩;clear s r;replace hm:=hm.to bb;replace HB:=Hxb HB bb;clear bb
 go_wp2_with fail
 refine (HTU.out _ _ _ hm).mono ?_;rintro e V ⟨_,_,rfl,s,bb⟩;replace hm:=hm.to bb;replace HB:=Hxb HB bb;clear bb
 go_wp2_with fail
 refine (mlit2 [1,3] [2,0] (by decide +kernel)).mono ?_;rintro e V ⟨_,_,rfl,r,bb⟩;replace hm:=hm.to bb;replace s:=s.to bb;replace HB:=Hxb HB bb;clear bb
 go_wp2_with fail
 refine (is4_t s r (fun k hk=>by match k,hk with
  | 0,_=>decide +kernel
  | 1,_=>decide +kernel) (fun k hk=>by match k,hk with
  | 0,_=>decide +kernel
  | 1,_=>decide +kernel)).mono ?_
 rintro e V ⟨rfl,bb⟩;clear s r;replace hm:=hm.to bb;replace HB:=Hxb HB bb;clear bb
 go_wp2_with fail
 refine (HMU.out _ _ _ hm).mono ?_;rintro e V ⟨_,_,rfl,s,bb⟩;replace hm:=hm.to bb;replace HB:=Hxb HB bb;clear bb
 go_wp2_with fail
 refine (mlit2 [7,2] [3,6] (by decide +kernel)).mono ?_;rintro e V ⟨_,_,rfl,r,bb⟩;replace hm:=hm.to bb;replace s:=s.to bb;replace HB:=Hxb HB bb;clear bb
 go_wp2_with fail
 refine (is4_t s r (fun k hk=>by match k,hk with
  | 0,_=>decide +kernel
  | 1,_=>decide +kernel) (fun k hk=>by match k,hk with
  | 0,_=>decide +kernel
  | 1,_=>decide +kernel)).mono ?_
 rintro e V ⟨rfl,bb⟩;clear s r;replace hm:=hm.to bb;replace HB:=Hxb HB bb;clear bb
 go_wp2_with fail
 refine (mlit1 [9] (by decide +kernel)).mono ?_;rintro e V ⟨_,_,rfl,h9,bb⟩;replace hm:=hm.to bb;replace HB:=Hxb HB bb;clear bb
 go_wp2_with fail
 refine (HCA.out _ _ _ _ _ hm h9).mono ?_;rintro e V ⟨_,_,rfl,s,bb⟩;clear h9;replace hm:=hm.to bb;replace HB:=Hxb HB bb;clear bb
 go_wp2_with fail
 refine (mlit2 [1,2,9] [3,0,0] (by decide +kernel)).mono ?_;rintro e V ⟨_,_,rfl,r,bb⟩;replace hm:=hm.to bb;replace s:=s.to bb;replace HB:=Hxb HB bb;clear bb
 go_wp2_with fail
 refine (is4_t s r (fun k hk=>by match k,hk with
  | 0,_=>decide +kernel
  | 1,_=>decide +kernel) (fun k hk=>by match k,hk with
  | 0,_=>decide +kernel
  | 1,_=>decide +kernel)).mono ?_
 rintro e V ⟨rfl,bb⟩;clear s r;replace hm:=hm.to bb;replace HB:=Hxb HB bb;clear bb;go_wp2
 go_ret
 exact ⟨rfl,HB.out⟩
theorem qlongk {n1 n2:Nat}{b1 b2:Bool}{A1 A2:Option Addr}{c1 c2:Nat}{V:World}{g:Nat}(h1:n1<=9223372036854775807)(h2:n2<=9223372036854775807)
  (h:V.heap[g]?=some (.cells #[.bool b1,.slice A1 n1 c1,.bool b2,.slice A2 n2 c2] 32 (0,0))) {r:Bool} (hr:([(n1,n2)].any fun p=>decide (6<p.1)||decide (6<p.2))=r) :
  Calls Tryz.prog 28 #[.slice (some ⟨g,0,none⟩) 1 1] V fun e w'=>e=.returned (.bool r)/\Below V.heap.size V w':=by
 have hg:g<V.heap.size:=(Array.getElem?_eq_some_iff.1 h).1
 exact flong_o g 0 (some ⟨g,0,none⟩) [(n1,n2)] 1 V (fun _ _=>⟨rfl,hg⟩) (fun k hk=>by
  match k,hk with
  | 0,_=>exact ⟨b1,A1,c1,b2,A2,c2,by simp[World.cell?,h],by simp[World.cell?,h],by simp[World.cell?,h],by simp[World.cell?,h]⟩) (fun k hk=>by
  match k,hk with
  | 0,_=>exact ⟨h1,h2⟩) (by simp) hr
end Go.Proofs.YtglhdielkkhefaaGreat
