/- Parts: 4. -/
import Derived.Test.YtglhdielkkhefaaGreatMl14
import Derived.Test.YtglhdielkkhefaaGreatMl15
import Derived.Test.YtglhdielkkhefaaGreatMl16
set_option linter.unusedVariables false
set_option linter.unusedSimpArgs false
set_option maxRecDepth 100000
set_option maxHeartbeats 40000000

namespace Go.Proofs.YtglhdielkkhefaaGreat
open Go.RowKit Go.Shelf
theorem rowAt_in {w:World}{b o N C i n c:Nat}{A:Option Addr}(hc:w.cell? ⟨b,o+i,none⟩=some (.slice A n c))(hi:i<N)(hN:N<=9223372036854775807) :
  Calls Tryz.prog 53 #[.slice (some ⟨b,o,none⟩) N C,.int .i64 (i:Int)] w fun e w'=>e=.returned (.slice A n c)/\Below w.heap.size w w':=by
 have h0:(0:Int)<=(i:Int):=by omega
 have h1:¬(i:Int)<0:=by omega
 have h2:¬(N:Int)<=(i:Int):=by omega
 have h3:(i:Int)<(N:Int):=by omega
 clear hi
 go_enter Tryz.func53,Tryz.ntmps53
 go_wp2
 go_ret
 exact ⟨rfl,Below.refl _ _⟩
theorem at_m {w:World}{P:Option Addr}{N C m i j:Nat}{rs:Nat->List Rat}(hM:Mi w P N C rs m)(hm:m<=10000)(hi:i<N)(hl:(rs i).length<=4398046511104) :
  Calls Tryz.prog 16 #[.slice P N C,.int .i64 (i:Int),.int .i64 (j:Int)] w (QR w ((rs i).getD j 0)):=by
 have hN:=hM.n63;obtain ⟨r,hr⟩:∃r,(rs i).getD j 0=r:=⟨_,rfl⟩
 have HRR:=Hd hr;rw[hr];obtain ⟨b,o,A,c,es,rfl,hb1,hc,hv⟩:=hM.row i hi;obtain ⟨W0,hW0⟩:∃W0,W0=w.alloc (.cells #[.bool false,.slice none 0 0,.bool false,.slice none 0 0] 32):=⟨_,rfl⟩
 have hbw:Below w.heap.size w W0:=by rw[hW0];exact bRR
 have tR:Four W0 w.heap.size (.bool false) (.slice none 0 0) (.bool false) (.slice none 0 0):=by rw[hW0];exact Four.new w _ _ _ _ _
 have HR:=Hd (rowAt_in (w:=W0) (C:=C) ((hbw.cell (p:=⟨b,_,none⟩) hb1).trans hc) hi hN);replace hv:=hv.to hbw;have HW0:=Hd hW0;have HB:=Hd hbw;have hj0:¬(j:Int)<0:=by omega
 clear hM hi hc hb1 hW0 hbw hr
 go_enter Tryz.func16,Tryz.ntmps16
 go_wp2_with fail
 rw[<-HW0.out];refine HR.out.mono ?_;rintro e V ⟨rfl,bb⟩;replace tR:=tR.to bb;replace hv:=hv.to bb;replace HB:=Hxb HB bb;clear bb HR HW0
 by_cases hj:j<(rs i).length
 .have hj1:¬((rs i).length:Int)<=(j:Int):=by omega
  have hj2:(j:Int)<((rs i).length:Int):=by omega
  have hj3:(0:Int)<=(j:Int):=by omega
  have hje:j<es.length:=by rw[hv.len];exact hj
  obtain ⟨b',o',rfl,hbo,f0,f1,f2,f3⟩:=hv.row j hje;have hq:=hv.el j;rw[getD_at' hje,HRR.out]at hq;have HC:=Hd (canonical_q hq hm);generalize es[j]=X at f0 f1 f2 f3 HC;obtain ⟨x1,x2,x3,x4⟩:=X;dsimp only at f0 f1 f2 f3 HC;clear hq hje hj hv hbo
  go_wp2_with fail
  refine HC.out.mono ?_;rintro e V2 ⟨y1,y2,y3,y4,rfl,q,bb⟩;replace tR:=tR.to bb;replace HB:=Hxb HB bb;clear bb HC f0 f1 f2 f3;have RZ:=Hd q;obtain ⟨V99,eV,u,kp⟩:=pack4 tR Fq.nil y1 y2 y3 y4;obtain ⟨⟨n1,A1,k1,m1,rfl,rfl⟩,⟨n2,A2,k2,m2,rfl,rfl⟩⟩:=q.fq;obtain ⟨v0,v1,v2,v3,v4,v5,v6,v7,_⟩:=tR;have EV:=Hd eV;have KP:=Hd kp;have U:=Hd u;clear eV kp u q;go_wp2
  rw[EV.out];refine bodyPost_ret (v:=.agg #[.bool n1,.slice A1 k1 m1,.bool n2,.slice A2 k2 m2]) (by simp[results,Tryz.f16,go_sem,U.out.c0,U.out.c1,U.out.c2,U.out.c3]) rfl ?_;exact ⟨_,_,_,_,rfl,RZ.out.k4 KP.out,KP.out.bel _ _ HB.out (by omega)⟩
 .have hj1:((rs i).length:Int)<=(j:Int):=by omega
  obtain rfl:r=0:=by rw[<-HRR.out,getD_ge (l:=rs i) (by omega)]
  obtain ⟨V99,eV,u,kp⟩:=pack4 tR Fq.nil (.bool false) (.slice none 0 0) (.bool false) (.slice none 0 0);obtain ⟨v0,v1,v2,v3,v4,v5,v6,v7,_⟩:=tR;have EV:=Hd eV;have KP:=Hd kp;have U:=Hd u;clear eV kp u hv hj;go_wp2
  rw[EV.out];refine bodyPost_ret (v:=.agg #[.bool false,.slice none 0 0,.bool false,.slice none 0 0]) (by simp[results,Tryz.f16,go_sem,U.out.c0,U.out.c1,U.out.c2,U.out.c3]) rfl ?_;exact ⟨_,_,_,_,rfl,⟨Zc.zero _,Zc.zero _⟩,KP.out.bel _ _ HB.out (by omega)⟩
theorem column_m {w:World}{P:Option Addr}{N C m j:Nat}{rs:Nat->List Rat}(hM:Mi w P N C rs m)(hm:m<=10000)(hl:N+1<=1000000)(hr:∀i,i<N->(rs i).length<=4398046511104) :
  Calls Tryz.prog 68 #[.slice P N C,.int .i64 (j:Int)] w (VR w (tab N (fun i=>(rs i).getD j 0))):=by
 have HL:=Hd hl;obtain ⟨g,hg⟩:∃g:Nat->Rat,g=fun i=>(rs i).getD j 0:=⟨_,rfl⟩
 have HA:=Hd (fun (V:World) (hV:Below w.heap.size w V) k (hk:k<N)=>at_m (j:=j) (hM.to hV) hm hk (hr k hk));have hgk:∀i,(rs i).getD j 0=g i:=fun i=>by rw[hg]
 simp only[hgk]at HA;rw[<-hg];clear hM hm hr hg hgk
 go_enter Tryz.func68,Tryz.ntmps68
 go_wp2_with (at_make;refine wpList_makeq _ rfl _ _ rfl 0 N rfl rfl (by omega) (by omega) (Nat.zero_le _) (by have:=HL.out;omega) ?_)
 have hacc:Hid (TotV (w.alloc (.cells (flat (List.replicate N E4.z)).toArray 32)) (.slice (some ⟨w.heap.size,0,none⟩) 0 N) 0 g w.heap.size):=TotV.new (Nat.le_refl _) (by have:=HL.out;omega);have hbw:Below w.heap.size w (w.alloc (.cells (flat (List.replicate N E4.z)).toArray 32)):=bRR;generalize w.alloc (.cells (flat (List.replicate N E4.z)).toArray 32)=w1 at hacc hbw ⊢
 go_loopw [5,12] (fun v i wr=>∃(k:Nat) (A1:Option Addr) (c1:Nat),v=.slice A1 k c1/\i=.int .i64 k/\k<=N/\Hid (TotV wr (.slice A1 k c1) k g w.heap.size)/\Below w.heap.size w wr) (fun _ i _=>N-(intOf i).toNat)
 case atStart=>exact ⟨0,_,_,rfl,rfl,Nat.zero_le _,hacc,hbw⟩
 case round =>
  obtain ⟨k,A1,c1,rfl,rfl,hk,hT,hb⟩:=hrel;clear hacc hbw
  by_cases hlt:k<N
  .have hk1:(0:Int)<=(k:Int):=by omega
   have hk2:(k:Int)<(N:Int):=by omega
   have hk3:(k:Int)+1<=9223372036854775807:=by have:=HL.out;omega
   have HC:=Hd (HA.out wr hb k hlt);have HB:=Hd hb;have HLT:=Hd hlt;clear hb hlt hk
   go_wp2_with fail
   refine (HC.out).mono ?_;rintro e V ⟨x1,x2,x3,x4,rfl,q,bb⟩;have bb2:Below V.heap.size V (V.alloc (.cells #[x1,x2,x3,x4] 32)):=bRR;have c5:=(Hp.new V #[x1,x2,x3,x4] 32).four;have hB1:=HB.out.trans (bb.mono HB.out.size);have hB2:=Bxb hB1 bb2;obtain ⟨v',X,hrun,hT2,hbel⟩:=qapp ((hT.out.to bb).to bb2) hB2.size (by have:=HL.out;have:=HLT.out;omega) (e:=⟨x1,x2,x3,x4⟩) q.fq (q.to bb2) (a:=⟨V.heap.size,0,none⟩) (c:=1) c5.c0 c5.c1 c5.c2 c5.c3 38;obtain ⟨A3,c3,rfl⟩:=hT2.sl;have HRUN:=Hd hrun;have HE:Hid (TotV X (.slice A3 (k+1) c3) (k+1) g w.heap.size/\Below w.heap.size w X):=⟨hT2,hB2.trans hbel⟩
   clear bb2 c5 hbel hrun bb q hT2 hB1 hB2
   go_wp2_with (at_builtin;refine wpList_append_run rfl (.tmp 15) (.tmp 20) 38 rfl (by rfl) (by rfl) HRUN.out ?_;clear HRUN)
   go_roundw
   case rel=>exact ⟨k+1,A3,c3,rfl,by simp,HLT.out,HE.out.1,HE.out.2⟩
   case measure=>have:=HLT.out;simp[intOf];omega
  .obtain rfl:k=N:=by omega
   have HT:=hT;have HB:=Hd hb;clear hT hb hlt hk;go_wp2
   go_ret
   exact HT.out.vtab (by have:=HL.out;omega) HB.out
theorem mulVec_m {w:World}{P A':Option Addr}{N C m c' l:Nat}{rs:Nat->List Rat}{fs:List E4}{ss:List Rat}(hM:Mi w P N C rs m)(hX:Vi w A' c' fs ss l)(hm:0<m)(hl0:0<l)(hl:N+1<=1000000)(hr:∀i,i<N->(rs i).length<=4398046511104)(hs:ss.length<=4398046511104)(hb0:∀i,i<N->(max (rs i).length ss.length)*(m+l+1)+1+(m+l)+1<=10000) :
  Calls Tryz.prog 38 #[.slice P N C,.slice A' ss.length c'] w (VR w (tab N (fun i=>dotQ (rs i) ss))):=by
 have HL:=Hd hl;obtain ⟨g,hg⟩:∃g:Nat->Rat,g=fun i=>dotQ (rs i) ss:=⟨_,rfl⟩
 have HD:=Hd (fun (V:World) (hV:Below w.heap.size w V) k (hk:k<N) {A:Option Addr} {c:Nat} {es:List E4} (h:Vi V A c es (rs k) m)=>vdot_v (c:=c) (c':=c') h (hX.to hV) hm hl0 (hr k hk) hs (hb0 k hk));have HR:=Hd (fun (V:World) (hV:Below w.heap.size w V)=>(hM.to hV).row);have hgk:∀i,dotQ (rs i) ss=g i:=fun i=>by rw[hg]
 simp only[hgk]at HD;rw[<-hg];clear hM hX hm hl0 hr hs hb0 hg hgk
 go_enter Tryz.func38,Tryz.ntmps38
 go_wp2_with (at_make;refine wpList_makeq _ rfl _ _ rfl 0 N rfl rfl (by omega) (by omega) (Nat.zero_le _) (by have:=HL.out;omega) ?_)
 have hacc:Hid (TotV (w.alloc (.cells (flat (List.replicate N E4.z)).toArray 32)) (.slice (some ⟨w.heap.size,0,none⟩) 0 N) 0 g w.heap.size):=TotV.new (Nat.le_refl _) (by have:=HL.out;omega);have hbw:Below w.heap.size w (w.alloc (.cells (flat (List.replicate N E4.z)).toArray 32)):=bRR;generalize w.alloc (.cells (flat (List.replicate N E4.z)).toArray 32)=w1 at hacc hbw ⊢
 go_loopw [5,13] (fun v i wr=>∃(k:Nat) (A1:Option Addr) (c1:Nat),v=.slice A1 k c1/\i=.int .i64 k/\k<=N/\Hid (TotV wr (.slice A1 k c1) k g w.heap.size)/\Below w.heap.size w wr) (fun _ i _=>N-(intOf i).toNat)
 case atStart=>exact ⟨0,_,_,rfl,rfl,Nat.zero_le _,hacc,hbw⟩
 case round =>
  obtain ⟨k,A1,c1,rfl,rfl,hk,hT,hb⟩:=hrel;clear hacc hbw
  by_cases hlt:k<N
  .have hk1:(0:Int)<=(k:Int):=by omega
   have hk2:(k:Int)<(N:Int):=by omega
   have hk3:(k:Int)+1<=9223372036854775807:=by have:=HL.out;omega
   obtain ⟨b,o,A,c,es,rfl,hb1,cc,hv⟩:=HR.out wr hb k hlt;have HC:=Hd (HD.out wr hb k hlt hv);clear hb1 hv;have HB:=Hd hb;have HLT:=Hd hlt;clear hb hlt hk
   go_wp2_with fail
   refine (HC.out).mono ?_;rintro e V ⟨x1,x2,x3,x4,rfl,q,bb⟩;have bb2:Below V.heap.size V (V.alloc (.cells #[x1,x2,x3,x4] 32)):=bRR;have c5:=(Hp.new V #[x1,x2,x3,x4] 32).four;have hB1:=HB.out.trans (bb.mono HB.out.size);have hB2:=Bxb hB1 bb2;obtain ⟨v',X,hrun,hT2,hbel⟩:=qapp ((hT.out.to bb).to bb2) hB2.size (by have:=HL.out;have:=HLT.out;omega) (e:=⟨x1,x2,x3,x4⟩) q.fq (q.to bb2) (a:=⟨V.heap.size,0,none⟩) (c:=1) c5.c0 c5.c1 c5.c2 c5.c3 38;obtain ⟨A3,c3,rfl⟩:=hT2.sl;have HRUN:=Hd hrun;have HE:Hid (TotV X (.slice A3 (k+1) c3) (k+1) g w.heap.size/\Below w.heap.size w X):=⟨hT2,hB2.trans hbel⟩
   clear bb2 c5 hbel hrun bb q hT2 hB1 hB2 cc HC
   go_wp2_with (at_builtin;refine wpList_append_run rfl (.tmp 17) (.tmp 21) 38 rfl (by rfl) (by rfl) HRUN.out ?_;clear HRUN)
   go_roundw
   case rel=>exact ⟨k+1,A3,c3,rfl,by simp,HLT.out,HE.out.1,HE.out.2⟩
   case measure=>have:=HLT.out;simp[intOf];omega
  .obtain rfl:k=N:=by omega
   have HT:=hT;have HB:=Hd hb;clear hT hb hlt hk;go_wp2
   go_ret
   exact HT.out.vtab (by have:=HL.out;omega) HB.out
theorem Four.setOther {W:World}{g h:Nat}{a b c d:Value}{cs:Array Value}(t:Four W g a b c d)(hne:g≠h):Four (W.setRow h cs) g a b c d:=by
 have e:(W.setRow h cs).heap[g]?=W.heap[g]?:=setRow_other W h g cs hne;have hc:∀j,(W.setRow h cs).cell? ⟨g,j,none⟩=W.cell? ⟨g,j,none⟩:=fun j=>World.cell?_of_block (a:=⟨g,j,none⟩) e
 have hf:∀j,(W.setRow h cs).frozen? ⟨g,j,none⟩=W.frozen? ⟨g,j,none⟩:=fun j=>by unfold World.frozen?;rw[e]
 exact ⟨(hc _).trans t.c0,(hc _).trans t.c1,(hc _).trans t.c2,(hc _).trans t.c3,(hf _).trans t.f0,(hf _).trans t.f1,(hf _).trans t.f2,(hf _).trans t.f3,by rw[setRow_size];exact t.lt⟩
def RowT (W:World)(g L:Nat)(f:Nat->Rat):Prop:=∃fl,Row W g fl/\fl.length=L/\∀i,i<L->Qc W (fl.getD i E4.z).a (fl.getD i E4.z).b (fl.getD i E4.z).c (fl.getD i E4.z).d (f i)
theorem RowT.to {W V:World}{g L:Nat}{f:Nat->Rat}(h:RowT W g L f)(hb:Below W.heap.size W V):RowT V g L f:=by
 obtain ⟨fl,h1,h2,h3⟩:=h;exact ⟨fl,h1.to hb,h2,fun i hi=>(h3 i hi).to hb⟩
theorem RowT.congr {W:World}{g L:Nat}{f f':Nat->Rat}(h:RowT W g L f)(hf:∀i,i<L->f i=f' i):RowT W g L f':=by
 obtain ⟨fl,h1,h2,h3⟩:=h;exact ⟨fl,h1,h2,fun i hi=>by rw[<-hf i hi];exact h3 i hi⟩
theorem RowT.new {W:World}{L:Nat} : RowT (W.alloc (.cells (flat (List.replicate L E4.z)).toArray 32)) W.heap.size L (fun _=>0) :=
 ⟨List.replicate L E4.z,Row.new W L,by simp,fun i hi=>by
  rw[show (List.replicate L E4.z).getD i E4.z=E4.z from by simp[List.getD,List.getElem?_replicate,hi]]
  exact qc_z _⟩
theorem RowT.set {W:World}{g L j:Nat}{fl:List E4}{S a:Nat->Rat}(h1:Row W g fl)(h2:fl.length=L)(h3:∀i,i<L->Qc W (fl.getD i E4.z).a (fl.getD i E4.z).b (fl.getD i E4.z).c (fl.getD i E4.z).d (midF S a j i))(hj:j<L){e:E4}(he:e.fq)(hq:Qc W e.a e.b e.c e.d (S j+a j)) :
  RowT (W.setRow g (flat (fl.set j e)).toArray) g L (midF S a (j+1)):=by
 have kw:Kw W (W.setRow g (flat (fl.set j e)).toArray):=h1.kw;refine ⟨fl.set j e,h1.app he,by simpa using h2,fun i hi=>?_⟩
 by_cases hij:i=j
 .subst hij;rw[show (fl.set i e).getD i E4.z=e from by simp[List.getD,show i<fl.length by omega],show midF S a (i+1) i=S i+a i from by unfold midF;rw[if_pos (by omega)]];exact kw.qc hq
 .rw[show (fl.set j e).getD i E4.z=fl.getD i E4.z from by simp[List.getD,List.getElem?_set,Ne.symm hij],show midF S a (j+1) i=midF S a j i from by unfold midF;have e:(i<j+1)=(i<j):=propext (by omega);simp only[e]];exact kw.qc (h3 i hi)
theorem RowT.vr {w W:World}{g L:Nat}{f:Nat->Rat}(h:RowT W g L f)(hL:L<=4398046511104)(hb:Below w.heap.size w W):VR w (tab L f) (.returned (.slice (some ⟨g,0,none⟩) L L)) W:=by
 obtain ⟨fl,h1,h2,h3⟩:=h;refine ⟨some ⟨g,0,none⟩,L,fl,by rw[tab_length],h1.vc h2 (tab_length _ _) hL fun i hi=>?_,hb⟩;rw[tab_getD f hi];exact h3 i hi
theorem ws_v {w:World}{A' P:Option Addr}{c' N C l m L:Nat}{fs:List E4}{ys:List Rat}{rs:Nat->List Rat}(hY:Vi w A' c' fs ys l)(hM:Mi w P N C rs m)(hl0:0<l)(hm:0<m)(hL:L<=4398046511104)(hlen:∀k,k<N->(rs k).length<=L)(hy:ys.length<=4398046511104)
  (hb0:(min ys.length N)*(l+m+1)+1+(l+m)+1<=10000) :
  Calls Tryz.prog 73 #[.slice A' ys.length c',.slice P N C,.int .i64 (L:Int)] w (VR w (tab L (fun j=>sumF (fun i=>ys.getD i 0*(rs i).getD j 0) (min ys.length N)))):=by
 have hN63:=hM.n63;obtain ⟨M,hMM⟩:∃M,min ys.length N=M:=⟨_,rfl⟩
 obtain ⟨a,ha⟩:∃a:Nat->Nat->Rat,a=fun k j=>ys.getD k 0*(rs k).getD j 0:=⟨_,rfl⟩
 obtain ⟨S,hS⟩:∃S:Nat->Nat->Rat,S=fun k j=>sumF (fun i=>ys.getD i 0*(rs i).getD j 0) k:=⟨_,rfl⟩
 have hak:Hid (∀k j,ys.getD k 0*(rs k).getD j 0=a k j):=fun k j=>by rw[ha]
 have hsk:Hid (∀k j,S (k+1) j=S k j+a k j):=fun k j=>by rw[hS,ha];rfl
 have hs0:Hid (∀j,S 0 j=0):=fun j=>by rw[hS];rfl
 have mA:∀k j,k<N->Qm (l+m) (ys.getD k 0*(rs k).getD j 0):=fun k j hk=>by
  obtain ⟨b,o,A,c,es,e,h1,h2,h3⟩:=hM.row k hk;exact ((hY.el k).qm hl0).mul ((h3.el j).qm hm)
 have mS:∀k,k<=N->∀j,Qm (k*(l+m+1)+1) (S k j):=fun k=>by
  induction k with
  | zero=>intro _ j;rw[hs0.out];exact Qm.zero (by omega)
  | succ k ih =>
   intro hk j;rw[hsk.out,<-hak.out];exact ((ih (by omega) j).add (mA k j (by omega))).mono (by rw[Nat.add_mul];omega)
 have HSY:=Hd (fun (V:World) (hV:Below w.heap.size w V) k {v:Int} (hv:sgnQ (ys.getD k 0)=v)=>sign_q ((hY.el k).to hV) hv);have HSX:=Hd (fun (V:World) (x1 x2 x3 x4:Value) (r:Rat) (q:Qi V x1 x2 x3 x4 r m) {v:Int} (hv:sgnQ r=v)=>sign_q q hv);have HML:=Hd (fun (V:World) (hV:Below w.heap.size w V) k (x1 x2 x3 x4:Value) (r:Rat) (q:Qi V x1 x2 x3 x4 r m)=>mul_q ((hY.el k).to hV) q hl0 hm (by omega))
 have HAD:=Hd (fun (V:World) k (hk:k<M) j (x1 x2 x3 x4 y1 y2 y3 y4:Value) (p:Qc V x1 x2 x3 x4 (S k j)) (q:Qc V y1 y2 y3 y4 (a k j))=>by
  have h2:k*(l+m+1)<=min ys.length N*(l+m+1):=Nat.mul_le_mul_right _ (by omega)
  exact add_q (p.qi (mS k (by omega) j) (by omega)) (q.qi (hak.out k j▸mA k j (by omega)) (by omega)) (by omega) (by omega) (by omega))
 have HR:=Hd hM.row;have HYR:=Hd hY.row;have HYF:=Hd hY.fq;have HYL:Hid (∀k,k<M->k<fs.length):=fun k hk=>by rw[hY.len];omega
 have HKN:Hid (∀k,k<M->k<N):=fun k hk=>by omega
 have HLN:=Hd hlen;obtain ⟨Y,hYY⟩:∃Y,ys.length=Y:=⟨_,rfl⟩
 have eM:min (Y:Int) (N:Int)=(M:Int):=by omega
 have HM63:Hid (M+1<=9223372036854775807):=by show _<=_;omega
 have HLL:=Hd hL;have HSS:Hid (∀j,sumF (fun i=>ys.getD i 0*(rs i).getD j 0) M=S M j):=fun j=>by rw[hS]
 have HFIN:Hid (tab L (fun j=>sumF (fun i=>ys.getD i 0*(rs i).getD j 0) M)=tab L (S M)):=by rw[hS];rfl
 have HYZ:=Hd (fun k=>(sgnQ_zero (r:=ys.getD k 0)).1);rw[hMM,HFIN.out];rw[hYY]at hy ⊢;clear hY hM hl0 hm hL hlen hb0 hMM ha hS mA mS hYY HFIN hN63
 go_enter Tryz.func73,Tryz.ntmps73
 go_wp2_with (at_make;refine wpList_makeq _ rfl _ _ rfl L L rfl rfl rfl rfl (Nat.le_refl _) HLL.out ?_)
 have hacc:Hid (RowT (w.alloc (.cells (flat (List.replicate L E4.z)).toArray 32)) w.heap.size L (S 0)):=RowT.new.congr (fun i _=>(hs0.out i).symm);have hbw:Below w.heap.size w (w.alloc (.cells (flat (List.replicate L E4.z)).toArray 32)):=bRR;generalize w.alloc (.cells (flat (List.replicate L E4.z)).toArray 32)=w1 at hacc hbw ⊢
 go_loopw [18] (fun i wr=>∃k:Nat,i=.int .i64 k/\k<=M/\Hid (RowT wr w.heap.size L (S k))/\Below w.heap.size w wr) (fun i _=>M-(intOf i).toNat)
 case atStart=>exact ⟨0,rfl,Nat.zero_le _,hacc,hbw⟩
 case round =>
  obtain ⟨k,rfl,hk,hT,hb⟩:=hrel;clear hacc hbw
  by_cases hlt:k<M
  .have hk1:(0:Int)<=(k:Int):=by omega
   have hk2:(k:Int)<(M:Int):=by omega
   have hkY:(k:Int)<(Y:Int):=by omega
   have hkN:(k:Int)<(N:Int):=by omega
   have hk3:(k:Int)+1<=9223372036854775807:=by have:=HM63.out;omega
   have hkf:=HYL.out k hlt;obtain ⟨b,o,hA,hbo,f0,f1,f2,f3⟩:=HYR.out k hkf;have fY:=HYF.out _ (List.getElem_mem hkf);have HSK:=Hd (fun (V:World) (hV:Below w.heap.size w V) {v:Int} (hv:sgnQ (ys.getD k 0)=v)=>HSY.out V hV k hv);have HMK:=Hd (fun (V:World) (hV:Below w.heap.size w V)=>HML.out V hV k);rw[getD_at' hkf]at HSK HMK;obtain ⟨E,hE⟩:∃E,fs[k]=E:=⟨_,rfl⟩
   rw[hE]at f0 f1 f2 f3 HSK HMK fY;obtain ⟨y1,y2,y3,y4⟩:=E;dsimp only at f0 f1 f2 f3 HSK HMK fY
   have FY:Hid (∀V,Below w.heap.size w V->V.cell? ⟨b,o+k*4,none⟩=some y1/\V.cell? ⟨b,o+k*4+1,none⟩=some y2/\V.cell? ⟨b,o+k*4+2,none⟩=some y3/\V.cell? ⟨b,o+k*4+3,none⟩=some y4):=fun V hV =>
    ⟨(hV.cell (p:=⟨b,_,none⟩) hbo).trans f0,(hV.cell (p:=⟨b,_,none⟩) hbo).trans f1,(hV.cell (p:=⟨b,_,none⟩) hbo).trans f2,(hV.cell (p:=⟨b,_,none⟩) hbo).trans f3⟩
   obtain ⟨b',o',Ak,ck,ek,hP,hbo',hc,hv⟩:=HR.out k (HKN.out k hlt);have FK:Hid (∀V,Below w.heap.size w V->V.cell? ⟨b',o'+k,none⟩=some (.slice Ak (rs k).length ck)):=fun V hV=>(hV.cell (p:=⟨b',_,none⟩) hbo').trans hc
   have hLk:=HLN.out k (HKN.out k hlt);obtain ⟨Lk,hLkk⟩:∃Lk,(rs k).length=Lk:=⟨_,rfl⟩
   rw[hLkk]at FK hLk;have hADK:=Hd (fun V=>HAD.out V k hlt);obtain ⟨Sk,hSk⟩:∃Sk,S k=Sk:=⟨_,rfl⟩
   obtain ⟨ak,hak2⟩:∃ak,a k=ak:=⟨_,rfl⟩
   rw[hSk,hak2]at hADK;rw[hSk]at hT;have hNE:Hid (∀j,S (k+1) j=Sk j+ak j):=fun j=>by rw[hsk.out,hSk,hak2]
   have hAE:Hid (∀j,ys.getD k 0*(rs k).getD j 0=ak j):=fun j=>by rw[hak.out,hak2]
   have hAZ:Hid (∀j,Lk<=j->ak j=0):=fun j hj=>by rw[<-hAE.out,getD_ge (l:=rs k) (by rw[hLkk];exact hj),Rat.mul_zero]
   have HYZ2:Hid (sgnQ (ys.getD k 0)=0->∀j,ak j=0):=fun h j=>by rw[<-hAE.out,HYZ.out k h,Rat.zero_mul]
   have HVE:Hid (∀j,j<Lk->∃b o,Ak=some ⟨b,o,none⟩/\b<w.heap.size/\∃n1 A1 j1 c1 n2 A2 j2 c2,w.cell? ⟨b,o+j*4,none⟩=some (.bool n1)/\w.cell? ⟨b,o+j*4+1,none⟩=some (.slice A1 j1 c1)/\w.cell? ⟨b,o+j*4+2,none⟩=some (.bool n2)/\w.cell? ⟨b,o+j*4+3,none⟩=some (.slice A2 j2 c2) /\
     Qi w (.bool n1) (.slice A1 j1 c1) (.bool n2) (.slice A2 j2 c2) ((rs k).getD j 0) m):=fun j hj=>by
    have hj':j<ek.length:=by rw[hv.len,hLkk];exact hj
    obtain ⟨b,o,e1,hB,g0,g1,g2,g3⟩:=hv.row j hj';have he:=hv.el j;rw[getD_at' hj']at he;have hf:=hv.fq _ (List.getElem_mem hj');generalize ek[j]=E at *;obtain ⟨x1,x2,x3,x4⟩:=E;obtain ⟨⟨n1,A1,j1,m1,e5,e6⟩,⟨n2,A2,j2,m2,e7,e8⟩⟩:=hf;dsimp only at e5 e6 e7 e8;subst e5 e6 e7 e8;exact ⟨b,o,e1,hB,n1,A1,j1,m1,n2,A2,j2,m2,g0,g1,g2,g3,he⟩
   obtain ⟨s,hs⟩:∃s,sgnQ (ys.getD k 0)=s:=⟨_,rfl⟩
   have HSG:=Hd hs;have HB:=Hd hb;have HLT:=Hd hlt;have HLk:=Hd hLk;rw[hs]at HYZ2;have fs0:=(hb.cell (p:=⟨b,_,none⟩) hbo).trans f0;have fs1:=(hb.cell (p:=⟨b,_,none⟩) hbo).trans f1;have fs2:=(hb.cell (p:=⟨b,_,none⟩) hbo).trans f2;have fs3:=(hb.cell (p:=⟨b,_,none⟩) hbo).trans f3;clear f0 f1 f2 f3 hbo hbo' hc hv hLkk hSk hak2 hs hlt hb hk hkf hE HSY HML HAD HR HYR HYF HYL HKN HLN hak hsk hs0 HSS HYZ hLk;subst hA;subst hP
   go_wp2_with fail
   refine (HSK.out wr HB.out HSG.out).mono ?_;rintro e V ⟨rfl,bb⟩;replace hT:=Hd (hT.out.to bb);replace HB:=Hxb HB bb;clear bb fs0 fs1 fs2 fs3 HSK HSG
   by_cases hs0:s=0
   .have hTN:Hid (RowT V w.heap.size L (S (k+1))):=hT.out.congr fun j _=>by rw[hNE.out,HYZ2.out hs0 j,Rat.add_zero]
    subst hs0;clear hT;go_wp2
    go_roundw
    case rel=>exact ⟨k+1,by simp,HLT.out,hTN,HB.out⟩
    case measure=>have:=HLT.out;simp[intOf];omega
   .have hs1:(s==0)=false:=by simpa using hs0
    have fK:=FK.out V HB.out;go_wp2
    go_loopw [32] (fun jv wi=>∃j:Nat,jv=.int .i64 j/\j<=Lk/\Hid (RowT wi w.heap.size L (midF Sk ak j))/\Below w.heap.size w wi) (fun jv _=>Lk-(intOf jv).toNat)
    case atStart=>exact ⟨0,rfl,Nat.zero_le _,hT.out.congr (fun i _=>by unfold midF;rw[if_neg (Nat.not_lt_zero _)]),HB.out⟩
    case round =>
     obtain ⟨j,rfl,hj,hTj,hbj⟩:=hrel;clear hT HB fK
     by_cases hjL:j<Lk
     .have hjn:j<L:=Nat.lt_of_lt_of_le hjL HLk.out;have hj1:(0:Int)<=(j:Int):=by omega
      have hj2:(j:Int)<(Lk:Int):=by omega
      have hj4:(j:Int)<(L:Int):=by omega
      have hj3:(j:Int)+1<=9223372036854775807:=by have:=HLL.out;omega
      obtain ⟨b2,o2,hAk,hBk,n1,A1,j1,c1,n2,A3,j2,c3,g0,g1,g2,g3,hqi⟩:=HVE.out j hjL;subst hAk;have f0:=(hbj.cell (p:=⟨b2,o2+j*4,none⟩) hBk).trans g0;have f1:=(hbj.cell (p:=⟨b2,o2+j*4+1,none⟩) hBk).trans g1;have f2:=(hbj.cell (p:=⟨b2,o2+j*4+2,none⟩) hBk).trans g2;have f3:=(hbj.cell (p:=⟨b2,o2+j*4+3,none⟩) hBk).trans g3;have hX:=hqi.to hbj;have hbw1:Below wr.heap.size wr (wr.alloc (.cells #[.bool n1,.slice A1 j1 c1,.bool n2,.slice A3 j2 c3] 32)):=bRR;have tX:=Four.new wr (.bool n1) (.slice A1 j1 c1) (.bool n2) (.slice A3 j2 c3) 32;replace hX:=hX.to hbw1;have hTj2:=Hd (hTj.out.to hbw1);have HBW:=Hd (Bxb hbj hbw1);have hAEJ:=hAE.out j;obtain ⟨r,hr⟩:∃r,(rs k).getD j 0=r:=⟨_,rfl⟩
      rw[hr]at hX hAEJ;have HXQ:=Hd hX;have HAEJ:=Hd hAEJ;have HJL:=Hd hjL;have HJN:=Hd hjn;obtain ⟨t,ht⟩:∃t,sgnQ r=t:=⟨_,rfl⟩
      have HTT:=Hd ht;obtain ⟨W1,hW1⟩:∃W1,W1=wr.alloc (.cells #[.bool n1,.slice A1 j1 c1,.bool n2,.slice A3 j2 c3] 32):=⟨_,rfl⟩
      have HW1:=Hd hW1;have tX1:=tX;rw[<-hW1]at HXQ hTj2 HBW tX1;have k0:=tX.c0;have k1:=tX.c1;have k2:=tX.c2;have k3:=tX.c3;obtain ⟨gx,hgx⟩:∃gx,wr.heap.size=gx:=⟨_,rfl⟩
      have HGX:Hid (w.heap.size<gx):=by
       obtain ⟨fl,h1,_⟩:=hTj.out;have:=h1.lt
       show _<_
       omega
      have HBJ:=Hd hbj;clear g0 g1 g2 g3 hqi hX hBk hbj hTj hbw1 hAEJ hr ht hj hjL hjn hW1 tX
      go_wp2_with fail
      rw[<-HW1.out];rw[hgx]at tX1;refine (HSX.out W1 _ _ _ _ r HXQ.out HTT.out).mono ?_;rintro e V ⟨rfl,bb⟩;replace HXQ:=Hd (HXQ.out.to bb);replace hTj2:=Hd (hTj2.out.to bb);replace HBW:=Hxb HBW bb;have TX:=Hd (tX1.to bb);clear bb k0 k1 k2 k3 f0 f1 f2 f3 HW1 tX1 HSX
      by_cases t0:t=0
      .have hTN:Hid (RowT V w.heap.size L (midF Sk ak (j+1))):=hTj2.out.congr fun i _=>by
        have h0:ak j=0:=by rw[<-HAEJ.out,(sgnQ_zero (r:=r)).1 (HTT.out.trans t0),Rat.mul_zero]
        unfold midF
        by_cases hij:i<j
        .rw[if_pos hij,if_pos (by omega)]
        .rw[if_neg hij]
         by_cases hij2:i<j+1
         .obtain rfl:i=j:=by omega
          rw[if_pos hij2,h0,Rat.add_zero]
         .rw[if_neg hij2]
       subst t0;clear hTj2 TX HXQ;go_wp2
       go_roundw
       case rel=>exact ⟨j+1,by simp,HJL.out,hTN,HBW.out⟩
       case measure=>have:=HJL.out;simp[intOf];omega
      .have t1:(t != 0)=true:=by simpa using t0
       go_wp2_with fail
       obtain ⟨fl,hrow,hfl,hqs⟩:=hTj2.out;have hqj:=hqs j HJN.out;rw[show midF Sk ak j j=Sk j from by unfold midF;rw[if_neg (Nat.lt_irrefl _)]]at hqj;have hjf:j<fl.length:=by rw[hfl];exact HJN.out
       rw[getD_at' hjf]at hqj;obtain ⟨E,hE⟩:∃E,fl[j]=E:=⟨_,rfl⟩
       have HEC:Hid (∀V:World,Row V w.heap.size fl->V.cell? ⟨w.heap.size,j*4,none⟩=some E.a/\V.cell? ⟨w.heap.size,j*4+1,none⟩=some E.b/\V.cell? ⟨w.heap.size,j*4+2,none⟩=some E.c/\V.cell? ⟨w.heap.size,j*4+3,none⟩=some E.d):=fun V h=>by
        have h1:=h.cells hjf;rw[hE]at h1;exact h1
       rw[hE]at hqj;obtain ⟨e1,e2,e3,e4⟩:=E;dsimp only at hqj HEC;have HROW:=Hd hrow;have HQJ:=Hd hqj;have HFL:=Hd hfl;have HQS:=Hd hqs;have HJF:=Hd hjf;have hSV:Below w.heap.size w V.drew/\Four V.drew gx (.bool n1) (.slice A1 j1 c1) (.bool n2) (.slice A3 j2 c3):=⟨HBW.out.drew,TX.out.to (Below.refl _ _).drew⟩
       clear hrow hqj hfl hqs hjf hE hTj2;refine wp_region_planTo (S:=(fun w'=>Below w.heap.size w w'/\Four w' gx (.bool n1) (.slice A1 j1 c1) (.bool n2) (.slice A3 j2 c3))) [(0,true),(1,true),(2,true),(3,true),(4,true),(6,true),(7,true),(8,true),(9,true),(10,true)] #[true,true,true,true,true,false,true,true,true,true,true,false,false,false,false] 5 (by kernel_rfl) (by kernel_rfl) hSV ?_;clear hSV
       iterate 8 (refine plan_take (v:=?_) rfl (by rfl) ?_ ?_;rotate_left;(focus (intro w' _;go_simp;try with_reducible rfl));simp only[Act.put,pqA,pqB,pqC])
       refine plan_take (v:=?_) rfl (by rfl) ?_ ?_;rotate_left;(focus (intro w' hS;obtain ⟨f0,f1,f2,f3⟩:=FY.out w' hS.1;go_simp;try with_reducible rfl));simp only[Act.put,pqA,pqB,pqC];refine plan_take rfl (by rfl) (fun w' hS=>load_four (by rfl) hS.2) ?_;simp only[Act.put,pqA,pqB,pqC];intro _;obtain ⟨W2,hW2⟩:∃W2,W2=V.drew:=⟨_,rfl⟩
       have hbd:Below V.heap.size V W2:=by rw[hW2];exact (Below.refl _ _).drew
       rw[<-hW2];replace HROW:=Hd (HROW.out.to hbd);replace HQJ:=Hd (HQJ.out.to hbd);replace HQS:Hid (∀i,i<L->Qc W2 (fl.getD i E4.z).a (fl.getD i E4.z).b (fl.getD i E4.z).c (fl.getD i E4.z).d (midF Sk ak j i)):=fun i hi=>(HQS.out i hi).to hbd
       replace HXQ:=Hd (HXQ.out.to hbd);replace TX:=Hd (TX.out.to hbd);replace HBW:=Hxb HBW hbd;clear hW2 hbd;obtain ⟨mk,hmk⟩:∃mk:Value->Value->Value->Value->Act,mk=fun v45 v51 v52 v53=>⟨#[.slice (some ⟨b,o,none⟩) Y c',.slice (some ⟨b',o',none⟩) N C,.int .i64 (L:Int),undef,undef,undef,.slice none 0 0,.slice (some ⟨w.heap.size,0,none⟩) L L,.int .i64 (k:Int),.int .i64 (j:Int),.pointer (some ⟨gx,0,none⟩),.int .i64 (L:Int),.slice (some ⟨w.heap.size,0,none⟩) L L,.slice (some ⟨b,o,none⟩) Y c',.int .i64 (Y:Int),.slice (some ⟨b',o',none⟩) N C,.int .i64 (N:Int),.int .i64 (M:Int),.int .i64 (k:Int),.bool true,.int .i64 (k:Int),.slice (some ⟨b,o,none⟩) Y c',.int .i64 (k:Int),.pointer (some ⟨b,o+k*4,none⟩),.agg #[y1,y2,y3,y4],.int .i64 s,.bool false,.slice (some ⟨b',o',none⟩) N C,.int .i64 (k:Int),.pointer (some ⟨b',o'+k,none⟩),.slice (some ⟨b2,o2,none⟩) Lk ck,.int .i64 (Lk:Int),.int .i64 (j:Int),.bool true,.int .i64 (j:Int),.pointer (some ⟨b2,o2+j*4,none⟩),.agg #[.bool n1,.slice A1 j1 c1,.bool n2,.slice A3 j2 c3],.agg #[.bool n1,.slice A1 j1 c1,.bool n2,.slice A3 j2 c3],.int .i64 t,.bool true,.slice (some ⟨w.heap.size,0,none⟩) L L,.int .i64 (j:Int),.slice (some ⟨w.heap.size,0,none⟩) L L,.int .i64 (j:Int),.pointer (some ⟨w.heap.size,j*4,none⟩),v45,.slice (some ⟨b,o,none⟩) Y c',.int .i64 (k:Int),.pointer (some ⟨b,o+k*4,none⟩),.agg #[y1,y2,y3,y4],.agg #[.bool n1,.slice A1 j1 c1,.bool n2,.slice A3 j2 c3],v51,v52,v53,u54,u55,undef],[]⟩:=⟨_,rfl⟩
       refine dag (fun G up dn=>?_)
       have D511:∀(V:World) (m1 m2 m3 m4:Value) (bb:Below W2.heap.size W2 V) (q:Qc V m1 m2 m3 m4 (ak j)),G 3 #[true,true,true,true,true,true,true,true,true,true,true,true,false,false,false] (mk (.agg #[e1,e2,e3,e4]) (.agg #[m1,m2,m3,m4]) u52 u53) V:=by
        intro V m1 m2 m3 m4 bb q;refine up ?_;simp only[hmk];refine rdy1 (i:=12) (by kernel_rfl) rfl (by rfl) (fun K hK=>?_);go_simp
        refine (hADK.out V j _ _ _ _ _ _ _ _ (HQJ.out.to bb) q).mono ?_;rintro e V1 ⟨s1,s2,s3,s4,rfl,q2,bb1⟩;have b2:=Bxb bb bb1;have hB2:=HBW.out.trans (b2.mono HBW.out.size);refine hK.out _ _ ⟨hB2,TX.out.to b2⟩ ?_;clear hK K;refine rdy1 (i:=13) (by kernel_rfl) rfl (by rfl) (fun K hK=>?_);go_simp
        refine hK.out _ _ ⟨hB2,TX.out.to b2⟩ ?_;clear hK K;refine rdy1 (i:=14) (by kernel_rfl) rfl (by rfl) (fun K hK=>?_);have hr:=HROW.out.to b2;refine op_storeq (k:=j) (e:=⟨s1,s2,s3,s4⟩) (by rfl) (by rfl) hr HJF.out q2.fq ?_;have hTX:Four (V1.setRow w.heap.size (flat (fl.set j ⟨s1,s2,s3,s4⟩)).toArray) gx (.bool n1) (.slice A1 j1 c1) (.bool n2) (.slice A3 j2 c3):=(TX.out.to b2).setOther (by have:=HGX.out;omega);refine hK.out _ _ ⟨below_setRow hB2 (Nat.le_refl _) _,hTX⟩ ?_;clear hK K hTX
        have FIN:Hid (RowT (V1.setRow w.heap.size (flat (fl.set j ⟨s1,s2,s3,s4⟩)).toArray) w.heap.size L (midF Sk ak (j+1))/\Below w.heap.size w (V1.setRow w.heap.size (flat (fl.set j ⟨s1,s2,s3,s4⟩)).toArray)) :=
         ⟨RowT.set hr HFL.out (fun i hi=>(HQS.out i hi).to b2) HJN.out q2.fq q2,below_setRow hB2 (Nat.le_refl _) _⟩
        clear hr q q2 bb bb1 b2 hB2 hmk;refine wpAnyH_done (by kernel_rfl) ?_ _
        show NoPanic _ _ _ _
        clear HMK hADK HQJ HXQ TX HROW HQS HEC FY FK HVE HBW;go_wp2
        apply_assumption
        go_wp2
        go_roundw
        case rel=>exact ⟨j+1,by simp,HJL.out,FIN.out.1,FIN.out.2⟩
        case measure=>have:=HJL.out;simp[intOf];omega
       have D5:G 4 #[true,true,true,true,true,true,true,true,true,true,true,false,false,false,false] (mk (.agg #[e1,e2,e3,e4]) u51 u52 u53) W2:=by
        refine up ?_;simp only[hmk];refine rdy1 (i:=11) (by kernel_rfl) rfl (by rfl) (fun K hK=>?_);go_simp
        refine (HMK.out _ HBW.out _ _ _ _ _ HXQ.out).mono ?_;rintro e V1 ⟨m1,m2,m3,m4,rfl,q,bb⟩;rw[HAEJ.out]at q;refine hK.out _ _ ⟨(HBW.out.trans (bb.mono HBW.out.size)),TX.out.to bb⟩ ?_;have hD:=D511 V1 m1 m2 m3 m4 bb q;rw[hmk]at hD;exact dn hD
       have D11:∀(V:World) (m1 m2 m3 m4:Value) (bb:Below W2.heap.size W2 V) (q:Qc V m1 m2 m3 m4 (ak j)),G 4 #[true,true,true,true,true,false,true,true,true,true,true,true,false,false,false] (mk u45 (.agg #[m1,m2,m3,m4]) u52 u53) V:=by
        intro V m1 m2 m3 m4 bb q;refine up ?_;simp only[hmk];refine rdy1 (i:=5) (by kernel_rfl) rfl (by rfl) (fun K hK=>?_);obtain ⟨k0,k1,k2,k3⟩:=HEC.out _ (HROW.out.to bb);go_simp
        refine hK.out _ _ ⟨(HBW.out.trans (bb.mono HBW.out.size)),TX.out.to bb⟩ ?_;have hD:=D511 V m1 m2 m3 m4 bb q;rw[hmk]at hD;exact dn hD
       have D:G 5 #[true,true,true,true,true,false,true,true,true,true,true,false,false,false,false] (mk u45 u51 u52 u53) W2:=by
        refine up ?_;simp only[hmk];refine wpAnyH_ready (rs:=[5,11]) (by kernel_rfl) (by simp) (ready_cons rfl (by rfl) (fun K hK=>?_) (ready_cons rfl (by rfl) (fun K hK=>?_) AllReadyH.nil))
        .obtain ⟨k0,k1,k2,k3⟩:=HEC.out _ HROW.out;go_simp
         refine hK.out _ _ ⟨HBW.out,TX.out⟩ ?_;have hD:=D5;rw[hmk]at hD;exact dn hD
        .go_simp
         refine (HMK.out _ HBW.out _ _ _ _ _ HXQ.out).mono ?_;rintro e V1 ⟨m1,m2,m3,m4,rfl,q,bb⟩;rw[HAEJ.out]at q;refine hK.out _ _ ⟨(HBW.out.trans (bb.mono HBW.out.size)),TX.out.to bb⟩ ?_;have hD:=D11 V1 m1 m2 m3 m4 bb q;rw[hmk]at hD;exact dn hD
       have hD:=D;rw[hmk]at hD;exact hD
     .obtain rfl:j=Lk:=by omega
      have HTJ:Hid (RowT wr w.heap.size L (S (k+1))):=hTj.out.congr fun i hi=>by
       rw[hNE.out];unfold midF
       by_cases hij:i<j
       .rw[if_pos hij]
       .rw[if_neg hij,hAZ.out i (by omega),Rat.add_zero]
      have HBJ:=Hd hbj;clear hTj hbj hjL hj;go_wp2
      go_roundw
      case rel=>exact ⟨k+1,by simp,HLT.out,HTJ,HBJ.out⟩
      case measure=>have:=HLT.out;simp[intOf];omega
  .obtain rfl:k=M:=by omega
   have HT:=hT;have HB:=Hd hb;clear hT hb hlt hk;go_wp2
   go_ret
   exact HT.out.vr HLL.out HB.out
theorem turn1_m {w:World}{g i:Nat}{P:Option Addr}{N C m:Nat}{rs:Nat->List Rat}(hg:w.cell? ⟨g,0,none⟩=some (.slice P N C))(hM:Mi w P N C rs m)(hm:m<=10000)(hl:N+1<=1000000)(hr:∀i,i<N->(rs i).length<=4398046511104) :
  Calls Tryz.prog 67 #[.int .i64 (i:Int),.pointer (some ⟨g,0,none⟩)] w (VR w (tab N (fun k=>(rs k).getD i 0))):=by
 have HC:=Hd (column_m (j:=i) hM hm hl hr);clear hM hm hl hr
 go_enter Tryz.func67,Tryz.ntmps67
 go_wp2_with fail
 refine HC.out.mono ?_;rintro e V ⟨A1,c1,fl,rfl,hv,bb⟩;have HB:=Hd bb;clear bb hg;go_wp2
 go_ret
 exact ⟨A1,c1,fl,rfl,hv,HB.out⟩
theorem turn_m {w:World}{P:Option Addr}{N C m:Nat}{rs:Nat->List Rat}(hM:Mi w P N C rs m)(hm:m<=10000)(hl:N+1<=1000000)(hr:∀i,i<N->(rs i).length+1<=1000000) :
  Calls Tryz.prog 23 #[.slice P N C] w (MR w (colsN rs N) (fun i=>tab N (fun k=>(rs k).getD i 0))):=by
 have hr2:∀i,i<N->(rs i).length<=4398046511104:=fun i hi=>by have:=hr i hi;omega
 have hc:colsN rs N<=999999:=colsN_le (fun k hk=>by have:=hr k hk;omega);obtain ⟨W0,hW0⟩:∃W0,W0=w.alloc (.cells #[.slice P N C] 22):=⟨_,rfl⟩
 have hbw:Below w.heap.size w W0:=by rw[hW0];exact bRR
 have hp:Hp W0 w.heap.size (.cells #[.slice P N C] 22 (0,0)):=by rw[hW0];exact Hp.new _ _ _
 have hM0:=hM.to hbw;have HC:=Hd (cols_m (C:=C) hM0.rs (by omega) (fun i hi=>Nat.le_trans (hr2 i hi) (by decide)));have HF:=Hd (fun (V:World) (hV:Below W0.heap.size W0 V)=>fill_m (w:=V) (N:=colsN rs N) (F:=67) (caps:=#[.pointer (some ⟨w.heap.size,0,none⟩)]) (rs:=fun i=>tab N (fun k=>(rs k).getD i 0)) (by omega) (callf_enter Tryz.func67 (by kernel_rfl) (by kernel_rfl)) (fun U hU i hi=>turn1_m ((hp.to hV).to hU).one ((hM0.to hV).to hU) hm hl hr2));have q0:=hp.one;have HB:=Hd hbw;have HW0:=Hd hW0;rw[hW0]at q0;clear hM hm hl hr hr2 hc hp hM0 hW0 hbw
 go_enter Tryz.func23,Tryz.ntmps23
 go_wp2_with fail
 rw[<-HW0.out]at q0 ⊢;clear HW0;refine HC.out.mono ?_;rintro e V ⟨rfl,bb⟩;have HBV:=Hd bb;clear bb HC q0
 go_wp2_with fail
 refine (HF.out V HBV.out).mono ?_;rintro e X ⟨P2,C2,rfl,hm2,b2⟩;have HE:=Hd ((HB.out.trans (HBV.out.mono HB.out.size)).trans (b2.mono (HB.out.trans (HBV.out.mono HB.out.size)).size));clear b2;go_wp2
 go_ret
 exact ⟨P2,C2,rfl,hm2,HE.out⟩
def rowMul (ys:List Rat)(rs:Nat->List Rat)(N:Nat)(j:Nat):Rat:=sumF (fun i=>ys.getD i 0*(rs i).getD j 0) (min ys.length N)
theorem vecMul_m {w:World}{A' P:Option Addr}{c' N C l m:Nat}{fs:List E4}{ys:List Rat}{rs:Nat->List Rat}(hY:Vi w A' c' fs ys l)(hM:Mi w P N C rs m)(hl0:0<l)(hm:0<m)(hr:∀k,k<N->(rs k).length<=4398046511104)(hN:N<=9223372036854775806)(hy:ys.length<=4398046511104)
  (hb0:(min ys.length N)*(l+m+1)+1+(l+m)+1<=10000) :
  Calls Tryz.prog 40 #[.slice A' ys.length c',.slice P N C] w (VR w (tab (colsN rs N) (rowMul ys rs N))):=by
 have HC:=Hd (cols_m (C:=C) hM.rs hN (fun i hi=>Nat.le_trans (hr i hi) (by decide)));have HF:=Hd (fun (V:World) (hV:Below w.heap.size w V)=>ws_v (c':=c') (C:=C) (L:=colsN rs N) (hY.to hV) (hM.to hV) hl0 hm (colsN_le hr) (fun k hk=>colsN_ge rs hk) hy hb0);clear hY hM hl0 hm hr hN hy hb0
 go_enter Tryz.func40,Tryz.ntmps40
 go_wp2_with fail
 refine HC.out.mono ?_;rintro e V ⟨rfl,bb⟩;have HB:=Hd bb;clear bb HC
 go_wp2_with fail
 refine (HF.out V HB.out).mono ?_;rintro e X ⟨A2,c2,fl,rfl,hv,b2⟩;have HE:=Hxb HB b2;clear b2;go_wp2
 go_ret
 exact ⟨A2,c2,fl,rfl,hv,HE.out⟩
theorem mul1_m {w:World}{g1 g2 g3 i:Nat}{P Q:Option Addr}{N C M D L m l:Nat}{rs ss:Nat->List Rat}(h1:w.cell? ⟨g1,0,none⟩=some (.slice P N C))(h2:w.cell? ⟨g2,0,none⟩=some (.slice Q M D))(h3:w.cell? ⟨g3,0,none⟩=some (.int .i64 (L:Int)))(hM:Mi w P N C rs m)(hB:Mi w Q M D ss l)(hi:i<N)(hm:0<m)(hl:0<l)
  (hL:L<=4398046511104) (hlen:∀k,k<M->(ss k).length<=L) (hy:(rs i).length<=4398046511104) (hb0:(min (rs i).length M)*(m+l+1)+1+(m+l)+1<=10000) :
  Calls Tryz.prog 72 #[.int .i64 (i:Int),.pointer (some ⟨g1,0,none⟩),.pointer (some ⟨g2,0,none⟩),.pointer (some ⟨g3,0,none⟩)] w (VR w (tab L (rowMul (rs i) ss M))):=by
 have l1:=World.block_lt_of_cell? w _ h1;have l2:=World.block_lt_of_cell? w _ h2;have l3:=World.block_lt_of_cell? w _ h3;have hN63:=hM.n63;obtain ⟨b,o,A,c,es,rfl,hb1,hc,hv⟩:=hM.row i hi;have F1:Hid (∀V,Below w.heap.size w V->V.cell? ⟨g1,0,none⟩=some (.slice (some ⟨b,o,none⟩) N C)):=fun V hV=>(hV.cell (p:=⟨g1,_,none⟩) l1).trans h1
 have F2:Hid (∀V,Below w.heap.size w V->V.cell? ⟨g2,0,none⟩=some (.slice Q M D)):=fun V hV=>(hV.cell (p:=⟨g2,_,none⟩) l2).trans h2
 have F3:Hid (∀V,Below w.heap.size w V->V.cell? ⟨g3,0,none⟩=some (.int .i64 (L:Int))):=fun V hV=>(hV.cell (p:=⟨g3,_,none⟩) l3).trans h3
 have F4:Hid (∀V,Below w.heap.size w V->V.cell? ⟨b,o+i,none⟩=some (.slice A (rs i).length c)):=fun V hV=>(hV.cell (p:=⟨b,_,none⟩) hb1).trans hc
 have HW:=Hd (fun (V:World) (hV:Below w.heap.size w V)=>ws_v (c':=c) (C:=D) (L:=L) (hv.to hV) (hB.to hV) hm hl hL hlen hy hb0);have hi1:(0:Int)<=(i:Int):=by omega
 have hi2:(i:Int)<(N:Int):=by omega
 clear h1 h2 h3 hM hB hi hm hl hL hlen hy hb0 l1 l2 l3 hb1 hc hv
 go_enter Tryz.func72,Tryz.ntmps72
 go_wp2_with fail
 refine wp_region_plan (S:=fun w'=>Below w.heap.size w w') [(0,true),(1,true),(2,true),(3,true),(4,true),(5,true),(6,false),(7,true)] (by kernel_rfl) (by kernel_rfl) (Below.refl w.heap.size w).drew ?_;have hb:=(Below.refl w.heap.size w).drew;refine plan_take (v:=?_) rfl (by rfl) ?_ ?_;rotate_left;(focus (intro w' hS;have k1:=F1.out w' hS;go_simp;try with_reducible rfl));simp only[Act.put,pqA,pqB,pqC]
 iterate 2 (refine plan_take (v:=?_) rfl (by rfl) ?_ ?_;rotate_left;(focus (intro w' _;go_simp;try with_reducible rfl));simp only[Act.put,pqA,pqB,pqC])
 refine plan_take (v:=?_) rfl (by rfl) ?_ ?_;rotate_left;(focus (intro w' hS;have k1:=F4.out w' hS;go_simp;try with_reducible rfl));simp only[Act.put,pqA,pqB,pqC];refine plan_take (v:=?_) rfl (by rfl) ?_ ?_;rotate_left;(focus (intro w' hS;have k1:=F2.out w' hS;go_simp;try with_reducible rfl));simp only[Act.put,pqA,pqB,pqC];refine plan_take (v:=?_) rfl (by rfl) ?_ ?_;rotate_left;(focus (intro w' hS;have k1:=F3.out w' hS;go_simp;try with_reducible rfl));simp only[Act.put,pqA,pqB,pqC];refine plan_call rfl (by rfl) (fun K hK=>?_);go_simp
 refine (HW.out _ hb).mono ?_;rintro e V ⟨A2,c2,fl,rfl,hv,bb⟩;replace hb:=Bxb hb bb;refine hK.out _ _ hb ?_;clear hK K bb;refine plan_take (v:=?_) rfl (by rfl) ?_ ?_;rotate_left;(focus (intro w' _;go_simp;try with_reducible rfl));simp only[Act.put,pqA,pqB,pqC];refine plan_done ?_;have HE:=Hd hb;have HV:=Hd hv;clear hb hv F1 F2 F3 F4 HW;go_wp2
 go_ret
 exact ⟨A2,c2,fl,rfl,HV.out,HE.out⟩
theorem mul_m {w:World}{P Q:Option Addr}{N C M D m l:Nat}{rs ss:Nat->List Rat}(hM:Mi w P N C rs m)(hB:Mi w Q M D ss l)(hm:0<m)(hl:0<l)(hN:N+1<=1000000)(hMM:M<=9223372036854775806)(hr:∀k,k<N->(rs k).length<=4398046511104)(hs:∀k,k<M->(ss k).length<=4398046511104)
  (hb0:∀i,i<N->(min (rs i).length M)*(m+l+1)+1+(m+l)+1<=10000) :
  Calls Tryz.prog 29 #[.slice P N C,.slice Q M D] w (MR w N (fun i=>tab (colsN ss M) (rowMul (rs i) ss M))):=by
 have hc:colsN ss M<=4398046511104:=colsN_le hs;obtain ⟨W0,hW0⟩:∃W0,W0=(w.alloc (.cells #[.slice P N C] 22)).alloc (.cells #[.slice Q M D] 22):=⟨_,rfl⟩
 have hbw:Below w.heap.size w W0:=by rw[hW0];exact bRR.alloc (by simp) _
 have hp:Hp W0 w.heap.size (.cells #[.slice P N C] 22 (0,0)):=by rw[hW0];exact (Hp.new _ _ _).alloc _
 have hq:Hp W0 (w.heap.size+1) (.cells #[.slice Q M D] 22 (0,0)):=by
  have h:=Hp.new (w.alloc (.cells #[.slice P N C] 22)) #[.slice Q M D] 22;rw[szA]at h;rw[hW0];exact h
 have hM0:=hM.to hbw;have hB0:=hB.to hbw;have HC:=Hd (cols_m (C:=D) hB0.rs hMM (fun i hi=>Nat.le_trans (hs i hi) (by decide)));have HF:=Hd (fun (V:World) (hV:Below W0.heap.size W0 V) (g3:Nat) (h3:Hp V g3 (.cells #[.int .i64 (colsN ss M:Nat)] 3 (0,0)))=>fill_m (w:=V) (N:=N) (F:=72) (caps:=#[.pointer (some ⟨w.heap.size,0,none⟩),.pointer (some ⟨w.heap.size+1,0,none⟩),.pointer (some ⟨g3,0,none⟩)]) (rs:=fun i=>tab (colsN ss M) (rowMul (rs i) ss M)) hN (callf_enter Tryz.func72 (by kernel_rfl) (by kernel_rfl)) (fun U hU i hi=>mul1_m ((hp.to hV).to hU).one ((hq.to hV).to hU).one (h3.to hU).one ((hM0.to hV).to hU) ((hB0.to hV).to hU) hi hm hl hc (fun k hk=>colsN_ge ss hk) (hr i hi) (hb0 i hi)));have q0:=hp.one;have q1:=hq.one;have HP:=Hd hp;have HB:=Hd hbw;have HW0:=Hd hW0;rw[hW0]at q1;clear hM hB hm hl hN hMM hr hs hb0 hc hp hq hM0 hB0 hW0 hbw q0
 go_enter Tryz.func29,Tryz.ntmps29
 go_wp2_with fail
 rw[<-HW0.out]at q1 ⊢;clear HW0;refine HC.out.mono ?_;rintro e V ⟨rfl,bb⟩;have HBV:=Hd bb;have q0:=(HP.out.to bb).one;clear bb HC q1 HP;have bb1:Below V.heap.size V (V.alloc (.cells #[.int .i64 (colsN ss M:Nat)] 3)):=bRR;have h3:=Hp.new V #[.int .i64 (colsN ss M:Nat)] 3;have q2:=(Hd ((HBV.out.trans (bb1.mono HBV.out.size)).cell (p:=⟨w.heap.size,0,none⟩)))
 clear q2;have q3:=(bb1.cell (p:=⟨w.heap.size,0,none⟩) (World.block_lt_of_cell? V _ q0)).trans q0;have HFV:=Hd (HF.out _ (HBV.out.trans (bb1.mono HBV.out.size)) _ h3);have HB2:=Hd ((HB.out.trans (HBV.out.mono HB.out.size)).trans (bb1.mono (HB.out.trans (HBV.out.mono HB.out.size)).size));clear HF bb1 h3 q0
 go_wp2_with fail
 refine HFV.out.mono ?_;rintro e X ⟨P2,C2,rfl,hm2,b2⟩;have HE:=Hxb HB2 b2;clear b2;go_wp2
 go_ret
 exact ⟨P2,C2,rfl,hm2,HE.out⟩
attribute [local go_sem] Oper.semAt_some
def Rw (W:World)(B:Nat)(P:Option Addr)(N:Nat)(vs:Nat->Value):Prop:=∀k,k<N->∃b o,P=some ⟨b,o,none⟩/\b<B/\W.cell? ⟨b,o+k,none⟩=some (vs k)
def rvA (N:Nat)(vs:Nat->Value)(k:Nat):Value:=if k<N then vs k else .slice none 0 0
def rowE (N M:Nat)(vs us:Nat->Value)(k:Nat):Array Value:=#[rvA N vs k,rvA M us k]
theorem Rw.keepAt {w w':World}{B N:Nat}{S:Addr->Prop}{P:Option Addr}{vs:Nat->Value}(h:Rw w B P N vs)(hS:∀p:Addr,p.block<B->S p)(hk:KeepAt S w w'):Rw w' B P N vs:=fun k hk'=>by
 obtain ⟨b,o,e,hb,h0⟩:=h k hk';exact ⟨b,o,e,hb,(hk ⟨b,_,none⟩ (hS ⟨b,_,none⟩ hb)).trans h0⟩
theorem Rw.below {w w':World}{B N:Nat}{P:Option Addr}{vs:Nat->Value}(h:Rw w B P N vs)(hb:Below B w w'):Rw w' B P N vs:=fun k hk'=>by
 obtain ⟨b,o,e,hb',h0⟩:=h k hk';exact ⟨b,o,e,hb',(hb.cell (p:=⟨b,_,none⟩) hb').trans h0⟩
theorem Rw.grow {w w':World}{B N:Nat}{P:Option Addr}{vs:Nat->Value}(h:Rw w B P N vs)(hb:Below w.heap.size w w'):Rw w' B P N vs:=fun k hk'=>by
 obtain ⟨b,o,e,hb',h0⟩:=h k hk';exact ⟨b,o,e,hb',(hb.cell (p:=⟨b,_,none⟩) (World.block_lt_of_cell? w _ h0)).trans h0⟩
theorem rvA_s {N:Nat}{vs:Nat->Value}(h:∀i,IsS (vs i))(k:Nat):IsS (rvA N vs k):=by
 unfold rvA
 split
 .exact h k
 .exact ⟨_,_,_,rfl⟩
theorem rowAt_v {w:World}{B N C k:Nat}{P:Option Addr}{vs:Nat->Value}(h:Rw w B P N vs)(hS:∀i,IsS (vs i))(hN:N<=9223372036854775807) :
  Calls Tryz.prog 53 #[.slice P N C,.int .i64 (k:Int)] w fun e w'=>e=.returned (rvA N vs k)/\Below w.heap.size w w':=by
 have h0:(0:Int)<=(k:Int):=by omega
 have h1:¬(k:Int)<0:=by omega
 by_cases hk:k<N
 .obtain ⟨b,o,rfl,hb,hc⟩:=h k hk;have e:rvA N vs k=vs k:=if_pos hk;rw[e];obtain ⟨A,n,c,e2⟩:=hS k;rw[e2]at hc ⊢;have h2:¬(N:Int)<=(k:Int):=by omega
  have h3:(k:Int)<(N:Int):=by omega
  clear hk h e e2 hS
  go_enter Tryz.func53,Tryz.ntmps53
  go_wp2
  go_ret
  exact ⟨rfl,Below.refl _ _⟩
 .have e:rvA N vs k=.slice none 0 0:=if_neg hk;rw[e];have h2:(N:Int)<=(k:Int):=by omega
  clear hk h e hS
  go_enter Tryz.func53,Tryz.ntmps53
  go_wp2
  go_ret
  exact ⟨rfl,Below.refl _ _⟩
theorem rpairs_gives (Bx By B c c' L1 L2:Nat)(A A':Option Addr)(vs us:Nat->Value)(hx63:L1<=9223372036854775807)(hy63:L2<=9223372036854775807)(W:World)
  (hbx:W.cell? ⟨Bx,0,none⟩=some (.slice A L1 c)) (hby:W.cell? ⟨By,0,none⟩=some (.slice A' L2 c')) (hx:Rw W B A L1 vs) (hy:Rw W B A' L2 us) (qx:∀i,IsS (vs i)) (qy:∀i,IsS (us i)) :
  GivesB Tryz.prog 101 #[.pointer (some ⟨Bx,0,none⟩),.pointer (some ⟨By,0,none⟩)] (max L1 L2) (rowE L1 L2 vs us) (pairS Bx By B) W:=by
 intro l J Jx hst hY h0;refine callsIn_of_wp Tryz.func101 rfl trivial ?_ rfl;simp only[Tryz.ntmps101,List.size_toArray,List.length_cons,List.length_nil,Nat.reduceAdd,Nat.reduceSub,Array.replicate_succ,Array.replicate_zero,List.push_toArray,List.append_toArray,List.nil_append,List.cons_append];obtain ⟨N,hN⟩:∃N,max L1 L2=N:=⟨_,rfl⟩
 have hN63:N<=9223372036854775807:=by omega
 rw[hN]at hY ⊢;have HN:=Hd hN;have HST:=Hd hst;have HYY:=Hd hY;have QX:=Hd qx;have QY:=Hd qy;have HX63:=Hd hx63;have HY63:=Hd hy63;clear hst hY qx qy
 rcases Nat.lt_or_ge L1 L2 with hle|hle
 rotate_left
 .have hE:L1=N:=by omega
  subst hE;clear hN
  gi_wp2
  gi_loopw [10] (fun i wr=>∃k:Nat,i=.int .i64 k/\k<=L1/\J k wr/\wr.cell? ⟨Bx,0,none⟩=some (.slice A L1 c)/\wr.cell? ⟨By,0,none⟩=some (.slice A' L2 c')/\Rw wr B A L1 vs/\Rw wr B A' L2 us)
   (fun i _=>L1-(intOf i).toNat)
  case atStart=>exact ⟨0,rfl,Nat.zero_le _,h0,hbx,hby,hx,hy⟩
  case round =>
   obtain ⟨k,rfl,hk,hJ,cx,cy,rx,ry⟩:=hrel;clear hbx hby hx hy h0;have klx:Bx<wr.heap.size:=World.block_lt_of_cell? wr _ cx;have kly:By<wr.heap.size:=World.block_lt_of_cell? wr _ cy
   by_cases hlt:k<L1
   .have hlt':(k:Int)<(L1:Nat):=by omega
    have hdec:decide ((k:Int)<max (L1:Int) (L2:Int))=true:=decide_eq_true (by omega);have HX:=Hd (fun (V:World) (hV:Below wr.heap.size wr V)=>rowAt_v (C:=c) (k:=k) (rx.grow hV) QX.out HX63.out);have HY:=Hd (fun (V:World) (hV:Below wr.heap.size wr V)=>rowAt_v (C:=c') (k:=k) (ry.grow hV) QY.out HY63.out);have HJ:=Hd (fun (V:World) (hV:Below wr.heap.size wr V)=>HYY.out k V hlt (HST.out k _ _ hJ hV))
    have next:∀V W3,Below wr.heap.size wr V->J (k+1) W3->KeepAt (pairS Bx By B) V W3->(∃k':Nat,(Value.int .i64 ((k:Int)+1))=.int .i64 k'/\k'<=L1/\J k' W3/\W3.cell? ⟨Bx,0,none⟩=some (.slice A L1 c)/\W3.cell? ⟨By,0,none⟩=some (.slice A' L2 c')/\Rw W3 B A L1 vs/\Rw W3 B A' L2 us) :=
     fun V W3 hV hJ3 hk3=>⟨k+1,by simp,by omega,hJ3,(hk3 _ (.inl rfl)).trans ((hV.cell (p:=⟨Bx,0,none⟩) klx).trans cx),(hk3 _ (.inr (.inl rfl))).trans ((hV.cell (p:=⟨By,0,none⟩) kly).trans cy),(rx.grow hV).keepAt (fun p hp=>.inr (.inr hp)) hk3,(ry.grow hV).keepAt (fun p hp=>.inr (.inr hp)) hk3⟩
    have NEXT:=Hd next;have HEND:=Hd hlt;have CX:=Hd (fun (V:World) (hV:Below wr.heap.size wr V)=>(hV.cell (p:=⟨Bx,0,none⟩) klx).trans cx);have CY:=Hd (fun (V:World) (hV:Below wr.heap.size wr V)=>(hV.cell (p:=⟨By,0,none⟩) kly).trans cy);clear next rx ry cx cy hlt klx kly;obtain ⟨X,hX⟩:∃X,rvA L1 vs k=X:=⟨_,rfl⟩
    obtain ⟨Y,hY⟩:∃Y,rvA L2 us k=Y:=⟨_,rfl⟩
    unfold rowE at HJ;rw[hX]at HX HJ;rw[hY]at HY HJ;clear hX hY
    gi_wp2_with fail
    refine wpIn_region_any follows ?_;refine wpAnyIn_take (i:=0) (v:=.func (.yield l) #[] #[]) rfl rfl (by kernel_rfl) (by kernel_rfl) (by kernel_rfl) (fun _ _ _ h=>h) ⟨Or.inl ⟨by rfl,fun w=>by go_simp⟩,fun _=>rfl⟩ ?_;refine wpAnyIn_take (i:=2) (v:=.int .i64 (k:Int)) rfl rfl (by kernel_rfl) (by kernel_rfl) (by kernel_rfl) (fun _ _ _ h=>h) ⟨Or.inl ⟨by rfl,fun w=>by go_simp⟩,fun _=>rfl⟩ ?_;refine wpAnyIn_take (i:=5) (v:=.int .i64 (k:Int)) rfl rfl (by kernel_rfl) (by kernel_rfl) (by kernel_rfl) (fun _ _ _ h=>h) ⟨Or.inl ⟨by rfl,fun w=>by go_simp⟩,fun _=>rfl⟩ ?_;refine dagInE 6 #[true,false,true,false,false,true,false,false,false] ⟨#[.func (.yield l) #[] #[],.pointer (some ⟨Bx,0,none⟩),.pointer (some ⟨By,0,none⟩),undef,.int .i64 (k:Int),.slice A L1 c,.int .i64 (L1:Int),.slice A' L2 c',.int .i64 (L2:Int),.int .i64 (max (L1:Int) (L2:Int)),.int .i64 (k:Int),.bool true,.int .i64 (k:Int),.func (.yield l) #[] #[],u14,.int .i64 (k:Int),u16,u17,.int .i64 (k:Int),u19,u20,u21,u22],[]⟩ (by kernel_rfl) (by kernel_rfl) (by rfl) (fun G up dn=>?_)
    have S1346:∀V,Below wr.heap.size wr V->G 2 #[true,true,true,true,true,true,true,false,false] ⟨#[.func (.yield l) #[] #[],.pointer (some ⟨Bx,0,none⟩),.pointer (some ⟨By,0,none⟩),undef,.int .i64 (k:Int),.slice A L1 c,.int .i64 (L1:Int),.slice A' L2 c',.int .i64 (L2:Int),.int .i64 (max (L1:Int) (L2:Int)),.int .i64 (k:Int),.bool true,.int .i64 (k:Int),.func (.yield l) #[] #[],.slice A L1 c,.int .i64 (k:Int),X,.slice A' L2 c',.int .i64 (k:Int),Y,u20,u21,u22],[]⟩ V:=by
     intro V hV;refine up ?_;obtain ⟨fn,tmps,assign,body,hyy,hR⟩:=HJ.out V hV;refine rdyI (i:=7) (by kernel_rfl) rfl (fun K hK=>?_);go_simp
     gi_wp2
     refine hR.mono ?_;rintro e W3 (⟨rfl,hJ3,hk3⟩|⟨rfl,hJx3⟩)
     .refine hK _ _ ?_;clear hK K;refine rdyI (i:=8) (by kernel_rfl) rfl (fun K hK=>?_);go_simp
      refine hK _ _ ?_;clear hK K;refine wpAnyIn_done (by kernel_rfl) ?_ _
      gi_wp2
      go_roundw
      case rel=>exact NEXT.out V W3 hV hJ3 hk3
      case measure=>have:=HEND.out;simp[intOf];omega
     .refine hK _ _ ?_;clear hK K;refine rdyI (i:=8) (by kernel_rfl) rfl (fun K hK=>?_);go_simp
      refine hK _ _ ?_;clear hK K;refine wpAnyIn_done (by kernel_rfl) ?_ _
      gi_wp2
      refine bodyPost_ret (results_none rfl _ _ _) rfl ?_;exact ⟨⟨_,rfl⟩,.inr ⟨k,HEND.out,hJx3⟩⟩
    have S134:∀V,Below wr.heap.size wr V->G 3 #[true,true,true,true,true,true,false,false,false] ⟨#[.func (.yield l) #[] #[],.pointer (some ⟨Bx,0,none⟩),.pointer (some ⟨By,0,none⟩),undef,.int .i64 (k:Int),.slice A L1 c,.int .i64 (L1:Int),.slice A' L2 c',.int .i64 (L2:Int),.int .i64 (max (L1:Int) (L2:Int)),.int .i64 (k:Int),.bool true,.int .i64 (k:Int),.func (.yield l) #[] #[],.slice A L1 c,.int .i64 (k:Int),X,.slice A' L2 c',.int .i64 (k:Int),u19,u20,u21,u22],[]⟩ V:=by
     intro V hV;refine up ?_;refine rdyI (i:=6) (by kernel_rfl) rfl (fun K hK=>?_);go_simp
     gi_wp2_with (refine ⟨trivial,?_⟩;gi_at_call 53;refine (callsIn_wide.2 (HY.out V hV)).mono ?_;rintro e w' ⟨rfl,bb⟩)
     exact dn (S1346 _ (Bxb hV bb))
    have S14:∀V,Below wr.heap.size wr V->G 4 #[true,true,true,false,true,true,false,false,false] ⟨#[.func (.yield l) #[] #[],.pointer (some ⟨Bx,0,none⟩),.pointer (some ⟨By,0,none⟩),undef,.int .i64 (k:Int),.slice A L1 c,.int .i64 (L1:Int),.slice A' L2 c',.int .i64 (L2:Int),.int .i64 (max (L1:Int) (L2:Int)),.int .i64 (k:Int),.bool true,.int .i64 (k:Int),.func (.yield l) #[] #[],.slice A L1 c,.int .i64 (k:Int),u16,.slice A' L2 c',.int .i64 (k:Int),u19,u20,u21,u22],[]⟩ V:=by
     intro V hV;refine up ?_;refine rdyI (i:=3) (by kernel_rfl) rfl (fun K hK=>?_);go_simp
     gi_wp2_with (refine ⟨trivial,?_⟩;gi_at_call 53;refine (callsIn_wide.2 (HX.out V hV)).mono ?_;rintro e w' ⟨rfl,bb⟩)
     exact dn (S134 _ (Bxb hV bb))
    have S13:∀V,Below wr.heap.size wr V->G 4 #[true,true,true,true,false,true,false,false,false] ⟨#[.func (.yield l) #[] #[],.pointer (some ⟨Bx,0,none⟩),.pointer (some ⟨By,0,none⟩),undef,.int .i64 (k:Int),.slice A L1 c,.int .i64 (L1:Int),.slice A' L2 c',.int .i64 (L2:Int),.int .i64 (max (L1:Int) (L2:Int)),.int .i64 (k:Int),.bool true,.int .i64 (k:Int),.func (.yield l) #[] #[],.slice A L1 c,.int .i64 (k:Int),X,u17,.int .i64 (k:Int),u19,u20,u21,u22],[]⟩ V:=by
     intro V hV;refine up ?_;refine rdyI (i:=4) (by kernel_rfl) rfl (fun K hK=>?_);have cc:=CY.out V hV;go_simp
     refine hK _ _ ?_;exact dn (S134 V hV)
    have S1:∀V,Below wr.heap.size wr V->G 5 #[true,true,true,false,false,true,false,false,false] ⟨#[.func (.yield l) #[] #[],.pointer (some ⟨Bx,0,none⟩),.pointer (some ⟨By,0,none⟩),undef,.int .i64 (k:Int),.slice A L1 c,.int .i64 (L1:Int),.slice A' L2 c',.int .i64 (L2:Int),.int .i64 (max (L1:Int) (L2:Int)),.int .i64 (k:Int),.bool true,.int .i64 (k:Int),.func (.yield l) #[] #[],.slice A L1 c,.int .i64 (k:Int),u16,u17,.int .i64 (k:Int),u19,u20,u21,u22],[]⟩ V:=by
     intro V hV;refine up ?_;refine wpAnyIn_ready (rs:=[3,4]) (by kernel_rfl) (by simp) (AllReadyIn.cons rfl (fun K hK=>?_) (AllReadyIn.cons rfl (fun K hK=>?_) AllReadyIn.nil))
     .go_simp
      gi_wp2_with (refine ⟨trivial,?_⟩;gi_at_call 53;refine (callsIn_wide.2 (HX.out V hV)).mono ?_;rintro e w' ⟨rfl,bb⟩)
      exact dn (S13 _ (Bxb hV bb))
     .have cc:=CY.out V hV;go_simp
      refine hK _ _ ?_;exact dn (S14 V hV)
    have S4:∀V,Below wr.heap.size wr V->G 5 #[true,false,true,false,true,true,false,false,false] ⟨#[.func (.yield l) #[] #[],.pointer (some ⟨Bx,0,none⟩),.pointer (some ⟨By,0,none⟩),undef,.int .i64 (k:Int),.slice A L1 c,.int .i64 (L1:Int),.slice A' L2 c',.int .i64 (L2:Int),.int .i64 (max (L1:Int) (L2:Int)),.int .i64 (k:Int),.bool true,.int .i64 (k:Int),.func (.yield l) #[] #[],u14,.int .i64 (k:Int),u16,.slice A' L2 c',.int .i64 (k:Int),u19,u20,u21,u22],[]⟩ V:=by
     intro V hV;refine up ?_;refine rdyI (i:=1) (by kernel_rfl) rfl (fun K hK=>?_);have cc:=CX.out V hV;go_simp
     refine hK _ _ ?_;exact dn (S14 V hV)
    have S:∀V,Below wr.heap.size wr V->G 6 #[true,false,true,false,false,true,false,false,false] ⟨#[.func (.yield l) #[] #[],.pointer (some ⟨Bx,0,none⟩),.pointer (some ⟨By,0,none⟩),undef,.int .i64 (k:Int),.slice A L1 c,.int .i64 (L1:Int),.slice A' L2 c',.int .i64 (L2:Int),.int .i64 (max (L1:Int) (L2:Int)),.int .i64 (k:Int),.bool true,.int .i64 (k:Int),.func (.yield l) #[] #[],u14,.int .i64 (k:Int),u16,u17,.int .i64 (k:Int),u19,u20,u21,u22],[]⟩ V:=by
     intro V hV;refine up ?_;refine wpAnyIn_ready (rs:=[1,4]) (by kernel_rfl) (by simp) (AllReadyIn.cons rfl (fun K hK=>?_) (AllReadyIn.cons rfl (fun K hK=>?_) AllReadyIn.nil))
     .have cc:=CX.out V hV;go_simp
      refine hK _ _ ?_;exact dn (S1 V hV)
     .have cc:=CY.out V hV;go_simp
      refine hK _ _ ?_;exact dn (S4 V hV)
    exact S _ (Below.refl _ _).drew
   .have hE:L1=k:=by omega
    subst hE
    gi_wp2
    go_end0
    exact ⟨⟨_,rfl⟩,.inl hJ⟩
 .have hE:L2=N:=by omega
  subst hE;clear hN
  gi_wp2
  gi_loopw [10] (fun i wr=>∃k:Nat,i=.int .i64 k/\k<=L2/\J k wr/\wr.cell? ⟨Bx,0,none⟩=some (.slice A L1 c)/\wr.cell? ⟨By,0,none⟩=some (.slice A' L2 c')/\Rw wr B A L1 vs/\Rw wr B A' L2 us)
   (fun i _=>L2-(intOf i).toNat)
  case atStart=>exact ⟨0,rfl,Nat.zero_le _,h0,hbx,hby,hx,hy⟩
  case round =>
   obtain ⟨k,rfl,hk,hJ,cx,cy,rx,ry⟩:=hrel;clear hbx hby hx hy h0;have klx:Bx<wr.heap.size:=World.block_lt_of_cell? wr _ cx;have kly:By<wr.heap.size:=World.block_lt_of_cell? wr _ cy
   by_cases hlt:k<L2
   .have hlt':(k:Int)<(L2:Nat):=by omega
    have hdec:decide ((k:Int)<max (L1:Int) (L2:Int))=true:=decide_eq_true (by omega);have HX:=Hd (fun (V:World) (hV:Below wr.heap.size wr V)=>rowAt_v (C:=c) (k:=k) (rx.grow hV) QX.out HX63.out);have HY:=Hd (fun (V:World) (hV:Below wr.heap.size wr V)=>rowAt_v (C:=c') (k:=k) (ry.grow hV) QY.out HY63.out);have HJ:=Hd (fun (V:World) (hV:Below wr.heap.size wr V)=>HYY.out k V hlt (HST.out k _ _ hJ hV))
    have next:∀V W3,Below wr.heap.size wr V->J (k+1) W3->KeepAt (pairS Bx By B) V W3->(∃k':Nat,(Value.int .i64 ((k:Int)+1))=.int .i64 k'/\k'<=L2/\J k' W3/\W3.cell? ⟨Bx,0,none⟩=some (.slice A L1 c)/\W3.cell? ⟨By,0,none⟩=some (.slice A' L2 c')/\Rw W3 B A L1 vs/\Rw W3 B A' L2 us) :=
     fun V W3 hV hJ3 hk3=>⟨k+1,by simp,by omega,hJ3,(hk3 _ (.inl rfl)).trans ((hV.cell (p:=⟨Bx,0,none⟩) klx).trans cx),(hk3 _ (.inr (.inl rfl))).trans ((hV.cell (p:=⟨By,0,none⟩) kly).trans cy),(rx.grow hV).keepAt (fun p hp=>.inr (.inr hp)) hk3,(ry.grow hV).keepAt (fun p hp=>.inr (.inr hp)) hk3⟩
    have NEXT:=Hd next;have HEND:=Hd hlt;have CX:=Hd (fun (V:World) (hV:Below wr.heap.size wr V)=>(hV.cell (p:=⟨Bx,0,none⟩) klx).trans cx);have CY:=Hd (fun (V:World) (hV:Below wr.heap.size wr V)=>(hV.cell (p:=⟨By,0,none⟩) kly).trans cy);clear next rx ry cx cy hlt klx kly;obtain ⟨X,hX⟩:∃X,rvA L1 vs k=X:=⟨_,rfl⟩
    obtain ⟨Y,hY⟩:∃Y,rvA L2 us k=Y:=⟨_,rfl⟩
    unfold rowE at HJ;rw[hX]at HX HJ;rw[hY]at HY HJ;clear hX hY
    gi_wp2_with fail
    refine wpIn_region_any follows ?_;refine wpAnyIn_take (i:=0) (v:=.func (.yield l) #[] #[]) rfl rfl (by kernel_rfl) (by kernel_rfl) (by kernel_rfl) (fun _ _ _ h=>h) ⟨Or.inl ⟨by rfl,fun w=>by go_simp⟩,fun _=>rfl⟩ ?_;refine wpAnyIn_take (i:=2) (v:=.int .i64 (k:Int)) rfl rfl (by kernel_rfl) (by kernel_rfl) (by kernel_rfl) (fun _ _ _ h=>h) ⟨Or.inl ⟨by rfl,fun w=>by go_simp⟩,fun _=>rfl⟩ ?_;refine wpAnyIn_take (i:=5) (v:=.int .i64 (k:Int)) rfl rfl (by kernel_rfl) (by kernel_rfl) (by kernel_rfl) (fun _ _ _ h=>h) ⟨Or.inl ⟨by rfl,fun w=>by go_simp⟩,fun _=>rfl⟩ ?_;refine dagInE 6 #[true,false,true,false,false,true,false,false,false] ⟨#[.func (.yield l) #[] #[],.pointer (some ⟨Bx,0,none⟩),.pointer (some ⟨By,0,none⟩),undef,.int .i64 (k:Int),.slice A L1 c,.int .i64 (L1:Int),.slice A' L2 c',.int .i64 (L2:Int),.int .i64 (max (L1:Int) (L2:Int)),.int .i64 (k:Int),.bool true,.int .i64 (k:Int),.func (.yield l) #[] #[],u14,.int .i64 (k:Int),u16,u17,.int .i64 (k:Int),u19,u20,u21,u22],[]⟩ (by kernel_rfl) (by kernel_rfl) (by rfl) (fun G up dn=>?_)
    have S1346:∀V,Below wr.heap.size wr V->G 2 #[true,true,true,true,true,true,true,false,false] ⟨#[.func (.yield l) #[] #[],.pointer (some ⟨Bx,0,none⟩),.pointer (some ⟨By,0,none⟩),undef,.int .i64 (k:Int),.slice A L1 c,.int .i64 (L1:Int),.slice A' L2 c',.int .i64 (L2:Int),.int .i64 (max (L1:Int) (L2:Int)),.int .i64 (k:Int),.bool true,.int .i64 (k:Int),.func (.yield l) #[] #[],.slice A L1 c,.int .i64 (k:Int),X,.slice A' L2 c',.int .i64 (k:Int),Y,u20,u21,u22],[]⟩ V:=by
     intro V hV;refine up ?_;obtain ⟨fn,tmps,assign,body,hyy,hR⟩:=HJ.out V hV;refine rdyI (i:=7) (by kernel_rfl) rfl (fun K hK=>?_);go_simp
     gi_wp2
     refine hR.mono ?_;rintro e W3 (⟨rfl,hJ3,hk3⟩|⟨rfl,hJx3⟩)
     .refine hK _ _ ?_;clear hK K;refine rdyI (i:=8) (by kernel_rfl) rfl (fun K hK=>?_);go_simp
      refine hK _ _ ?_;clear hK K;refine wpAnyIn_done (by kernel_rfl) ?_ _
      gi_wp2
      go_roundw
      case rel=>exact NEXT.out V W3 hV hJ3 hk3
      case measure=>have:=HEND.out;simp[intOf];omega
     .refine hK _ _ ?_;clear hK K;refine rdyI (i:=8) (by kernel_rfl) rfl (fun K hK=>?_);go_simp
      refine hK _ _ ?_;clear hK K;refine wpAnyIn_done (by kernel_rfl) ?_ _
      gi_wp2
      refine bodyPost_ret (results_none rfl _ _ _) rfl ?_;exact ⟨⟨_,rfl⟩,.inr ⟨k,HEND.out,hJx3⟩⟩
    have S134:∀V,Below wr.heap.size wr V->G 3 #[true,true,true,true,true,true,false,false,false] ⟨#[.func (.yield l) #[] #[],.pointer (some ⟨Bx,0,none⟩),.pointer (some ⟨By,0,none⟩),undef,.int .i64 (k:Int),.slice A L1 c,.int .i64 (L1:Int),.slice A' L2 c',.int .i64 (L2:Int),.int .i64 (max (L1:Int) (L2:Int)),.int .i64 (k:Int),.bool true,.int .i64 (k:Int),.func (.yield l) #[] #[],.slice A L1 c,.int .i64 (k:Int),X,.slice A' L2 c',.int .i64 (k:Int),u19,u20,u21,u22],[]⟩ V:=by
     intro V hV;refine up ?_;refine rdyI (i:=6) (by kernel_rfl) rfl (fun K hK=>?_);go_simp
     gi_wp2_with (refine ⟨trivial,?_⟩;gi_at_call 53;refine (callsIn_wide.2 (HY.out V hV)).mono ?_;rintro e w' ⟨rfl,bb⟩)
     exact dn (S1346 _ (Bxb hV bb))
    have S14:∀V,Below wr.heap.size wr V->G 4 #[true,true,true,false,true,true,false,false,false] ⟨#[.func (.yield l) #[] #[],.pointer (some ⟨Bx,0,none⟩),.pointer (some ⟨By,0,none⟩),undef,.int .i64 (k:Int),.slice A L1 c,.int .i64 (L1:Int),.slice A' L2 c',.int .i64 (L2:Int),.int .i64 (max (L1:Int) (L2:Int)),.int .i64 (k:Int),.bool true,.int .i64 (k:Int),.func (.yield l) #[] #[],.slice A L1 c,.int .i64 (k:Int),u16,.slice A' L2 c',.int .i64 (k:Int),u19,u20,u21,u22],[]⟩ V:=by
     intro V hV;refine up ?_;refine rdyI (i:=3) (by kernel_rfl) rfl (fun K hK=>?_);go_simp
     gi_wp2_with (refine ⟨trivial,?_⟩;gi_at_call 53;refine (callsIn_wide.2 (HX.out V hV)).mono ?_;rintro e w' ⟨rfl,bb⟩)
     exact dn (S134 _ (Bxb hV bb))
    have S13:∀V,Below wr.heap.size wr V->G 4 #[true,true,true,true,false,true,false,false,false] ⟨#[.func (.yield l) #[] #[],.pointer (some ⟨Bx,0,none⟩),.pointer (some ⟨By,0,none⟩),undef,.int .i64 (k:Int),.slice A L1 c,.int .i64 (L1:Int),.slice A' L2 c',.int .i64 (L2:Int),.int .i64 (max (L1:Int) (L2:Int)),.int .i64 (k:Int),.bool true,.int .i64 (k:Int),.func (.yield l) #[] #[],.slice A L1 c,.int .i64 (k:Int),X,u17,.int .i64 (k:Int),u19,u20,u21,u22],[]⟩ V:=by
     intro V hV;refine up ?_;refine rdyI (i:=4) (by kernel_rfl) rfl (fun K hK=>?_);have cc:=CY.out V hV;go_simp
     refine hK _ _ ?_;exact dn (S134 V hV)
    have S1:∀V,Below wr.heap.size wr V->G 5 #[true,true,true,false,false,true,false,false,false] ⟨#[.func (.yield l) #[] #[],.pointer (some ⟨Bx,0,none⟩),.pointer (some ⟨By,0,none⟩),undef,.int .i64 (k:Int),.slice A L1 c,.int .i64 (L1:Int),.slice A' L2 c',.int .i64 (L2:Int),.int .i64 (max (L1:Int) (L2:Int)),.int .i64 (k:Int),.bool true,.int .i64 (k:Int),.func (.yield l) #[] #[],.slice A L1 c,.int .i64 (k:Int),u16,u17,.int .i64 (k:Int),u19,u20,u21,u22],[]⟩ V:=by
     intro V hV;refine up ?_;refine wpAnyIn_ready (rs:=[3,4]) (by kernel_rfl) (by simp) (AllReadyIn.cons rfl (fun K hK=>?_) (AllReadyIn.cons rfl (fun K hK=>?_) AllReadyIn.nil))
     .go_simp
      gi_wp2_with (refine ⟨trivial,?_⟩;gi_at_call 53;refine (callsIn_wide.2 (HX.out V hV)).mono ?_;rintro e w' ⟨rfl,bb⟩)
      exact dn (S13 _ (Bxb hV bb))
     .have cc:=CY.out V hV;go_simp
      refine hK _ _ ?_;exact dn (S14 V hV)
    have S4:∀V,Below wr.heap.size wr V->G 5 #[true,false,true,false,true,true,false,false,false] ⟨#[.func (.yield l) #[] #[],.pointer (some ⟨Bx,0,none⟩),.pointer (some ⟨By,0,none⟩),undef,.int .i64 (k:Int),.slice A L1 c,.int .i64 (L1:Int),.slice A' L2 c',.int .i64 (L2:Int),.int .i64 (max (L1:Int) (L2:Int)),.int .i64 (k:Int),.bool true,.int .i64 (k:Int),.func (.yield l) #[] #[],u14,.int .i64 (k:Int),u16,.slice A' L2 c',.int .i64 (k:Int),u19,u20,u21,u22],[]⟩ V:=by
     intro V hV;refine up ?_;refine rdyI (i:=1) (by kernel_rfl) rfl (fun K hK=>?_);have cc:=CX.out V hV;go_simp
     refine hK _ _ ?_;exact dn (S14 V hV)
    have S:∀V,Below wr.heap.size wr V->G 6 #[true,false,true,false,false,true,false,false,false] ⟨#[.func (.yield l) #[] #[],.pointer (some ⟨Bx,0,none⟩),.pointer (some ⟨By,0,none⟩),undef,.int .i64 (k:Int),.slice A L1 c,.int .i64 (L1:Int),.slice A' L2 c',.int .i64 (L2:Int),.int .i64 (max (L1:Int) (L2:Int)),.int .i64 (k:Int),.bool true,.int .i64 (k:Int),.func (.yield l) #[] #[],u14,.int .i64 (k:Int),u16,u17,.int .i64 (k:Int),u19,u20,u21,u22],[]⟩ V:=by
     intro V hV;refine up ?_;refine wpAnyIn_ready (rs:=[1,4]) (by kernel_rfl) (by simp) (AllReadyIn.cons rfl (fun K hK=>?_) (AllReadyIn.cons rfl (fun K hK=>?_) AllReadyIn.nil))
     .have cc:=CX.out V hV;go_simp
      refine hK _ _ ?_;exact dn (S1 V hV)
     .have cc:=CY.out V hV;go_simp
      refine hK _ _ ?_;exact dn (S4 V hV)
    exact S _ (Below.refl _ _).drew
   .have hE:L2=k:=by omega
    subst hE
    gi_wp2
    go_end0
    exact ⟨⟨_,rfl⟩,.inl hJ⟩
end Go.Proofs.YtglhdielkkhefaaGreat
