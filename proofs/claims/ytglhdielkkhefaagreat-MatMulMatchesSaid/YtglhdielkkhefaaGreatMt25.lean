/- Parts: 14. -/
import Derived.Test.YtglhdielkkhefaaGreatMt18
import Derived.Test.YtglhdielkkhefaaGreatMt19
import Derived.Test.YtglhdielkkhefaaGreatMt21
import Derived.Test.YtglhdielkkhefaaGreatMt22
import Derived.Test.YtglhdielkkhefaaGreatMt24
set_option linter.unusedVariables false
set_option linter.unusedSimpArgs false
set_option maxRecDepth 100000
set_option maxHeartbeats 40000000

namespace Go.Proofs.YtglhdielkkhefaaGreat
open Go.RowKit Go.Shelf
theorem op_append_run {P:Program}{d:Option Tmp}{ty:TypeId}{pos:String}{after:Array Edge}{guard:Option (Nat×Bool)}{a:Act}{w w':World}{v y v':Value}{K:Act->World->Prop}{Q:Exit->Act->World->Prop}(s x:Operand)(t u:TypeId)
  (hs:a.eval s=v) (hx:a.eval x=y) (hrun:(Builtin.append_ #[t,u] ty #[v,y]).run P w=.ok v' w') (hK:K (a.put d v') w') :
  Oper.wp P ⟨d,.call { callee:=.builtin .append,args:=#[s,x],argTypes:=#[t,u] },ty,pos,after,guard⟩ a w K Q:=by
 unfold Oper.wp execOp;simp only[resolve,invoke,builtin,Sem.run_bind,Sem.run_pure,Result.andThen_ok,List.map_toArray,List.map_cons,List.map_nil,hs,hx,hrun];exact hK
theorem rcomb_v {w:World}{t1 t2 t3 t4:Value}{t:Rat}{m:Nat}{A A':Option Addr}{c c':Nat}{es fs:List E4}{rs ss:List Rat}{k l:Nat}(hT:Qi w t1 t2 t3 t4 t m)(hA:Vi w A c es rs k)(hB:Vi w A' c' fs ss l)(hm0:0<m)(hk0:0<k)(hl0:0<l)
  (hN:m+k+l+1<=10000) (h1:rs.length+1<=1000000) (h2:ss.length+1<=1000000) :
  Calls Tryz.prog 107 #[.agg #[t1,t2,t3,t4],.slice A rs.length c,.slice A' ss.length c'] w (VR w (ptw (fun r s=>t*r+s) rs ss)):=by
 have mM:∀i,Qm (m+k) (t*rs.getD i 0):=fun i=>(hT.qm hm0).mul ((hA.el i).qm hk0)
 have HX:=Hd (fun (V:World) (i:Nat) (hV:Below w.heap.size w V)=>rat_v (c:=c) (k:=i) (hA.row.grow hV) hA.fq (by have:=hA.len;omega));have HY:=Hd (fun (V:World) (i:Nat) (hV:Below w.heap.size w V)=>rat_v (c:=c') (k:=i) (hB.row.grow hV) hB.fq (by have:=hB.len;omega));have HM:=Hd (fun (V:World) (i:Nat) (hV:Below w.heap.size w V)=>rmul_q (hT.to hV) ((hA.el i).to hV) hm0 hk0 (by omega));have HA:=Hd (fun (V:World) (i:Nat) (hV:Below w.heap.size w V) (x1 x2 x3 x4:Value) (q:Qc V x1 x2 x3 x4 (t*rs.getD i 0))=>radd_q (q.qi (mM i) (by omega)) ((hB.el i).to hV) (by omega) hl0 (by omega));obtain ⟨f,hf⟩:∃f:Nat->Rat,Hid (f=fun i=>(ptw (fun r s=>t*r+s) rs ss).getD i 0):=⟨_,rfl⟩
 have hfi:Hid (∀i,t*rs.getD i 0+ss.getD i 0=f i):=fun i=>by rw[hf.out];exact (ptw_getD (F:=fun r s=>t*r+s) (by rw[Rat.mul_zero,Rat.add_zero]) rs ss i).symm
 rw[hA.len]at HX;rw[hB.len]at HY;obtain ⟨L,hL⟩:∃L,rs.length=L:=⟨_,rfl⟩
 obtain ⟨M,hM⟩:∃M,ss.length=M:=⟨_,rfl⟩
 have HLN:Hid ((ptw (fun r s=>t*r+s) rs ss).length=max L M):=by show _=_;rw[ptw_length,hL,hM]
 rw[hL]at HX h1 ⊢;rw[hM]at HY h2 ⊢;obtain ⟨W0,hW0⟩:∃W0,W0=w.alloc (.cells #[t1,t2,t3,t4] 32):=⟨_,rfl⟩
 have hbw:Below w.heap.size w W0:=by rw[hW0];exact bRR
 have tT:Four W0 w.heap.size t1 t2 t3 t4:=by rw[hW0];exact Four.new w _ _ _ _ _
 have HT:=Hd tT;have HW:=Hd hbw;have HW0:=Hd hW0;clear hT hA hB hm0 hk0 hl0 hN hL hM mM tT hbw hW0
 go_enter Tryz.func107,Tryz.ntmps107
 go_wp2
 rw[<-HW0.out];clear HW0
 go_loopw [7,8] (fun v i wr=>∃(k:Nat) (A1:Option Addr) (c1:Nat),v=.slice A1 k c1/\i=.int .i64 k/\k<=max L M/\Hid (TotV wr (.slice A1 k c1) k f W0.heap.size)/\Below W0.heap.size W0 wr) (fun _ i _=>max L M-(intOf i).toNat)
 case atStart=>exact ⟨0,none,0,rfl,rfl,Nat.zero_le _,.inl ⟨rfl,rfl⟩,Below.refl _ _⟩
 case round =>
  obtain ⟨j,A1,c1,rfl,rfl,hj,hT,hb⟩:=hrel;have hj0:(0:Int)<=(j:Int):=by omega
  have hj3:(j:Int)+1<=9223372036854775807:=by omega
  have HBB:=Hd hb
  by_cases hx:j<L
  .have hx1:(j:Int)<(L:Int):=by omega
   have HLT:Hid (j<max L M/\j+1<=1000000):=by show _/\_;omega
   clear hb hx hj
   go_wp2_with fail
   refine wp_region_plan (S:=fun w'=>Below W0.heap.size W0 w') [(0,true),(1,true),(2,true),(3,true),(6,true),(7,true),(4,false),(5,false),(8,false),(9,false),(10,false),(11,false),(12,true)] (by kernel_rfl) (by kernel_rfl) HBB.out.drew ?_;refine plan_take (v:=?_) rfl (by rfl) ?_ ?_;rotate_left;(focus (intro w' _;go_simp;try with_reducible rfl));simp only[Act.put,pqA,pqB,pqC];refine plan_take rfl (by rfl) (fun w' hS=>load_four (by rfl) (HT.out.to hS)) ?_;simp only[Act.put,pqA,pqB,pqC]
   iterate 4 (refine plan_take (v:=?_) rfl (by rfl) ?_ ?_;rotate_left;(focus (intro w' _;go_simp;try with_reducible rfl));simp only[Act.put,pqA,pqB,pqC])
   have hb:=HBB.out.drew;have hT1:=hT.out.to (Below.refl wr.heap.size wr).drew;refine plan_call rfl (by rfl) (fun K hK=>?_);go_simp
   refine (HX.out _ j (HW.out.trans (hb.mono HW.out.size))).mono ?_;rintro e V ⟨rfl,bb⟩;replace hb:=Bxb hb bb;replace hT1:=hT1.to bb;refine hK.out _ _ hb ?_;clear hK K bb;refine plan_call rfl (by rfl) (fun K hK=>?_);go_simp
   refine (HM.out _ j (HW.out.trans (hb.mono HW.out.size))).mono ?_;rintro e V ⟨y1,y2,y3,y4,rfl,q,bb⟩;replace hb:=Bxb hb bb;replace hT1:=hT1.to bb;refine hK.out _ _ hb ?_;clear hK K bb;refine plan_call rfl (by rfl) (fun K hK=>?_);go_simp
   refine (HY.out _ j (HW.out.trans (hb.mono HW.out.size))).mono ?_;rintro e V ⟨rfl,bb⟩;replace hb:=Bxb hb bb;replace hT1:=hT1.to bb;replace q:=q.to bb;refine hK.out _ _ hb ?_;clear hK K bb;refine plan_call rfl (by rfl) (fun K hK=>?_);go_simp
   refine (HA.out _ j (HW.out.trans (hb.mono HW.out.size)) _ _ _ _ q).mono ?_;rintro e V ⟨x1,x2,x3,x4,rfl,q2,bb⟩;replace hb:=Bxb hb bb;replace hT1:=hT1.to bb;refine hK.out _ _ hb ?_;clear hK K bb;clear q;rw[hfi.out]at q2;have bb2:Below V.heap.size V (V.alloc (.cells #[x1,x2,x3,x4] 32)):=bRR;have c5:=(Hp.new V #[x1,x2,x3,x4] 32).four;have hb2:=Bxb hb bb2;obtain ⟨v',X,hrun,hT2,hbel⟩:=qapp (hT1.to bb2) hb2.size HLT.out.2 (e:=⟨x1,x2,x3,x4⟩) q2.fq (q2.to bb2) (a:=⟨V.heap.size,0,none⟩) (c:=1) c5.c0 c5.c1 c5.c2 c5.c3 38;obtain ⟨A2,c2,rfl⟩:=hT2.sl;have HE:Hid (TotV X (.slice A2 (j+1) c2) (j+1) f W0.heap.size/\Below W0.heap.size W0 X):=⟨hT2,hb2.trans hbel⟩
   refine plan_call rfl (by rfl) (fun K hK=>?_);go_simp
   refine hK.out _ _ hb2 ?_;clear hK K;refine plan_call rfl (by rfl) (fun K hK=>?_);refine op_append_run (.tmp 21) (.tmp 31) _ _ (by rfl) (by rfl) hrun ?_;refine hK.out _ _ HE.out.2 ?_;clear hK K hrun hT2 hbel hb2 c5 bb2 q2 hb hT1;refine plan_take (v:=?_) rfl (by rfl) ?_ ?_;rotate_left;(focus (intro w' _;go_simp;try with_reducible rfl));simp only[Act.put,pqA,pqB,pqC];refine plan_done ?_;go_wp2
   go_roundw
   case rel=>exact ⟨j+1,A2,c2,rfl,by simp,HLT.out.1,HE.out.1,HE.out.2⟩
   case measure=>have:=HLT.out;simp[intOf];omega
  .have hx1:¬(j:Int)<(L:Int):=by omega
   by_cases hy:j<M
   .have hy1:(j:Int)<(M:Int):=by omega
    have HLT:Hid (j<max L M/\j+1<=1000000):=by show _/\_;omega
    clear hb hx hy hj
    go_wp2_with fail
    refine wp_region_plan (S:=fun w'=>Below W0.heap.size W0 w') [(0,true),(1,true),(2,true),(3,true),(6,true),(7,true),(4,false),(5,false),(8,false),(9,false),(10,false),(11,false),(12,true)] (by kernel_rfl) (by kernel_rfl) HBB.out.drew ?_;refine plan_take (v:=?_) rfl (by rfl) ?_ ?_;rotate_left;(focus (intro w' _;go_simp;try with_reducible rfl));simp only[Act.put,pqA,pqB,pqC];refine plan_take rfl (by rfl) (fun w' hS=>load_four (by rfl) (HT.out.to hS)) ?_;simp only[Act.put,pqA,pqB,pqC]
    iterate 4 (refine plan_take (v:=?_) rfl (by rfl) ?_ ?_;rotate_left;(focus (intro w' _;go_simp;try with_reducible rfl));simp only[Act.put,pqA,pqB,pqC])
    have hb:=HBB.out.drew;have hT1:=hT.out.to (Below.refl wr.heap.size wr).drew;refine plan_call rfl (by rfl) (fun K hK=>?_);go_simp
    refine (HX.out _ j (HW.out.trans (hb.mono HW.out.size))).mono ?_;rintro e V ⟨rfl,bb⟩;replace hb:=Bxb hb bb;replace hT1:=hT1.to bb;refine hK.out _ _ hb ?_;clear hK K bb;refine plan_call rfl (by rfl) (fun K hK=>?_);go_simp
    refine (HM.out _ j (HW.out.trans (hb.mono HW.out.size))).mono ?_;rintro e V ⟨y1,y2,y3,y4,rfl,q,bb⟩;replace hb:=Bxb hb bb;replace hT1:=hT1.to bb;refine hK.out _ _ hb ?_;clear hK K bb;refine plan_call rfl (by rfl) (fun K hK=>?_);go_simp
    refine (HY.out _ j (HW.out.trans (hb.mono HW.out.size))).mono ?_;rintro e V ⟨rfl,bb⟩;replace hb:=Bxb hb bb;replace hT1:=hT1.to bb;replace q:=q.to bb;refine hK.out _ _ hb ?_;clear hK K bb;refine plan_call rfl (by rfl) (fun K hK=>?_);go_simp
    refine (HA.out _ j (HW.out.trans (hb.mono HW.out.size)) _ _ _ _ q).mono ?_;rintro e V ⟨x1,x2,x3,x4,rfl,q2,bb⟩;replace hb:=Bxb hb bb;replace hT1:=hT1.to bb;refine hK.out _ _ hb ?_;clear hK K bb;clear q;rw[hfi.out]at q2;have bb2:Below V.heap.size V (V.alloc (.cells #[x1,x2,x3,x4] 32)):=bRR;have c5:=(Hp.new V #[x1,x2,x3,x4] 32).four;have hb2:=Bxb hb bb2;obtain ⟨v',X,hrun,hT2,hbel⟩:=qapp (hT1.to bb2) hb2.size HLT.out.2 (e:=⟨x1,x2,x3,x4⟩) q2.fq (q2.to bb2) (a:=⟨V.heap.size,0,none⟩) (c:=1) c5.c0 c5.c1 c5.c2 c5.c3 38;obtain ⟨A2,c2,rfl⟩:=hT2.sl;have HE:Hid (TotV X (.slice A2 (j+1) c2) (j+1) f W0.heap.size/\Below W0.heap.size W0 X):=⟨hT2,hb2.trans hbel⟩
    refine plan_call rfl (by rfl) (fun K hK=>?_);go_simp
    refine hK.out _ _ hb2 ?_;clear hK K;refine plan_call rfl (by rfl) (fun K hK=>?_);refine op_append_run (.tmp 21) (.tmp 31) _ _ (by rfl) (by rfl) hrun ?_;refine hK.out _ _ HE.out.2 ?_;clear hK K hrun hT2 hbel hb2 c5 bb2 q2 hb hT1;refine plan_take (v:=?_) rfl (by rfl) ?_ ?_;rotate_left;(focus (intro w' _;go_simp;try with_reducible rfl));simp only[Act.put,pqA,pqB,pqC];refine plan_done ?_;go_wp2
    go_roundw
    case rel=>exact ⟨j+1,A2,c2,rfl,by simp,HLT.out.1,HE.out.1,HE.out.2⟩
    case measure=>have:=HLT.out;simp[intOf];omega
   .have hy1:¬(j:Int)<(M:Int):=by omega
    have hjM:j=max L M:=by omega
    have FIN:Hid (VR w (ptw (fun r s=>t*r+s) rs ss) (.returned (.slice A1 j c1)) wr):=by
     have h3:=hT.out;have h4:(ptw (fun r s=>t*r+s) rs ss).length=j:=by rw[HLN.out,hjM]
     rw[hf.out]at h3;subst h4;obtain ⟨A9,c9,e9,r1,r2,r3⟩:=h3.vr (by omega) hb;exact ⟨A9,c9,e9,r1,r2,HW.out.trans (r3.mono HW.out.size)⟩
    clear hb hx hy hj hjM hT;go_wp2
    go_ret
    exact FIN.out
theorem made_m {w:World}{kd:Int}{k1 k2 k3 k4:Value}{P Q:Option Addr}{N C M D R L:Nat}{g:Nat->Nat->Rat}(hP:∀V,Below w.heap.size w V->∀i j:Nat,i<R->j<L->Calls Tryz.prog 103 #[.int .u8 kd,.agg #[k1,k2,k3,k4],.slice P N C,.slice Q M D,.int .i64 (i:Int),.int .i64 (j:Int)] V (QR V (g i j)))(hR:R+1<=1000000)(hL:L+1<=1000000) :
  Calls Tryz.prog 64 #[.int .i64 (R:Int),.int .i64 (L:Int),.int .u8 kd,.agg #[k1,k2,k3,k4],.slice P N C,.slice Q M D] w (MR w R (fun i=>tab L (g i))):=by
 obtain ⟨rs,hrs⟩:∃rs:Nat->List Rat,rs=fun i=>tab L (g i):=⟨_,rfl⟩
 have HRS:Hid (∀i,rs i=tab L (g i)):=fun i=>by rw[hrs]
 have HRL:Hid (∀i,(rs i).length=L):=fun i=>by rw[hrs];exact tab_length _ _
 rw[<-hrs];obtain ⟨W0,hW0⟩:∃W0,W0=w.alloc (.cells #[k1,k2,k3,k4] 32):=⟨_,rfl⟩
 have hbw:Below w.heap.size w W0:=by rw[hW0];exact bRR
 have tK:Four W0 w.heap.size k1 k2 k3 k4:=by rw[hW0];exact Four.new w _ _ _ _ _
 have HP:=Hd hP;have HR:=Hd hR;have HLL:=Hd hL;have HW0:=Hd hW0;have HB:=Hd hbw;have TK:=Hd tK;clear hP hR hL hW0 hbw tK hrs
 go_enter Tryz.func64,Tryz.ntmps64
 go_wp2
 rw[<-HW0.out];clear HW0
 go_loopw [13,14] (fun v i wr=>∃(k:Nat) (A1:Option Addr) (c1:Nat),v=.slice A1 k c1/\i=.int .i64 k/\k<=R/\Hid (TotS (Vs rs) wr (.slice A1 k c1) k W0.heap.size)/\Below W0.heap.size W0 wr) (fun _ i _=>R-(intOf i).toNat)
 case atStart=>exact ⟨0,none,0,rfl,rfl,Nat.zero_le _,.inl ⟨rfl,rfl⟩,Below.refl _ _⟩
 case round =>
  obtain ⟨k,A1,c1,rfl,rfl,hk,hT,hb⟩:=hrel
  by_cases hlt:k<R
  .have hk1:(0:Int)<=(k:Int):=by omega
   have hk2:(k:Int)<(R:Int):=by omega
   have hk3:(k:Int)+1<=9223372036854775807:=by have:=HR.out;omega
   obtain ⟨W1,hW1⟩:∃W1:World,W1=wr:=⟨_,rfl⟩
   subst hW1;have HBB:=Hd hb;have HLT:=Hd hlt;clear hb hlt hk;go_wp2
   go_loopw [15,16] (fun v jv wi=>∃(j:Nat) (A2:Option Addr) (c2:Nat),v=.slice A2 j c2/\jv=.int .i64 j/\j<=L/\Hid (TotV wi (.slice A2 j c2) j (g k) W1.heap.size)/\Below W1.heap.size W1 wi) (fun _ jv _=>L-(intOf jv).toNat)
   case atStart=>exact ⟨0,none,0,rfl,rfl,Nat.zero_le _,.inl ⟨rfl,rfl⟩,Below.refl _ _⟩
   case round =>
    obtain ⟨j,A2,c2,rfl,rfl,hj,hV,hb⟩:=hrel
    by_cases hlj:j<L
    .have hj1:(0:Int)<=(j:Int):=by omega
     have hj2:(j:Int)<(L:Int):=by omega
     have hj3:(j:Int)+1<=9223372036854775807:=by have:=HLL.out;omega
     have hB0:=HBB.out.trans (hb.mono HBB.out.size);obtain ⟨v0,v1,v2,v3,v4,v5,v6,v7,_⟩:=TK.out.to hB0;have HC:=Hd (HP.out _ (HB.out.trans (hB0.mono HB.out.size)) k j HLT.out hlj);have HBR:=Hd hb;have HLJ:=Hd hlj;clear hB0 hb hlj hj v4 v5 v6 v7
     go_wp2_with fail
     refine HC.out.mono ?_;rintro e V ⟨x1,x2,x3,x4,rfl,q,bb⟩;have bb2:Below V.heap.size V (V.alloc (.cells #[x1,x2,x3,x4] 32)):=bRR;have c5:=(Hp.new V #[x1,x2,x3,x4] 32).four;have hB1:=HBR.out.trans (bb.mono HBR.out.size);have hB2:=Bxb hB1 bb2;obtain ⟨v',X,hrun,hT2,hbel⟩:=qapp ((hV.out.to bb).to bb2) hB2.size (by have:=HLL.out;have:=HLJ.out;omega) (e:=⟨x1,x2,x3,x4⟩) q.fq (q.to bb2) (a:=⟨V.heap.size,0,none⟩) (c:=1) c5.c0 c5.c1 c5.c2 c5.c3 38;obtain ⟨A3,c3,rfl⟩:=hT2.sl;have HRUN:=Hd hrun;have HE:Hid (TotV X (.slice A3 (j+1) c3) (j+1) (g k) W1.heap.size/\Below W1.heap.size W1 X):=⟨hT2,hB2.trans hbel⟩
     clear bb2 c5 hbel hrun bb q hT2 hB1 hB2 HC v0 v1 v2 v3
     go_wp2_with (at_builtin;refine wpList_append_run rfl (.tmp 27) (.tmp 35) 38 rfl (by rfl) (by rfl) HRUN.out ?_;clear HRUN)
     go_roundw
     case rel=>exact ⟨j+1,A3,c3,rfl,by simp,HLJ.out,HE.out.1,HE.out.2⟩
     case measure=>have:=HLJ.out;simp[intOf];omega
    .obtain rfl:j=L:=by omega
     have hq:=hV.out.vtab (by have:=HLL.out;omega) hb;rw[<-HRS.out k]at hq;obtain ⟨A4,c4,fl4,e4,hv,_⟩:=hq;cases e4;have bb2:Below wr.heap.size wr (wr.alloc (.cells #[.slice A2 (rs k).length c2] 38)):=bRR;have c5:=(Hp.new wr #[.slice A2 (rs k).length c2] 38).one;have hB1:=HBB.out.trans (hb.mono HBB.out.size);have hB2:=Bxb hB1 bb2;obtain ⟨v',X,hrun,hT2,hbel⟩:=sapp (Vs.kept rs) ((hT.out.mv (Vs.kept rs) hb).mv (Vs.kept rs) bb2) hB2.size (by have:=HR.out;have:=HLT.out;omega) ⟨_,_,_,rfl⟩ ⟨A2,c2,fl4,rfl,hv.to bb2⟩ (a:=⟨wr.heap.size,0,none⟩) (c:=1) c5 22;obtain ⟨A3,c3,rfl⟩:=hT2.sl;rw[HRL.out]at hrun;have HRUN:=Hd hrun;have HE:Hid (TotS (Vs rs) X (.slice A3 (k+1) c3) (k+1) W0.heap.size/\Below W0.heap.size W0 X):=⟨hT2,hB2.trans hbel⟩
     clear bb2 c5 hbel hrun hv hT2 hB1 hB2 hb hlj hj
     go_wp2_with (at_builtin;refine wpList_append_run rfl (.tmp 37) (.tmp 39) 22 rfl (by rfl) (by rfl) HRUN.out ?_;clear HRUN)
     go_roundw
     case rel=>exact ⟨k+1,A3,c3,rfl,by simp,HLT.out,HE.out.1,HE.out.2⟩
     case measure=>have:=HLT.out;simp[intOf];omega
  .obtain rfl:k=R:=by omega
   have HT:=hT;have HE:=Hxb HB hb;clear hT hb hlt hk;go_wp2
   go_ret
   exact ⟨A1,c1,rfl,HT.out.mc,HE.out⟩
theorem scale1_m {w:World}{g1 g2 i:Nat}{P:Option Addr}{N C m l:Nat}{rs:Nat->List Rat}{t:Rat}{t1 t2 t3 t4:Value}(h1:Four w g1 t1 t2 t3 t4)(h2:w.cell? ⟨g2,0,none⟩=some (.slice P N C))(hT:Qi w t1 t2 t3 t4 t l)(hM:Mi w P N C rs m)(hi:i<N)(hl:0<l)(hm:0<m)(hml:l+m+2<=10000)(hr:(rs i).length<=4398046511104) :
  Calls Tryz.prog 77 #[.int .i64 (i:Int),.pointer (some ⟨g1,0,none⟩),.pointer (some ⟨g2,0,none⟩)] w (VR w (scaleQ t (rs i))):=by
 have l2:=World.block_lt_of_cell? w _ h2;have hN63:=hM.n63;obtain ⟨b,o,A,c,es,rfl,hb1,hc,hv⟩:=hM.row i hi;have F1:Hid (∀V,Below w.heap.size w V->V.cell? ⟨g1,0,none⟩=some t1/\V.cell? ⟨g1,1,none⟩=some t2/\V.cell? ⟨g1,2,none⟩=some t3/\V.cell? ⟨g1,3,none⟩=some t4):=fun V hV=>⟨(h1.to hV).c0,(h1.to hV).c1,(h1.to hV).c2,(h1.to hV).c3⟩
 have F2:Hid (∀V,Below w.heap.size w V->V.cell? ⟨g2,0,none⟩=some (.slice (some ⟨b,o,none⟩) N C)):=fun V hV=>(hV.cell (p:=⟨g2,_,none⟩) l2).trans h2
 have F4:Hid (∀V,Below w.heap.size w V->V.cell? ⟨b,o+i,none⟩=some (.slice A (rs i).length c)):=fun V hV=>(hV.cell (p:=⟨b,_,none⟩) hb1).trans hc
 have HW:=Hd (fun (V:World) (hV:Below w.heap.size w V)=>vscale_v (c:=c) (hT.to hV) (hv.to hV) hl hm hml hr);have hi1:(0:Int)<=(i:Int):=by omega
 have hi2:(i:Int)<(N:Int):=by omega
 clear h1 h2 hT hM hi hl hm hml hr l2 hb1 hc hv
 go_enter Tryz.func77,Tryz.ntmps77
 go_wp2_with fail
 refine wp_region_plan (S:=fun w'=>Below w.heap.size w w') [(0,true),(1,true),(2,true),(3,true),(4,true),(5,false),(6,true)] (by kernel_rfl) (by kernel_rfl) (Below.refl w.heap.size w).drew ?_;have hb:=(Below.refl w.heap.size w).drew;refine plan_take (v:=?_) rfl (by rfl) ?_ ?_;rotate_left;(focus (intro w' hS;obtain ⟨k0,k1,k2,k3⟩:=F1.out w' hS;go_simp;try with_reducible rfl));refine plan_take (v:=?_) rfl (by rfl) ?_ ?_;rotate_left;(focus (intro w' hS;have k1:=F2.out w' hS;go_simp;try with_reducible rfl))
 iterate 2 (refine plan_take (v:=?_) rfl (by rfl) ?_ ?_;rotate_left;(focus (intro w' _;go_simp;try with_reducible rfl)))
 refine plan_take (v:=?_) rfl (by rfl) ?_ ?_;rotate_left;(focus (intro w' hS;have k1:=F4.out w' hS;go_simp;try with_reducible rfl));refine plan_call rfl (by rfl) (fun K hK=>?_);go_simp
 refine (HW.out _ hb).mono ?_;rintro e V ⟨A2,c2,fl,rfl,hv,bb⟩;replace hb:=Bxb hb bb;refine hK.out _ _ hb ?_;clear hK K bb;refine plan_take (v:=?_) rfl (by rfl) ?_ ?_;rotate_left;(focus (intro w' _;go_simp;try with_reducible rfl));refine plan_done ?_;have HE:=Hd hb;have HV:=Hd hv;clear hb hv F1 F2 F4 HW;go_wp2
 go_ret
 exact ⟨A2,c2,fl,rfl,HV.out,HE.out⟩
theorem scale_m {w:World}{P:Option Addr}{N C m l:Nat}{rs:Nat->List Rat}{t:Rat}{t1 t2 t3 t4:Value}(hT:Qi w t1 t2 t3 t4 t l)(hM:Mi w P N C rs m)(hl:0<l)(hm:0<m)(hml:l+m+2<=10000)(hN:N+1<=1000000)(hr:∀i,i<N->(rs i).length<=4398046511104) :
  Calls Tryz.prog 33 #[.agg #[t1,t2,t3,t4],.slice P N C] w (MR w N (fun i=>scaleQ t (rs i))):=by
 obtain ⟨W0,hW0⟩:∃W0,W0=(w.alloc (.cells #[t1,t2,t3,t4] 32)).alloc (.cells #[.slice P N C] 22):=⟨_,rfl⟩
 have hbw:Below w.heap.size w W0:=by rw[hW0];exact bRR.alloc (by simp) _
 have tT:Four W0 w.heap.size t1 t2 t3 t4:=by rw[hW0];exact (Four.new w _ _ _ _ _).alloc _
 have hq:Hp W0 (w.heap.size+1) (.cells #[.slice P N C] 22 (0,0)):=by
  have h:=Hp.new (w.alloc (.cells #[t1,t2,t3,t4] 32)) #[.slice P N C] 22;rw[szA]at h;rw[hW0];exact h
 have HF:=Hd (fill_m (w:=W0) (N:=N) (F:=77) (caps:=#[.pointer (some ⟨w.heap.size,0,none⟩),.pointer (some ⟨w.heap.size+1,0,none⟩)]) (rs:=fun i=>scaleQ t (rs i)) hN (callf_enter Tryz.func77 (by kernel_rfl) (by kernel_rfl)) (fun U hU i hi=>scale1_m (tT.to hU) (hq.to hU).one ((hT.to hbw).to hU) ((hM.to hbw).to hU) hi hl hm hml (hr i hi)));have q0:=hq.one;have HB:=Hd hbw;have HW0:=Hd hW0;rw[hW0]at q0;clear hT hM hl hm hml hN hr hq tT hW0 hbw
 go_enter Tryz.func33,Tryz.ntmps33
 go_wp2_with fail
 rw[<-HW0.out];clear HW0;refine HF.out.mono ?_;rintro e X ⟨P2,C2,rfl,hm2,b2⟩;have HE:=Hxb HB b2;clear b2 q0;go_wp2
 go_ret
 exact ⟨P2,C2,rfl,hm2,HE.out⟩
def mulR (rs ss:Nat->List Rat)(M:Nat)(i:Nat):List Rat:=tab (colsN ss M) (rowMul (rs i) ss M)
def addR (rs:Nat->List Rat)(N:Nat)(ss:Nat->List Rat)(M:Nat)(i:Nat):List Rat:=ptw (fun r s=>r+s) (rowL rs N i) (rowL ss M i)
def idR (n:Nat)(i:Nat):List Rat:=unitQ (n:Int) (i:Int)
structure Mv (m L:Nat)(rs:Nat->List Rat)(N:Nat):Prop where
 q:∀k,k<N->∀j,Qm m ((rs k).getD j 0)
 l:∀k,k<N->(rs k).length<=L
structure Mx (W:World)(P:Option Addr)(N C:Nat)(rs:Nat->List Rat)(m L:Nat):Prop where
 mi:Mi W P N C rs m
 mv:Mv m L rs N
def XR (w:World)(N:Nat)(rs:Nat->List Rat)(m L:Nat)(e:Ending)(w':World):Prop:=∃P C,e=.returned (.slice P N C)/\Mx w' P N C rs m L/\Below w.heap.size w w'
structure Vy (W:World)(A:Option Addr)(c:Nat)(rs:List Rat)(m L:Nat):Prop where
 vi:∃es,Vi W A c es rs m
 q:∀i,Qm m (rs.getD i 0)
 l:rs.length<=L
def YR (w:World)(us:List Rat)(m L:Nat)(e:Ending)(w':World):Prop:=∃A c rs,e=.returned (.slice A rs.length c)/\Hid (rs=us)/\Vy w' A c rs m L/\Below w.heap.size w w'
def turnR (rs:Nat->List Rat)(N:Nat)(i:Nat):List Rat:=tab N (fun k=>(rs k).getD i 0)
theorem qm_1 : Qm 1 ((1:Int):Rat):=by refine ⟨?_,?_⟩<;>(unfold Sm;decide)
theorem ptw_congr {F G:Rat->Rat->Rat}(h:∀r s,F r s=G r s)(rs ss:List Rat):ptw F rs ss=ptw G rs ss:=by
 unfold ptw;simp only[h]
theorem raddv_v {w:World}{A A':Option Addr}{c c':Nat}{es fs:List E4}{rs ss:List Rat}{k l:Nat}(hA:Vi w A c es rs k)(hB:Vi w A' c' fs ss l)(hk:0<k)(hl:0<l)(hkl:1+k+l+1<=10000)(h1:rs.length+1<=1000000)(h2:ss.length+1<=1000000) :
  Calls Tryz.prog 76 #[.slice A rs.length c,.slice A' ss.length c'] w (VR w (ptw (fun r s=>r+s) rs ss)):=by
 have HC:=Hd (fun (V:World) (hV:Below w.heap.size w V) (x1 x2 x3 x4:Value) (q:Qc V x1 x2 x3 x4 ((1:Int):Rat))=>(rcomb_v (c:=c) (c':=c') (q.qi qm_1 (by decide)) (hA.to hV) (hB.to hV) (by decide) hk hl hkl h1 h2));rw[ptw_congr (F:=fun r s=>((1:Int):Rat)*r+s) (G:=fun r s=>r+s) (fun r s=>by rw[show ((1:Int):Rat)=1 from rfl,Rat.one_mul])]at HC;clear hA hB hk hl hkl h1 h2
 go_enter Tryz.func76,Tryz.ntmps76
 go_wp2_with fail
 refine (rint_q 1 (by omega) (by omega) w).mono ?_;rintro e V ⟨x1,x2,x3,x4,rfl,q,bb⟩;have HD:=Hd (HC.out V bb x1 x2 x3 x4 q);have HB:=Hd bb;clear q bb HC
 go_wp2_with fail
 refine HD.out.mono ?_;rintro e X ⟨A1,c1,fl,rfl,hv,b2⟩;have HE:=Hxb HB b2;clear b2;go_wp2
 go_ret
 exact ⟨A1,c1,fl,rfl,hv,HE.out⟩
theorem tab_congr {N:Nat}{f g:Nat->Rat}(h:∀i,i<N->f i=g i):tab N f=tab N g:=List.map_congr_left fun i hi=>h i (List.mem_range.1 hi)
theorem MR.cong {w:World}{N:Nat}{rs ss:Nat->List Rat}{e:Ending}{w':World}(h:MR w N rs e w')(hs:∀i,rs i=ss i):MR w N ss e w':=by
 obtain rfl:rs=ss:=funext hs;exact h
theorem rowr_l {w:World}{P:Option Addr}{N C m i:Nat}{rs:Nat->List Rat}(hM:Mi w P N C rs m) :
  Calls Tryz.prog 59 #[.slice P N C,.int .i64 (i:Int)] w fun e w'=>∃A c es,e=.returned (.slice A (rowL rs N i).length c)/\Vi w' A c es (rowL rs N i) m/\Below w.heap.size w w':=by
 unfold rowL
 by_cases hi:i<N
 .rw[if_pos hi];obtain ⟨b,o,A,c,es,rfl,hb1,hc,hv⟩:=hM.row i hi;have hN:=hM.n63;obtain ⟨r,hr⟩:∃r,rs i=r:=⟨_,rfl⟩
  rw[hr]at hc hv;rw[hr];have hi1:(0:Int)<=(i:Int):=by omega
  have hi2:(i:Int)<(N:Int):=by omega
  have HV:=Hd hv;clear hM hi hv hr hb1
  go_enter Tryz.func59,Tryz.ntmps59
  go_wp2
  go_ret
  exact ⟨A,c,es,rfl,HV.out,Below.refl _ _⟩
 .rw[if_neg hi];have hi2:¬(i:Int)<(N:Int):=by omega
  clear hM hi
  go_enter Tryz.func59,Tryz.ntmps59
  go_wp2
  go_ret
  exact ⟨none,0,rfl,⟨[],Vi.nil _ (by decide)⟩,Below.refl _ _⟩
def Vk (rs:Nat->List Rat)(m:Nat)(W:World)(i:Nat)(v:Value):Prop:=∃A c es,v=.slice A (rs i).length c/\Vi W A c es (rs i) m
def colR (x:List Rat)(k:Nat):List Rat:=[x.getD k 0]
def catR (a:Nat->List Rat)(N:Nat)(b:Nat->List Rat)(M i:Nat):List Rat:=tab (colsN a N+colsN b M) (catF (rowL a N i) (rowL b M i) (colsN a N))
def TotB (W:World)(g:Nat)(t:Rat):Prop:=∃a b c d,Four W g a b c d/\Qc W a b c d t
theorem rdot_f {w:World}{A A':Option Addr}{c c':Nat}{es fs:List E4}{rs ss:List Rat}{k l:Nat}(hA:Vi w A c es rs k)(hB:Vi w A' c' fs ss l)(hk:0<k)(hl:0<l)(h1:rs.length<=1000000)(h2:ss.length<=1000000)
  (hN:rs.length*(k+l+1)+1+(k+l)+1<=10000) :
  Calls Tryz.prog 82 #[.slice A rs.length c,.slice A' ss.length c'] w (QR w (sumF (fun i=>rs.getD i 0*ss.getD i 0) rs.length)):=by
 obtain ⟨f,hf⟩:∃f:Nat->Rat,f=fun i=>rs.getD i 0*ss.getD i 0:=⟨_,rfl⟩
 have mM:∀i,Qm (k+l) (f i):=fun i=>by rw[hf];exact ((hA.el i).qm hk).mul ((hB.el i).qm hl)
 obtain ⟨N,hNN⟩:∃N,rs.length=N:=⟨_,rfl⟩
 have HX:=Hd (fun (V:World) (hV:Below w.heap.size w V) i (hi:i<es.length)=>hA.row.grow hV i hi);have HXF:=Hd (fun i (hi:i<es.length)=>hA.fq _ (List.getElem_mem hi));have HY:=Hd (fun (V:World) (i:Nat) (hV:Below w.heap.size w V)=>rat_v (c:=c') (k:=i) (hB.row.grow hV) hB.fq (by have:=hB.len;omega));have HM:=Hd (fun (V:World) (i:Nat) (hV:Below w.heap.size w V)=>rmul_q ((hA.el i).to hV) ((hB.el i).to hV) hk hl (by omega))
 have HA:=Hd (fun (V:World) (i:Nat) (hi:i<N) (x1 x2 x3 x4 y1 y2 y3 y4:Value) (p:Qc V x1 x2 x3 x4 (sumF f i)) (q:Qc V y1 y2 y3 y4 (f i))=>by
  have h2:i*(k+l+1)<=rs.length*(k+l+1):=Nat.mul_le_mul_right _ (by omega)
  exact radd_q (p.qi (Qm.sumF mM i) (by omega)) (q.qi (mM i) (by omega)) (by omega) (by omega) (by omega))
 have HLE:Hid (es.length=N):=by rw[<-hNN];exact hA.len
 have HFM:Hid (∀i,rs.getD i 0*ss.getD i 0=f i):=fun i=>by rw[hf]
 rw[<-hf];rw[hNN]at h1 ⊢;rw[hB.len]at HY;obtain ⟨M,hM⟩:∃M,ss.length=M:=⟨_,rfl⟩
 rw[hM]at HY ⊢;obtain ⟨W0,hW0⟩:∃W0,W0=(w.alloc (.cells #[.bool false,.slice none 0 0,.bool false,.slice none 0 0] 32)).alloc (.cells #[.bool false,.slice none 0 0,.bool false,.slice none 0 0] 32):=⟨_,rfl⟩
 have hbw:Below w.heap.size w W0:=by rw[hW0];exact bRR.alloc (by simp) _
 have hR0:Hp W0 w.heap.size (.cells #[.bool false,.slice none 0 0,.bool false,.slice none 0 0] 32 (0,0)):=by rw[hW0];exact (Hp.new w #[.bool false,.slice none 0 0,.bool false,.slice none 0 0] 32).alloc _
 have hT0:Hp W0 (w.heap.size+1) (.cells #[.bool false,.slice none 0 0,.bool false,.slice none 0 0] 32 (0,0)):=by
  have h:=Hp.new (w.alloc (.cells #[.bool false,.slice none 0 0,.bool false,.slice none 0 0] 32)) #[.bool false,.slice none 0 0,.bool false,.slice none 0 0] 32;rw[szA]at h;rw[hW0];exact h
 have HR:=Hd hR0.four;have HT:Hid (TotB W0 (w.heap.size+1) (sumF f 0)):=⟨_,_,_,_,hT0.four,Zc.zero _,Zc.zero _⟩
 have HB:=Hd hbw;have HW0:=Hd hW0;have HH:=Hd h1;clear hA hB hk hl h1 h2 hN hf hM hNN mM hW0 hbw hR0 hT0
 go_enter Tryz.func82,Tryz.ntmps82
 go_wp2
 rw[<-HW0.out];clear HW0
 go_loopw [6] (fun i wr=>∃k:Nat,i=.int .i64 k/\k<=N/\Hid (TotB wr (w.heap.size+1) (sumF f k))/\Hid (Four wr w.heap.size (.bool false) (.slice none 0 0) (.bool false) (.slice none 0 0))/\Below w.heap.size w wr) (fun i _=>N-(intOf i).toNat)
 case atStart=>exact ⟨0,rfl,Nat.zero_le _,HT,HR,HB.out⟩
 case round =>
  clear HT HR HB;obtain ⟨j,rfl,hj,hT,hR,hb⟩:=hrel
  by_cases hlt:j<N
  .have hj0:(0:Int)<=(j:Int):=by omega
   have hj2:(j:Int)<(N:Int):=by omega
   have hj3:(j:Int)+1<=9223372036854775807:=by have:=HH.out;omega
   have hje:j<es.length:=by rw[HLE.out];exact hlt
   obtain ⟨e1,e2,e3,e4,tE,qE⟩:=hT.out;obtain ⟨b,o,ha,hbo,f0,f1,f2,f3⟩:=HX.out w (Below.refl _ _) j hje;have fX:=HXF.out j hje
   have FX:Hid (∀w',Below w.heap.size w w'->w'.cell? ⟨b,o+j*4,none⟩=some es[j].a/\w'.cell? ⟨b,o+j*4+1,none⟩=some es[j].b/\w'.cell? ⟨b,o+j*4+2,none⟩=some es[j].c/\w'.cell? ⟨b,o+j*4+3,none⟩=some es[j].d):=fun w' hS =>
    ⟨(hS.cell (p:=⟨b,_,none⟩) hbo).trans f0,(hS.cell (p:=⟨b,_,none⟩) hbo).trans f1,(hS.cell (p:=⟨b,_,none⟩) hbo).trans f2,(hS.cell (p:=⟨b,_,none⟩) hbo).trans f3⟩
   have HMJ:=Hd (fun (V:World) (hV:Below w.heap.size w V)=>HM.out V j hV);have HYJ:=Hd (fun (V:World) (hV:Below w.heap.size w V)=>HY.out V j hV);rw[getD_at' hje,HFM.out j]at HMJ;generalize fs.getD j E4.z=Y at HMJ HYJ;obtain ⟨z1,z2,z3,z4⟩:=Y;have HAJ:=Hd (fun V=>HA.out V j hlt);generalize es[j]=X at FX HMJ fX;obtain ⟨x1,x2,x3,x4⟩:=X;dsimp only at FX fX;simp only[E4.v]at HMJ HYJ;have HBB:=Hd hb;have HLT:=Hd hlt;have TE:=Hd tE;have QE:=Hd qE;subst ha;clear hT tE qE f0 f1 f2 f3 hbo hje hlt hj hb HM HA HX HXF HLE HFM HY
   go_wp2_with fail
   refine wp_region_planTo (S:=fun w'=>Below w.heap.size w w') [(1,true),(2,true),(3,true),(4,true),(5,true),(6,true)] #[false,true,true,true,true,true,true,false,false,false,false] 5 (by kernel_rfl) (by kernel_rfl) HBB.out.drew ?_
   iterate 3 (refine plan_take (v:=?_) rfl (by rfl) ?_ ?_;rotate_left;(focus (intro w' _;go_simp;try with_reducible rfl));simp only[Act.put,pqA,pqB,pqC])
   refine plan_take (v:=?_) rfl (by rfl) ?_ ?_;rotate_left;(focus (intro w' hS;obtain ⟨f0,f1,f2,f3⟩:=FX.out w' hS;go_simp;try with_reducible rfl));simp only[Act.put,pqA,pqB,pqC]
   iterate 2 (refine plan_take (v:=?_) rfl (by rfl) ?_ ?_;rotate_left;(focus (intro w' _;go_simp;try with_reducible rfl));simp only[Act.put,pqA,pqB,pqC])
   intro _;obtain ⟨W2,hW2⟩:∃W2,W2=wr.drew:=⟨_,rfl⟩
   have hbd:Below wr.heap.size wr W2:=by rw[hW2];exact (Below.refl _ _).drew
   rw[<-hW2];replace TE:=Hd (TE.out.to hbd);replace QE:=Hd (QE.out.to hbd);replace hR:=Hd (hR.out.to hbd);replace HBB:=Hxb HBB hbd;clear hW2 hbd FX fX;obtain ⟨mk,hmk⟩:∃mk:Value->Value->Value->Value->Act,mk=fun v14 v21 v22 v23=>⟨#[.slice (some ⟨b,o,none⟩) N c,.slice A' M c',undef,undef,.pointer (some ⟨w.heap.size,0,none⟩),.pointer (some ⟨w.heap.size+1,0,none⟩),.int .i64 j,.agg #[.bool false,.slice none 0 0,.bool false,.slice none 0 0],.int .i64 j,.slice (some ⟨b,o,none⟩) N c,.int .i64 N,.bool true,u12,u13,v14,.slice (some ⟨b,o,none⟩) N c,.int .i64 j,.pointer (some ⟨b,o+j*4,none⟩),.agg #[x1,x2,x3,x4],.slice A' M c',.int .i64 j,v21,v22,v23,undef],[]⟩:=⟨_,rfl⟩
   refine dag (fun G up dn=>?_)
   have D078:∀(V:World) (y1 y2 y3 y4:Value) (bb:Below W2.heap.size W2 V) (q:Qc V y1 y2 y3 y4 (f j)),G 2 #[true,true,true,true,true,true,true,true,true,false,false] (mk (.agg #[e1,e2,e3,e4]) (.agg #[z1,z2,z3,z4]) (.agg #[y1,y2,y3,y4]) u23) V:=by
    intro V y1 y2 y3 y4 bb q;refine up ?_;simp only[hmk];refine rdy1 (i:=9) (by kernel_rfl) rfl (by rfl) (fun K hK=>?_);go_simp
    refine (HAJ.out _ _ _ _ _ _ _ _ _ (QE.out.to bb) q).mono ?_;rintro e V1 ⟨s1,s2,s3,s4,rfl,q2,bb1⟩;have hbw:=((HBB.out.trans (bb.mono HBB.out.size)).trans (bb1.mono (HBB.out.trans (bb.mono HBB.out.size)).size))
    refine hK.out _ _ hbw ?_;clear hK K;have tV:=(TE.out.to bb).to bb1;have tR:=(hR.out.to bb).to bb1;have fE:=QE.out.fq;refine rdy1 (i:=10) (by kernel_rfl) rfl (by rfl) (fun K hK=>?_);refine wp_store_q (by rfl) (by rfl) tV fE q2.fq (fun V' u kp=>?_);replace tR:=kp.four (by omega) tR;replace hbw:=kp.bel _ _ hbw (by omega);replace q2:=kp.qc q2;refine hK.out _ _ hbw ?_;have HE:Hid (TotB V' (w.heap.size+1) (sumF f (j+1))):=⟨_,_,_,_,u,q2⟩
    have HT2:=Hd tR;have HB2:=Hd hbw;clear hK K kp bb bb1 tV fE u q q2 tR hbw hmk HMJ HAJ HYJ TE QE hR HBB;refine wpAnyH_done (by kernel_rfl) ?_ _
    show NoPanic _ _ _ _
    go_wp2
    apply_assumption
    go_wp2
    go_roundw
    case rel=>exact ⟨j+1,by simp,HLT.out,HE,HT2,HB2.out⟩
    case measure=>have:=HLT.out;simp[intOf];omega
   have D07:∀(V:World) (bb:Below W2.heap.size W2 V),G 3 #[true,true,true,true,true,true,true,true,false,false,false] (mk (.agg #[e1,e2,e3,e4]) (.agg #[z1,z2,z3,z4]) u22 u23) V:=by
    intro V bb;refine up ?_;simp only[hmk];refine rdy1 (i:=8) (by kernel_rfl) rfl (by rfl) (fun K hK=>?_);go_simp
    refine (HMJ.out _ (HBB.out.trans (bb.mono HBB.out.size))).mono ?_;rintro e V1 ⟨y1,y2,y3,y4,rfl,q,bb1⟩;refine hK.out _ _ ((HBB.out.trans (bb.mono HBB.out.size)).trans (bb1.mono (HBB.out.trans (bb.mono HBB.out.size)).size)) ?_;have hD:=D078 V1 y1 y2 y3 y4 (Bxb bb bb1) q;rw[hmk]at hD;exact dn hD
   have D0:∀(V:World) (bb:Below W2.heap.size W2 V),G 4 #[true,true,true,true,true,true,true,false,false,false,false] (mk (.agg #[e1,e2,e3,e4]) u21 u22 u23) V:=by
    intro V bb;refine up ?_;simp only[hmk];refine rdy1 (i:=7) (by kernel_rfl) rfl (by rfl) (fun K hK=>?_);go_simp
    refine (HYJ.out _ (HBB.out.trans (bb.mono HBB.out.size))).mono ?_;rintro e V1 ⟨rfl,bb1⟩;refine hK.out _ _ ((HBB.out.trans (bb.mono HBB.out.size)).trans (bb1.mono (HBB.out.trans (bb.mono HBB.out.size)).size)) ?_;have hD:=D07 V1 (Bxb bb bb1);rw[hmk]at hD;exact dn hD
   have D78:∀(V:World) (y1 y2 y3 y4:Value) (bb:Below W2.heap.size W2 V) (q:Qc V y1 y2 y3 y4 (f j)),G 3 #[false,true,true,true,true,true,true,true,true,false,false] (mk u14 (.agg #[z1,z2,z3,z4]) (.agg #[y1,y2,y3,y4]) u23) V:=by
    intro V y1 y2 y3 y4 bb q;refine up ?_;simp only[hmk];refine rdy1 (i:=0) (by kernel_rfl) rfl (by rfl) (fun K hK=>?_);have kT:=TE.out.to bb;have k0:=kT.c0;have k1:=kT.c1;have k2:=kT.c2;have k3:=kT.c3;go_simp
    refine hK.out _ _ (HBB.out.trans (bb.mono HBB.out.size)) ?_;have hD:=D078 V y1 y2 y3 y4 bb q;rw[hmk]at hD;exact dn hD
   have D7:∀(V:World) (bb:Below W2.heap.size W2 V),G 4 #[false,true,true,true,true,true,true,true,false,false,false] (mk u14 (.agg #[z1,z2,z3,z4]) u22 u23) V:=by
    intro V bb;refine up ?_;simp only[hmk];refine wpAnyH_ready (rs:=[0,8]) (by kernel_rfl) (by simp) (ready_cons rfl (by rfl) (fun K hK=>?_) (ready_cons rfl (by rfl) (fun K hK=>?_) AllReadyH.nil))
    .have kT:=TE.out.to bb;have k0:=kT.c0;have k1:=kT.c1;have k2:=kT.c2;have k3:=kT.c3;go_simp
     refine hK.out _ _ (HBB.out.trans (bb.mono HBB.out.size)) ?_;have hD:=D07 V bb;rw[hmk]at hD;exact dn hD
    .go_simp
     refine (HMJ.out _ (HBB.out.trans (bb.mono HBB.out.size))).mono ?_;rintro e V1 ⟨y1,y2,y3,y4,rfl,q,bb1⟩;refine hK.out _ _ ((HBB.out.trans (bb.mono HBB.out.size)).trans (bb1.mono (HBB.out.trans (bb.mono HBB.out.size)).size)) ?_;have hD:=D78 V1 y1 y2 y3 y4 (Bxb bb bb1) q;rw[hmk]at hD;exact dn hD
   have D:∀(V:World) (bb:Below W2.heap.size W2 V),G 5 #[false,true,true,true,true,true,true,false,false,false,false] (mk u14 u21 u22 u23) V:=by
    intro V bb;refine up ?_;simp only[hmk];refine wpAnyH_ready (rs:=[0,7]) (by kernel_rfl) (by simp) (ready_cons rfl (by rfl) (fun K hK=>?_) (ready_cons rfl (by rfl) (fun K hK=>?_) AllReadyH.nil))
    .have kT:=TE.out.to bb;have k0:=kT.c0;have k1:=kT.c1;have k2:=kT.c2;have k3:=kT.c3;go_simp
     refine hK.out _ _ (HBB.out.trans (bb.mono HBB.out.size)) ?_;have hD:=D0 V bb;rw[hmk]at hD;exact dn hD
    .go_simp
     refine (HYJ.out _ (HBB.out.trans (bb.mono HBB.out.size))).mono ?_;rintro e V1 ⟨rfl,bb1⟩;refine hK.out _ _ ((HBB.out.trans (bb.mono HBB.out.size)).trans (bb1.mono (HBB.out.trans (bb.mono HBB.out.size)).size)) ?_;have hD:=D7 V1 (Bxb bb bb1);rw[hmk]at hD;exact dn hD
   have hD:=D W2 (Below.refl _ _);rw[hmk]at hD;exact hD
  .obtain rfl:j=N:=by omega
   obtain ⟨e1,e2,e3,e4,tE,qE⟩:=hT.out;have fE:=qE.fq;have u0:=tE.c0;have u1:=tE.c1;have u2:=tE.c2;have u3:=tE.c3;have tR:=hR.out;have HBB:=Hd hb;have RZ:=Hd qE;obtain ⟨V99,eV,u,kp⟩:=pack4 tR Fq.nil e1 e2 e3 e4;obtain ⟨⟨n1,A1,j1,m1,rfl,rfl⟩,⟨n2,A2,j2,m2,rfl,rfl⟩⟩:=fE;obtain ⟨v0,v1,v2,v3,v4,v5,v6,v7,_⟩:=tR;have EV:=Hd eV;have KP:=Hd kp;have U:=Hd u;clear eV kp u qE hT hR tE hb hlt hj HY HM HA HX HXF HLE HFM HH;go_wp2
   rw[EV.out];refine bodyPost_ret (v:=.agg #[.bool n1,.slice A1 j1 m1,.bool n2,.slice A2 j2 m2]) (by simp[results,Tryz.f82,go_sem,U.out.c0,U.out.c1,U.out.c2,U.out.c3]) rfl ?_;exact ⟨_,_,_,_,rfl,RZ.out.k4 KP.out,KP.out.bel _ _ HBB.out (by omega)⟩
theorem sumF_zero {f:Nat->Rat}{n:Nat}(h:∀i,n<=i->f i=0):∀m,sumF f (n+m)=sumF f n
 | 0=>rfl
 | m+1=>by
  rw[show n+(m+1)=(n+m)+1 from rfl,sumF,sumF_zero h m,h _ (by omega),Rat.add_zero]
theorem rdot_v {w:World}{A A':Option Addr}{c c':Nat}{es fs:List E4}{rs ss:List Rat}{k l:Nat}(hA:Vi w A c es rs k)(hB:Vi w A' c' fs ss l)(hk:0<k)(hl:0<l)(h1:rs.length<=1000000)(h2:ss.length<=1000000)
  (hN:rs.length*(k+l+1)+1+(k+l)+1<=10000) :
  Calls Tryz.prog 82 #[.slice A rs.length c,.slice A' ss.length c'] w (QR w (dotQ rs ss)):=by
 have h:=rdot_f (c:=c) (c':=c') hA hB hk hl h1 h2 hN
 have e:dotQ rs ss=sumF (fun i=>rs.getD i 0*ss.getD i 0) rs.length:=by
  unfold dotQ;have h2:=sumF_zero (f:=fun i=>rs.getD i 0*ss.getD i 0) (n:=rs.length) (fun i hi=>by rw[getD_ge hi,Rat.zero_mul]) (max rs.length ss.length-rs.length)
  rwa [show rs.length+(max rs.length ss.length-rs.length)=max rs.length ss.length by omega]at h2
 rw[e];exact h
theorem act_intro {F:Act->Prop}{a:Act}(h:∀a0,a0=a->F a0):F a:=h a rfl
theorem MR.congN {w:World}{N:Nat}{rs ss:Nat->List Rat}{e:Ending}{w':World}(h:MR w N rs e w')(hs:∀i,i<N->rs i=ss i):MR w N ss e w':=by
 obtain ⟨P,C,e1,h1,h2⟩:=h;refine ⟨P,C,e1,⟨fun k hk=>?_,h1.n63⟩,h2⟩;have h3:=h1.row k hk
 rwa [hs k hk]at h3
def QI (w:World)(r:Rat)(m:Nat)(e:Ending)(w':World):Prop:=∃a b c d,e=.returned (.agg #[a,b,c,d])/\Qi w' a b c d r m/\Below w.heap.size w w'
theorem QR.i {w:World}{r:Rat}{m:Nat}{e:Ending}{w':World}(h:QR w r e w')(hr:Qm m r)(hm:m<=10000):QI w r m e w':=by
 obtain ⟨a,b,c,d,h1,h2,h3⟩:=h;exact ⟨a,b,c,d,h1,h2.qi hr hm,h3⟩
theorem place_2 {w:World}{k1 k2 k3 k4:Value}{P Q:Option Addr}{N C M D:Nat}{i j:Int}{xf yf:Nat->Rat}{mx my K:Nat}(hcols:∀V,Below w.heap.size w V->Calls Tryz.prog 14 #[.slice P N C] V fun e w'=>e=.returned (.int .i64 (K:Int))/\Below V.heap.size V w')(hA:∀V,Below w.heap.size w V->∀n:Nat,n<K->Calls Tryz.prog 17 #[.slice P N C,.int .i64 i,.int .i64 (n:Int)] V (QR V (xf n)))(hB:∀V,Below w.heap.size w V->∀n:Nat,n<K->Calls Tryz.prog 17 #[.slice Q M D,.int .i64 (n:Int),.int .i64 j] V (QR V (yf n)))(qx:∀n,Qm mx (xf n))(qy:∀n,Qm my (yf n))(hK:K<=1000000)(hbnd:K*(mx+my+1)+1+(mx+my)+1<=10000) :
  Calls Tryz.prog 103 #[.int .u8 2,.agg #[k1,k2,k3,k4],.slice P N C,.slice Q M D,.int .i64 i,.int .i64 j] w (QR w (sumF (fun n=>xf n*yf n) K)):=by
 obtain ⟨f,hf⟩:∃f:Nat->Rat,f=fun n=>xf n*yf n:=⟨_,rfl⟩
 have mF:∀n,Qm (mx+my) (f n):=fun n=>by rw[hf];exact (qx n).mul (qy n)
 have px:=(qx 0).pos;have py:=(qy 0).pos;have hfm:∀n,xf n*yf n=f n:=fun n=>by rw[hf]
 obtain ⟨W0,hW0⟩:∃W0,W0=(w.alloc (.cells #[k1,k2,k3,k4] 32)).alloc (.cells #[.bool false,.slice none 0 0,.bool false,.slice none 0 0] 32):=⟨_,rfl⟩
 have hbw:Below w.heap.size w W0:=by rw[hW0];exact bRR.alloc (by simp) _
 have tK:Four W0 w.heap.size k1 k2 k3 k4:=by
  have h:=Four.new w k1 k2 k3 k4 32;rw[hW0];exact h.alloc _
 have tR:Four W0 (w.heap.size+1) (.bool false) (.slice none 0 0) (.bool false) (.slice none 0 0):=by
  have h:=Four.new (w.alloc (.cells #[k1,k2,k3,k4] 32)) (.bool false) (.slice none 0 0) (.bool false) (.slice none 0 0) 32;rw[szA]at h;rw[hW0];exact h
 obtain ⟨W1,hW1⟩:∃W1,W1=W0.alloc (.cells #[.bool false,.slice none 0 0,.bool false,.slice none 0 0] 32):=⟨_,rfl⟩
 have hb1:Below W0.heap.size W0 W1:=by rw[hW1];exact bRR
 have hgs:W0.heap.size=w.heap.size+1+1:=by rw[hW0];simp
 have tS:Four W1 (w.heap.size+1+1) (.bool false) (.slice none 0 0) (.bool false) (.slice none 0 0):=by rw[<-hgs,hW1];exact Four.new W0 _ _ _ _ _
 have HT:Hid (TotB W1 (w.heap.size+1+1) (sumF f 0)):=⟨_,_,_,_,tS,Zc.zero _,Zc.zero _⟩
 have HC:=Hd (fun (V:World) (hV:Below W0.heap.size W0 V)=>hcols V (Bxb hbw hV));have G1:=Hd (fun (n:Nat) (hn:n<K) (V:World) (hV:Below W0.heap.size W0 V)=>(hA V (Bxb hbw hV) n hn).mono fun _ _ h=>QR.i h (qx n) (by omega));have G2:=Hd (fun (n:Nat) (hn:n<K) (V:World) (hV:Below W0.heap.size W0 V)=>(hB V (Bxb hbw hV) n hn).mono fun _ _ h=>QR.i h (qy n) (by omega));have GM:=Hd (fun (n:Nat) (V:World) (x1 x2 x3 x4 y1 y2 y3 y4:Value) (hx:Qi V x1 x2 x3 x4 (xf n) mx) (hy:Qi V y1 y2 y3 y4 (yf n) my)=>rmul_q hx hy px py (by omega))
 have GA:=Hd (fun (n:Nat) (hn:n<K) (V:World) (x1 x2 x3 x4 y1 y2 y3 y4:Value) (p:Qc V x1 x2 x3 x4 (sumF f n)) (q:Qc V y1 y2 y3 y4 (f n))=>by
  have h2:n*(mx+my+1)<=K*(mx+my+1):=Nat.mul_le_mul_right _ (by omega)
  exact radd_q (p.qi (Qm.sumF mF n) (by omega)) (q.qi (mF n) (by omega)) (by omega) (by omega) (by omega))
 simp only[hfm]at GM;rw[<-hf];have HW0:=Hd hW0;have HW1:=Hd hW1;have HB:=Hd hbw;have HB1:=Hd hb1;have HKK:=Hd hK;have TR:=Hd tR;have HGS:=Hd hgs;clear hgs hcols hA hB qx qy hK hbnd hf mF px py hfm hW0 hW1 hbw hb1 tK tR tS
 go_enter Tryz.func103,Tryz.ntmps103
 go_wp2
 rw[<-HW0.out,<-HW1.out];clear HW0 HW1
 go_loopw [14] (fun i wr=>∃n:Nat,i=.int .i64 n/\n<=K/\Hid (TotB wr (w.heap.size+1+1) (sumF f n))/\Below W0.heap.size W0 wr) (fun i _=>K-(intOf i).toNat)
 case atStart=>exact ⟨0,rfl,Nat.zero_le _,HT,HB1.out⟩
 case round =>
  clear HT HB1;obtain ⟨n,rfl,hn,hT,hb⟩:=hrel;have HBB:=Hd hb;obtain ⟨e1,e2,e3,e4,tE,qE⟩:=hT.out;have TE:=Hd tE;have QE:=Hd qE;clear hb hT tE qE
  go_wp2_with fail
  refine (HC.out wr HBB.out).mono ?_;rintro e V9 ⟨rfl,bb⟩;replace TE:=Hd (TE.out.to bb);replace QE:=Hd (QE.out.to bb);replace HBB:=Hxb HBB bb;clear bb
  by_cases hlt:n<K
  .have hj0:(0:Int)<=(n:Int):=by omega
   have hj2:(n:Int)<(K:Int):=by omega
   have hj3:(n:Int)+1<=9223372036854775807:=by have:=HKK.out;omega
   obtain ⟨mx',hmx⟩:∃mx',mx'=mx:=⟨_,rfl⟩
   have HC1:=Hd (G1.out n hlt);have HC2:=Hd (G2.out n hlt);have HM:=Hd (GM.out n);have HA:=Hd (GA.out n hlt);have HLT:=Hd hlt;clear hlt hn G1 G2 GM GA mx' hmx
   go_wp2_with fail
   refine wp_region_planTo (S:=fun w'=>Below W0.heap.size W0 w') [(1,true),(2,true),(3,true),(5,true),(6,true),(7,true)] #[false,true,true,true,false,true,true,true,false,false,false,false] 6 (by kernel_rfl) (by kernel_rfl) HBB.out.drew ?_
   iterate 6 (refine plan_take (v:=?_) rfl (by rfl) ?_ ?_;rotate_left;(focus (intro w' _;go_simp;try with_reducible rfl));simp only[Act.put,pqA,pqB,pqC])
   intro _;obtain ⟨W2,hW2⟩:∃W2,W2=V9.drew:=⟨_,rfl⟩
   have hbd:Below V9.heap.size V9 W2:=by rw[hW2];exact (Below.refl _ _).drew
   rw[<-hW2];replace TE:=Hd (TE.out.to hbd);replace QE:=Hd (QE.out.to hbd);replace HBB:=Hxb HBB hbd;clear hW2 hbd;refine act_intro (F:=fun a=>wpAnyH _ _ _ _ _ _ _ a _) ?_;intro a0 ha0;obtain ⟨k00,h00⟩:∃k:Act,k=a0:=⟨_,rfl⟩
   simp only[ha0,Act.put,pqA,pqB,pqC]at h00;obtain ⟨k01,h01⟩:∃k:Value->Act,k=fun X=>(a0.put (some 35) X):=⟨_,rfl⟩
   simp only[ha0,Act.put,pqA,pqB,pqC]at h01;obtain ⟨k02,h02⟩:∃k:Value->Value->Act,k=fun X Y=>((a0.put (some 35) X).put (some 39) Y):=⟨_,rfl⟩
   simp only[ha0,Act.put,pqA,pqB,pqC]at h02;obtain ⟨k03,h03⟩:∃k:Value->Value->Value->Act,k=fun X Y M=>(((a0.put (some 35) X).put (some 39) Y).put (some 40) M):=⟨_,rfl⟩
   simp only[ha0,Act.put,pqA,pqB,pqC]at h03;obtain ⟨k10,h10⟩:∃k:Act,k=(a0.put (some 31) (.agg #[e1,e2,e3,e4])):=⟨_,rfl⟩
   simp only[ha0,Act.put,pqA,pqB,pqC]at h10;obtain ⟨k11,h11⟩:∃k:Value->Act,k=fun X=>((a0.put (some 31) (.agg #[e1,e2,e3,e4])).put (some 35) X):=⟨_,rfl⟩
   simp only[ha0,Act.put,pqA,pqB,pqC]at h11;obtain ⟨k12,h12⟩:∃k:Value->Value->Act,k=fun X Y=>(((a0.put (some 31) (.agg #[e1,e2,e3,e4])).put (some 35) X).put (some 39) Y):=⟨_,rfl⟩
   simp only[ha0,Act.put,pqA,pqB,pqC]at h12;obtain ⟨k13,h13⟩:∃k:Value->Value->Value->Act,k=fun X Y M=>((((a0.put (some 31) (.agg #[e1,e2,e3,e4])).put (some 35) X).put (some 39) Y).put (some 40) M):=⟨_,rfl⟩
   simp only[ha0,Act.put,pqA,pqB,pqC]at h13;have HA0:=Hd ha0;clear ha0;refine dag (fun G up dn=>?_)
   have D13:∀(V:World) (hV:Below W2.heap.size W2 V) (X Y m1 m2 m3 m4:Value) (hm:Qc V m1 m2 m3 m4 (f n)),G 2 #[true,true,true,true,true,true,true,true,true,true,false,false] (k13 X Y (.agg #[m1,m2,m3,m4])) V:=by
    intro V hV X Y m1 m2 m3 m4 hm;refine up ?_;simp only[h13];refine rdy1 (i:=10) (by kernel_rfl) rfl (by rfl) (fun K hK=>?_);go_simp
    refine (HA.out _ _ _ _ _ _ _ _ _ (QE.out.to hV) hm).mono ?_;rintro e V1 ⟨s1,s2,s3,s4,rfl,q2,bb⟩;have hbw:=((HBB.out.trans (hV.mono HBB.out.size)).trans (bb.mono (HBB.out.trans (hV.mono HBB.out.size)).size))
    refine hK.out _ _ hbw ?_;clear hK K;have tV:=(TE.out.to hV).to bb;have fE:=QE.out.fq;refine rdy1 (i:=11) (by kernel_rfl) rfl (by rfl) (fun K hK=>?_);refine wp_store_q (by rfl) (by rfl) tV fE q2.fq (fun V' u kp=>?_);replace hbw:=kp.bel _ _ hbw (Nat.le_of_eq HGS.out);replace q2:=kp.qc q2;refine hK.out _ _ hbw ?_;have HE:Hid (TotB V' (w.heap.size+1+1) (sumF f (n+1))/\Below W0.heap.size W0 V'):=⟨⟨_,_,_,_,u,q2⟩,hbw⟩
    clear hK K kp bb tV fE u hm q2 hbw hV TE QE HBB h00 h01 h02 h03 h10 h11 h12 h13;refine wpAnyH_done (by kernel_rfl) ?_ _
    show NoPanic _ _ _ _
    go_wp2
    apply_assumption
    go_wp2
    clear HC1 HC2 HM HA;go_roundw
    case rel=>exact ⟨n+1,by simp,HLT.out,HE.out.1,HE.out.2⟩
    case measure=>have:=HLT.out;simp[intOf];omega
   have D03:∀(V:World) (hV:Below W2.heap.size W2 V) (X Y m1 m2 m3 m4:Value) (hm:Qc V m1 m2 m3 m4 (f n)),G 3 #[false,true,true,true,true,true,true,true,true,true,false,false] (k03 X Y (.agg #[m1,m2,m3,m4])) V:=by
    intro V hV X Y m1 m2 m3 m4 hm;refine up ?_;simp only[h03];refine rdy1 (i:=0) (by kernel_rfl) rfl (by rfl) (fun K hK=>?_);have kT:=TE.out.to hV;have k0:=kT.c0;have k1:=kT.c1;have k2:=kT.c2;have k3:=kT.c3;go_simp
    refine hK.out _ _ (HBB.out.trans (hV.mono HBB.out.size)) ?_;have hD:=D13 V hV X Y m1 m2 m3 m4 hm;rw[h13]at hD;exact dn hD
   have D12:∀(V:World) (hV:Below W2.heap.size W2 V) (x1 x2 x3 x4:Value) (hx:Qi V x1 x2 x3 x4 (xf n) mx) (y1 y2 y3 y4:Value) (hy:Qi V y1 y2 y3 y4 (yf n) my),G 3 #[true,true,true,true,true,true,true,true,true,false,false,false] (k12 (.agg #[x1,x2,x3,x4]) (.agg #[y1,y2,y3,y4])) V:=by
    intro V hV x1 x2 x3 x4 hx y1 y2 y3 y4 hy;refine up ?_;simp only[h12];refine rdy1 (i:=9) (by kernel_rfl) rfl (by rfl) (fun K hK=>?_);go_simp
    refine (HM.out _ _ _ _ _ _ _ _ _ hx hy).mono ?_;rintro e V1 ⟨m1,m2,m3,m4,rfl,hm,bb⟩;refine hK.out _ _ ((HBB.out.trans (hV.mono HBB.out.size)).trans (bb.mono (HBB.out.trans (hV.mono HBB.out.size)).size)) ?_;have hD:=D13 V1 (Bxb hV bb) (.agg #[x1,x2,x3,x4]) (.agg #[y1,y2,y3,y4]) m1 m2 m3 m4 hm;rw[h13]at hD;exact dn hD
   have D02:∀(V:World) (hV:Below W2.heap.size W2 V) (x1 x2 x3 x4:Value) (hx:Qi V x1 x2 x3 x4 (xf n) mx) (y1 y2 y3 y4:Value) (hy:Qi V y1 y2 y3 y4 (yf n) my),G 4 #[false,true,true,true,true,true,true,true,true,false,false,false] (k02 (.agg #[x1,x2,x3,x4]) (.agg #[y1,y2,y3,y4])) V:=by
    intro V hV x1 x2 x3 x4 hx y1 y2 y3 y4 hy;refine up ?_;simp only[h02];refine wpAnyH_ready (rs:=[0,9]) (by kernel_rfl) (by simp) (ready_cons rfl (by rfl) (fun K hK=>?_) (ready_cons rfl (by rfl) (fun K hK=>?_) AllReadyH.nil))
    .have kT:=TE.out.to hV;have k0:=kT.c0;have k1:=kT.c1;have k2:=kT.c2;have k3:=kT.c3;go_simp
     refine hK.out _ _ (HBB.out.trans (hV.mono HBB.out.size)) ?_;have hD:=D12 V hV x1 x2 x3 x4 hx y1 y2 y3 y4 hy;rw[h12]at hD;exact dn hD
    .go_simp
     refine (HM.out _ _ _ _ _ _ _ _ _ hx hy).mono ?_;rintro e V1 ⟨m1,m2,m3,m4,rfl,hm,bb⟩;refine hK.out _ _ ((HBB.out.trans (hV.mono HBB.out.size)).trans (bb.mono (HBB.out.trans (hV.mono HBB.out.size)).size)) ?_;have hD:=D03 V1 (Bxb hV bb) (.agg #[x1,x2,x3,x4]) (.agg #[y1,y2,y3,y4]) m1 m2 m3 m4 hm;rw[h03]at hD;exact dn hD
   have D11:∀(V:World) (hV:Below W2.heap.size W2 V) (x1 x2 x3 x4:Value) (hx:Qi V x1 x2 x3 x4 (xf n) mx),G 4 #[true,true,true,true,true,true,true,true,false,false,false,false] (k11 (.agg #[x1,x2,x3,x4])) V:=by
    intro V hV x1 x2 x3 x4 hx;refine up ?_;simp only[h11];refine rdy1 (i:=8) (by kernel_rfl) rfl (by rfl) (fun K hK=>?_);go_simp
    refine (HC2.out _ (HBB.out.trans (hV.mono HBB.out.size))).mono ?_;rintro e V1 ⟨y1,y2,y3,y4,rfl,hy,bb⟩;refine hK.out _ _ ((HBB.out.trans (hV.mono HBB.out.size)).trans (bb.mono (HBB.out.trans (hV.mono HBB.out.size)).size)) ?_;have hD:=D12 V1 (Bxb hV bb) x1 x2 x3 x4 (hx.to bb) y1 y2 y3 y4 hy;rw[h12]at hD;exact dn hD
   have D01:∀(V:World) (hV:Below W2.heap.size W2 V) (x1 x2 x3 x4:Value) (hx:Qi V x1 x2 x3 x4 (xf n) mx),G 5 #[false,true,true,true,true,true,true,true,false,false,false,false] (k01 (.agg #[x1,x2,x3,x4])) V:=by
    intro V hV x1 x2 x3 x4 hx;refine up ?_;simp only[h01];refine wpAnyH_ready (rs:=[0,8]) (by kernel_rfl) (by simp) (ready_cons rfl (by rfl) (fun K hK=>?_) (ready_cons rfl (by rfl) (fun K hK=>?_) AllReadyH.nil))
    .have kT:=TE.out.to hV;have k0:=kT.c0;have k1:=kT.c1;have k2:=kT.c2;have k3:=kT.c3;go_simp
     refine hK.out _ _ (HBB.out.trans (hV.mono HBB.out.size)) ?_;have hD:=D11 V hV x1 x2 x3 x4 hx;rw[h11]at hD;exact dn hD
    .go_simp
     refine (HC2.out _ (HBB.out.trans (hV.mono HBB.out.size))).mono ?_;rintro e V1 ⟨y1,y2,y3,y4,rfl,hy,bb⟩;refine hK.out _ _ ((HBB.out.trans (hV.mono HBB.out.size)).trans (bb.mono (HBB.out.trans (hV.mono HBB.out.size)).size)) ?_;have hD:=D02 V1 (Bxb hV bb) x1 x2 x3 x4 (hx.to bb) y1 y2 y3 y4 hy;rw[h02]at hD;exact dn hD
   have D10:∀(V:World) (hV:Below W2.heap.size W2 V),G 5 #[true,true,true,true,false,true,true,true,false,false,false,false] (k10) V:=by
    intro V hV;refine up ?_;simp only[h10];refine rdy1 (i:=4) (by kernel_rfl) rfl (by rfl) (fun K hK=>?_);go_simp
    refine (HC1.out _ (HBB.out.trans (hV.mono HBB.out.size))).mono ?_;rintro e V1 ⟨x1,x2,x3,x4,rfl,hx,bb⟩;refine hK.out _ _ ((HBB.out.trans (hV.mono HBB.out.size)).trans (bb.mono (HBB.out.trans (hV.mono HBB.out.size)).size)) ?_;have hD:=D11 V1 (Bxb hV bb) x1 x2 x3 x4 hx;rw[h11]at hD;exact dn hD
   have D00:∀(V:World) (hV:Below W2.heap.size W2 V),G 6 #[false,true,true,true,false,true,true,true,false,false,false,false] (k00) V:=by
    intro V hV;refine up ?_;simp only[h00];refine wpAnyH_ready (rs:=[0,4]) (by kernel_rfl) (by simp) (ready_cons rfl (by rfl) (fun K hK=>?_) (ready_cons rfl (by rfl) (fun K hK=>?_) AllReadyH.nil))
    .have kT:=TE.out.to hV;have k0:=kT.c0;have k1:=kT.c1;have k2:=kT.c2;have k3:=kT.c3;go_simp
     refine hK.out _ _ (HBB.out.trans (hV.mono HBB.out.size)) ?_;have hD:=D10 V hV;rw[h10]at hD;exact dn hD
    .go_simp
     refine (HC1.out _ (HBB.out.trans (hV.mono HBB.out.size))).mono ?_;rintro e V1 ⟨x1,x2,x3,x4,rfl,hx,bb⟩;refine hK.out _ _ ((HBB.out.trans (hV.mono HBB.out.size)).trans (bb.mono (HBB.out.trans (hV.mono HBB.out.size)).size)) ?_;have hD:=D01 V1 (Bxb hV bb) x1 x2 x3 x4 hx;rw[h01]at hD;exact dn hD
   have hD:=D00 W2 (Below.refl _ _);rw[h00]at hD;rw[HA0.out];exact hD
  .obtain rfl:n=K:=by omega
   have fE:=QE.out.fq;obtain ⟨u0,u1,u2,u3,_,_,_,_,_⟩:=TE.out;have tR:=TR.out.to HBB.out;have RZ:=Hd QE.out;have HBW:=Hd (HB.out.trans (HBB.out.mono HB.out.size));obtain ⟨V99,eV,u,kp⟩:=pack4 tR Fq.nil e1 e2 e3 e4;obtain ⟨⟨n1,A1,j1,m1,rfl,rfl⟩,⟨n2,A2,j2,m2,rfl,rfl⟩⟩:=fE;obtain ⟨v0,v1,v2,v3,v4,v5,v6,v7,_⟩:=tR;have EV:=Hd eV;have KP:=Hd kp;have U:=Hd u;clear eV kp u TE QE HBB hlt hn G1 G2 GM GA TR HB HC;go_wp2
   rw[EV.out];refine bodyPost_ret (v:=.agg #[.bool n1,.slice A1 j1 m1,.bool n2,.slice A2 j2 m2]) (by simp[results,Tryz.f103,go_sem,U.out.c0,U.out.c1,U.out.c2,U.out.c3]) rfl ?_;exact ⟨_,_,_,_,rfl,RZ.out.k4 KP.out,KP.out.bel _ _ HBW.out (by omega)⟩
theorem place_3a {w:World}{k1 k2 k3 k4:Value}{P Q:Option Addr}{N C M D K j:Nat}{i:Int}{r:Rat}(hcols:∀V,Below w.heap.size w V->Calls Tryz.prog 14 #[.slice P N C] V fun e w'=>e=.returned (.int .i64 (K:Int))/\Below V.heap.size V w')(hj:j<K)(hj2:j<=1000000)(hK:K<=1000000)(hA:∀V,Below w.heap.size w V->Calls Tryz.prog 17 #[.slice P N C,.int .i64 i,.int .i64 (j:Int)] V (QR V r)) :
  Calls Tryz.prog 103 #[.int .u8 3,.agg #[k1,k2,k3,k4],.slice P N C,.slice Q M D,.int .i64 i,.int .i64 (j:Int)] w (QR w r):=by
 obtain ⟨W0,hW0⟩:∃W0,W0=(w.alloc (.cells #[k1,k2,k3,k4] 32)).alloc (.cells #[.bool false,.slice none 0 0,.bool false,.slice none 0 0] 32):=⟨_,rfl⟩
 have hbw:Below w.heap.size w W0:=by rw[hW0];exact bRR.alloc (by simp) _
 have tK:Four W0 w.heap.size k1 k2 k3 k4:=by
  have h:=Four.new w k1 k2 k3 k4 32;rw[hW0];exact h.alloc _
 have tR:Four W0 (w.heap.size+1) (.bool false) (.slice none 0 0) (.bool false) (.slice none 0 0):=by
  have h:=Four.new (w.alloc (.cells #[k1,k2,k3,k4] 32)) (.bool false) (.slice none 0 0) (.bool false) (.slice none 0 0) 32;rw[szA]at h;rw[hW0];exact h
 have HC:=Hd (hcols W0 hbw);have HA:=Hd (fun (V:World) (hV:Below W0.heap.size W0 V)=>hA V (Bxb hbw hV));have HW0:=Hd hW0;have HB:=Hd hbw;have h1:(j:Int)<(K:Int):=by omega
 clear hcols hA hW0 hbw tK hj hj2 hK
 go_enter Tryz.func103,Tryz.ntmps103
 go_wp2_with fail
 rw[<-HW0.out];refine HC.out.mono ?_;rintro e V ⟨rfl,bb⟩;replace tR:=tR.to bb;have HAV:=Hd (HA.out V bb);replace HB:=Hxb HB bb;clear bb HA HC HW0
 go_wp2_with fail
 refine HAV.out.mono ?_;rintro e V2 ⟨y1,y2,y3,y4,rfl,q,bb⟩;replace tR:=tR.to bb;replace HB:=Hxb HB bb;clear bb HAV;have RZ:=Hd q;obtain ⟨V99,eV,u,kp⟩:=pack4 tR Fq.nil y1 y2 y3 y4;obtain ⟨⟨n1,A1,c1,m1,rfl,rfl⟩,⟨n2,A2,c2,m2,rfl,rfl⟩⟩:=q.fq;obtain ⟨v0,v1,v2,v3,v4,v5,v6,v7,_⟩:=tR;have EV:=Hd eV;have KP:=Hd kp;have U:=Hd u;clear eV kp u q;go_wp2
 rw[EV.out];refine bodyPost_ret (v:=.agg #[.bool n1,.slice A1 c1 m1,.bool n2,.slice A2 c2 m2]) (by simp[results,Tryz.f103,go_sem,U.out.c0,U.out.c1,U.out.c2,U.out.c3]) rfl ?_;exact ⟨_,_,_,_,rfl,RZ.out.k4 KP.out,KP.out.bel _ _ HB.out (by omega)⟩
theorem place_3b {w:World}{k1 k2 k3 k4:Value}{P Q:Option Addr}{N C M D K j:Nat}{i:Int}{r:Rat}(hcols:∀V,Below w.heap.size w V->Calls Tryz.prog 14 #[.slice P N C] V fun e w'=>e=.returned (.int .i64 (K:Int))/\Below V.heap.size V w')(hj:¬j<K)(hj2:j<=1000000)(hK:K<=1000000)(hA:∀V,Below w.heap.size w V->Calls Tryz.prog 17 #[.slice Q M D,.int .i64 i,.int .i64 ((j-K:Nat):Int)] V (QR V r)) :
  Calls Tryz.prog 103 #[.int .u8 3,.agg #[k1,k2,k3,k4],.slice P N C,.slice Q M D,.int .i64 i,.int .i64 (j:Int)] w (QR w r):=by
 obtain ⟨W0,hW0⟩:∃W0,W0=(w.alloc (.cells #[k1,k2,k3,k4] 32)).alloc (.cells #[.bool false,.slice none 0 0,.bool false,.slice none 0 0] 32):=⟨_,rfl⟩
 have hbw:Below w.heap.size w W0:=by rw[hW0];exact bRR.alloc (by simp) _
 have tK:Four W0 w.heap.size k1 k2 k3 k4:=by
  have h:=Four.new w k1 k2 k3 k4 32;rw[hW0];exact h.alloc _
 have tR:Four W0 (w.heap.size+1) (.bool false) (.slice none 0 0) (.bool false) (.slice none 0 0):=by
  have h:=Four.new (w.alloc (.cells #[k1,k2,k3,k4] 32)) (.bool false) (.slice none 0 0) (.bool false) (.slice none 0 0) 32;rw[szA]at h;rw[hW0];exact h
 have HC:=Hd (hcols W0 hbw);have HA:=Hd (fun (V:World) (hV:Below W0.heap.size W0 V)=>hA V (Bxb hbw hV));have HW0:=Hd hW0;have HB:=Hd hbw;have h1:¬(j:Int)<(K:Int):=by omega
 have h2:IntKind.i64.wrap ((j:Int)-(K:Int))=((j-K:Nat):Int):=by rw[IntKind.wrap_i64];omega
 have HC3:=Hd (fun (V:World) (hV:Below W0.heap.size W0 V)=>hcols V (Bxb hbw hV));have HA4:=Hd (fun (V:World) (hV:Below W0.heap.size W0 V) (V':World) (hV':Below V.heap.size V V')=>HA.out V' (hV.trans (hV'.mono hV.size)));clear hcols hA hW0 hbw tK hj hj2 hK
 go_enter Tryz.func103,Tryz.ntmps103
 go_wp2_with fail
 rw[<-HW0.out];refine HC.out.mono ?_;rintro e V ⟨rfl,bb⟩;replace tR:=tR.to bb;have HAV:=Hd (HA.out V bb);replace HB:=Hxb HB bb;have HC2:=Hd (HC3.out V bb);have HA2:=Hd (HA4.out V bb);clear bb HA HAV HC HC3 HA4 HW0
 go_wp2_with fail
 refine HC2.out.mono ?_;rintro e V' ⟨rfl,bb⟩;replace tR:=tR.to bb;have HAV:=Hd (HA2.out V' bb);replace HB:=Hxb HB bb;clear bb HC2 HA2
 go_wp2_with fail
 refine HAV.out.mono ?_;rintro e V2 ⟨y1,y2,y3,y4,rfl,q,bb⟩;replace tR:=tR.to bb;replace HB:=Hxb HB bb;clear bb HAV;have RZ:=Hd q;obtain ⟨V99,eV,u,kp⟩:=pack4 tR Fq.nil y1 y2 y3 y4;obtain ⟨⟨n1,A1,c1,m1,rfl,rfl⟩,⟨n2,A2,c2,m2,rfl,rfl⟩⟩:=q.fq;obtain ⟨v0,v1,v2,v3,v4,v5,v6,v7,_⟩:=tR;have EV:=Hd eV;have KP:=Hd kp;have U:=Hd u;clear eV kp u q;go_wp2
 rw[EV.out];refine bodyPost_ret (v:=.agg #[.bool n1,.slice A1 c1 m1,.bool n2,.slice A2 c2 m2]) (by simp[results,Tryz.f103,go_sem,U.out.c0,U.out.c1,U.out.c2,U.out.c3]) rfl ?_;exact ⟨_,_,_,_,rfl,RZ.out.k4 KP.out,KP.out.bel _ _ HB.out (by omega)⟩
theorem rmul4_m {w:World}{P Q:Option Addr}{N C M D m l K:Nat}{rs ss:Nat->List Rat}(hM:Mi w P N C rs m)(hB:Mi w Q M D ss l)(hq:∀i j,Qm m (el rs N i j))(hs:∀i j,Qm l (el ss M i j))(hm:m<=10000)(hl:l<=10000)(hN:N<=100000)(hMM:M<=100000)(hr:∀k,k<N->(rs k).length<=K)(hr2:∀k,k<M->(ss k).length<=100000)(hK:K<=100000)(hbnd:K*(m+l+1)+1+(m+l)+1<=10000) :
  Calls Tryz.prog 30 #[.slice P N C,.slice Q M D] w (MR w N (mulR rs ss M)):=by
 have hm0:=(hq 0 0).pos;have hl0:=(hs 0 0).pos;have hcA:colsN rs N<=K:=colsN_le hr;have hcB:colsN ss M<=100000:=colsN_le hr2;have h3:colsN rs N*(m+l+1)<=K*(m+l+1):=Nat.mul_le_mul_right _ hcA;have HC:=Hd (rcols_m (C:=D) hB.rs (by omega) (fun k hk=>by have:=hr2 k hk;omega))
 have HF:=Hd (fun (V:World) (hV:Below w.heap.size w V)=>made_m (w:=V) (kd:=2) (k1:=.bool false) (k2:=.slice none 0 0) (k3:=.bool false) (k4:=.slice none 0 0) (P:=P) (Q:=Q) (N:=N) (C:=C) (M:=M) (D:=D) (R:=N) (L:=colsN ss M) (g:=fun i j=>sumF (fun n=>el rs N i n*el ss M n j) (colsN rs N)) (fun U hU i j _ _=>place_2 (fun X hX=>rcols_m (C:=C) (((hM.to hV).to hU).to hX).rs (by omega) (fun k hk=>by have:=hr k hk;omega)) (fun X hX n _=>by
  have h:=rat4_i (i:=(i:Int)) (j:=(n:Int)) (((hM.to hV).to hU).to hX) hm0 hm
  rwa [elI_nat]at h) (fun X hX n _=>by
  have h:=rat4_i (i:=(n:Int)) (j:=(j:Int)) (((hB.to hV).to hU).to hX) hl0 hl
  rwa [elI_nat]at h) (fun n=>hq i n) (fun n=>hs n j) (by omega) (by omega)) (by omega) (by omega))
 have HE:Hid (∀i,i<N->tab (colsN ss M) (fun j=>sumF (fun n=>el rs N i n*el ss M n j) (colsN rs N))=mulR rs ss M i):=fun i hi=>tab_congr fun j hj=>by
  rw[rowMul_el (rs i) ss M j (colsN rs N) (by have:=colsN_ge rs hi;omega)];exact sumF_cong _ fun n _=>by rw[el_in hi]
 obtain ⟨c,hcc⟩:∃c,colsN ss M=c:=⟨_,rfl⟩
 rw[hcc]at HC HF HE;clear hM hB hq hs hm hl hN hMM hr hr2 hK hbnd hm0 hl0 hcA hcB h3 hcc
 go_enter Tryz.func30,Tryz.ntmps30
 go_wp2_with fail
 refine HC.out.mono ?_;rintro e V1 ⟨rfl,bb⟩;have HB:=Hd bb;have HFV:=Hd (HF.out V1 bb);clear bb HC HF
 go_wp2_with fail
 refine HFV.out.mono ?_;rintro e V4 h;obtain ⟨P2,C2,rfl,hm2,b2⟩:=h.congN HE.out;have HX:=Hxb HB b2;have HM2:=Hd hm2;clear b2 h hm2 HE;go_wp2
 go_ret
 exact ⟨P2,C2,rfl,HM2.out,HX.out⟩
theorem rbeside_m {w:World}{P Q:Option Addr}{N C M D m:Nat}{rs ss:Nat->List Rat}(hM:Mi w P N C rs m)(hB:Mi w Q M D ss m)(hm0:0<m)(hm:m<=10000)(hN:N<=100000)(hMM:M<=100000)(hr:∀k,k<N->(rs k).length<=100000)(hr2:∀k,k<M->(ss k).length<=100000) :
  Calls Tryz.prog 36 #[.slice P N C,.slice Q M D] w (MR w (max N M) (catR rs N ss M)):=by
 have hcA:colsN rs N<=100000:=colsN_le hr;have hcB:colsN ss M<=100000:=colsN_le hr2;have HC:=Hd (fun (V:World) (hV:Below w.heap.size w V)=>rcols_m (C:=C) (hM.to hV).rs (by omega) (fun k hk=>by have:=hr k hk;omega));have HD:=Hd (fun (V:World) (hV:Below w.heap.size w V)=>rcols_m (C:=D) (hB.to hV).rs (by omega) (fun k hk=>by have:=hr2 k hk;omega));obtain ⟨R,hR⟩:∃R,max N M=R:=⟨_,rfl⟩
 obtain ⟨c,hcc⟩:∃c,colsN rs N=c:=⟨_,rfl⟩
 obtain ⟨d,hdd⟩:∃d,colsN ss M=d:=⟨_,rfl⟩
 have HF:=Hd (fun (V:World) (hV:Below w.heap.size w V)=>made_m (w:=V) (kd:=3) (k1:=.bool false) (k2:=.slice none 0 0) (k3:=.bool false) (k4:=.slice none 0 0) (P:=P) (Q:=Q) (N:=N) (C:=C) (M:=M) (D:=D) (R:=R) (L:=c+d) (g:=fun i j=>catF (rowL rs N i) (rowL ss M i) c j) (fun U hU i j _ hj=>by
  have hcols:=fun (X:World) (hX:Below U.heap.size U X)=>HC.out X ((Bxb hV hU).trans (hX.mono (Bxb hV hU).size))
  rw[hcc]at hcols;unfold catF
  by_cases hjc:j<c
  .rw[if_pos hjc]
   exact place_3a hcols hjc (by omega) (by omega) (fun X hX=>by
    have h:=rat4_i (i:=(i:Int)) (j:=(j:Int)) (((hM.to hV).to hU).to hX) hm0 hm
    rwa [elI_nat]at h)
  .rw[if_neg hjc]
   exact place_3b hcols hjc (by omega) (by omega) (fun X hX=>by
    have h:=rat4_i (i:=(i:Int)) (j:=((j-c:Nat):Int)) (((hB.to hV).to hU).to hX) hm0 hm
    rwa [elI_nat]at h)) (by omega) (by omega))
 have HE:Hid (∀i,tab (c+d) (catF (rowL rs N i) (rowL ss M i) c)=catR rs N ss M i):=fun i=>by unfold catR;rw[hcc,hdd]
 have h1:max (N:Int) (M:Int)=(R:Int):=by omega
 have h2:IntKind.i64.wrap ((c:Int)+(d:Int))=((c+d:Nat):Int):=by rw[IntKind.wrap_i64];omega
 rw[hcc]at HC;rw[hdd]at HD;rw[hR];clear hM hB hm0 hm hN hMM hr hr2 hcA hcB hcc hdd hR
 go_enter Tryz.func36,Tryz.ntmps36
 go_wp2_with fail
 refine (HC.out _ (Below.refl _ _)).mono ?_;rintro e V1 ⟨rfl,bb⟩;have HB:=Hd bb;clear bb HC
 go_wp2_with fail
 refine (HD.out _ HB.out).mono ?_;rintro e V2 ⟨rfl,bb⟩;replace HB:=Hxb HB bb;have HFV:=Hd (HF.out V2 HB.out);clear bb HD HF
 go_wp2_with fail
 refine HFV.out.mono ?_;rintro e V4 h;obtain ⟨P2,C2,rfl,hm2,b2⟩:=h.cong HE.out;have HX:=Hxb HB b2;have HM2:=Hd hm2;clear b2 h hm2 HE;go_wp2
 go_ret
 exact ⟨P2,C2,rfl,HM2.out,HX.out⟩
end Go.Proofs.YtglhdielkkhefaaGreat
