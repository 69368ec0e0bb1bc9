/- Parts: 5. -/
import Derived.Test.YtiifpobhmnplaaaGreatVs13
import Derived.Test.YtiifpobhmnplaaaGreatVs23
import Derived.Test.YtiifpobhmnplaaaGreatVs24
import Derived.Test.YtiifpobhmnplaaaGreatVs25
set_option linter.unusedVariables false
set_option linter.unusedSimpArgs false
set_option maxRecDepth 100000
set_option maxHeartbeats 40000000

namespace Go.Proofs.YtiifpobhmnplaaaGreat
open Go.RowKit Go.Shelf
def TotB (W:World)(g:Nat)(t:Rat):Prop:=∃a b c d,Four W g a b c d/\Qc W a b c d t
theorem rdot_f {w:World}{A A':Option Addr}{c c':Nat}{es fs:List E4}{rs ss:List Rat}{k l:Nat}(hA:Vi w A c es rs k)(hB:Vi w A' c' fs ss l)(hk:0<k)(hl:0<l)(h1:rs.length<=1000000)(h2:ss.length<=1000000)
  (hN:rs.length*(k+l+1)+1+(k+l)+1<=10000) :
  Calls Tryz.prog 26 #[.slice A rs.length c,.slice A' ss.length c'] w (QR w (sumF (fun i=>rs.getD i 0*ss.getD i 0) rs.length)):=by
 obtain ⟨f,hf⟩:∃f:Nat->Rat,f=fun i=>rs.getD i 0*ss.getD i 0:=⟨_,rfl⟩
 have mM:∀i,Qm (k+l) (f i):=fun i=>by rw[hf];exact ((hA.el i).qm hk).mul ((hB.el i).qm hl)
 obtain ⟨N,hNN⟩:∃N,rs.length=N:=⟨_,rfl⟩
 have HX:=Hd (fun (V:World) (hV:Below w.heap.size w V) i (hi:i<es.length)=>hA.row.grow hV i hi)
 have HXF:=Hd (fun i (hi:i<es.length)=>hA.fq _ (List.getElem_mem hi))
 have HY:=Hd (fun (V:World) (i:Nat) (hV:Below w.heap.size w V)=>rat_v (c:=c') (k:=i) (hB.row.grow hV) hB.fq (by have:=hB.len;omega))
 have HM:=Hd (fun (V:World) (i:Nat) (hV:Below w.heap.size w V)=>rmul_q ((hA.el i).to hV) ((hB.el i).to hV) hk hl (by omega))
 have HA:=Hd (fun (V:World) (i:Nat) (hi:i<N) (x1 x2 x3 x4 y1 y2 y3 y4:Value) (p:Qc V x1 x2 x3 x4 (sumF f i)) (q:Qc V y1 y2 y3 y4 (f i))=>by
  have h2:i*(k+l+1)<=rs.length*(k+l+1):=Nat.mul_le_mul_right _ (by omega)
  exact radd_q (p.qi (Qm.sumF mM i) (by omega)) (q.qi (mM i) (by omega)) (by omega) (by omega) (by omega))
 have HLE:Hid (es.length=N):=by rw[<-hNN];exact hA.len
 have HFM:Hid (∀i,rs.getD i 0*ss.getD i 0=f i):=fun i=>by rw[hf]
 rw[<-hf]
 rw[hNN]at h1 ⊢
 rw[hB.len]at HY
 obtain ⟨M,hM⟩:∃M,ss.length=M:=⟨_,rfl⟩
 rw[hM]at HY ⊢
 obtain ⟨W0,hW0⟩:∃W0,W0=(w.alloc (.cells #[.bool false,.slice none 0 0,.bool false,.slice none 0 0] 26)).alloc (.cells #[.bool false,.slice none 0 0,.bool false,.slice none 0 0] 26):=⟨_,rfl⟩
 have hbw:Below w.heap.size w W0:=by rw[hW0];exact ((Below.refl _ _).alloc (Nat.le_refl _) _).alloc (by simp) _
 have hR0:Hp W0 w.heap.size (.cells #[.bool false,.slice none 0 0,.bool false,.slice none 0 0] 26 (0,0)):=by rw[hW0];exact (Hp.new w #[.bool false,.slice none 0 0,.bool false,.slice none 0 0] 26).alloc _
 have hT0:Hp W0 (w.heap.size+1) (.cells #[.bool false,.slice none 0 0,.bool false,.slice none 0 0] 26 (0,0)):=by
  have h:=Hp.new (w.alloc (.cells #[.bool false,.slice none 0 0,.bool false,.slice none 0 0] 26)) #[.bool false,.slice none 0 0,.bool false,.slice none 0 0] 26
  rw[World.size_alloc]at h
  rw[hW0];exact h
 have HR:=Hd hR0.four
 have HT:Hid (TotB W0 (w.heap.size+1) (sumF f 0)):=⟨_,_,_,_,hT0.four,Zc.zero _,Zc.zero _⟩
 have HB:=Hd hbw
 have HW0:=Hd hW0
 have HH:=Hd h1
 clear hA hB hk hl h1 h2 hN hf hM hNN mM hW0 hbw hR0 hT0
 go_enter Tryz.func26,Tryz.ntmps26
 go_wp2
 rw[<-HW0.out]
 clear HW0
 go_loopw [6] (fun i wr=>∃k:Nat,i=.int .i64 k/\k<=N/\Hid (TotB wr (w.heap.size+1) (sumF f k))/\Hid (Four wr w.heap.size (.bool false) (.slice none 0 0) (.bool false) (.slice none 0 0))/\Below w.heap.size w wr) (fun i _=>N-(intOf i).toNat)
 case atStart=>exact ⟨0,rfl,Nat.zero_le _,HT,HR,HB.out⟩
 case round =>
  clear HT HR HB
  obtain ⟨j,rfl,hj,hT,hR,hb⟩:=hrel
  by_cases hlt:j<N
  .have hj0:(0:Int)<=(j:Int):=by omega
   have hj2:(j:Int)<(N:Int):=by omega
   have hj3:(j:Int)+1<=9223372036854775807:=by have:=HH.out;omega
   have hje:j<es.length:=by rw[HLE.out];exact hlt
   obtain ⟨e1,e2,e3,e4,tE,qE⟩:=hT.out
   obtain ⟨b,o,ha,hbo,f0,f1,f2,f3⟩:=HX.out w (Below.refl _ _) j hje
   have fX:=HXF.out j hje
   have FX:Hid (∀w',Below w.heap.size w w'->w'.cell? ⟨b,o+j*4,none⟩=some es[j].a/\w'.cell? ⟨b,o+j*4+1,none⟩=some es[j].b/\w'.cell? ⟨b,o+j*4+2,none⟩=some es[j].c/\w'.cell? ⟨b,o+j*4+3,none⟩=some es[j].d):=fun w' hS =>
    ⟨(hS.cell (p:=⟨b,_,none⟩) hbo).trans f0,(hS.cell (p:=⟨b,_,none⟩) hbo).trans f1,(hS.cell (p:=⟨b,_,none⟩) hbo).trans f2,(hS.cell (p:=⟨b,_,none⟩) hbo).trans f3⟩
   have HMJ:=Hd (fun (V:World) (hV:Below w.heap.size w V)=>HM.out V j hV)
   have HYJ:=Hd (fun (V:World) (hV:Below w.heap.size w V)=>HY.out V j hV)
   rw[getD_at' hje,HFM.out j]at HMJ
   generalize fs.getD j E4.z=Y at HMJ HYJ
   obtain ⟨z1,z2,z3,z4⟩:=Y
   have HAJ:=Hd (fun V=>HA.out V j hlt)
   generalize es[j]=X at FX HMJ fX
   obtain ⟨x1,x2,x3,x4⟩:=X
   dsimp only at FX fX
   simp only[E4.v]at HMJ HYJ
   have HBB:=Hd hb
   have HLT:=Hd hlt
   have TE:=Hd tE
   have QE:=Hd qE
   subst ha
   clear hT tE qE f0 f1 f2 f3 hbo hje hlt hj hb HM HA HX HXF HLE HFM HY
   go_wp2_with fail
   refine wp_region_planTo (S:=fun w'=>Below w.heap.size w w') [(1,true),(2,true),(3,true),(4,true),(5,true),(6,true)] #[false,true,true,true,true,true,true,false,false,false,false] 5 (by kernel_rfl) (by kernel_rfl) HBB.out.drew ?_
   iterate 3 (refine plan_take (v:=?_) rfl (by rfl) ?_ ?_;rotate_left;(focus (intro w' _;go_simp;try with_reducible rfl));simp only[Act.put,List.setIfInBounds_toArray,List.set_cons_zero,List.set_cons_succ])
   refine plan_take (v:=?_) rfl (by rfl) ?_ ?_;rotate_left;(focus (intro w' hS;obtain ⟨f0,f1,f2,f3⟩:=FX.out w' hS;go_simp;try with_reducible rfl));simp only[Act.put,List.setIfInBounds_toArray,List.set_cons_zero,List.set_cons_succ]
   iterate 2 (refine plan_take (v:=?_) rfl (by rfl) ?_ ?_;rotate_left;(focus (intro w' _;go_simp;try with_reducible rfl));simp only[Act.put,List.setIfInBounds_toArray,List.set_cons_zero,List.set_cons_succ])
   intro _
   obtain ⟨W2,hW2⟩:∃W2,W2=wr.drew:=⟨_,rfl⟩
   have hbd:Below wr.heap.size wr W2:=by rw[hW2];exact (Below.refl _ _).drew
   rw[<-hW2]
   replace TE:=Hd (TE.out.to hbd)
   replace QE:=Hd (QE.out.to hbd)
   replace hR:=Hd (hR.out.to hbd)
   replace HBB:=Hxb HBB hbd
   clear hW2 hbd FX fX
   obtain ⟨mk,hmk⟩:∃mk:Value->Value->Value->Value->Act,mk=fun v14 v21 v22 v23=>⟨#[.slice (some ⟨b,o,none⟩) N c,.slice A' M c',undef,undef,.pointer (some ⟨w.heap.size,0,none⟩),.pointer (some ⟨w.heap.size+1,0,none⟩),.int .i64 j,.agg #[.bool false,.slice none 0 0,.bool false,.slice none 0 0],.int .i64 j,.slice (some ⟨b,o,none⟩) N c,.int .i64 N,.bool true,u12,u13,v14,.slice (some ⟨b,o,none⟩) N c,.int .i64 j,.pointer (some ⟨b,o+j*4,none⟩),.agg #[x1,x2,x3,x4],.slice A' M c',.int .i64 j,v21,v22,v23,undef],[]⟩:=⟨_,rfl⟩
   refine dag (fun G up dn=>?_)
   have D078:∀(V:World) (y1 y2 y3 y4:Value) (bb:Below W2.heap.size W2 V) (q:Qc V y1 y2 y3 y4 (f j)),G 2 #[true,true,true,true,true,true,true,true,true,false,false] (mk (.agg #[e1,e2,e3,e4]) (.agg #[z1,z2,z3,z4]) (.agg #[y1,y2,y3,y4]) u23) V:=by
    intro V y1 y2 y3 y4 bb q
    refine up ?_
    simp only[hmk]
    refine rdy1 (i:=9) (by kernel_rfl) rfl (by rfl) (fun K hK=>?_)
    go_simp
    refine (HAJ.out _ _ _ _ _ _ _ _ _ (QE.out.to bb) q).mono ?_
    rintro e V1 ⟨s1,s2,s3,s4,rfl,q2,bb1⟩
    have hbw:=((HBB.out.trans (bb.mono HBB.out.size)).trans (bb1.mono (HBB.out.trans (bb.mono HBB.out.size)).size))
    refine hK.out _ _ hbw ?_
    clear hK K
    have tV:=(TE.out.to bb).to bb1
    have tR:=(hR.out.to bb).to bb1
    have fE:=QE.out.fq
    refine rdy1 (i:=10) (by kernel_rfl) rfl (by rfl) (fun K hK=>?_)
    refine wp_store_q (by rfl) (by rfl) tV fE q2.fq (fun V' u kp=>?_)
    replace tR:=kp.four (by omega) tR
    replace hbw:=kp.bel _ _ hbw (by omega)
    replace q2:=kp.qc q2
    refine hK.out _ _ hbw ?_
    have HE:Hid (TotB V' (w.heap.size+1) (sumF f (j+1))):=⟨_,_,_,_,u,q2⟩
    have HT2:=Hd tR
    have HB2:=Hd hbw
    clear hK K kp bb bb1 tV fE u q q2 tR hbw hmk HMJ HAJ HYJ TE QE hR HBB
    refine wpAnyH_done (by kernel_rfl) ?_ _
    show NoPanic _ _ _ _
    go_wp2
    apply_assumption
    go_wp2
    go_roundw
    case rel=>exact ⟨j+1,by simp,HLT.out,HE,HT2,HB2.out⟩
    case measure=>have:=HLT.out;simp[intOf];omega
   have D07:∀(V:World) (bb:Below W2.heap.size W2 V),G 3 #[true,true,true,true,true,true,true,true,false,false,false] (mk (.agg #[e1,e2,e3,e4]) (.agg #[z1,z2,z3,z4]) u22 u23) V:=by
    intro V bb
    refine up ?_
    simp only[hmk]
    refine rdy1 (i:=8) (by kernel_rfl) rfl (by rfl) (fun K hK=>?_)
    go_simp
    refine (HMJ.out _ (HBB.out.trans (bb.mono HBB.out.size))).mono ?_
    rintro e V1 ⟨y1,y2,y3,y4,rfl,q,bb1⟩
    refine hK.out _ _ ((HBB.out.trans (bb.mono HBB.out.size)).trans (bb1.mono (HBB.out.trans (bb.mono HBB.out.size)).size)) ?_
    have hD:=D078 V1 y1 y2 y3 y4 (Bxb bb bb1) q
    rw[hmk]at hD
    exact dn hD
   have D0:∀(V:World) (bb:Below W2.heap.size W2 V),G 4 #[true,true,true,true,true,true,true,false,false,false,false] (mk (.agg #[e1,e2,e3,e4]) u21 u22 u23) V:=by
    intro V bb
    refine up ?_
    simp only[hmk]
    refine rdy1 (i:=7) (by kernel_rfl) rfl (by rfl) (fun K hK=>?_)
    go_simp
    refine (HYJ.out _ (HBB.out.trans (bb.mono HBB.out.size))).mono ?_
    rintro e V1 ⟨rfl,bb1⟩
    refine hK.out _ _ ((HBB.out.trans (bb.mono HBB.out.size)).trans (bb1.mono (HBB.out.trans (bb.mono HBB.out.size)).size)) ?_
    have hD:=D07 V1 (Bxb bb bb1)
    rw[hmk]at hD
    exact dn hD
   have D78:∀(V:World) (y1 y2 y3 y4:Value) (bb:Below W2.heap.size W2 V) (q:Qc V y1 y2 y3 y4 (f j)),G 3 #[false,true,true,true,true,true,true,true,true,false,false] (mk u14 (.agg #[z1,z2,z3,z4]) (.agg #[y1,y2,y3,y4]) u23) V:=by
    intro V y1 y2 y3 y4 bb q
    refine up ?_
    simp only[hmk]
    refine rdy1 (i:=0) (by kernel_rfl) rfl (by rfl) (fun K hK=>?_)
    have kT:=TE.out.to bb
    have k0:=kT.c0
    have k1:=kT.c1
    have k2:=kT.c2
    have k3:=kT.c3
    go_simp
    refine hK.out _ _ (HBB.out.trans (bb.mono HBB.out.size)) ?_
    have hD:=D078 V y1 y2 y3 y4 bb q
    rw[hmk]at hD
    exact dn hD
   have D7:∀(V:World) (bb:Below W2.heap.size W2 V),G 4 #[false,true,true,true,true,true,true,true,false,false,false] (mk u14 (.agg #[z1,z2,z3,z4]) u22 u23) V:=by
    intro V bb
    refine up ?_
    simp only[hmk]
    refine wpAnyH_ready (rs:=[0,8]) (by kernel_rfl) (by simp) (ready_cons rfl (by rfl) (fun K hK=>?_) (ready_cons rfl (by rfl) (fun K hK=>?_) AllReadyH.nil))
    .have kT:=TE.out.to bb
     have k0:=kT.c0
     have k1:=kT.c1
     have k2:=kT.c2
     have k3:=kT.c3
     go_simp
     refine hK.out _ _ (HBB.out.trans (bb.mono HBB.out.size)) ?_
     have hD:=D07 V bb
     rw[hmk]at hD
     exact dn hD
    .go_simp
     refine (HMJ.out _ (HBB.out.trans (bb.mono HBB.out.size))).mono ?_
     rintro e V1 ⟨y1,y2,y3,y4,rfl,q,bb1⟩
     refine hK.out _ _ ((HBB.out.trans (bb.mono HBB.out.size)).trans (bb1.mono (HBB.out.trans (bb.mono HBB.out.size)).size)) ?_
     have hD:=D78 V1 y1 y2 y3 y4 (Bxb bb bb1) q
     rw[hmk]at hD
     exact dn hD
   have D:∀(V:World) (bb:Below W2.heap.size W2 V),G 5 #[false,true,true,true,true,true,true,false,false,false,false] (mk u14 u21 u22 u23) V:=by
    intro V bb
    refine up ?_
    simp only[hmk]
    refine wpAnyH_ready (rs:=[0,7]) (by kernel_rfl) (by simp) (ready_cons rfl (by rfl) (fun K hK=>?_) (ready_cons rfl (by rfl) (fun K hK=>?_) AllReadyH.nil))
    .have kT:=TE.out.to bb
     have k0:=kT.c0
     have k1:=kT.c1
     have k2:=kT.c2
     have k3:=kT.c3
     go_simp
     refine hK.out _ _ (HBB.out.trans (bb.mono HBB.out.size)) ?_
     have hD:=D0 V bb
     rw[hmk]at hD
     exact dn hD
    .go_simp
     refine (HYJ.out _ (HBB.out.trans (bb.mono HBB.out.size))).mono ?_
     rintro e V1 ⟨rfl,bb1⟩
     refine hK.out _ _ ((HBB.out.trans (bb.mono HBB.out.size)).trans (bb1.mono (HBB.out.trans (bb.mono HBB.out.size)).size)) ?_
     have hD:=D7 V1 (Bxb bb bb1)
     rw[hmk]at hD
     exact dn hD
   have hD:=D W2 (Below.refl _ _)
   rw[hmk]at hD
   exact hD
  .obtain rfl:j=N:=by omega
   obtain ⟨e1,e2,e3,e4,tE,qE⟩:=hT.out
   have fE:=qE.fq
   have u0:=tE.c0
   have u1:=tE.c1
   have u2:=tE.c2
   have u3:=tE.c3
   have tR:=hR.out
   have HBB:=Hd hb
   have RZ:=Hd qE
   obtain ⟨V99,eV,u,kp⟩:=pack4 tR Fq.nil e1 e2 e3 e4
   obtain ⟨⟨n1,A1,j1,m1,rfl,rfl⟩,⟨n2,A2,j2,m2,rfl,rfl⟩⟩:=fE
   obtain ⟨v0,v1,v2,v3,v4,v5,v6,v7,_⟩:=tR
   have EV:=Hd eV
   have KP:=Hd kp
   have U:=Hd u
   clear eV kp u qE hT hR tE hb hlt hj HY HM HA HX HXF HLE HFM HH
   go_wp2
   rw[EV.out]
   refine bodyPost_ret (v:=.agg #[.bool n1,.slice A1 j1 m1,.bool n2,.slice A2 j2 m2]) (by simp[results,Tryz.f26,go_sem,U.out.c0,U.out.c1,U.out.c2,U.out.c3]) rfl ?_
   exact ⟨_,_,_,_,rfl,RZ.out.k4 KP.out,KP.out.bel _ _ HBB.out (by omega)⟩
theorem sumF_zero {f:Nat->Rat}{n:Nat}(h:∀i,n<=i->f i=0):∀m,sumF f (n+m)=sumF f n
 | 0=>rfl
 | m+1=>by
  rw[show n+(m+1)=(n+m)+1 from rfl,sumF,sumF_zero h m,h _ (by omega),Rat.add_zero]
theorem rdot_v {w:World}{A A':Option Addr}{c c':Nat}{es fs:List E4}{rs ss:List Rat}{k l:Nat}(hA:Vi w A c es rs k)(hB:Vi w A' c' fs ss l)(hk:0<k)(hl:0<l)(h1:rs.length<=1000000)(h2:ss.length<=1000000)
  (hN:rs.length*(k+l+1)+1+(k+l)+1<=10000) :
  Calls Tryz.prog 26 #[.slice A rs.length c,.slice A' ss.length c'] w (QR w (dotQ rs ss)):=by
 have h:=rdot_f (c:=c) (c':=c') hA hB hk hl h1 h2 hN
 have e:dotQ rs ss=sumF (fun i=>rs.getD i 0*ss.getD i 0) rs.length:=by
  unfold dotQ
  have h2:=sumF_zero (f:=fun i=>rs.getD i 0*ss.getD i 0) (n:=rs.length) (fun i hi=>by rw[getD_ge hi,Rat.zero_mul]) (max rs.length ss.length-rs.length)
  rwa [show rs.length+(max rs.length ss.length-rs.length)=max rs.length ss.length by omega]at h2
 rw[e]
 exact h
theorem wp_append_out {P:Program}{w w':World}{a:Act}{K:Act->World->Prop}{Q:Exit->Act->World->Prop}{v u v':Value}{d:Option Tmp}{s x:Operand}{t ty:TypeId}{pos:String}{after:Array Edge}
  (hs:a.eval s=v) (hx:a.eval x=u) (hrun:(Builtin.append_ #[t,t] ty #[v,u]).run P w=.ok v' w') (h:K (a.put d v') w') :
  Oper.wp P ⟨d,.call { callee:=.builtin .append,args:=#[s,x],argTypes:=#[t,t] },ty,pos,after,none⟩ a w K Q:=by
 have h1:=step_append_out (ops:=#[]) (E:=True) (Q:=Q) (o:=⟨d,.call { callee:=.builtin .append,args:=#[s,x],argTypes:=#[t,t] },ty,pos,after,none⟩) rfl s x t rfl hs hx hrun h
 rwa [if_pos (by simp[Region.wanted])]at h1
theorem append_copy {w:World}{A:Option Addr}{c:Nat}{xs:List Nat}(h:Rd .u32 w w.heap.size A xs)(hs:xs.length<=4294967295){i:TypeInfo}(hi:Tryz.prog.info? 82=some i)(hz0:i.zero=some (.int .u32 0))(hz1:i.size=1)(hz2:i.bytes=4) :
  ∃A2 c2 w1,(Builtin.append_ #[22,22] 22 #[.slice none 0 0,.slice A xs.length c]).run Tryz.prog w=.ok (.slice A2 xs.length c2) w1 /\
   Rd .u32 w1 w1.heap.size A2 xs/\xs.length<=c2/\c2<=9223372036854775807/\Below w.heap.size w w1:=by
 cases A with
 | none =>
  have hO:xs=[]:=by
   cases xs with
   | nil=>rfl
   | cons d r=>obtain ⟨b,o,e,_⟩:=h 0 (by simp);cases e
  subst hO
  exact ⟨none,0,_,run_append_nothing _ 22 22 22 82 i Tryz.underlying22 hi _ 0 0 (Nat.le_refl _) _ (Src.ofNil _ Tryz.underlying22 c),Rd.nil,by simp,by decide,Below.refl _ _⟩
 | some a =>
  obtain ⟨v',w1,hrun,hown',hgrow,_,_⟩:=run_append_own_at (P:=Tryz.prog) w w.heap.size 22 22 82 i (.int .u32 0) 1 4
   Tryz.underlying22 hi hz0 hz1 hz2 rfl (by decide) _ 0 _ (World.ownsRow_nil w w.heap.size 82 1) a xs.length c (ints .u32 xs) (by simp[ints]) (Rd.news h (Below.refl _ _)) (by
    intro u hu
    obtain ⟨d,_,rfl⟩:=List.mem_map.1 hu
    rfl) (by unfold maxLen;omega) (by omega) (by simp)
  obtain ⟨A2,c2,rfl⟩:=own_shape hown'
  rw[Nat.zero_add]at hrun hown'
  obtain ⟨hc1,hc2⟩:=own_caps hown'
  exact ⟨A2,c2,w1,hrun,Rd.of_own (by simpa [ints]using hown') (Nat.le_refl _),hc1,hc2,(Below.refl _ _).grown hgrow (Nat.le_refl _) (fun j e=>by simp[Value.ownBlock]at e)⟩
def Zx (W:World)(x y:Value)(n:Bool)(xs:List Nat):Prop:=∃A c,x=.bool n/\y=.slice A xs.length c/\Arg W A c xs
theorem Zx.to {W V:World}{x y:Value}{n:Bool}{xs:List Nat}(h:Zx W x y n xs)(hb:Below W.heap.size W V):Zx V x y n xs:=by
 obtain ⟨A,c,h1,h2,h3⟩:=h
 exact ⟨A,c,h1,h2,h3.to hb⟩
theorem Zx.fs {W:World}{x y:Value}{n:Bool}{xs:List Nat}(h:Zx W x y n xs):Fs x y:=by
 obtain ⟨A,c,rfl,rfl,_⟩:=h
 exact ⟨_,_,_,_,rfl,rfl⟩
theorem Zx.zl {W:World}{x y:Value}{n:Bool}{xs:List Nat}(h:Zx W x y n xs)(hl:xs.length<=10000):Zl W x y (zof n (val b32 xs)):=by
 obtain ⟨A,c,rfl,rfl,h3⟩:=h
 exact ⟨n,A,c,xs,rfl,rfl,h3,hl,rfl⟩
theorem Zx.kept {g:Nat}{w V:World}(kp:Kept g w V){x y:Value}{n:Bool}{xs:List Nat}(h:Zx w x y n xs)(hr:∀A,Rd .u32 w w.heap.size A xs->Rd .u32 V V.heap.size A xs):Zx V x y n xs:=by
 obtain ⟨A,c,rfl,rfl,⟨r1,r2,r3,r4,r5⟩⟩:=h
 exact ⟨A,c,rfl,rfl,⟨hr A r1,r2,r3,r4,r5⟩⟩
theorem same_x {w:World}{x y x' y':Value}{n:Bool}{xs:List Nat}(h:Zx w x y n xs)(h':Zx w x' y' n xs):Calls Tryz.prog 59 #[.agg #[x,y],.agg #[x',y']] w fun e w'=>e=.returned (.bool true)/\Below w.heap.size w w':=by
 obtain ⟨A,c,rfl,rfl,r⟩:=h
 obtain ⟨A',c',rfl,rfl,r'⟩:=h'
 have h:=same_any n n r.rd r'.rd r.le r.cap r'.le r'.cap
 rw[decide_eq_true ⟨rfl,rfl⟩]at h
 exact h
theorem val_inj {b:Nat}(hb:0<b):∀{xs ys:List Nat},Dg b xs->Dg b ys->xs.length=ys.length->val b xs=val b ys->xs=ys
 | [],[],_,_,_,_=>rfl
 | [],_::_,_,_,h,_=>by simp at h
 | _::_,[],_,_,h,_=>by simp at h
 | d::r,e::s,hx,hy,hl,hv=>by
  have h1:=hx d (by simp)
  have h2:=hy e (by simp)
  simp only[val]at hv
  have hd:d=e:=by
   have:=congrArg (· % b) hv
   simpa [Nat.add_mul_mod_self_left,Nat.mod_eq_of_lt h1,Nat.mod_eq_of_lt h2]using this
  subst hd
  have hv2:b*val b r=b*val b s:=by omega
  rw[val_inj hb (fun q hq=>hx q (by simp[hq])) (fun q hq=>hy q (by simp[hq])) (by simpa using hl) (Nat.eq_of_mul_eq_mul_left hb hv2)]
theorem Kept.arg {g:Nat}{w V:World}(kp:Kept g w V){A:Option Addr}{c:Nat}{xs:List Nat}(h:Arg w A c xs):Arg V A c xs:=by
 obtain ⟨n,A',c',xs',e1,e2,h3,h4⟩:=kp.zi _ _ _ ⟨false,A,c,xs,rfl,rfl,h,rfl⟩
 injection e1 with e1
 injection e2 with e2 e3 e4
 subst e1 e2 e4
 have:xs=xs':=val_inj (by decide) h.dg h3.dg e3 (by have h5:=h4.symm;simp only[zof,Bool.false_eq_true,if_false]at h5;omega)
 subst this
 exact h3
theorem own_any (n:Bool){A:Option Addr}{c:Nat}{xs:List Nat}{w:World}(hx:Arg w A c xs)(sx:xs.length<=10000) :
  Calls Tryz.prog 70 #[.agg #[.bool n,.slice A xs.length c]] w fun e w'=>∃x y,e=.returned (.agg #[x,y])/\Zx w' x y n xs/\Below w.heap.size w w':=by
 obtain ⟨W0,hW0⟩:∃W0,W0=((w.alloc (.cells #[.bool n,.slice A xs.length c] 24)).alloc (.cells #[.bool false,.slice none 0 0] 24)):=⟨_,rfl⟩
 have hb:Below w.heap.size w W0:=by rw[hW0];exact ((Below.refl _ _).alloc (Nat.le_refl _) _).alloc (by simp) _
 have tX:Two W0 (w.heap.size) (.bool n) (.slice A xs.length c):=by
  have h:=Two.new w (.bool n) (.slice A xs.length c) 24
  rw[hW0];exact h.alloc _
 have tR:Two W0 (w.heap.size+1) (.bool false) (.slice none 0 0):=by
  have h:=Two.new (w.alloc (.cells #[.bool n,.slice A xs.length c] 24)) (.bool false) (.slice none 0 0) 24
  rw[World.size_alloc]at h
  rw[hW0];exact h
 have HW0:=Hd hW0
 have HB0:=Hd hb
 have HX:=Hd hx
 have hBW:w.heap.size+1<=W0.heap.size:=by rw[hW0];simp
 have Dsx:val b32 xs<b16 ^ (2*xs.length):=by rw[<-pow_2k];exact val_lt hx.dg
 clear hW0 hb hx
 obtain ⟨i0,hi,hz0,hz1,hz2⟩:=info_parts infoWord
 go_enter Tryz.func70,Tryz.ntmps70
 go_wp2_with fail
 rw[<-HW0.out]
 refine wp_region_plan (S:=fun w'=>Below (w.heap.size+1) W0 w') [(0,true),(1,true),(2,true),(3,true),(4,false),(5,true),(6,false)] (by kernel_rfl) (by kernel_rfl) (Below.refl _ _).drew ?_
 have HB:=(Below.refl W0.heap.size W0).drew
 repeat (refine plan_take (v:=?_) rfl (by rfl) ?_ ?_;rotate_left;(focus (intro w' hS;have k0:=(tX.toB hS (by omega)).c0;have k1:=(tX.toB hS (by omega)).c1;go_simp;try with_reducible rfl));simp only[Act.put,List.setIfInBounds_toArray,List.set_cons_zero,List.set_cons_succ])
 have AC:=append_copy (c:=c) (HX.out.to (HB0.out.trans (HB.mono HB0.out.size))).rd HX.out.small hi hz0 hz1 hz2
 obtain ⟨A2,c2,w1,hrun,r1,l1,m1,bb⟩:=AC
 refine plan_call rfl (by rfl) (fun K hK=>?_)
 refine wp_append_out (by rfl) (by rfl) hrun ?_
 have hx1:Arg w1 A2 c2 xs:=⟨r1,HX.out.dg,l1,m1,HX.out.small⟩
 replace HB:=Bxb HB bb
 refine hK.out _ _ (HB.mono hBW) ?_
 clear hK K hrun r1 l1 m1 bb
 simp only[Act.put,List.setIfInBounds_toArray,List.set_cons_zero,List.set_cons_succ]
 repeat (refine plan_take (v:=?_) rfl (by rfl) ?_ ?_;rotate_left;(focus (intro w' hS;have k0:=(tX.toB hS (by omega)).c0;have k1:=(tX.toB hS (by omega)).c1;go_simp;try with_reducible rfl));simp only[Act.put,List.setIfInBounds_toArray,List.set_cons_zero,List.set_cons_succ])
 refine plan_call rfl (by rfl) (fun K hK=>?_)
 refine wp_store_two (by rfl) (by rfl) (tR.to HB) Fs.nil ⟨_,_,_,_,rfl,rfl⟩ (fun V u kp=>?_)
 have HF:Arg V A2 c2 xs:=kp.arg hx1
 have HE:=kp.bel _ _ (HB0.out.trans (HB.mono HB0.out.size)) (by omega)
 refine hK.out _ _ (kp.bel _ _ (HB.mono hBW) (Nat.le_refl _)) ?_
 clear hK K kp
 simp only[Act.put,List.setIfInBounds_toArray,List.set_cons_zero,List.set_cons_succ]
 refine plan_done ?_
 have HF2:=Hd HF
 have HE2:=Hd HE
 clear HF HE
 go_wp2
 exact bodyPost_ret (v:=.agg #[.bool n,.slice A2 xs.length c2]) (by simp[results,Tryz.f70,go_sem,u.c0,u.c1]) rfl ⟨_,_,rfl,⟨A2,c2,rfl,rfl,HF2.out⟩,HE2.out⟩
def Qx (W:World)(a b c d:Value)(n:Bool)(xs:List Nat)(m:Bool)(ys:List Nat):Prop:=Zx W a b n xs/\Zx W c d m ys
theorem Qx.to {W V:World}{a b c d:Value}{n m:Bool}{xs ys:List Nat}(h:Qx W a b c d n xs m ys)(hb:Below W.heap.size W V):Qx V a b c d n xs m ys:=⟨h.1.to hb,h.2.to hb⟩
theorem Qx.qi {W:World}{a b c d:Value}{n m:Bool}{xs ys:List Nat}{k:Nat}(h:Qx W a b c d n xs m ys)(h1:xs.length<=k)(h2:ys.length<=k)(hk:k<=10000):Qi W a b c d (rv (zof n (val b32 xs)) (zof m (val b32 ys))) k:=by
 have z1:=h.1.zl (by omega)
 have z2:=h.2.zl (by omega)
 obtain ⟨⟨A,c,_,_,r1⟩,⟨B,d,_,_,r2⟩⟩:=h
 exact ⟨_,_,z1,z2,rfl,Sm.zof r1.dg h1,Sm.zof r2.dg h2⟩
theorem Qx.fq {W:World}{a b c d:Value}{n m:Bool}{xs ys:List Nat}(h:Qx W a b c d n xs m ys):Fq a b c d:=⟨h.1.fs,h.2.fs⟩
theorem own_x {w:World}{x y:Value}{n:Bool}{xs:List Nat}(h:Zx w x y n xs)(sx:xs.length<=10000):Calls Tryz.prog 70 #[.agg #[x,y]] w fun e w'=>∃x y,e=.returned (.agg #[x,y])/\Zx w' x y n xs/\Below w.heap.size w w':=by
 obtain ⟨A,c,rfl,rfl,hx⟩:=h
 exact own_any n hx sx
theorem kpZx {g:Nat}{w V:World}(kp:KeptG g w V){x y:Value}{n:Bool}{xs:List Nat}(h:Zx w x y n xs):Zx V x y n xs:=by
 obtain ⟨A,c,rfl,rfl,⟨r1,r2,r3,r4,r5⟩⟩:=h
 exact ⟨A,c,rfl,rfl,⟨kp.rd _ _ r1,r2,r3,r4,r5⟩⟩
theorem kpQx {g:Nat}{w V:World}(kp:KeptG g w V){a b c d:Value}{n m:Bool}{xs ys:List Nat}(h:Qx w a b c d n xs m ys):Qx V a b c d n xs m ys:=⟨kpZx kp h.1,kpZx kp h.2⟩
theorem own_q {w:World}{a1 a2 a3 a4:Value}{n m:Bool}{xs ys:List Nat}(h:Qx w a1 a2 a3 a4 n xs m ys)(l1:xs.length<=10000)(l2:ys.length<=10000) :
  Calls Tryz.prog 50 #[.agg #[a1,a2,a3,a4]] w (fun e w'=>∃a b c d,e=.returned (.agg #[a,b,c,d])/\Qx w' a b c d n xs m ys/\Below w.heap.size w w'):=by
 have h1:=h.1
 have h2:=h.2
 clear h
 obtain ⟨W0,hW0⟩:∃W0,W0=(w.alloc (.cells #[a1,a2,a3,a4] 26)).alloc (.cells #[.bool false,.slice none 0 0,.bool false,.slice none 0 0] 26):=⟨_,rfl⟩
 have hbw:Below w.heap.size w W0:=by rw[hW0];exact (((Below.refl _ _).alloc (Nat.le_refl _) _).alloc (by simp) _)
 have tA:Four W0 (w.heap.size) a1 a2 a3 a4:=by
  have h:=Four.new w a1 a2 a3 a4 26
  rw[hW0];exact (h.alloc _)
 have tR:Four W0 (w.heap.size+1) (.bool false) (.slice none 0 0) (.bool false) (.slice none 0 0):=by
  have h:=Four.new (w.alloc (.cells #[a1,a2,a3,a4] 26)) (.bool false) (.slice none 0 0) (.bool false) (.slice none 0 0) 26
  rw[World.size_alloc]at h
  rw[hW0];exact h
 replace h1:=h1.to hbw
 replace h2:=h2.to hbw
 have HW0:=Hd hW0
 have HB:=Hd hbw
 clear hW0 hbw
 go_enter Tryz.func50,Tryz.ntmps50
 go_wp2_with fail
 rw[<-HW0.out]
 clear HW0
 refine wp_region_plan (S:=fun w'=>Below w.heap.size w w'/\Four w' (w.heap.size) a1 a2 a3 a4) [(0,true),(1,true),(3,true),(4,true),(2,false),(5,false),(6,true),(7,false)] (by kernel_rfl) (by kernel_rfl) ⟨HB.out.drew,tA.to (Below.refl _ _).drew⟩ ?_
 have hb:=HB.out.drew
 replace tA:=tA.to (Below.refl _ _).drew
 replace tR:=tR.to (Below.refl _ _).drew
 replace h1:=h1.to (Below.refl _ _).drew
 replace h2:=h2.to (Below.refl _ _).drew
 clear HB
 refine plan_take (v:=?_) rfl (by rfl) ?_ ?_;rotate_left;(focus (intro w' hS;go_simp;try with_reducible rfl))
 refine plan_take (v:=?_) rfl (by rfl) ?_ ?_;rotate_left;(focus (intro w' hS;have k00:=(hS.2).c0;have k01:=(hS.2).c1;have k02:=(hS.2).c2;have k03:=(hS.2).c3;go_simp;try with_reducible rfl))
 refine plan_take (v:=?_) rfl (by rfl) ?_ ?_;rotate_left;(focus (intro w' hS;go_simp;try with_reducible rfl))
 refine plan_take (v:=?_) rfl (by rfl) ?_ ?_;rotate_left;(focus (intro w' hS;have k00:=(hS.2).c0;have k01:=(hS.2).c1;have k02:=(hS.2).c2;have k03:=(hS.2).c3;go_simp;try with_reducible rfl))
 refine plan_call rfl (by rfl) (fun K hK=>?_)
 go_simp
 refine (own_x h1 l1).mono ?_
 rintro e V1 ⟨x1,y1,rfl,z1,bb⟩
 replace hb:=Bxb hb bb
 replace tA:=tA.to bb
 replace tR:=tR.to bb
 replace h2:=h2.to bb
 refine hK.out _ _ ⟨hb,tA⟩ ?_
 clear hK K bb
 refine plan_call rfl (by rfl) (fun K hK=>?_)
 go_simp
 refine (own_x h2 l2).mono ?_
 rintro e V2 ⟨x2,y2,rfl,z2,bb⟩
 replace hb:=Bxb hb bb
 replace tA:=tA.to bb
 replace tR:=tR.to bb
 replace z1:=z1.to bb
 refine hK.out _ _ ⟨hb,tA⟩ ?_
 clear hK K bb
 refine plan_take (v:=?_) rfl (by rfl) ?_ ?_;rotate_left;(focus (intro w' hS;go_simp;try with_reducible rfl))
 refine plan_call rfl (by rfl) (fun K hK=>?_)
 have rq:Qx _ _ _ _ _ n xs m ys:=⟨z1,z2⟩
 refine wp_store_q (by rfl) (by rfl) tR Fq.nil rq.fq (fun V u kp=>?_)
 replace tA:=kp.four (by omega) tA
 replace hb:=kp.bel _ _ hb (by omega)
 replace rq:=kpQx kp rq
 refine hK.out _ _ ⟨hb,tA⟩ ?_
 clear hK K kp tR tA
 refine plan_done ?_
 have U0:=u.c0
 have U1:=u.c1
 have U2:=u.c2
 have U3:=u.c3
 have RZ:=Hd rq
 have HE:=Hd hb
 clear rq hb u
 go_wp2
 refine bodyPost_ret (v:=.agg #[x1,y1,x2,y2]) (by simp[results,Tryz.f50,go_sem,U0,U1,U2,U3]) rfl ?_
 exact ⟨_,_,_,_,rfl,RZ.out,HE.out⟩
theorem is_x {w:World}{a1 a2 a3 a4 b1 b2 b3 b4:Value}{n m:Bool}{xs ys:List Nat}(hA:Qx w a1 a2 a3 a4 n xs m ys)(hB:Qx w b1 b2 b3 b4 n xs m ys) :
  Calls Tryz.prog 24 #[.agg #[a1,a2,a3,a4],.agg #[b1,b2,b3,b4]] w (fun e w'=>e=.returned (.bool true)/\Below w.heap.size w w'):=by
 obtain ⟨W0,hW0⟩:∃W0,W0=(w.alloc (.cells #[a1,a2,a3,a4] 26)).alloc (.cells #[b1,b2,b3,b4] 26):=⟨_,rfl⟩
 have hbw:Below w.heap.size w W0:=by rw[hW0];exact (((Below.refl _ _).alloc (Nat.le_refl _) _).alloc (by simp) _)
 have tA:Four W0 (w.heap.size) a1 a2 a3 a4:=by
  have h:=Four.new w a1 a2 a3 a4 26
  rw[hW0];exact (h.alloc _)
 have tB:Four W0 (w.heap.size+1) b1 b2 b3 b4:=by
  have h:=Four.new (w.alloc (.cells #[a1,a2,a3,a4] 26)) b1 b2 b3 b4 26
  rw[World.size_alloc]at h
  rw[hW0];exact h
 replace hA:=hA.to hbw
 replace hB:=hB.to hbw
 have HW0:=Hd hW0
 have HB:=Hd hbw
 clear hW0 hbw
 go_enter Tryz.func24,Tryz.ntmps24
 go_wp2_with fail
 rw[<-HW0.out]
 clear HW0
 have kktA0:=tA.c0
 have kktA1:=tA.c1
 have kktA2:=tA.c2
 have kktA3:=tA.c3
 have kktB0:=tB.c0
 have kktB1:=tB.c1
 have kktB2:=tB.c2
 have kktB3:=tB.c3
 go_wp2_with fail
 refine (same_x hA.1 hB.1).mono ?_
 rintro e V1 ⟨rfl,bb⟩
 clear kktA0 kktA1 kktA2 kktA3 kktB0 kktB1 kktB2 kktB3
 replace tA:=tA.to bb
 replace tB:=tB.to bb
 replace hA:=hA.to bb
 replace hB:=hB.to bb
 replace HB:=Hxb HB bb
 clear bb
 have kktA0:=tA.c0
 have kktA1:=tA.c1
 have kktA2:=tA.c2
 have kktA3:=tA.c3
 have kktB0:=tB.c0
 have kktB1:=tB.c1
 have kktB2:=tB.c2
 have kktB3:=tB.c3
 go_wp2_with fail
 refine (same_x hA.2 hB.2).mono ?_
 rintro e V2 ⟨rfl,bb⟩
 clear kktA0 kktA1 kktA2 kktA3 kktB0 kktB1 kktB2 kktB3
 replace tA:=tA.to bb
 replace tB:=tB.to bb
 replace HB:=Hxb HB bb
 clear bb
 clear tA tB
 go_wp2
 go_ret
 exact ⟨rfl,HB.out⟩
def errD (s:Rat):Int:=if s=0 then 7 else 0
def QE (w:World)(r:Rat)(v:Int)(e:Ending)(w':World):Prop:=∃x1 x2 x3 x4,e=.returned (.tuple #[.agg #[x1,x2,x3,x4],.int .i64 v])/\Qc w' x1 x2 x3 x4 r/\Below w.heap.size w w'
structure W4 where
 n:Bool
 xs:List Nat
 m:Bool
 ys:List Nat
instance : Inhabited W4:=⟨⟨false,[],false,[]⟩⟩
def Ex (W:World)(e:E4)(u:W4):Prop:=Qx W e.a e.b e.c e.d u.n u.xs u.m u.ys
theorem Kw.zx {W V:World}(k:Kw W V){x y:Value}{n:Bool}{xs:List Nat}(h:Zx W x y n xs):Zx V x y n xs:=by
 obtain ⟨A,c,h1,h2,⟨r1,r2,r3,r4,r5⟩⟩:=h
 exact ⟨A,c,h1,h2,⟨k.rd r1,r2,r3,r4,r5⟩⟩
theorem Kw.ex {W V:World}(k:Kw W V){e:E4}{u:W4}(h:Ex W e u):Ex V e u:=⟨k.zx h.1,k.zx h.2⟩
structure Vx (W:World)(A:Option Addr)(c:Nat)(es:List E4)(u:Nat->W4):Prop where
 row:Rq W W.heap.size A es
 el:∀i,i<es.length->Ex W (es.getD i E4.z) (u i)/\(u i).xs.length<=6/\(u i).ys.length<=6
 fq:∀e∈es,e.fq
 cap:es.length<=c
 c63:c<=9223372036854775807
 le:es.length<=20
theorem Vx.to {W V:World}{A:Option Addr}{c:Nat}{es:List E4}{u:Nat->W4}(h:Vx W A c es u)(hb:Below W.heap.size W V):Vx V A c es u :=
 ⟨h.row.to hb,fun i hi=>⟨(h.el i hi).1.to hb,(h.el i hi).2⟩,h.fq,h.cap,h.c63,h.le⟩
def W4.q (u:W4):Rat:=rv (zof u.n (val b32 u.xs)) (zof u.m (val b32 u.ys))
def ratsW (u:Nat->W4)(N:Nat):List Rat:=(List.range N).map fun i=>(u i).q
theorem ratsW_length (u:Nat->W4)(N:Nat):(ratsW u N).length=N:=by simp[ratsW]
theorem Vx.vi {W:World}{A:Option Addr}{c:Nat}{es:List E4}{u:Nat->W4}(h:Vx W A c es u):Vi W A c es (ratsW u es.length) 6:=by
 refine ⟨h.row,(ratsW_length _ _).symm,fun i=>?_,h.fq,h.cap,h.c63⟩
 by_cases hi:i<es.length
 .obtain ⟨h1,h2,h3⟩:=h.el i hi
  rw[show (ratsW u es.length).getD i 0=(u i).q from by simp[ratsW,List.getD,hi]]
  exact Qx.qi h1 h2 h3 (by decide)
 .rw[getD_ge (l:=ratsW u es.length) (by rw[ratsW_length];omega),getD_ge (l:=es) (by omega)]
  exact Qi.zero W
theorem VIn.vx {w:World}{v:VA}(h:VIn w v)(hl:lngV v.es=false):∃u,Vx w v.A v.c v.es u:=by
 obtain ⟨A,c,es⟩:=v
 obtain ⟨hrow,hel,hcap,hc63⟩:=h
 dsimp only at hrow hel hcap hc63 hl ⊢
 unfold lngV at hl
 simp only[Bool.or_eq_false_iff,decide_eq_false_iff_not,List.any_eq_false]at hl
 have key:∀i,i<es.length->∃u:W4,Ex w (es.getD i E4.z) u/\u.xs.length<=6/\u.ys.length<=6:=fun i hi=>by
  rw[getD_at' hi]
  have he:=List.getElem_mem hi
  have h1:=hl.2 _ he
  obtain ⟨⟨n,A1,d1,xs,f1,f2,r1,g1,l1,m1⟩,⟨m,A2,d2,ys,f3,f4,r2,g2,l2,m2⟩⟩:=hel _ he
  unfold lngE at h1
  simp only[f2,f4,vlen,Bool.or_eq_true,decide_eq_true_eq,not_or]at h1
  have a1:Arg w A1 d1 xs:=⟨r1,g1,l1,m1,by omega⟩
  have a2:Arg w A2 d2 ys:=⟨r2,g2,l2,m2,by omega⟩
  exact ⟨⟨n,xs,m,ys⟩,⟨⟨A1,d1,f1,f2,a1⟩,⟨A2,d2,f3,f4,a2⟩⟩,by show xs.length<=6;omega,by show ys.length<=6;omega⟩
 obtain ⟨u,hu⟩:=Go.Deep.choose_lt key
 exact ⟨u,hrow,hu,fun e he=>(hel e he).fq,hcap,hc63,by omega⟩
theorem vis_x {w:World}{A A':Option Addr}{c c':Nat}{es fs:List E4}{u:Nat->W4}(hA:Vx w A c es u)(hB:Vx w A' c' fs u)(hl:es.length=fs.length) :
  Calls Tryz.prog 15 #[.slice A es.length c,.slice A' fs.length c'] w fun e w'=>e=.returned (.bool true)/\Below w.heap.size w w':=by
 rw[<-hl]
 exact is3_f (b:=fun _=>true) hA.row hB.row rfl hl.symm (by have:=hA.le;omega) (fun V hV i hi=>is_x ((hA.el i hi).1.to hV) ((hB.el i (by omega)).1.to hV)) (by simp)
theorem own3_x {w:World}{A:Option Addr}{c:Nat}{es:List E4}{u:Nat->W4}(h:Vx w A c es u) :
  Calls Tryz.prog 14 #[.slice A es.length c] w fun e w'=>∃A' c' fs,e=.returned (.slice A' es.length c')/\fs.length=es.length/\Vx w' A' c' fs u/\Below w.heap.size w w':=by
 have H:=Hd h
 have HO:=Hd (fun (V:World) (hV:Below w.heap.size w V) i hi=>own_q ((h.el i hi).1.to hV) (by have:=(h.el i hi).2.1;omega) (by have:=(h.el i hi).2.2;omega))
 obtain ⟨N,hN⟩:∃N,es.length=N:=⟨_,rfl⟩
 have HNN:=Hd hN
 have hN2:=h.le
 rw[hN]at hN2 HO ⊢
 have HL:=Hd hN2
 clear h hN hN2
 go_enter Tryz.func14,Tryz.ntmps14
 go_wp2
 go_loopw [3,4] (fun v i wr=>∃(k:Nat) (A1:Option Addr) (c1:Nat),v=.slice A1 k c1/\i=.int .i64 k/\k<=N/\Hid (TotP (fun W i e=>Ex W e (u i)) wr (.slice A1 k c1) k w.heap.size)/\Below w.heap.size w wr) (fun _ i _=>N-(intOf i).toNat)
 case atStart=>exact ⟨0,none,0,rfl,rfl,Nat.zero_le _,.inl ⟨rfl,rfl⟩,Below.refl _ _⟩
 case round =>
  obtain ⟨k,A1,c1,rfl,rfl,hk,hT,hb⟩:=hrel
  by_cases hlt:k<N
  .have hk1:(0:Int)<=(k:Int):=by omega
   have hk2:(k:Int)<(N:Int):=by omega
   have hk3:(k:Int)+1<=9223372036854775807:=by have:=HL.out;omega
   have hkn:k<es.length:=by have:=HNN.out;omega
   have HC:=Hd (HO.out wr hb k hlt)
   obtain ⟨b,o,ha,hb1,f0,f1,f2,f3⟩:=H.out.row k hkn
   rw[getD_at' hkn]at HC
   replace f0:=(hb.cell (p:=⟨b,_,none⟩) hb1).trans f0
   replace f1:=(hb.cell (p:=⟨b,_,none⟩) hb1).trans f1
   replace f2:=(hb.cell (p:=⟨b,_,none⟩) hb1).trans f2
   replace f3:=(hb.cell (p:=⟨b,_,none⟩) hb1).trans f3
   generalize es[k]=X at HC f0 f1 f2 f3
   obtain ⟨x1,x2,x3,x4⟩:=X
   dsimp only at f0 f1 f2 f3 HC
   have HB:=Hd hb
   have HLT:=Hd hlt
   clear hb hkn hlt hb1 HO H HNN
   subst ha
   go_wp2_with fail
   refine HC.out.mono ?_
   rintro e V ⟨y1,y2,y3,y4,rfl,q,bb⟩
   have bb2:Below V.heap.size V (V.alloc (.cells #[y1,y2,y3,y4] 26)):=(Below.refl _ _).alloc (Nat.le_refl _) _
   have c5:=(Hp.new V #[y1,y2,y3,y4] 26).four
   have hB1:=HB.out.trans (bb.mono HB.out.size)
   have hB2:=Bxb hB1 bb2
   have hT1:TotP (fun W i e=>Ex W e (u i)) (V.alloc (.cells #[y1,y2,y3,y4] 26)) (.slice A1 k c1) k w.heap.size:=by
    have h1:=TotP.mv (P:=fun W i e=>Ex W e (u i)) (fun k h=>k.ex h) hT.out bb
    exact TotP.mv (P:=fun W i e=>Ex W e (u i)) (fun k h=>k.ex h) h1 bb2
   obtain ⟨v',X,hrun,hT2,hbel⟩:=papp (P:=fun W i e=>Ex W e (u i)) (fun k h=>k.ex h) hT1 hB2.size (by have:=HL.out;have:=HLT.out;omega) (e:=⟨y1,y2,y3,y4⟩) q.fq (q.to bb2) (a:=⟨V.heap.size,0,none⟩) (c:=1) c5.c0 c5.c1 c5.c2 c5.c3 27
   obtain ⟨A2,c2,rfl⟩:=hT2.sl
   have HRUN:=Hd hrun
   have HE:Hid (TotP (fun W i e=>Ex W e (u i)) X (.slice A2 (k+1) c2) (k+1) w.heap.size/\Below w.heap.size w X):=⟨hT2,hB2.trans hbel⟩
   clear bb2 c5 hbel hrun bb q hT1 hT2 hB1 hB2 HC
   go_wp2_with (at_builtin;refine wpList_append_run rfl (.tmp 11) (.tmp 17) 27 rfl (by rfl) (by rfl) HRUN.out ?_;clear HRUN)
   go_roundw
   case rel=>exact ⟨k+1,A2,c2,rfl,by simp,HLT.out,HE.out.1,HE.out.2⟩
   case measure=>have:=HLT.out;simp[intOf];omega
  .obtain rfl:k=N:=by omega
   have HB:=Hd hb
   have HQ:Hid (∀i,i<k->(u i).xs.length<=6/\(u i).ys.length<=6):=fun i hi=>(H.out.el i (by have:=HNN.out;omega)).2
   clear hb hlt H HO
   go_wp2
   go_ret
   rcases hT.out with ⟨h0,h1⟩|⟨g,cap,fl,h1,hg,h2,h3,h4,h5,h6,h7⟩
   .cases h1
    exact ⟨none,0,[],rfl,rfl,⟨Rq.nil,(fun i hi=>by cases hi),(fun e he=>by cases he),by decide,by decide,by decide⟩,HB.out⟩
   .cases h1
    have hlen:(fl.take k).length=k:=by rw[List.length_take];omega
    refine ⟨_,_,fl.take k,rfl,hlen,⟨h2.rq _,fun i hi=>?_,fun e he=>h2.fq e (List.mem_of_mem_take he),by rw[hlen];exact h4,h5,by rw[hlen];exact HL.out⟩,HB.out⟩
    rw[hlen]at hi
    rw[show (fl.take k).getD i E4.z=fl.getD i E4.z from by simp[List.getD,List.getElem?_take,hi]]
    exact ⟨h6 i hi,HQ.out i hi⟩
theorem qlongk {n1 n2:Nat}{b1 b2:Bool}{A1 A2:Option Addr}{c1 c2:Nat}{V:World}{g:Nat}(h1:n1<=9223372036854775807)(h2:n2<=9223372036854775807)
  (h:V.heap[g]?=some (.cells #[.bool b1,.slice A1 n1 c1,.bool b2,.slice A2 n2 c2] 26 (0,0))) {r:Bool} (hr:([(n1,n2)].any fun p=>decide (6<p.1)||decide (6<p.2))=r) :
  Calls Tryz.prog 12 #[.slice (some ⟨g,0,none⟩) 1 1] V fun e w'=>e=.returned (.bool r)/\Below V.heap.size V w':=by
 have hg:g<V.heap.size:=(Array.getElem?_eq_some_iff.1 h).1
 exact flong_o g 0 (some ⟨g,0,none⟩) [(n1,n2)] 1 V (fun _ _=>⟨rfl,hg⟩) (fun k hk=>by
  match k,hk with
  | 0,_=>exact ⟨b1,A1,c1,b2,A2,c2,by simp[World.cell?,h],by simp[World.cell?,h],by simp[World.cell?,h],by simp[World.cell?,h]⟩) (fun k hk=>by
  match k,hk with
  | 0,_=>exact ⟨h1,h2⟩) (by simp) hr
theorem vmatch_long {A1 A2:Option Addr}{c1 c2:Nat}{es1 es2:List E4}{k1 k2 k3 k4:Value}{w:World}(v1:VIn w ⟨A1,c1,es1⟩)(v2:VIn w ⟨A2,c2,es2⟩)(hlng:([⟨A1,c1,es1⟩,⟨A2,c2,es2⟩]:List VA).any (fun v=>lngV v.es)=true) :
  Calls Tryz.prog 3 #[.agg #[k1,k2,k3,k4],.slice A1 es1.length c1,.slice A2 es2.length c2] w fun e w'=>e=.returned (.bool true)/\Below w.heap.size w w':=by
 obtain ⟨W0,hW0⟩:∃W0,W0=(w.alloc (.cells #[k1,k2,k3,k4] 26)).alloc (.cells #[.slice A1 es1.length c1,.slice A2 es2.length c2] 27):=⟨_,rfl⟩
 have hbw:Below w.heap.size w W0:=by rw[hW0];exact ((Below.refl _ _).alloc (Nat.le_refl _) _).alloc (by simp) _
 have tK:Four W0 w.heap.size k1 k2 k3 k4:=by rw[hW0];exact (Four.new w _ _ _ _ _).alloc _
 have hp:Hp W0 (w.heap.size+1) (.cells #[.slice A1 es1.length c1,.slice A2 es2.length c2] 27 (0,0)):=by
  have h:=Hp.new (w.alloc (.cells #[k1,k2,k3,k4] 26)) #[.slice A1 es1.length c1,.slice A2 es2.length c2] 27
  rw[World.size_alloc]at h
  rw[hW0];exact h
 have HL:=Hd (vlong_o (some ⟨w.heap.size+1,0,none⟩) [⟨A1,c1,es1⟩,⟨A2,c2,es2⟩] 2 W0 (fun i hi=>by
  match i,hi with
  | 0,_=>exact ⟨_,_,rfl,hp.lt,(hp.cellAt _).trans rfl⟩
  | 1,_=>exact ⟨_,_,rfl,hp.lt,(hp.cellAt _).trans rfl⟩) (fun v hv=>by
  simp only[List.mem_cons,List.not_mem_nil,or_false]at hv
  rcases hv with rfl|rfl
  .exact v1.to hbw
  .exact v2.to hbw) (by simp) (r:=true) (by simpa using hlng))
 have HW0:=Hd hW0
 have HB:=Hd hbw
 clear hW0 hbw hp hlng v1 v2
 go_enter Tryz.func3,Tryz.ntmps3
 go_wp2_with fail
 rw[<-HW0.out]
 refine HL.out.mono ?_
 rintro e W1 ⟨rfl,bb⟩
 replace tK:=tK.to bb
 replace HB:=Hxb HB bb
 clear bb tK
 go_wp2_with fail
 refine (valive_any _).mono ?_
 rintro e W4 ⟨rfl,bb⟩
 replace HB:=Hxb HB bb
 clear bb
 go_wp2
 go_ret
 exact ⟨rfl,HB.out⟩
theorem vmatch_longk {A1 A2:Option Addr}{c1 c2:Nat}{es1 es2:List E4}{k1 k2 k3 k4:Value}{w:World}(v1:VIn w ⟨A1,c1,es1⟩)(v2:VIn w ⟨A2,c2,es2⟩)(hlng:([⟨A1,c1,es1⟩,⟨A2,c2,es2⟩]:List VA).any (fun v=>lngV v.es)=false)(hL:∀(V:World) (g:Nat),V.heap[g]?=some (.cells #[k1,k2,k3,k4] 26 (0,0))->Calls Tryz.prog 12 #[.slice (some ⟨g,0,none⟩) 1 1] V fun e w'=>e=.returned (.bool true)/\Below V.heap.size V w')  :
  Calls Tryz.prog 3 #[.agg #[k1,k2,k3,k4],.slice A1 es1.length c1,.slice A2 es2.length c2] w fun e w'=>e=.returned (.bool true)/\Below w.heap.size w w':=by
 obtain ⟨W0,hW0⟩:∃W0,W0=(w.alloc (.cells #[k1,k2,k3,k4] 26)).alloc (.cells #[.slice A1 es1.length c1,.slice A2 es2.length c2] 27):=⟨_,rfl⟩
 have hbw:Below w.heap.size w W0:=by rw[hW0];exact ((Below.refl _ _).alloc (Nat.le_refl _) _).alloc (by simp) _
 have tK:Four W0 w.heap.size k1 k2 k3 k4:=by rw[hW0];exact (Four.new w _ _ _ _ _).alloc _
 have hp:Hp W0 (w.heap.size+1) (.cells #[.slice A1 es1.length c1,.slice A2 es2.length c2] 27 (0,0)):=by
  have h:=Hp.new (w.alloc (.cells #[k1,k2,k3,k4] 26)) #[.slice A1 es1.length c1,.slice A2 es2.length c2] 27
  rw[World.size_alloc]at h
  rw[hW0];exact h
 have HL:=Hd (vlong_o (some ⟨w.heap.size+1,0,none⟩) [⟨A1,c1,es1⟩,⟨A2,c2,es2⟩] 2 W0 (fun i hi=>by
  match i,hi with
  | 0,_=>exact ⟨_,_,rfl,hp.lt,(hp.cellAt _).trans rfl⟩
  | 1,_=>exact ⟨_,_,rfl,hp.lt,(hp.cellAt _).trans rfl⟩) (fun v hv=>by
  simp only[List.mem_cons,List.not_mem_nil,or_false]at hv
  rcases hv with rfl|rfl
  .exact v1.to hbw
  .exact v2.to hbw) (by simp) (r:=false) (by simpa using hlng))
 have HW0:=Hd hW0
 have HB:=Hd hbw
 clear hW0 hbw hp hlng v1 v2
 go_enter Tryz.func3,Tryz.ntmps3
 go_wp2_with fail
 rw[<-HW0.out]
 refine HL.out.mono ?_
 rintro e W1 ⟨rfl,bb⟩
 replace tK:=tK.to bb
 replace HB:=Hxb HB bb
 clear bb
 have q0:=tK.c0
 have q1:=tK.c1
 have q2:=tK.c2
 have q3:=tK.c3
 go_wp2_with fail
 obtain ⟨W2,hW2⟩:∃W,W=W1.alloc (.cells #[k1,k2,k3,k4] 26):=⟨_,rfl⟩
 have bb:Below W1.heap.size W1 W2:=by rw[hW2];exact (Below.refl _ _).alloc (Nat.le_refl _) _
 have HM:=Hd (hL W2 W1.heap.size (by rw[hW2];exact World.alloc_heap_new W1 _))
 rw[<-hW2]
 clear hW2 hL q0 q1 q2 q3
 replace HB:=Hxb HB bb
 clear bb tK
 refine HM.out.mono ?_
 rintro e W3 ⟨rfl,bb⟩
 replace HB:=Hxb HB bb
 clear bb HM
 go_wp2_with fail
 refine (valive_any _).mono ?_
 rintro e W4 ⟨rfl,bb⟩
 replace HB:=Hxb HB bb
 clear bb
 go_wp2
 go_ret
 exact ⟨rfl,HB.out⟩
theorem vmatch_core {A1 A2:Option Addr}{c1 c2:Nat}{es1 es2:List E4}{k1 k2 k3 k4:Value}{u1 u2:Nat->W4}{k:Rat}{w:World}(v1:VIn w ⟨A1,c1,es1⟩)(v2:VIn w ⟨A2,c2,es2⟩)(hlng:([⟨A1,c1,es1⟩,⟨A2,c2,es2⟩]:List VA).any (fun v=>lngV v.es)=false)(vA:Vx w A1 c1 es1 u1)(vB:Vx w A2 c2 es2 u2)(hK:Qi w k1 k2 k3 k4 k 6)(hL:∀(V:World) (g:Nat),V.heap[g]?=some (.cells #[k1,k2,k3,k4] 26 (0,0))->Calls Tryz.prog 12 #[.slice (some ⟨g,0,none⟩) 1 1] V fun e w'=>e=.returned (.bool false)/\Below V.heap.size V w')  :
  Calls Tryz.prog 3 #[.agg #[k1,k2,k3,k4],.slice A1 es1.length c1,.slice A2 es2.length c2] w fun e w'=>e=.returned (.bool true)/\Below w.heap.size w w':=by
 obtain ⟨W0,hW0⟩:∃W0,W0=(w.alloc (.cells #[k1,k2,k3,k4] 26)).alloc (.cells #[.slice A1 es1.length c1,.slice A2 es2.length c2] 27):=⟨_,rfl⟩
 have hbw:Below w.heap.size w W0:=by rw[hW0];exact ((Below.refl _ _).alloc (Nat.le_refl _) _).alloc (by simp) _
 have tK:Four W0 w.heap.size k1 k2 k3 k4:=by rw[hW0];exact (Four.new w _ _ _ _ _).alloc _
 have hp:Hp W0 (w.heap.size+1) (.cells #[.slice A1 es1.length c1,.slice A2 es2.length c2] 27 (0,0)):=by
  have h:=Hp.new (w.alloc (.cells #[k1,k2,k3,k4] 26)) #[.slice A1 es1.length c1,.slice A2 es2.length c2] 27
  rw[World.size_alloc]at h
  rw[hW0];exact h
 have HL:=Hd (vlong_o (some ⟨w.heap.size+1,0,none⟩) [⟨A1,c1,es1⟩,⟨A2,c2,es2⟩] 2 W0 (fun i hi=>by
  match i,hi with
  | 0,_=>exact ⟨_,_,rfl,hp.lt,(hp.cellAt _).trans rfl⟩
  | 1,_=>exact ⟨_,_,rfl,hp.lt,(hp.cellAt _).trans rfl⟩) (fun v hv=>by
  simp only[List.mem_cons,List.not_mem_nil,or_false]at hv
  rcases hv with rfl|rfl
  .exact v1.to hbw
  .exact v2.to hbw) (by simp) (r:=false) (by simpa using hlng))
 have HW0:=Hd hW0
 have HB:=Hd hbw
 replace vA:=vA.to hbw
 replace vB:=vB.to hbw
 have vK:=hK.to hbw
 clear hW0 hbw hp hlng v1 v2 hK
 go_enter Tryz.func3,Tryz.ntmps3
 go_wp2_with fail
 rw[<-HW0.out]
 refine HL.out.mono ?_
 rintro e W1 ⟨rfl,bb⟩
 replace tK:=tK.to bb
 replace vA:=vA.to bb
 replace vB:=vB.to bb
 replace vK:=vK.to bb
 replace HB:=Hxb HB bb
 clear bb
 have q0:=tK.c0
 have q1:=tK.c1
 have q2:=tK.c2
 have q3:=tK.c3
 go_wp2_with fail
 obtain ⟨W2,hW2⟩:∃W,W=W1.alloc (.cells #[k1,k2,k3,k4] 26):=⟨_,rfl⟩
 have bb:Below W1.heap.size W1 W2:=by rw[hW2];exact (Below.refl _ _).alloc (Nat.le_refl _) _
 have HM:=Hd (hL W2 W1.heap.size (by rw[hW2];exact World.alloc_heap_new W1 _))
 rw[<-hW2]
 clear hW2 hL q0 q1 q2 q3
 replace tK:=tK.to bb
 replace vA:=vA.to bb
 replace vB:=vB.to bb
 replace vK:=vK.to bb
 replace HB:=Hxb HB bb
 clear bb
 refine HM.out.mono ?_
 rintro e W3 ⟨rfl,bb⟩
 replace tK:=tK.to bb
 replace vA:=vA.to bb
 replace vB:=vB.to bb
 replace vK:=vK.to bb
 replace HB:=Hxb HB bb
 clear bb
 clear HM HL HW0
 obtain ⟨a,ha⟩:∃a,ratsW u1 es1.length=a:=⟨_,rfl⟩
 obtain ⟨b,hb⟩:∃b,ratsW u2 es2.length=b:=⟨_,rfl⟩
 have ea:Hid (es1.length=a.length/\a.length<=20):=by have:=vA.le;show _/\_;rw[<-ha,ratsW_length];exact ⟨rfl,this⟩
 have eb:Hid (es2.length=b.length/\b.length<=20):=by have:=vB.le;show _/\_;rw[<-hb,ratsW_length];exact ⟨rfl,this⟩
 go_wp2_with fail
 refine (own3_x vA).mono ?_
 rintro e V ⟨X,cx,fx,rfl,lx,x,bb⟩
 replace tK:=tK.to bb
 replace vA:=vA.to bb
 replace vB:=vB.to bb
 replace vK:=vK.to bb
 replace HB:=Hxb HB bb
 clear bb
 go_wp2_with fail
 refine (own3_x vB).mono ?_
 rintro e V ⟨Y,cy,fy,rfl,ly,y,bb⟩
 replace tK:=tK.to bb
 replace vA:=vA.to bb
 replace vB:=vB.to bb
 replace vK:=vK.to bb
 replace x:=x.to bb
 replace HB:=Hxb HB bb
 clear bb
 have ex:Hid (fx.length=es1.length):=lx
 have ey:Hid (fy.length=es2.length):=ly
 have vi1:Hid (∀V,Below W3.heap.size W3 V->True):=fun _ _=>trivial
 clear vi1 lx ly
 have wA:=Hd (fun (V:World) (h:Vx V A1 c1 es1 u1)=>(show Vi V A1 c1 es1 a 6 from ha▸h.vi))
 have wB:=Hd (fun (V:World) (h:Vx V A2 c2 es2 u2)=>(show Vi V A2 c2 es2 b 6 from hb▸h.vi))
 have wX:=Hd (fun (V:World) (h:Vx V X cx fx u1)=>(show Vi V X cx fx a 6 from by rw[<-ha,<-ex.out];exact h.vi))
 have wY:=Hd (fun (V:World) (h:Vx V Y cy fy u2)=>(show Vi V Y cy fy b 6 from by rw[<-hb,<-ey.out];exact h.vi))
 have IA:=Hd (fun (V:World) (h:Vx V X cx fx u1) (h':Vx V A1 c1 es1 u1)=>vis_x h h' ex.out)
 have IB:=Hd (fun (V:World) (h:Vx V Y cy fy u2) (h':Vx V A2 c2 es2 u2)=>vis_x h h' ey.out)
 rw[ex.out,ea.out.1]at IA
 rw[ey.out,eb.out.1]at IB
 rw[ea.out.1,eb.out.1]
 clear ha hb
 go_wp2_with fail
 obtain ⟨W5,hW5⟩:∃W,W=V:=⟨_,rfl⟩
 rw[<-hW5]at HB tK vA vB vK x y ⊢
 clear hW5
 refine wp_region_plan (S:=fun w'=>Below W5.heap.size W5 w') [(0,true),(1,true),(2,true),(4,true),(5,true),(3,false),(6,false),(7,false),(8,true),(9,true),(10,true),(11,true),(12,true),(14,true),(15,true),(13,false),(16,false),(17,false),(18,true),(19,true),(20,true),(21,true),(22,true),(23,true),(25,true),(26,true),(24,false),(27,false),(28,false),(29,true),(30,true),(31,true),(32,true),(33,true),(34,true),(35,true),(37,true),(38,true),(39,true),(36,false),(40,false),(41,false),(42,true),(43,true)] (by kernel_rfl) (by kernel_rfl) (Below.refl _ _).drew ?_
 have hb:=(Below.refl W5.heap.size W5).drew
 iterate 5 (refine plan_take (v:=?_) rfl (by rfl) ?_ ?_;rotate_left;(focus (intro w' _;go_simp;try with_reducible rfl));simp only[Act.put,List.setIfInBounds_toArray,List.set_cons_zero,List.set_cons_succ])
 refine plan_call rfl (by rfl) (fun K hK=>?_)
 go_simp
 refine (vadd_v (wX.out _ (x.to hb)) (wY.out _ (y.to hb)) (by decide) (by decide) (by decide) (Nat.le_trans ea.out.2 (by decide)) (Nat.le_trans eb.out.2 (by decide))).mono ?_
 rintro e V ⟨_,_,_,rfl,r,bb⟩
 replace hb:=Bxb hb bb
 refine hK.out _ _ hb ?_
 clear hK K bb
 refine plan_call rfl (by rfl) (fun K hK=>?_)
 go_simp
 refine (raddv_v (wA.out _ (vA.to hb)) (wB.out _ (vB.to hb)) (by decide) (by decide) (by decide) (Nat.le_trans (Nat.succ_le_succ ea.out.2) (by decide)) (Nat.le_trans (Nat.succ_le_succ eb.out.2) (by decide))).mono ?_
 rintro e V ⟨_,_,_,rfl,s,bb⟩
 replace hb:=Bxb hb bb
 replace r:=r.to bb
 refine hK.out _ _ hb ?_
 clear hK K bb
 refine plan_call rfl (by rfl) (fun K hK=>?_)
 go_simp
 refine (vis_v r s (by rw[ptw_length];exact Nat.le_trans (Nat.max_le.2 ⟨ea.out.2,eb.out.2⟩) (by decide)) (decide_eq_true rfl)).mono ?_
 rintro e V ⟨rfl,bb⟩
 replace hb:=Bxb hb bb
 clear r s
 refine hK.out _ _ hb ?_
 clear hK K bb
 iterate 7 (refine plan_take (v:=?_) rfl (by rfl) ?_ ?_;rotate_left;(focus (intro w' _;go_simp;try with_reducible rfl));simp only[Act.put,List.setIfInBounds_toArray,List.set_cons_zero,List.set_cons_succ])
 refine plan_call rfl (by rfl) (fun K hK=>?_)
 go_simp
 refine (vsub_v (wX.out _ (x.to hb)) (wY.out _ (y.to hb)) (by decide) (by decide) (by decide) (Nat.le_trans ea.out.2 (by decide)) (Nat.le_trans eb.out.2 (by decide))).mono ?_
 rintro e V ⟨_,_,_,rfl,r,bb⟩
 replace hb:=Bxb hb bb
 refine hK.out _ _ hb ?_
 clear hK K bb
 refine plan_call rfl (by rfl) (fun K hK=>?_)
 go_simp
 refine (rsubv_v (wA.out _ (vA.to hb)) (wB.out _ (vB.to hb)) (by decide) (by decide) (by decide) (Nat.le_trans (Nat.succ_le_succ ea.out.2) (by decide)) (Nat.le_trans (Nat.succ_le_succ eb.out.2) (by decide))).mono ?_
 rintro e V ⟨_,_,_,rfl,s,bb⟩
 replace hb:=Bxb hb bb
 replace r:=r.to bb
 refine hK.out _ _ hb ?_
 clear hK K bb
 refine plan_call rfl (by rfl) (fun K hK=>?_)
 go_simp
 refine (vis_v r s (by rw[ptw_length];exact Nat.le_trans (Nat.max_le.2 ⟨ea.out.2,eb.out.2⟩) (by decide)) (decide_eq_true rfl)).mono ?_
 rintro e V ⟨rfl,bb⟩
 replace hb:=Bxb hb bb
 clear r s
 refine hK.out _ _ hb ?_
 clear hK K bb
 iterate 4 (refine plan_take (v:=?_) rfl (by rfl) ?_ ?_;rotate_left;(focus (intro w' _;go_simp;try with_reducible rfl));simp only[Act.put,List.setIfInBounds_toArray,List.set_cons_zero,List.set_cons_succ])
 refine plan_take rfl (by rfl) (fun w' hS=>load_four (by rfl) (tK.to hS)) ?_;simp only[Act.put,List.setIfInBounds_toArray,List.set_cons_zero,List.set_cons_succ]
 refine plan_take (v:=?_) rfl (by rfl) ?_ ?_;rotate_left;(focus (intro w' _;go_simp;try with_reducible rfl));simp only[Act.put,List.setIfInBounds_toArray,List.set_cons_zero,List.set_cons_succ]
 refine plan_take rfl (by rfl) (fun w' hS=>load_four (by rfl) (tK.to hS)) ?_;simp only[Act.put,List.setIfInBounds_toArray,List.set_cons_zero,List.set_cons_succ]
 refine plan_take (v:=?_) rfl (by rfl) ?_ ?_;rotate_left;(focus (intro w' _;go_simp;try with_reducible rfl));simp only[Act.put,List.setIfInBounds_toArray,List.set_cons_zero,List.set_cons_succ]
 refine plan_call rfl (by rfl) (fun K hK=>?_)
 go_simp
 refine (vscale_v (vK.to hb) (wX.out _ (x.to hb)) (by decide) (by decide) (by decide) (Nat.le_trans ea.out.2 (by decide))).mono ?_
 rintro e V ⟨_,_,_,rfl,r,bb⟩
 replace hb:=Bxb hb bb
 refine hK.out _ _ hb ?_
 clear hK K bb
 refine plan_call rfl (by rfl) (fun K hK=>?_)
 go_simp
 refine (rscale_v (vK.to hb) (wA.out _ (vA.to hb)) (by decide) (by decide) (by decide) (Nat.le_trans (Nat.succ_le_succ ea.out.2) (by decide))).mono ?_
 rintro e V ⟨_,_,_,rfl,s,bb⟩
 replace hb:=Bxb hb bb
 replace r:=r.to bb
 refine hK.out _ _ hb ?_
 clear hK K bb
 refine plan_call rfl (by rfl) (fun K hK=>?_)
 go_simp
 refine (vis_v r s (by rw[show (scaleQ k a).length=a.length from by unfold scaleQ;rw[ptw_length];simp];exact Nat.le_trans ea.out.2 (by decide)) (decide_eq_true rfl)).mono ?_
 rintro e V ⟨rfl,bb⟩
 replace hb:=Bxb hb bb
 clear r s
 refine hK.out _ _ hb ?_
 clear hK K bb
 iterate 4 (refine plan_take (v:=?_) rfl (by rfl) ?_ ?_;rotate_left;(focus (intro w' _;go_simp;try with_reducible rfl));simp only[Act.put,List.setIfInBounds_toArray,List.set_cons_zero,List.set_cons_succ])
 refine plan_take rfl (by rfl) (fun w' hS=>load_four (by rfl) (tK.to hS)) ?_;simp only[Act.put,List.setIfInBounds_toArray,List.set_cons_zero,List.set_cons_succ]
 iterate 2 (refine plan_take (v:=?_) rfl (by rfl) ?_ ?_;rotate_left;(focus (intro w' _;go_simp;try with_reducible rfl));simp only[Act.put,List.setIfInBounds_toArray,List.set_cons_zero,List.set_cons_succ])
 refine plan_take rfl (by rfl) (fun w' hS=>load_four (by rfl) (tK.to hS)) ?_;simp only[Act.put,List.setIfInBounds_toArray,List.set_cons_zero,List.set_cons_succ]
 iterate 2 (refine plan_take (v:=?_) rfl (by rfl) ?_ ?_;rotate_left;(focus (intro w' _;go_simp;try with_reducible rfl));simp only[Act.put,List.setIfInBounds_toArray,List.set_cons_zero,List.set_cons_succ])
 refine plan_call rfl (by rfl) (fun K hK=>?_)
 go_simp
 refine (vscaled_v (vK.to hb) (wX.out _ (x.to hb)) (wY.out _ (y.to hb)) (by decide) (by decide) (by decide) (by decide) (Nat.le_trans ea.out.2 (by decide)) (Nat.le_trans eb.out.2 (by decide))).mono ?_
 rintro e V ⟨_,_,_,rfl,r,bb⟩
 replace hb:=Bxb hb bb
 refine hK.out _ _ hb ?_
 clear hK K bb
 refine plan_call rfl (by rfl) (fun K hK=>?_)
 go_simp
 refine (rcomb_v (vK.to hb) (wA.out _ (vA.to hb)) (wB.out _ (vB.to hb)) (by decide) (by decide) (by decide) (by decide) (Nat.le_trans (Nat.succ_le_succ ea.out.2) (by decide)) (Nat.le_trans (Nat.succ_le_succ eb.out.2) (by decide))).mono ?_
 rintro e V ⟨_,_,_,rfl,s,bb⟩
 replace hb:=Bxb hb bb
 replace r:=r.to bb
 refine hK.out _ _ hb ?_
 clear hK K bb
 refine plan_call rfl (by rfl) (fun K hK=>?_)
 go_simp
 refine (vis_v r s (by rw[ptw_length];exact Nat.le_trans (Nat.max_le.2 ⟨ea.out.2,eb.out.2⟩) (by decide)) (decide_eq_true rfl)).mono ?_
 rintro e V ⟨rfl,bb⟩
 replace hb:=Bxb hb bb
 clear r s
 refine hK.out _ _ hb ?_
 clear hK K bb
 iterate 2 (refine plan_take (v:=?_) rfl (by rfl) ?_ ?_;rotate_left;(focus (intro w' _;go_simp;try with_reducible rfl));simp only[Act.put,List.setIfInBounds_toArray,List.set_cons_zero,List.set_cons_succ])
 refine plan_done ?_
 replace tK:=tK.to hb
 replace vA:=vA.to hb
 replace vB:=vB.to hb
 replace vK:=vK.to hb
 replace x:=x.to hb
 replace y:=y.to hb
 replace HB:=Hxb HB hb
 clear hb
 have mx:max a.length b.length*(6+6+1)<=20*(6+6+1):=Nat.mul_le_mul_right _ (Nat.max_le.2 ⟨ea.out.2,eb.out.2⟩)
 have mx2:a.length*(6+6+1)<=20*(6+6+1):=Nat.mul_le_mul_right _ ea.out.2
 have n1:Hid (max a.length b.length*(6+6+1)+1+(6+6)+1<=10000):=by show _<=_;omega
 have n2:Hid (a.length*(6+6+1)+1+(6+6)+1<=10000):=by show _<=_;omega
 clear mx mx2
 go_wp2_with fail
 refine (vdot_v (wX.out _ x) (wY.out _ y) (by decide) (by decide) (Nat.le_trans ea.out.2 (by decide)) (Nat.le_trans eb.out.2 (by decide)) n1.out).mono ?_
 rintro e V ⟨r1,r2,r3,r4,rfl,r,bb⟩
 replace tK:=tK.to bb
 replace vA:=vA.to bb
 replace vB:=vB.to bb
 replace vK:=vK.to bb
 replace x:=x.to bb
 replace y:=y.to bb
 replace HB:=Hxb HB bb
 clear bb
 go_wp2_with fail
 refine (rdot_v (wA.out _ vA) (wB.out _ vB) (by decide) (by decide) (Nat.le_trans ea.out.2 (by decide)) (Nat.le_trans eb.out.2 (by decide)) n2.out).mono ?_
 rintro e V ⟨s1,s2,s3,s4,rfl,s,bb⟩
 replace tK:=tK.to bb
 replace vA:=vA.to bb
 replace vB:=vB.to bb
 replace vK:=vK.to bb
 replace x:=x.to bb
 replace y:=y.to bb
 replace r:=r.to bb
 replace HB:=Hxb HB bb
 clear bb
 go_wp2_with fail
 refine (is_q r s (decide_eq_true rfl)).mono ?_
 rintro e V ⟨rfl,bb⟩
 clear r
 clear s
 replace tK:=tK.to bb
 replace vA:=vA.to bb
 replace vB:=vB.to bb
 replace vK:=vK.to bb
 replace x:=x.to bb
 replace y:=y.to bb
 replace HB:=Hxb HB bb
 clear bb
 go_wp2_with fail
 refine (IA.out _ x vA).mono ?_
 rintro e V ⟨rfl,bb⟩
 replace tK:=tK.to bb
 replace vA:=vA.to bb
 replace vB:=vB.to bb
 replace vK:=vK.to bb
 replace x:=x.to bb
 replace y:=y.to bb
 replace HB:=Hxb HB bb
 clear bb
 go_wp2_with fail
 refine (IB.out _ y vB).mono ?_
 rintro e V ⟨rfl,bb⟩
 replace tK:=tK.to bb
 replace vA:=vA.to bb
 replace vB:=vB.to bb
 replace vK:=vK.to bb
 replace x:=x.to bb
 replace y:=y.to bb
 replace HB:=Hxb HB bb
 clear bb
 go_wp2_with fail
 refine (valive_any _).mono ?_
 rintro e W4 ⟨rfl,bb⟩
 replace HB:=Hxb HB bb
 clear bb
 go_wp2
 go_ret
 exact ⟨rfl,HB.out⟩
theorem vmatch_any {A1 A2:Option Addr}{c1 c2:Nat}{es1 es2:List E4}{k1 k2 k3 k4:Value}{w:World}(z1:Zx2 w k1 k2)(z2:Zx2 w k3 k4)(v1:VIn w ⟨A1,c1,es1⟩)(v2:VIn w ⟨A2,c2,es2⟩) :
  Calls Tryz.prog 3 #[.agg #[k1,k2,k3,k4],.slice A1 es1.length c1,.slice A2 es2.length c2] w fun e w'=>e=.returned (.bool true)/\Below w.heap.size w w':=by
 obtain ⟨n1,B1,d1,xs1,rfl,rfl,r1,f1,m1,o1⟩:=z1
 obtain ⟨n2,B2,d2,xs2,rfl,rfl,r2,f2,m2,o2⟩:=z2
 have hl1:∀{r:Bool},([(xs1.length,xs2.length)].any fun p=>decide (6<p.1)||decide (6<p.2))=r->∀(V:World) (g:Nat),V.heap[g]?=some (.cells #[.bool n1,.slice B1 xs1.length d1,.bool n2,.slice B2 xs2.length d2] 26 (0,0))->Calls Tryz.prog 12 #[.slice (some ⟨g,0,none⟩) 1 1] V fun e w'=>e=.returned (.bool r)/\Below V.heap.size V w':=fun hr V g h=>qlongk (by omega) (by omega) h hr
 cases hl:([⟨A1,c1,es1⟩,⟨A2,c2,es2⟩]:List VA).any (fun v=>lngV v.es) with
 | true=>exact vmatch_long v1 v2 hl
 | false =>
  by_cases hk:xs1.length<=6/\xs2.length<=6
  .have hl':=hl
   simp only[List.any_cons,List.any_nil,Bool.or_false,Bool.or_eq_false_iff]at hl'
   obtain ⟨u1,w1⟩:=v1.vx hl'.1
   obtain ⟨u2,w2⟩:=v2.vx hl'.2
   have hK:Qi w (.bool n1) (.slice B1 xs1.length d1) (.bool n2) (.slice B2 xs2.length d2) (rv (zof n1 (val b32 xs1)) (zof n2 (val b32 xs2))) 6:=⟨_,_,⟨n1,B1,d1,xs1,rfl,rfl,⟨r1,f1,m1,o1,by omega⟩,by omega,rfl⟩,⟨n2,B2,d2,xs2,rfl,rfl,⟨r2,f2,m2,o2,by omega⟩,by omega,rfl⟩,rfl,Sm.zof f1 hk.1,Sm.zof f2 hk.2⟩
   exact vmatch_core v1 v2 hl w1 w2 hK (hl1 (by simp;omega))
  .exact vmatch_longk v1 v2 hl (hl1 (by simp;omega))
end Go.Proofs.YtiifpobhmnplaaaGreat
