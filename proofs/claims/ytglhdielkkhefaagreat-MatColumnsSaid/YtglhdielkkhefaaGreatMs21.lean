/- Parts: 1. -/
import Derived.Test.YtglhdielkkhefaaGreatMs20
set_option linter.unusedVariables false
set_option linter.unusedSimpArgs false
set_option maxRecDepth 100000
set_option maxHeartbeats 40000000

namespace Go.Proofs.YtglhdielkkhefaaGreat
open Go.RowKit Go.Shelf
theorem sgn_sub (r s:Rat):sgnQ (r-s)=cmpQ r s:=by
 unfold sgnQ
 rw[sgn_num]
 have h1:r-s=0↔r=s:=by
  constructor
  .intro h
   have:=Rat.sub_add_cancel (a:=r) (b:=s)
   rw[h,Rat.zero_add]at this
   exact this.symm
  .rintro rfl;exact Rat.sub_self
 have h2:r-s<0↔r<s:=by
  rw[Rat.sub_lt_iff,Rat.zero_add]
 rcases (by
  by_cases h1:r<s
  .exact .inl h1
  .by_cases h2:s<r
   .exact .inr (.inr h2)
   .exact .inr (.inl (Rat.le_antisymm (Rat.not_lt.1 h2) (Rat.not_lt.1 h1))):r<s∨r=s∨s<r) with h|h|h
 .rw[if_neg (fun e=>Rat.ne_of_lt h (h1.1 e)),if_pos (h2.2 h)];simp[cmpQ,h]
 .rw[if_pos (h1.2 h)];subst h;simp[cmpQ,Rat.lt_irrefl]
 .have hn:¬r<s:=Rat.not_lt.2 (Rat.le_of_lt h)
  rw[if_neg (fun e=>Rat.ne_of_gt h (h1.1 e)),if_neg (fun e=>hn (h2.1 e))];simp[cmpQ,h,hn]
theorem rleast_q {w:World}{a1 a2 a3 a4:Value}{r:Rat}{k:Nat}(hA:Qi w a1 a2 a3 a4 r k)(hk:0<k)(hk2:k<=10000) :
  Calls Tryz.prog 55 #[.agg #[a1,a2,a3,a4]] w (QR w r):=by
 obtain ⟨p,q,h1,h2,rfl,s1,s2⟩:=hA
 have sN:Hid (Sg (upN p q)):=(s1.upN q).sg hk2
 have sD:Hid (Sg (upD q)):=(s2.upD hk).sg hk2
 have pD:Hid (0<upD q):=upD_pos q
 rw[rv_up]
 clear s1 s2 hk hk2
 obtain ⟨W0,hW0⟩:∃W0,W0=(w.alloc (.cells #[a1,a2,a3,a4] 32)).alloc (.cells #[.bool false,.slice none 0 0,.bool false,.slice none 0 0] 32):=⟨_,rfl⟩
 have hbw:Below w.heap.size w W0:=by rw[hW0];exact (((Below.refl _ _).alloc (Nat.le_refl _) _).alloc (by simp) _)
 have tA:Four W0 (w.heap.size) a1 a2 a3 a4:=by
  have h:=Four.new w a1 a2 a3 a4 32
  rw[hW0];exact (h.alloc _)
 have tR:Four W0 (w.heap.size+1) (.bool false) (.slice none 0 0) (.bool false) (.slice none 0 0):=by
  have h:=Four.new (w.alloc (.cells #[a1,a2,a3,a4] 32)) (.bool false) (.slice none 0 0) (.bool false) (.slice none 0 0) 32
  rw[World.size_alloc]at h
  rw[hW0];exact h
 replace h1:=h1.to hbw
 replace h2:=h2.to hbw
 have HW0:=Hd hW0
 have HB:=Hd hbw
 clear hW0 hbw
 go_enter Tryz.func55,Tryz.ntmps55
 go_wp2_with fail
 rw[<-HW0.out]
 clear HW0
 refine wp_region_plan (S:=fun w'=>Below w.heap.size w w'/\Four w' (w.heap.size) a1 a2 a3 a4) [(0,true),(2,true),(1,false),(3,false),(4,false),(5,false)] (by kernel_rfl) (by kernel_rfl) ⟨HB.out.drew,tA.to (Below.refl _ _).drew⟩ ?_
 have hb:=HB.out.drew
 replace tA:=tA.to (Below.refl _ _).drew
 replace tR:=tR.to (Below.refl _ _).drew
 replace h1:=h1.to (Below.refl _ _).drew
 replace h2:=h2.to (Below.refl _ _).drew
 clear HB
 iterate 2 (refine plan_take rfl (by rfl) (fun w' hS=>load_four (by rfl) (hS.2)) ?_;simp only[Act.put,List.setIfInBounds_toArray,List.set_cons_zero,List.set_cons_succ])
 refine plan_call rfl (by rfl) (fun K hK=>?_)
 go_simp
 refine (rnum_z h1 h2).mono ?_
 rintro e V1 ⟨x1,y1,rfl,z1,bb⟩
 replace hb:=Bxb hb bb
 replace tA:=tA.to bb
 replace tR:=tR.to bb
 replace h1:=h1.to bb
 replace h2:=h2.to bb
 refine hK.out _ _ ⟨hb,tA⟩ ?_
 clear hK K bb
 refine plan_call rfl (by rfl) (fun K hK=>?_)
 go_simp
 refine (rden_z h2).mono ?_
 rintro e V2 ⟨x2,y2,rfl,z2,bb⟩
 replace hb:=Bxb hb bb
 replace tA:=tA.to bb
 replace tR:=tR.to bb
 replace z1:=z1.to bb
 refine hK.out _ _ ⟨hb,tA⟩ ?_
 clear hK K bb
 refine plan_call rfl (by rfl) (fun K hK=>?_)
 go_simp
 refine (over_z (z1.zs sN.out) (z2.zs sD.out) pD.out).mono ?_
 rintro e V3 ⟨x3,y3,u3,v3,rfl,q3,bb⟩
 replace hb:=Bxb hb bb
 replace tA:=tA.to bb
 replace tR:=tR.to bb
 refine hK.out _ _ ⟨hb,tA⟩ ?_
 clear hK K bb
 refine plan_call rfl (by rfl) (fun K hK=>?_)
 refine wp_store_q (by rfl) (by rfl) tR Fq.nil q3.fq (fun V u kp=>?_)
 replace tA:=kp.four (by omega) tA
 replace hb:=kp.bel _ _ hb (by omega)
 replace q3:=kp.qc q3
 refine hK.out _ _ ⟨hb,tA⟩ ?_
 clear hK K kp tR tA
 simp only[Act.put,List.setIfInBounds_toArray,List.set_cons_zero,List.set_cons_succ]
 refine plan_done ?_
 have U0:=u.c0
 have U1:=u.c1
 have U2:=u.c2
 have U3:=u.c3
 have RZ:=Hd q3
 have HE:=Hd hb
 obtain ⟨⟨n1,A1,j1,m1,rfl,rfl⟩,⟨n2,A2,j2,m2,rfl,rfl⟩⟩:=q3.fq
 clear q3 hb u
 go_wp2
 refine bodyPost_ret (v:=.agg #[.bool n1,.slice A1 j1 m1,.bool n2,.slice A2 j2 m2]) (by simp[results,Tryz.f55,go_sem,U0,U1,U2,U3]) rfl ?_
 exact ⟨_,_,_,_,rfl,RZ.out,HE.out⟩
theorem rneg_q {w:World}{a1 a2 a3 a4:Value}{r:Rat}{k:Nat}(hA:Qi w a1 a2 a3 a4 r k)(hk:0<k)(hk2:k<=10000) :
  Calls Tryz.prog 162 #[.agg #[a1,a2,a3,a4]] w (QR w (-r)):=by
 obtain ⟨p,q,h1,h2,rfl,s1,s2⟩:=hA
 have sN:Hid (Sg (upN p q)):=(s1.upN q).sg hk2
 have sD:Hid (Sg (upD q)):=(s2.upD hk).sg hk2
 have pD:Hid (0<upD q):=upD_pos q
 have sM:Hid (Sg (-(upN p q))):=(s1.upN q).neg.sg hk2
 rw[rv_up,Rat.neg_divInt]
 clear s1 s2 hk hk2
 obtain ⟨W0,hW0⟩:∃W0,W0=(w.alloc (.cells #[a1,a2,a3,a4] 32)).alloc (.cells #[.bool false,.slice none 0 0,.bool false,.slice none 0 0] 32):=⟨_,rfl⟩
 have hbw:Below w.heap.size w W0:=by rw[hW0];exact (((Below.refl _ _).alloc (Nat.le_refl _) _).alloc (by simp) _)
 have tA:Four W0 (w.heap.size) a1 a2 a3 a4:=by
  have h:=Four.new w a1 a2 a3 a4 32
  rw[hW0];exact (h.alloc _)
 have tR:Four W0 (w.heap.size+1) (.bool false) (.slice none 0 0) (.bool false) (.slice none 0 0):=by
  have h:=Four.new (w.alloc (.cells #[a1,a2,a3,a4] 32)) (.bool false) (.slice none 0 0) (.bool false) (.slice none 0 0) 32
  rw[World.size_alloc]at h
  rw[hW0];exact h
 replace h1:=h1.to hbw
 replace h2:=h2.to hbw
 have HW0:=Hd hW0
 have HB:=Hd hbw
 clear hW0 hbw
 go_enter Tryz.func162,Tryz.ntmps162
 go_wp2_with fail
 rw[<-HW0.out]
 clear HW0
 refine wp_region_plan (S:=fun w'=>Below w.heap.size w w'/\Four w' (w.heap.size) a1 a2 a3 a4) [(0,true),(3,true),(1,false),(2,false),(4,false),(5,false),(6,false)] (by kernel_rfl) (by kernel_rfl) ⟨HB.out.drew,tA.to (Below.refl _ _).drew⟩ ?_
 have hb:=HB.out.drew
 replace tA:=tA.to (Below.refl _ _).drew
 replace tR:=tR.to (Below.refl _ _).drew
 replace h1:=h1.to (Below.refl _ _).drew
 replace h2:=h2.to (Below.refl _ _).drew
 clear HB
 iterate 2 (refine plan_take rfl (by rfl) (fun w' hS=>load_four (by rfl) (hS.2)) ?_;simp only[Act.put,List.setIfInBounds_toArray,List.set_cons_zero,List.set_cons_succ])
 refine plan_call rfl (by rfl) (fun K hK=>?_)
 go_simp
 refine (rnum_z h1 h2).mono ?_
 rintro e V1 ⟨x1,y1,rfl,z1,bb⟩
 replace hb:=Bxb hb bb
 replace tA:=tA.to bb
 replace tR:=tR.to bb
 replace h2:=h2.to bb
 refine hK.out _ _ ⟨hb,tA⟩ ?_
 clear hK K bb
 refine plan_call rfl (by rfl) (fun K hK=>?_)
 go_simp
 refine (rneg_z (z1.zs sN.out)).mono ?_
 rintro e V2 ⟨x2,y2,rfl,z2,bb⟩
 replace hb:=Bxb hb bb
 replace tA:=tA.to bb
 replace tR:=tR.to bb
 replace h2:=h2.to bb
 refine hK.out _ _ ⟨hb,tA⟩ ?_
 clear hK K bb
 refine plan_call rfl (by rfl) (fun K hK=>?_)
 go_simp
 refine (rden_z h2).mono ?_
 rintro e V3 ⟨x3,y3,rfl,z3,bb⟩
 replace hb:=Bxb hb bb
 replace tA:=tA.to bb
 replace tR:=tR.to bb
 replace z2:=z2.to bb
 refine hK.out _ _ ⟨hb,tA⟩ ?_
 clear hK K bb
 refine plan_call rfl (by rfl) (fun K hK=>?_)
 go_simp
 refine (over_z (z2.zs sM.out) (z3.zs sD.out) pD.out).mono ?_
 rintro e V4 ⟨x4,y4,u4,v4,rfl,q4,bb⟩
 replace hb:=Bxb hb bb
 replace tA:=tA.to bb
 replace tR:=tR.to bb
 refine hK.out _ _ ⟨hb,tA⟩ ?_
 clear hK K bb
 refine plan_call rfl (by rfl) (fun K hK=>?_)
 refine wp_store_q (by rfl) (by rfl) tR Fq.nil q4.fq (fun V u kp=>?_)
 replace tA:=kp.four (by omega) tA
 replace hb:=kp.bel _ _ hb (by omega)
 replace q4:=kp.qc q4
 refine hK.out _ _ ⟨hb,tA⟩ ?_
 clear hK K kp tR tA
 simp only[Act.put,List.setIfInBounds_toArray,List.set_cons_zero,List.set_cons_succ]
 refine plan_done ?_
 have U0:=u.c0
 have U1:=u.c1
 have U2:=u.c2
 have U3:=u.c3
 have RZ:=Hd q4
 have HE:=Hd hb
 obtain ⟨⟨n1,A1,j1,m1,rfl,rfl⟩,⟨n2,A2,j2,m2,rfl,rfl⟩⟩:=q4.fq
 clear q4 hb u
 go_wp2
 refine bodyPost_ret (v:=.agg #[.bool n1,.slice A1 j1 m1,.bool n2,.slice A2 j2 m2]) (by simp[results,Tryz.f162,go_sem,U0,U1,U2,U3]) rfl ?_
 exact ⟨_,_,_,_,rfl,RZ.out,HE.out⟩
theorem rmul_q {w:World}{a1 a2 a3 a4 b1 b2 b3 b4:Value}{r s:Rat}{k l:Nat}(hA:Qi w a1 a2 a3 a4 r k)(hB:Qi w b1 b2 b3 b4 s l)(hk:0<k)(hl:0<l)(hkl:k+l+1<=10000) :
  Calls Tryz.prog 84 #[.agg #[a1,a2,a3,a4],.agg #[b1,b2,b3,b4]] w (QR w (r*s)):=by
 obtain ⟨p,q,h1,h2,rfl,s1,s2⟩:=hA
 obtain ⟨p',q',h3,h4,rfl,s3,s4⟩:=hB
 have sN:Hid (Sg (upN p q)):=(s1.upN q).sg (by omega)
 have sD:Hid (Sg (upD q)):=(s2.upD hk).sg (by omega)
 have sN':Hid (Sg (upN p' q')):=(s3.upN q').sg (by omega)
 have sD':Hid (Sg (upD q')):=(s4.upD hl).sg (by omega)
 have pD:=upD_pos q
 have pD':=upD_pos q'
 have sDD:Hid (Sg (upD q*upD q')):=((s2.upD hk).mul (s4.upD hl)).sg (by omega)
 have pDD:Hid (0<upD q*upD q'):=Int.mul_pos pD pD'
 have sNN:Hid (Sg (upN p q*upN p' q')):=((s1.upN q).mul (s3.upN q')).sg (by omega)
 rw[rv_up,rv_up,Rat.divInt_mul_divInt]
 clear s1 s2 s3 s4 hk hl hkl pD pD'
 obtain ⟨W0,hW0⟩:∃W0,W0=((w.alloc (.cells #[a1,a2,a3,a4] 32)).alloc (.cells #[b1,b2,b3,b4] 32)).alloc (.cells #[.bool false,.slice none 0 0,.bool false,.slice none 0 0] 32):=⟨_,rfl⟩
 have hbw:Below w.heap.size w W0:=by rw[hW0];exact ((((Below.refl _ _).alloc (Nat.le_refl _) _).alloc (by simp) _).alloc (by simp;omega) _)
 have tA:Four W0 (w.heap.size) a1 a2 a3 a4:=by
  have h:=Four.new w a1 a2 a3 a4 32
  rw[hW0];exact ((h.alloc _).alloc _)
 have tB:Four W0 (w.heap.size+1) b1 b2 b3 b4:=by
  have h:=Four.new (w.alloc (.cells #[a1,a2,a3,a4] 32)) b1 b2 b3 b4 32
  rw[World.size_alloc]at h
  rw[hW0];exact (h.alloc _)
 have tR:Four W0 (w.heap.size+1+1) (.bool false) (.slice none 0 0) (.bool false) (.slice none 0 0):=by
  have h:=Four.new ((w.alloc (.cells #[a1,a2,a3,a4] 32)).alloc (.cells #[b1,b2,b3,b4] 32)) (.bool false) (.slice none 0 0) (.bool false) (.slice none 0 0) 32
  rw[World.size_alloc,World.size_alloc]at h
  rw[hW0];exact h
 replace h1:=h1.to hbw
 replace h2:=h2.to hbw
 replace h3:=h3.to hbw
 replace h4:=h4.to hbw
 have HW0:=Hd hW0
 have HB:=Hd hbw
 clear hW0 hbw
 go_enter Tryz.func84,Tryz.ntmps84
 go_wp2_with fail
 rw[<-HW0.out]
 clear HW0
 refine wp_region_plan (S:=fun w'=>Below w.heap.size w w'/\Four w' (w.heap.size) a1 a2 a3 a4/\Four w' (w.heap.size+1) b1 b2 b3 b4) [(0,true),(2,true),(5,true),(7,true),(1,false),(3,false),(4,false),(6,false),(8,false),(9,false),(10,false),(11,false)] (by kernel_rfl) (by kernel_rfl) ⟨HB.out.drew,tA.to (Below.refl _ _).drew,tB.to (Below.refl _ _).drew⟩ ?_
 have hb:=HB.out.drew
 replace tA:=tA.to (Below.refl _ _).drew
 replace tB:=tB.to (Below.refl _ _).drew
 replace tR:=tR.to (Below.refl _ _).drew
 replace h1:=h1.to (Below.refl _ _).drew
 replace h2:=h2.to (Below.refl _ _).drew
 replace h3:=h3.to (Below.refl _ _).drew
 replace h4:=h4.to (Below.refl _ _).drew
 clear HB
 refine plan_take rfl (by rfl) (fun w' hS=>load_four (by rfl) (hS.2.1)) ?_;simp only[Act.put,List.setIfInBounds_toArray,List.set_cons_zero,List.set_cons_succ]
 refine plan_take rfl (by rfl) (fun w' hS=>load_four (by rfl) (hS.2.2)) ?_;simp only[Act.put,List.setIfInBounds_toArray,List.set_cons_zero,List.set_cons_succ]
 refine plan_take rfl (by rfl) (fun w' hS=>load_four (by rfl) (hS.2.1)) ?_;simp only[Act.put,List.setIfInBounds_toArray,List.set_cons_zero,List.set_cons_succ]
 refine plan_take rfl (by rfl) (fun w' hS=>load_four (by rfl) (hS.2.2)) ?_;simp only[Act.put,List.setIfInBounds_toArray,List.set_cons_zero,List.set_cons_succ]
 refine plan_call rfl (by rfl) (fun K hK=>?_)
 go_simp
 refine (rnum_z h1 h2).mono ?_
 rintro e V1 ⟨x1,y1,rfl,z1,bb⟩
 replace hb:=Bxb hb bb
 replace tA:=tA.to bb
 replace tB:=tB.to bb
 replace tR:=tR.to bb
 replace h2:=h2.to bb
 replace h3:=h3.to bb
 replace h4:=h4.to bb
 refine hK.out _ _ ⟨hb,tA,tB⟩ ?_
 clear hK K bb
 refine plan_call rfl (by rfl) (fun K hK=>?_)
 go_simp
 refine (rnum_z h3 h4).mono ?_
 rintro e V2 ⟨x2,y2,rfl,z2,bb⟩
 replace hb:=Bxb hb bb
 replace tA:=tA.to bb
 replace tB:=tB.to bb
 replace tR:=tR.to bb
 replace h2:=h2.to bb
 replace h4:=h4.to bb
 replace z1:=z1.to bb
 refine hK.out _ _ ⟨hb,tA,tB⟩ ?_
 clear hK K bb
 refine plan_call rfl (by rfl) (fun K hK=>?_)
 go_simp
 refine (rmul_z (z1.zs sN.out) (z2.zs sN'.out)).mono ?_
 rintro e V3 ⟨x3,y3,rfl,z3,bb⟩
 replace hb:=Bxb hb bb
 replace tA:=tA.to bb
 replace tB:=tB.to bb
 replace tR:=tR.to bb
 replace h2:=h2.to bb
 replace h4:=h4.to bb
 refine hK.out _ _ ⟨hb,tA,tB⟩ ?_
 clear hK K bb
 refine plan_call rfl (by rfl) (fun K hK=>?_)
 go_simp
 refine (rden_z h2).mono ?_
 rintro e V4 ⟨x4,y4,rfl,z4,bb⟩
 replace hb:=Bxb hb bb
 replace tA:=tA.to bb
 replace tB:=tB.to bb
 replace tR:=tR.to bb
 replace h4:=h4.to bb
 replace z3:=z3.to bb
 refine hK.out _ _ ⟨hb,tA,tB⟩ ?_
 clear hK K bb
 refine plan_call rfl (by rfl) (fun K hK=>?_)
 go_simp
 refine (rden_z h4).mono ?_
 rintro e V5 ⟨x5,y5,rfl,z5,bb⟩
 replace hb:=Bxb hb bb
 replace tA:=tA.to bb
 replace tB:=tB.to bb
 replace tR:=tR.to bb
 replace z3:=z3.to bb
 replace z4:=z4.to bb
 refine hK.out _ _ ⟨hb,tA,tB⟩ ?_
 clear hK K bb
 refine plan_call rfl (by rfl) (fun K hK=>?_)
 go_simp
 refine (rmul_z (z4.zs sD.out) (z5.zs sD'.out)).mono ?_
 rintro e V6 ⟨x6,y6,rfl,z6,bb⟩
 replace hb:=Bxb hb bb
 replace tA:=tA.to bb
 replace tB:=tB.to bb
 replace tR:=tR.to bb
 replace z3:=z3.to bb
 refine hK.out _ _ ⟨hb,tA,tB⟩ ?_
 clear hK K bb
 refine plan_call rfl (by rfl) (fun K hK=>?_)
 go_simp
 refine (over_z (z3.zs sNN.out) (z6.zs sDD.out) pDD.out).mono ?_
 rintro e V7 ⟨x7,y7,u7,v7,rfl,q7,bb⟩
 replace hb:=Bxb hb bb
 replace tA:=tA.to bb
 replace tB:=tB.to bb
 replace tR:=tR.to bb
 refine hK.out _ _ ⟨hb,tA,tB⟩ ?_
 clear hK K bb
 refine plan_call rfl (by rfl) (fun K hK=>?_)
 refine wp_store_q (by rfl) (by rfl) tR Fq.nil q7.fq (fun V u kp=>?_)
 replace tA:=kp.four (by omega) tA
 replace tB:=kp.four (by omega) tB
 replace hb:=kp.bel _ _ hb (by omega)
 replace q7:=kp.qc q7
 refine hK.out _ _ ⟨hb,tA,tB⟩ ?_
 clear hK K kp tR tA tB
 simp only[Act.put,List.setIfInBounds_toArray,List.set_cons_zero,List.set_cons_succ]
 refine plan_done ?_
 have U0:=u.c0
 have U1:=u.c1
 have U2:=u.c2
 have U3:=u.c3
 have RZ:=Hd q7
 have HE:=Hd hb
 obtain ⟨⟨n1,A1,j1,m1,rfl,rfl⟩,⟨n2,A2,j2,m2,rfl,rfl⟩⟩:=q7.fq
 clear q7 hb u
 go_wp2
 refine bodyPost_ret (v:=.agg #[.bool n1,.slice A1 j1 m1,.bool n2,.slice A2 j2 m2]) (by simp[results,Tryz.f84,go_sem,U0,U1,U2,U3]) rfl ?_
 exact ⟨_,_,_,_,rfl,RZ.out,HE.out⟩
theorem radd_q {w:World}{a1 a2 a3 a4 b1 b2 b3 b4:Value}{r s:Rat}{k l:Nat}(hA:Qi w a1 a2 a3 a4 r k)(hB:Qi w b1 b2 b3 b4 s l)(hk:0<k)(hl:0<l)(hkl:k+l+1<=10000) :
  Calls Tryz.prog 83 #[.agg #[a1,a2,a3,a4],.agg #[b1,b2,b3,b4]] w (QR w (r+s)):=by
 obtain ⟨p,q,h1,h2,rfl,s1,s2⟩:=hA
 obtain ⟨p',q',h3,h4,rfl,s3,s4⟩:=hB
 have sN:Hid (Sg (upN p q)):=(s1.upN q).sg (by omega)
 have sD:Hid (Sg (upD q)):=(s2.upD hk).sg (by omega)
 have sN':Hid (Sg (upN p' q')):=(s3.upN q').sg (by omega)
 have sD':Hid (Sg (upD q')):=(s4.upD hl).sg (by omega)
 have pD:=upD_pos q
 have pD':=upD_pos q'
 have sDD:Hid (Sg (upD q*upD q')):=((s2.upD hk).mul (s4.upD hl)).sg (by omega)
 have pDD:Hid (0<upD q*upD q'):=Int.mul_pos pD pD'
 have com:Sm (k+l) (upN p' q'*upD q):=by
  have h:=(s3.upN q').mul (s2.upD hk)
  rwa [Nat.add_comm]at h
 have sX:Hid (Sg (upN p q*upD q')):=((s1.upN q).mul (s4.upD hl)).sg (by omega)
 have sY:Hid (Sg (upN p' q'*upD q)):=com.sg (by omega)
 have sS:Hid (Sg (upN p q*upD q'+upN p' q'*upD q)):=(((s1.upN q).mul (s4.upD hl)).add com).sg (by omega)
 rw[rv_up,rv_up,Rat.divInt_add_divInt _ _ (by omega) (by omega)]
 clear s1 s2 s3 s4 hk hl hkl pD pD' com
 obtain ⟨W0,hW0⟩:∃W0,W0=((w.alloc (.cells #[a1,a2,a3,a4] 32)).alloc (.cells #[b1,b2,b3,b4] 32)).alloc (.cells #[.bool false,.slice none 0 0,.bool false,.slice none 0 0] 32):=⟨_,rfl⟩
 have hbw:Below w.heap.size w W0:=by rw[hW0];exact ((((Below.refl _ _).alloc (Nat.le_refl _) _).alloc (by simp) _).alloc (by simp;omega) _)
 have tA:Four W0 (w.heap.size) a1 a2 a3 a4:=by
  have h:=Four.new w a1 a2 a3 a4 32
  rw[hW0];exact ((h.alloc _).alloc _)
 have tB:Four W0 (w.heap.size+1) b1 b2 b3 b4:=by
  have h:=Four.new (w.alloc (.cells #[a1,a2,a3,a4] 32)) b1 b2 b3 b4 32
  rw[World.size_alloc]at h
  rw[hW0];exact (h.alloc _)
 have tR:Four W0 (w.heap.size+1+1) (.bool false) (.slice none 0 0) (.bool false) (.slice none 0 0):=by
  have h:=Four.new ((w.alloc (.cells #[a1,a2,a3,a4] 32)).alloc (.cells #[b1,b2,b3,b4] 32)) (.bool false) (.slice none 0 0) (.bool false) (.slice none 0 0) 32
  rw[World.size_alloc,World.size_alloc]at h
  rw[hW0];exact h
 replace h1:=h1.to hbw
 replace h2:=h2.to hbw
 replace h3:=h3.to hbw
 replace h4:=h4.to hbw
 have HW0:=Hd hW0
 have HB:=Hd hbw
 clear hW0 hbw
 go_enter Tryz.func83,Tryz.ntmps83
 go_wp2_with fail
 rw[<-HW0.out]
 clear HW0
 obtain ⟨Y1,eY1⟩:∃W,W=W0:=⟨_,rfl⟩
 rw[<-eY1]
 rw[<-eY1]at HB tA tB tR h1 h2 h3 h4
 clear eY1
 refine wp_cut (fun a' v' w'=>∃(g1 g2:Nat) (c10 c11 c20 c21 w7 w8 w9 w10 w11 w12 w13 w14 w15 w16:Value),v'=((((((((((((a'.put (some 7) w7).put (some 8) w8).put (some 9) w9).put (some 10) w10).put (some 11) w11).put (some 12) w12).put (some 13) w13).put (some 14) w14).put (some 15) w15).put (some 16) w16).put (some 5) (.pointer (some ⟨g1,0,none⟩))).put (some 6) (.pointer (some ⟨g2,0,none⟩)))/\Two w' g1 c10 c11/\Zc w' c10 c11 (upN p q*upD q')/\Two w' g2 c20 c21/\Zc w' c20 c21 (upN p' q'*upD q)/\(Y1.heap.size<=g1/\Y1.heap.size<=g2)/\Below Y1.heap.size Y1 w') ?_ ?_
 .refine wp_region_planTo (S:=fun w'=>Below Y1.heap.size Y1 w') [(0,true),(2,true),(5,true),(7,true)] #[true,false,true,false,false,true,false,true,false,false,false,false,false,false] 10 (by kernel_rfl) (by kernel_rfl) (Below.refl _ _).drew ?_
  refine plan_take rfl (by rfl) (fun w' hS=>load_four (by rfl) (tA.to hS)) ?_;simp only[Act.put,List.setIfInBounds_toArray,List.set_cons_zero,List.set_cons_succ]
  iterate 2 (refine plan_take rfl (by rfl) (fun w' hS=>load_four (by rfl) (tB.to hS)) ?_;simp only[Act.put,List.setIfInBounds_toArray,List.set_cons_zero,List.set_cons_succ])
  refine plan_take rfl (by rfl) (fun w' hS=>load_four (by rfl) (tA.to hS)) ?_;simp only[Act.put,List.setIfInBounds_toArray,List.set_cons_zero,List.set_cons_succ]
  intro HB
  refine dag (fun G up dn=>?_)
  have S612:∀(V:World) (x1 y1 x2 y2 x3 y3 x4 y4 x5 y5 x6 y6:Value) (g1:Nat) (g2:Nat),Below Y1.heap.size Y1 V->Zc V x3 y3 (upN p q*upD q')->Zc V x6 y6 (upN p' q'*upD q)->Two V g1 (.bool false) (.slice none 0 0)->Y1.heap.size<=g1->Two V g2 (.bool false) (.slice none 0 0)->Y1.heap.size<=g2->g1≠g2->G 2 #[true,true,true,true,true,true,true,true,true,true,true,true,false,false] ⟨#[.agg #[a1,a2,a3,a4],.agg #[b1,b2,b3,b4],.pointer (some ⟨w.heap.size,0,none⟩),.pointer (some ⟨w.heap.size+1,0,none⟩),.pointer (some ⟨w.heap.size+1+1,0,none⟩),.pointer (some ⟨g1,0,none⟩),.pointer (some ⟨g2,0,none⟩),.agg #[a1,a2,a3,a4],.agg #[x1,y1],.agg #[b1,b2,b3,b4],.agg #[x2,y2],.agg #[x3,y3],.agg #[b1,b2,b3,b4],.agg #[x4,y4],.agg #[a1,a2,a3,a4],.agg #[x5,y5],.agg #[x6,y6],undef,undef,undef,undef,undef,undef,undef,undef,undef],[]⟩ V:=by
   intro V x1 y1 x2 y2 x3 y3 x4 y4 x5 y5 x6 y6 g1 g2 HB z3 z6 t1 b1 t2 b2 ne
   refine up ?_
   refine rdy1 (i:=12) (by kernel_rfl) rfl (by rfl) (fun K hK=>?_)
   refine wp_store_z (by rfl) (by rfl) t1 Fs.nil z3.fs (fun V u kp=>?_)
   replace t2:=kp.two (Ne.symm ne) t2
   replace z3:=kp.zc _ _ _ z3
   replace z6:=kp.zc _ _ _ z6
   replace HB:=kp.bel _ _ HB b1
   clear t1
   have t1:=u
   refine hK.out _ _ HB ?_
   clear hK K kp u
   refine rdy1 (i:=13) (by kernel_rfl) rfl (by rfl) (fun K hK=>?_)
   refine wp_store_z (by rfl) (by rfl) t2 Fs.nil z6.fs (fun V u kp=>?_)
   replace t1:=kp.two ne t1
   replace z3:=kp.zc _ _ _ z3
   replace z6:=kp.zc _ _ _ z6
   replace HB:=kp.bel _ _ HB b2
   clear t2
   have t2:=u
   refine hK.out _ _ HB ?_
   clear hK K kp u
   exact wpAnyH_done (by kernel_rfl) ⟨rfl,g1,g2,_,_,_,_,_,_,_,_,_,_,_,_,_,_,by rfl,t1,z3,t2,z6,⟨b1,b2⟩,HB⟩ _
  have S61:∀(V:World) (x1 y1 x2 y2 x3 y3 x4 y4 x5 y5 x6 y6:Value) (g1:Nat),Below Y1.heap.size Y1 V->Zc V x3 y3 (upN p q*upD q')->Zc V x6 y6 (upN p' q'*upD q)->Two V g1 (.bool false) (.slice none 0 0)->Y1.heap.size<=g1->G 3 #[true,true,true,true,true,true,true,true,true,true,true,false,false,false] ⟨#[.agg #[a1,a2,a3,a4],.agg #[b1,b2,b3,b4],.pointer (some ⟨w.heap.size,0,none⟩),.pointer (some ⟨w.heap.size+1,0,none⟩),.pointer (some ⟨w.heap.size+1+1,0,none⟩),.pointer (some ⟨g1,0,none⟩),undef,.agg #[a1,a2,a3,a4],.agg #[x1,y1],.agg #[b1,b2,b3,b4],.agg #[x2,y2],.agg #[x3,y3],.agg #[b1,b2,b3,b4],.agg #[x4,y4],.agg #[a1,a2,a3,a4],.agg #[x5,y5],.agg #[x6,y6],undef,undef,undef,undef,undef,undef,undef,undef,undef],[]⟩ V:=by
   intro V x1 y1 x2 y2 x3 y3 x4 y4 x5 y5 x6 y6 g1 HB z3 z6 t1 b1
   refine up ?_
   refine rdy1 (i:=11) (by kernel_rfl) rfl (by rfl) (fun K hK=>?_)
   refine wp_alloc_two (fun g2 V t2 bb hg=>?_)
   have b2:=Nat.le_trans HB.size hg
   replace HB:=bx HB bb
   have ne:g1≠g2:=Nat.ne_of_lt (Nat.lt_of_lt_of_le t1.lt hg)
   replace t1:=t1.to bb
   replace z3:=z3.to bb
   replace z6:=z6.to bb
   refine hK.out _ _ HB ?_
   exact dn (S612 _ _ _ _ _ _ _ _ _ _ _ _ _ _ _ HB z3 z6 t1 b1 t2 b2 ne)
  have S62:∀(V:World) (x1 y1 x2 y2 x3 y3 x4 y4 x5 y5 x6 y6:Value) (g2:Nat),Below Y1.heap.size Y1 V->Zc V x3 y3 (upN p q*upD q')->Zc V x6 y6 (upN p' q'*upD q)->Two V g2 (.bool false) (.slice none 0 0)->Y1.heap.size<=g2->G 3 #[true,true,true,true,true,true,true,true,true,true,false,true,false,false] ⟨#[.agg #[a1,a2,a3,a4],.agg #[b1,b2,b3,b4],.pointer (some ⟨w.heap.size,0,none⟩),.pointer (some ⟨w.heap.size+1,0,none⟩),.pointer (some ⟨w.heap.size+1+1,0,none⟩),undef,.pointer (some ⟨g2,0,none⟩),.agg #[a1,a2,a3,a4],.agg #[x1,y1],.agg #[b1,b2,b3,b4],.agg #[x2,y2],.agg #[x3,y3],.agg #[b1,b2,b3,b4],.agg #[x4,y4],.agg #[a1,a2,a3,a4],.agg #[x5,y5],.agg #[x6,y6],undef,undef,undef,undef,undef,undef,undef,undef,undef],[]⟩ V:=by
   intro V x1 y1 x2 y2 x3 y3 x4 y4 x5 y5 x6 y6 g2 HB z3 z6 t2 b2
   refine up ?_
   refine rdy1 (i:=10) (by kernel_rfl) rfl (by rfl) (fun K hK=>?_)
   refine wp_alloc_two (fun g1 V t1 bb hg=>?_)
   have b1:=Nat.le_trans HB.size hg
   replace HB:=bx HB bb
   have ne:g1≠g2:=Nat.ne_of_gt (Nat.lt_of_lt_of_le t2.lt hg)
   replace t2:=t2.to bb
   replace z3:=z3.to bb
   replace z6:=z6.to bb
   refine hK.out _ _ HB ?_
   exact dn (S612 _ _ _ _ _ _ _ _ _ _ _ _ _ _ _ HB z3 z6 t1 b1 t2 b2 ne)
  have S6:∀(V:World) (x1 y1 x2 y2 x3 y3 x4 y4 x5 y5 x6 y6:Value),Below Y1.heap.size Y1 V->Zc V x3 y3 (upN p q*upD q')->Zc V x6 y6 (upN p' q'*upD q)->G 4 #[true,true,true,true,true,true,true,true,true,true,false,false,false,false] ⟨#[.agg #[a1,a2,a3,a4],.agg #[b1,b2,b3,b4],.pointer (some ⟨w.heap.size,0,none⟩),.pointer (some ⟨w.heap.size+1,0,none⟩),.pointer (some ⟨w.heap.size+1+1,0,none⟩),undef,undef,.agg #[a1,a2,a3,a4],.agg #[x1,y1],.agg #[b1,b2,b3,b4],.agg #[x2,y2],.agg #[x3,y3],.agg #[b1,b2,b3,b4],.agg #[x4,y4],.agg #[a1,a2,a3,a4],.agg #[x5,y5],.agg #[x6,y6],undef,undef,undef,undef,undef,undef,undef,undef,undef],[]⟩ V:=by
   intro V x1 y1 x2 y2 x3 y3 x4 y4 x5 y5 x6 y6 HB z3 z6
   refine up ?_
   refine wpAnyH_ready (rs:=[10,11]) (by kernel_rfl) (by simp) (ready_cons rfl (by rfl) (fun K hK=>?_) (ready_cons rfl (by rfl) (fun K hK=>?_) AllReadyH.nil))
   .refine wp_alloc_two (fun g1 V t1 bb hg=>?_)
    have b1:=Nat.le_trans HB.size hg
    replace HB:=bx HB bb
    replace z3:=z3.to bb
    replace z6:=z6.to bb
    refine hK.out _ _ HB ?_
    exact dn (S61 _ _ _ _ _ _ _ _ _ _ _ _ _ _ HB z3 z6 t1 b1)
   .refine wp_alloc_two (fun g2 V t2 bb hg=>?_)
    have b2:=Nat.le_trans HB.size hg
    replace HB:=bx HB bb
    replace z3:=z3.to bb
    replace z6:=z6.to bb
    refine hK.out _ _ HB ?_
    exact dn (S62 _ _ _ _ _ _ _ _ _ _ _ _ _ _ HB z3 z6 t2 b2)
  have S512:∀(V:World) (x1 y1 x2 y2 x3 y3 x4 y4 x5 y5:Value) (g1:Nat) (g2:Nat),Below Y1.heap.size Y1 V->Zc V x3 y3 (upN p q*upD q')->Zc V x4 y4 (upN p' q')->Zc V x5 y5 (upD q)->Two V g1 (.bool false) (.slice none 0 0)->Y1.heap.size<=g1->Two V g2 (.bool false) (.slice none 0 0)->Y1.heap.size<=g2->g1≠g2->G 3 #[true,true,true,true,true,true,true,true,true,false,true,true,false,false] ⟨#[.agg #[a1,a2,a3,a4],.agg #[b1,b2,b3,b4],.pointer (some ⟨w.heap.size,0,none⟩),.pointer (some ⟨w.heap.size+1,0,none⟩),.pointer (some ⟨w.heap.size+1+1,0,none⟩),.pointer (some ⟨g1,0,none⟩),.pointer (some ⟨g2,0,none⟩),.agg #[a1,a2,a3,a4],.agg #[x1,y1],.agg #[b1,b2,b3,b4],.agg #[x2,y2],.agg #[x3,y3],.agg #[b1,b2,b3,b4],.agg #[x4,y4],.agg #[a1,a2,a3,a4],.agg #[x5,y5],undef,undef,undef,undef,undef,undef,undef,undef,undef,undef],[]⟩ V:=by
   intro V x1 y1 x2 y2 x3 y3 x4 y4 x5 y5 g1 g2 HB z3 z4 z5 t1 b1 t2 b2 ne
   refine up ?_
   refine rdy1 (i:=9) (by kernel_rfl) rfl (by rfl) (fun K hK=>?_)
   go_simp
   refine (rmul_z (z4.zs sN'.out) (z5.zs sD.out)).mono ?_
   rintro e V ⟨x6,y6,rfl,z6,bb⟩
   replace HB:=bx HB bb
   replace t1:=t1.to bb
   replace t2:=t2.to bb
   replace z3:=z3.to bb
   refine hK.out _ _ HB ?_
   exact dn (S612 _ _ _ _ _ _ _ _ _ _ _ _ _ _ _ HB z3 z6 t1 b1 t2 b2 ne)
  have S51:∀(V:World) (x1 y1 x2 y2 x3 y3 x4 y4 x5 y5:Value) (g1:Nat),Below Y1.heap.size Y1 V->Zc V x3 y3 (upN p q*upD q')->Zc V x4 y4 (upN p' q')->Zc V x5 y5 (upD q)->Two V g1 (.bool false) (.slice none 0 0)->Y1.heap.size<=g1->G 4 #[true,true,true,true,true,true,true,true,true,false,true,false,false,false] ⟨#[.agg #[a1,a2,a3,a4],.agg #[b1,b2,b3,b4],.pointer (some ⟨w.heap.size,0,none⟩),.pointer (some ⟨w.heap.size+1,0,none⟩),.pointer (some ⟨w.heap.size+1+1,0,none⟩),.pointer (some ⟨g1,0,none⟩),undef,.agg #[a1,a2,a3,a4],.agg #[x1,y1],.agg #[b1,b2,b3,b4],.agg #[x2,y2],.agg #[x3,y3],.agg #[b1,b2,b3,b4],.agg #[x4,y4],.agg #[a1,a2,a3,a4],.agg #[x5,y5],undef,undef,undef,undef,undef,undef,undef,undef,undef,undef],[]⟩ V:=by
   intro V x1 y1 x2 y2 x3 y3 x4 y4 x5 y5 g1 HB z3 z4 z5 t1 b1
   refine up ?_
   refine wpAnyH_ready (rs:=[9,11]) (by kernel_rfl) (by simp) (ready_cons rfl (by rfl) (fun K hK=>?_) (ready_cons rfl (by rfl) (fun K hK=>?_) AllReadyH.nil))
   .go_simp
    refine (rmul_z (z4.zs sN'.out) (z5.zs sD.out)).mono ?_
    rintro e V ⟨x6,y6,rfl,z6,bb⟩
    replace HB:=bx HB bb
    replace t1:=t1.to bb
    replace z3:=z3.to bb
    refine hK.out _ _ HB ?_
    exact dn (S61 _ _ _ _ _ _ _ _ _ _ _ _ _ _ HB z3 z6 t1 b1)
   .refine wp_alloc_two (fun g2 V t2 bb hg=>?_)
    have b2:=Nat.le_trans HB.size hg
    replace HB:=bx HB bb
    have ne:g1≠g2:=Nat.ne_of_lt (Nat.lt_of_lt_of_le t1.lt hg)
    replace t1:=t1.to bb
    replace z3:=z3.to bb
    replace z4:=z4.to bb
    replace z5:=z5.to bb
    refine hK.out _ _ HB ?_
    exact dn (S512 _ _ _ _ _ _ _ _ _ _ _ _ _ HB z3 z4 z5 t1 b1 t2 b2 ne)
  have S52:∀(V:World) (x1 y1 x2 y2 x3 y3 x4 y4 x5 y5:Value) (g2:Nat),Below Y1.heap.size Y1 V->Zc V x3 y3 (upN p q*upD q')->Zc V x4 y4 (upN p' q')->Zc V x5 y5 (upD q)->Two V g2 (.bool false) (.slice none 0 0)->Y1.heap.size<=g2->G 4 #[true,true,true,true,true,true,true,true,true,false,false,true,false,false] ⟨#[.agg #[a1,a2,a3,a4],.agg #[b1,b2,b3,b4],.pointer (some ⟨w.heap.size,0,none⟩),.pointer (some ⟨w.heap.size+1,0,none⟩),.pointer (some ⟨w.heap.size+1+1,0,none⟩),undef,.pointer (some ⟨g2,0,none⟩),.agg #[a1,a2,a3,a4],.agg #[x1,y1],.agg #[b1,b2,b3,b4],.agg #[x2,y2],.agg #[x3,y3],.agg #[b1,b2,b3,b4],.agg #[x4,y4],.agg #[a1,a2,a3,a4],.agg #[x5,y5],undef,undef,undef,undef,undef,undef,undef,undef,undef,undef],[]⟩ V:=by
   intro V x1 y1 x2 y2 x3 y3 x4 y4 x5 y5 g2 HB z3 z4 z5 t2 b2
   refine up ?_
   refine wpAnyH_ready (rs:=[9,10]) (by kernel_rfl) (by simp) (ready_cons rfl (by rfl) (fun K hK=>?_) (ready_cons rfl (by rfl) (fun K hK=>?_) AllReadyH.nil))
   .go_simp
    refine (rmul_z (z4.zs sN'.out) (z5.zs sD.out)).mono ?_
    rintro e V ⟨x6,y6,rfl,z6,bb⟩
    replace HB:=bx HB bb
    replace t2:=t2.to bb
    replace z3:=z3.to bb
    refine hK.out _ _ HB ?_
    exact dn (S62 _ _ _ _ _ _ _ _ _ _ _ _ _ _ HB z3 z6 t2 b2)
   .refine wp_alloc_two (fun g1 V t1 bb hg=>?_)
    have b1:=Nat.le_trans HB.size hg
    replace HB:=bx HB bb
    have ne:g1≠g2:=Nat.ne_of_gt (Nat.lt_of_lt_of_le t2.lt hg)
    replace t2:=t2.to bb
    replace z3:=z3.to bb
    replace z4:=z4.to bb
    replace z5:=z5.to bb
    refine hK.out _ _ HB ?_
    exact dn (S512 _ _ _ _ _ _ _ _ _ _ _ _ _ HB z3 z4 z5 t1 b1 t2 b2 ne)
  have S5:∀(V:World) (x1 y1 x2 y2 x3 y3 x4 y4 x5 y5:Value),Below Y1.heap.size Y1 V->Zc V x3 y3 (upN p q*upD q')->Zc V x4 y4 (upN p' q')->Zc V x5 y5 (upD q)->G 5 #[true,true,true,true,true,true,true,true,true,false,false,false,false,false] ⟨#[.agg #[a1,a2,a3,a4],.agg #[b1,b2,b3,b4],.pointer (some ⟨w.heap.size,0,none⟩),.pointer (some ⟨w.heap.size+1,0,none⟩),.pointer (some ⟨w.heap.size+1+1,0,none⟩),undef,undef,.agg #[a1,a2,a3,a4],.agg #[x1,y1],.agg #[b1,b2,b3,b4],.agg #[x2,y2],.agg #[x3,y3],.agg #[b1,b2,b3,b4],.agg #[x4,y4],.agg #[a1,a2,a3,a4],.agg #[x5,y5],undef,undef,undef,undef,undef,undef,undef,undef,undef,undef],[]⟩ V:=by
   intro V x1 y1 x2 y2 x3 y3 x4 y4 x5 y5 HB z3 z4 z5
   refine up ?_
   refine wpAnyH_ready (rs:=[9,10,11]) (by kernel_rfl) (by simp) (ready_cons rfl (by rfl) (fun K hK=>?_) (ready_cons rfl (by rfl) (fun K hK=>?_) (ready_cons rfl (by rfl) (fun K hK=>?_) AllReadyH.nil)))
   .go_simp
    refine (rmul_z (z4.zs sN'.out) (z5.zs sD.out)).mono ?_
    rintro e V ⟨x6,y6,rfl,z6,bb⟩
    replace HB:=bx HB bb
    replace z3:=z3.to bb
    refine hK.out _ _ HB ?_
    exact dn (S6 _ _ _ _ _ _ _ _ _ _ _ _ _ HB z3 z6)
   .refine wp_alloc_two (fun g1 V t1 bb hg=>?_)
    have b1:=Nat.le_trans HB.size hg
    replace HB:=bx HB bb
    replace z3:=z3.to bb
    replace z4:=z4.to bb
    replace z5:=z5.to bb
    refine hK.out _ _ HB ?_
    exact dn (S51 _ _ _ _ _ _ _ _ _ _ _ _ HB z3 z4 z5 t1 b1)
   .refine wp_alloc_two (fun g2 V t2 bb hg=>?_)
    have b2:=Nat.le_trans HB.size hg
    replace HB:=bx HB bb
    replace z3:=z3.to bb
    replace z4:=z4.to bb
    replace z5:=z5.to bb
    refine hK.out _ _ HB ?_
    exact dn (S52 _ _ _ _ _ _ _ _ _ _ _ _ HB z3 z4 z5 t2 b2)
  have S412:∀(V:World) (x1 y1 x2 y2 x3 y3 x4 y4:Value) (g1:Nat) (g2:Nat),Below Y1.heap.size Y1 V->Zc V x3 y3 (upN p q*upD q')->Zc V x4 y4 (upN p' q')->Two V g1 (.bool false) (.slice none 0 0)->Y1.heap.size<=g1->Two V g2 (.bool false) (.slice none 0 0)->Y1.heap.size<=g2->g1≠g2->G 4 #[true,true,true,true,true,true,true,true,false,false,true,true,false,false] ⟨#[.agg #[a1,a2,a3,a4],.agg #[b1,b2,b3,b4],.pointer (some ⟨w.heap.size,0,none⟩),.pointer (some ⟨w.heap.size+1,0,none⟩),.pointer (some ⟨w.heap.size+1+1,0,none⟩),.pointer (some ⟨g1,0,none⟩),.pointer (some ⟨g2,0,none⟩),.agg #[a1,a2,a3,a4],.agg #[x1,y1],.agg #[b1,b2,b3,b4],.agg #[x2,y2],.agg #[x3,y3],.agg #[b1,b2,b3,b4],.agg #[x4,y4],.agg #[a1,a2,a3,a4],undef,undef,undef,undef,undef,undef,undef,undef,undef,undef,undef],[]⟩ V:=by
   intro V x1 y1 x2 y2 x3 y3 x4 y4 g1 g2 HB z3 z4 t1 b1 t2 b2 ne
   refine up ?_
   refine rdy1 (i:=8) (by kernel_rfl) rfl (by rfl) (fun K hK=>?_)
   go_simp
   refine (rden_z (h2.to HB)).mono ?_
   rintro e V ⟨x5,y5,rfl,z5,bb⟩
   replace HB:=bx HB bb
   replace t1:=t1.to bb
   replace t2:=t2.to bb
   replace z3:=z3.to bb
   replace z4:=z4.to bb
   refine hK.out _ _ HB ?_
   exact dn (S512 _ _ _ _ _ _ _ _ _ _ _ _ _ HB z3 z4 z5 t1 b1 t2 b2 ne)
  have S41:∀(V:World) (x1 y1 x2 y2 x3 y3 x4 y4:Value) (g1:Nat),Below Y1.heap.size Y1 V->Zc V x3 y3 (upN p q*upD q')->Zc V x4 y4 (upN p' q')->Two V g1 (.bool false) (.slice none 0 0)->Y1.heap.size<=g1->G 5 #[true,true,true,true,true,true,true,true,false,false,true,false,false,false] ⟨#[.agg #[a1,a2,a3,a4],.agg #[b1,b2,b3,b4],.pointer (some ⟨w.heap.size,0,none⟩),.pointer (some ⟨w.heap.size+1,0,none⟩),.pointer (some ⟨w.heap.size+1+1,0,none⟩),.pointer (some ⟨g1,0,none⟩),undef,.agg #[a1,a2,a3,a4],.agg #[x1,y1],.agg #[b1,b2,b3,b4],.agg #[x2,y2],.agg #[x3,y3],.agg #[b1,b2,b3,b4],.agg #[x4,y4],.agg #[a1,a2,a3,a4],undef,undef,undef,undef,undef,undef,undef,undef,undef,undef,undef],[]⟩ V:=by
   intro V x1 y1 x2 y2 x3 y3 x4 y4 g1 HB z3 z4 t1 b1
   refine up ?_
   refine wpAnyH_ready (rs:=[8,11]) (by kernel_rfl) (by simp) (ready_cons rfl (by rfl) (fun K hK=>?_) (ready_cons rfl (by rfl) (fun K hK=>?_) AllReadyH.nil))
   .go_simp
    refine (rden_z (h2.to HB)).mono ?_
    rintro e V ⟨x5,y5,rfl,z5,bb⟩
    replace HB:=bx HB bb
    replace t1:=t1.to bb
    replace z3:=z3.to bb
    replace z4:=z4.to bb
    refine hK.out _ _ HB ?_
    exact dn (S51 _ _ _ _ _ _ _ _ _ _ _ _ HB z3 z4 z5 t1 b1)
   .refine wp_alloc_two (fun g2 V t2 bb hg=>?_)
    have b2:=Nat.le_trans HB.size hg
    replace HB:=bx HB bb
    have ne:g1≠g2:=Nat.ne_of_lt (Nat.lt_of_lt_of_le t1.lt hg)
    replace t1:=t1.to bb
    replace z3:=z3.to bb
    replace z4:=z4.to bb
    refine hK.out _ _ HB ?_
    exact dn (S412 _ _ _ _ _ _ _ _ _ _ _ HB z3 z4 t1 b1 t2 b2 ne)
  have S42:∀(V:World) (x1 y1 x2 y2 x3 y3 x4 y4:Value) (g2:Nat),Below Y1.heap.size Y1 V->Zc V x3 y3 (upN p q*upD q')->Zc V x4 y4 (upN p' q')->Two V g2 (.bool false) (.slice none 0 0)->Y1.heap.size<=g2->G 5 #[true,true,true,true,true,true,true,true,false,false,false,true,false,false] ⟨#[.agg #[a1,a2,a3,a4],.agg #[b1,b2,b3,b4],.pointer (some ⟨w.heap.size,0,none⟩),.pointer (some ⟨w.heap.size+1,0,none⟩),.pointer (some ⟨w.heap.size+1+1,0,none⟩),undef,.pointer (some ⟨g2,0,none⟩),.agg #[a1,a2,a3,a4],.agg #[x1,y1],.agg #[b1,b2,b3,b4],.agg #[x2,y2],.agg #[x3,y3],.agg #[b1,b2,b3,b4],.agg #[x4,y4],.agg #[a1,a2,a3,a4],undef,undef,undef,undef,undef,undef,undef,undef,undef,undef,undef],[]⟩ V:=by
   intro V x1 y1 x2 y2 x3 y3 x4 y4 g2 HB z3 z4 t2 b2
   refine up ?_
   refine wpAnyH_ready (rs:=[8,10]) (by kernel_rfl) (by simp) (ready_cons rfl (by rfl) (fun K hK=>?_) (ready_cons rfl (by rfl) (fun K hK=>?_) AllReadyH.nil))
   .go_simp
    refine (rden_z (h2.to HB)).mono ?_
    rintro e V ⟨x5,y5,rfl,z5,bb⟩
    replace HB:=bx HB bb
    replace t2:=t2.to bb
    replace z3:=z3.to bb
    replace z4:=z4.to bb
    refine hK.out _ _ HB ?_
    exact dn (S52 _ _ _ _ _ _ _ _ _ _ _ _ HB z3 z4 z5 t2 b2)
   .refine wp_alloc_two (fun g1 V t1 bb hg=>?_)
    have b1:=Nat.le_trans HB.size hg
    replace HB:=bx HB bb
    have ne:g1≠g2:=Nat.ne_of_gt (Nat.lt_of_lt_of_le t2.lt hg)
    replace t2:=t2.to bb
    replace z3:=z3.to bb
    replace z4:=z4.to bb
    refine hK.out _ _ HB ?_
    exact dn (S412 _ _ _ _ _ _ _ _ _ _ _ HB z3 z4 t1 b1 t2 b2 ne)
  have S4:∀(V:World) (x1 y1 x2 y2 x3 y3 x4 y4:Value),Below Y1.heap.size Y1 V->Zc V x3 y3 (upN p q*upD q')->Zc V x4 y4 (upN p' q')->G 6 #[true,true,true,true,true,true,true,true,false,false,false,false,false,false] ⟨#[.agg #[a1,a2,a3,a4],.agg #[b1,b2,b3,b4],.pointer (some ⟨w.heap.size,0,none⟩),.pointer (some ⟨w.heap.size+1,0,none⟩),.pointer (some ⟨w.heap.size+1+1,0,none⟩),undef,undef,.agg #[a1,a2,a3,a4],.agg #[x1,y1],.agg #[b1,b2,b3,b4],.agg #[x2,y2],.agg #[x3,y3],.agg #[b1,b2,b3,b4],.agg #[x4,y4],.agg #[a1,a2,a3,a4],undef,undef,undef,undef,undef,undef,undef,undef,undef,undef,undef],[]⟩ V:=by
   intro V x1 y1 x2 y2 x3 y3 x4 y4 HB z3 z4
   refine up ?_
   refine wpAnyH_ready (rs:=[8,10,11]) (by kernel_rfl) (by simp) (ready_cons rfl (by rfl) (fun K hK=>?_) (ready_cons rfl (by rfl) (fun K hK=>?_) (ready_cons rfl (by rfl) (fun K hK=>?_) AllReadyH.nil)))
   .go_simp
    refine (rden_z (h2.to HB)).mono ?_
    rintro e V ⟨x5,y5,rfl,z5,bb⟩
    replace HB:=bx HB bb
    replace z3:=z3.to bb
    replace z4:=z4.to bb
    refine hK.out _ _ HB ?_
    exact dn (S5 _ _ _ _ _ _ _ _ _ _ _ HB z3 z4 z5)
   .refine wp_alloc_two (fun g1 V t1 bb hg=>?_)
    have b1:=Nat.le_trans HB.size hg
    replace HB:=bx HB bb
    replace z3:=z3.to bb
    replace z4:=z4.to bb
    refine hK.out _ _ HB ?_
    exact dn (S41 _ _ _ _ _ _ _ _ _ _ HB z3 z4 t1 b1)
   .refine wp_alloc_two (fun g2 V t2 bb hg=>?_)
    have b2:=Nat.le_trans HB.size hg
    replace HB:=bx HB bb
    replace z3:=z3.to bb
    replace z4:=z4.to bb
    refine hK.out _ _ HB ?_
    exact dn (S42 _ _ _ _ _ _ _ _ _ _ HB z3 z4 t2 b2)
  have S312:∀(V:World) (x1 y1 x2 y2 x3 y3:Value) (g1:Nat) (g2:Nat),Below Y1.heap.size Y1 V->Zc V x3 y3 (upN p q*upD q')->Two V g1 (.bool false) (.slice none 0 0)->Y1.heap.size<=g1->Two V g2 (.bool false) (.slice none 0 0)->Y1.heap.size<=g2->g1≠g2->G 5 #[true,true,true,true,true,true,false,true,false,false,true,true,false,false] ⟨#[.agg #[a1,a2,a3,a4],.agg #[b1,b2,b3,b4],.pointer (some ⟨w.heap.size,0,none⟩),.pointer (some ⟨w.heap.size+1,0,none⟩),.pointer (some ⟨w.heap.size+1+1,0,none⟩),.pointer (some ⟨g1,0,none⟩),.pointer (some ⟨g2,0,none⟩),.agg #[a1,a2,a3,a4],.agg #[x1,y1],.agg #[b1,b2,b3,b4],.agg #[x2,y2],.agg #[x3,y3],.agg #[b1,b2,b3,b4],undef,.agg #[a1,a2,a3,a4],undef,undef,undef,undef,undef,undef,undef,undef,undef,undef,undef],[]⟩ V:=by
   intro V x1 y1 x2 y2 x3 y3 g1 g2 HB z3 t1 b1 t2 b2 ne
   refine up ?_
   refine rdy1 (i:=6) (by kernel_rfl) rfl (by rfl) (fun K hK=>?_)
   go_simp
   refine (rnum_z (h3.to HB) (h4.to HB)).mono ?_
   rintro e V ⟨x4,y4,rfl,z4,bb⟩
   replace HB:=bx HB bb
   replace t1:=t1.to bb
   replace t2:=t2.to bb
   replace z3:=z3.to bb
   refine hK.out _ _ HB ?_
   exact dn (S412 _ _ _ _ _ _ _ _ _ _ _ HB z3 z4 t1 b1 t2 b2 ne)
  have S31:∀(V:World) (x1 y1 x2 y2 x3 y3:Value) (g1:Nat),Below Y1.heap.size Y1 V->Zc V x3 y3 (upN p q*upD q')->Two V g1 (.bool false) (.slice none 0 0)->Y1.heap.size<=g1->G 6 #[true,true,true,true,true,true,false,true,false,false,true,false,false,false] ⟨#[.agg #[a1,a2,a3,a4],.agg #[b1,b2,b3,b4],.pointer (some ⟨w.heap.size,0,none⟩),.pointer (some ⟨w.heap.size+1,0,none⟩),.pointer (some ⟨w.heap.size+1+1,0,none⟩),.pointer (some ⟨g1,0,none⟩),undef,.agg #[a1,a2,a3,a4],.agg #[x1,y1],.agg #[b1,b2,b3,b4],.agg #[x2,y2],.agg #[x3,y3],.agg #[b1,b2,b3,b4],undef,.agg #[a1,a2,a3,a4],undef,undef,undef,undef,undef,undef,undef,undef,undef,undef,undef],[]⟩ V:=by
   intro V x1 y1 x2 y2 x3 y3 g1 HB z3 t1 b1
   refine up ?_
   refine wpAnyH_ready (rs:=[6,11]) (by kernel_rfl) (by simp) (ready_cons rfl (by rfl) (fun K hK=>?_) (ready_cons rfl (by rfl) (fun K hK=>?_) AllReadyH.nil))
   .go_simp
    refine (rnum_z (h3.to HB) (h4.to HB)).mono ?_
    rintro e V ⟨x4,y4,rfl,z4,bb⟩
    replace HB:=bx HB bb
    replace t1:=t1.to bb
    replace z3:=z3.to bb
    refine hK.out _ _ HB ?_
    exact dn (S41 _ _ _ _ _ _ _ _ _ _ HB z3 z4 t1 b1)
   .refine wp_alloc_two (fun g2 V t2 bb hg=>?_)
    have b2:=Nat.le_trans HB.size hg
    replace HB:=bx HB bb
    have ne:g1≠g2:=Nat.ne_of_lt (Nat.lt_of_lt_of_le t1.lt hg)
    replace t1:=t1.to bb
    replace z3:=z3.to bb
    refine hK.out _ _ HB ?_
    exact dn (S312 _ _ _ _ _ _ _ _ _ HB z3 t1 b1 t2 b2 ne)
  have S32:∀(V:World) (x1 y1 x2 y2 x3 y3:Value) (g2:Nat),Below Y1.heap.size Y1 V->Zc V x3 y3 (upN p q*upD q')->Two V g2 (.bool false) (.slice none 0 0)->Y1.heap.size<=g2->G 6 #[true,true,true,true,true,true,false,true,false,false,false,true,false,false] ⟨#[.agg #[a1,a2,a3,a4],.agg #[b1,b2,b3,b4],.pointer (some ⟨w.heap.size,0,none⟩),.pointer (some ⟨w.heap.size+1,0,none⟩),.pointer (some ⟨w.heap.size+1+1,0,none⟩),undef,.pointer (some ⟨g2,0,none⟩),.agg #[a1,a2,a3,a4],.agg #[x1,y1],.agg #[b1,b2,b3,b4],.agg #[x2,y2],.agg #[x3,y3],.agg #[b1,b2,b3,b4],undef,.agg #[a1,a2,a3,a4],undef,undef,undef,undef,undef,undef,undef,undef,undef,undef,undef],[]⟩ V:=by
   intro V x1 y1 x2 y2 x3 y3 g2 HB z3 t2 b2
   refine up ?_
   refine wpAnyH_ready (rs:=[6,10]) (by kernel_rfl) (by simp) (ready_cons rfl (by rfl) (fun K hK=>?_) (ready_cons rfl (by rfl) (fun K hK=>?_) AllReadyH.nil))
   .go_simp
    refine (rnum_z (h3.to HB) (h4.to HB)).mono ?_
    rintro e V ⟨x4,y4,rfl,z4,bb⟩
    replace HB:=bx HB bb
    replace t2:=t2.to bb
    replace z3:=z3.to bb
    refine hK.out _ _ HB ?_
    exact dn (S42 _ _ _ _ _ _ _ _ _ _ HB z3 z4 t2 b2)
   .refine wp_alloc_two (fun g1 V t1 bb hg=>?_)
    have b1:=Nat.le_trans HB.size hg
    replace HB:=bx HB bb
    have ne:g1≠g2:=Nat.ne_of_gt (Nat.lt_of_lt_of_le t2.lt hg)
    replace t2:=t2.to bb
    replace z3:=z3.to bb
    refine hK.out _ _ HB ?_
    exact dn (S312 _ _ _ _ _ _ _ _ _ HB z3 t1 b1 t2 b2 ne)
  have S3:∀(V:World) (x1 y1 x2 y2 x3 y3:Value),Below Y1.heap.size Y1 V->Zc V x3 y3 (upN p q*upD q')->G 7 #[true,true,true,true,true,true,false,true,false,false,false,false,false,false] ⟨#[.agg #[a1,a2,a3,a4],.agg #[b1,b2,b3,b4],.pointer (some ⟨w.heap.size,0,none⟩),.pointer (some ⟨w.heap.size+1,0,none⟩),.pointer (some ⟨w.heap.size+1+1,0,none⟩),undef,undef,.agg #[a1,a2,a3,a4],.agg #[x1,y1],.agg #[b1,b2,b3,b4],.agg #[x2,y2],.agg #[x3,y3],.agg #[b1,b2,b3,b4],undef,.agg #[a1,a2,a3,a4],undef,undef,undef,undef,undef,undef,undef,undef,undef,undef,undef],[]⟩ V:=by
   intro V x1 y1 x2 y2 x3 y3 HB z3
   refine up ?_
   refine wpAnyH_ready (rs:=[6,10,11]) (by kernel_rfl) (by simp) (ready_cons rfl (by rfl) (fun K hK=>?_) (ready_cons rfl (by rfl) (fun K hK=>?_) (ready_cons rfl (by rfl) (fun K hK=>?_) AllReadyH.nil)))
   .go_simp
    refine (rnum_z (h3.to HB) (h4.to HB)).mono ?_
    rintro e V ⟨x4,y4,rfl,z4,bb⟩
    replace HB:=bx HB bb
    replace z3:=z3.to bb
    refine hK.out _ _ HB ?_
    exact dn (S4 _ _ _ _ _ _ _ _ _ HB z3 z4)
   .refine wp_alloc_two (fun g1 V t1 bb hg=>?_)
    have b1:=Nat.le_trans HB.size hg
    replace HB:=bx HB bb
    replace z3:=z3.to bb
    refine hK.out _ _ HB ?_
    exact dn (S31 _ _ _ _ _ _ _ _ HB z3 t1 b1)
   .refine wp_alloc_two (fun g2 V t2 bb hg=>?_)
    have b2:=Nat.le_trans HB.size hg
    replace HB:=bx HB bb
    replace z3:=z3.to bb
    refine hK.out _ _ HB ?_
    exact dn (S32 _ _ _ _ _ _ _ _ HB z3 t2 b2)
  have S212:∀(V:World) (x1 y1 x2 y2:Value) (g1:Nat) (g2:Nat),Below Y1.heap.size Y1 V->Zc V x1 y1 (upN p q)->Zc V x2 y2 (upD q')->Two V g1 (.bool false) (.slice none 0 0)->Y1.heap.size<=g1->Two V g2 (.bool false) (.slice none 0 0)->Y1.heap.size<=g2->g1≠g2->G 6 #[true,true,true,true,false,true,false,true,false,false,true,true,false,false] ⟨#[.agg #[a1,a2,a3,a4],.agg #[b1,b2,b3,b4],.pointer (some ⟨w.heap.size,0,none⟩),.pointer (some ⟨w.heap.size+1,0,none⟩),.pointer (some ⟨w.heap.size+1+1,0,none⟩),.pointer (some ⟨g1,0,none⟩),.pointer (some ⟨g2,0,none⟩),.agg #[a1,a2,a3,a4],.agg #[x1,y1],.agg #[b1,b2,b3,b4],.agg #[x2,y2],undef,.agg #[b1,b2,b3,b4],undef,.agg #[a1,a2,a3,a4],undef,undef,undef,undef,undef,undef,undef,undef,undef,undef,undef],[]⟩ V:=by
   intro V x1 y1 x2 y2 g1 g2 HB z1 z2 t1 b1 t2 b2 ne
   refine up ?_
   refine rdy1 (i:=4) (by kernel_rfl) rfl (by rfl) (fun K hK=>?_)
   go_simp
   refine (rmul_z (z1.zs sN.out) (z2.zs sD'.out)).mono ?_
   rintro e V ⟨x3,y3,rfl,z3,bb⟩
   replace HB:=bx HB bb
   replace t1:=t1.to bb
   replace t2:=t2.to bb
   refine hK.out _ _ HB ?_
   exact dn (S312 _ _ _ _ _ _ _ _ _ HB z3 t1 b1 t2 b2 ne)
  have S21:∀(V:World) (x1 y1 x2 y2:Value) (g1:Nat),Below Y1.heap.size Y1 V->Zc V x1 y1 (upN p q)->Zc V x2 y2 (upD q')->Two V g1 (.bool false) (.slice none 0 0)->Y1.heap.size<=g1->G 7 #[true,true,true,true,false,true,false,true,false,false,true,false,false,false] ⟨#[.agg #[a1,a2,a3,a4],.agg #[b1,b2,b3,b4],.pointer (some ⟨w.heap.size,0,none⟩),.pointer (some ⟨w.heap.size+1,0,none⟩),.pointer (some ⟨w.heap.size+1+1,0,none⟩),.pointer (some ⟨g1,0,none⟩),undef,.agg #[a1,a2,a3,a4],.agg #[x1,y1],.agg #[b1,b2,b3,b4],.agg #[x2,y2],undef,.agg #[b1,b2,b3,b4],undef,.agg #[a1,a2,a3,a4],undef,undef,undef,undef,undef,undef,undef,undef,undef,undef,undef],[]⟩ V:=by
   intro V x1 y1 x2 y2 g1 HB z1 z2 t1 b1
   refine up ?_
   refine wpAnyH_ready (rs:=[4,11]) (by kernel_rfl) (by simp) (ready_cons rfl (by rfl) (fun K hK=>?_) (ready_cons rfl (by rfl) (fun K hK=>?_) AllReadyH.nil))
   .go_simp
    refine (rmul_z (z1.zs sN.out) (z2.zs sD'.out)).mono ?_
    rintro e V ⟨x3,y3,rfl,z3,bb⟩
    replace HB:=bx HB bb
    replace t1:=t1.to bb
    refine hK.out _ _ HB ?_
    exact dn (S31 _ _ _ _ _ _ _ _ HB z3 t1 b1)
   .refine wp_alloc_two (fun g2 V t2 bb hg=>?_)
    have b2:=Nat.le_trans HB.size hg
    replace HB:=bx HB bb
    have ne:g1≠g2:=Nat.ne_of_lt (Nat.lt_of_lt_of_le t1.lt hg)
    replace t1:=t1.to bb
    replace z1:=z1.to bb
    replace z2:=z2.to bb
    refine hK.out _ _ HB ?_
    exact dn (S212 _ _ _ _ _ _ _ HB z1 z2 t1 b1 t2 b2 ne)
  have S22:∀(V:World) (x1 y1 x2 y2:Value) (g2:Nat),Below Y1.heap.size Y1 V->Zc V x1 y1 (upN p q)->Zc V x2 y2 (upD q')->Two V g2 (.bool false) (.slice none 0 0)->Y1.heap.size<=g2->G 7 #[true,true,true,true,false,true,false,true,false,false,false,true,false,false] ⟨#[.agg #[a1,a2,a3,a4],.agg #[b1,b2,b3,b4],.pointer (some ⟨w.heap.size,0,none⟩),.pointer (some ⟨w.heap.size+1,0,none⟩),.pointer (some ⟨w.heap.size+1+1,0,none⟩),undef,.pointer (some ⟨g2,0,none⟩),.agg #[a1,a2,a3,a4],.agg #[x1,y1],.agg #[b1,b2,b3,b4],.agg #[x2,y2],undef,.agg #[b1,b2,b3,b4],undef,.agg #[a1,a2,a3,a4],undef,undef,undef,undef,undef,undef,undef,undef,undef,undef,undef],[]⟩ V:=by
   intro V x1 y1 x2 y2 g2 HB z1 z2 t2 b2
   refine up ?_
   refine wpAnyH_ready (rs:=[4,10]) (by kernel_rfl) (by simp) (ready_cons rfl (by rfl) (fun K hK=>?_) (ready_cons rfl (by rfl) (fun K hK=>?_) AllReadyH.nil))
   .go_simp
    refine (rmul_z (z1.zs sN.out) (z2.zs sD'.out)).mono ?_
    rintro e V ⟨x3,y3,rfl,z3,bb⟩
    replace HB:=bx HB bb
    replace t2:=t2.to bb
    refine hK.out _ _ HB ?_
    exact dn (S32 _ _ _ _ _ _ _ _ HB z3 t2 b2)
   .refine wp_alloc_two (fun g1 V t1 bb hg=>?_)
    have b1:=Nat.le_trans HB.size hg
    replace HB:=bx HB bb
    have ne:g1≠g2:=Nat.ne_of_gt (Nat.lt_of_lt_of_le t2.lt hg)
    replace t2:=t2.to bb
    replace z1:=z1.to bb
    replace z2:=z2.to bb
    refine hK.out _ _ HB ?_
    exact dn (S212 _ _ _ _ _ _ _ HB z1 z2 t1 b1 t2 b2 ne)
  have S2:∀(V:World) (x1 y1 x2 y2:Value),Below Y1.heap.size Y1 V->Zc V x1 y1 (upN p q)->Zc V x2 y2 (upD q')->G 8 #[true,true,true,true,false,true,false,true,false,false,false,false,false,false] ⟨#[.agg #[a1,a2,a3,a4],.agg #[b1,b2,b3,b4],.pointer (some ⟨w.heap.size,0,none⟩),.pointer (some ⟨w.heap.size+1,0,none⟩),.pointer (some ⟨w.heap.size+1+1,0,none⟩),undef,undef,.agg #[a1,a2,a3,a4],.agg #[x1,y1],.agg #[b1,b2,b3,b4],.agg #[x2,y2],undef,.agg #[b1,b2,b3,b4],undef,.agg #[a1,a2,a3,a4],undef,undef,undef,undef,undef,undef,undef,undef,undef,undef,undef],[]⟩ V:=by
   intro V x1 y1 x2 y2 HB z1 z2
   refine up ?_
   refine wpAnyH_ready (rs:=[4,10,11]) (by kernel_rfl) (by simp) (ready_cons rfl (by rfl) (fun K hK=>?_) (ready_cons rfl (by rfl) (fun K hK=>?_) (ready_cons rfl (by rfl) (fun K hK=>?_) AllReadyH.nil)))
   .go_simp
    refine (rmul_z (z1.zs sN.out) (z2.zs sD'.out)).mono ?_
    rintro e V ⟨x3,y3,rfl,z3,bb⟩
    replace HB:=bx HB bb
    refine hK.out _ _ HB ?_
    exact dn (S3 _ _ _ _ _ _ _ HB z3)
   .refine wp_alloc_two (fun g1 V t1 bb hg=>?_)
    have b1:=Nat.le_trans HB.size hg
    replace HB:=bx HB bb
    replace z1:=z1.to bb
    replace z2:=z2.to bb
    refine hK.out _ _ HB ?_
    exact dn (S21 _ _ _ _ _ _ HB z1 z2 t1 b1)
   .refine wp_alloc_two (fun g2 V t2 bb hg=>?_)
    have b2:=Nat.le_trans HB.size hg
    replace HB:=bx HB bb
    replace z1:=z1.to bb
    replace z2:=z2.to bb
    refine hK.out _ _ HB ?_
    exact dn (S22 _ _ _ _ _ _ HB z1 z2 t2 b2)
  have S112:∀(V:World) (x1 y1:Value) (g1:Nat) (g2:Nat),Below Y1.heap.size Y1 V->Zc V x1 y1 (upN p q)->Two V g1 (.bool false) (.slice none 0 0)->Y1.heap.size<=g1->Two V g2 (.bool false) (.slice none 0 0)->Y1.heap.size<=g2->g1≠g2->G 7 #[true,true,true,false,false,true,false,true,false,false,true,true,false,false] ⟨#[.agg #[a1,a2,a3,a4],.agg #[b1,b2,b3,b4],.pointer (some ⟨w.heap.size,0,none⟩),.pointer (some ⟨w.heap.size+1,0,none⟩),.pointer (some ⟨w.heap.size+1+1,0,none⟩),.pointer (some ⟨g1,0,none⟩),.pointer (some ⟨g2,0,none⟩),.agg #[a1,a2,a3,a4],.agg #[x1,y1],.agg #[b1,b2,b3,b4],undef,undef,.agg #[b1,b2,b3,b4],undef,.agg #[a1,a2,a3,a4],undef,undef,undef,undef,undef,undef,undef,undef,undef,undef,undef],[]⟩ V:=by
   intro V x1 y1 g1 g2 HB z1 t1 b1 t2 b2 ne
   refine up ?_
   refine rdy1 (i:=3) (by kernel_rfl) rfl (by rfl) (fun K hK=>?_)
   go_simp
   refine (rden_z (h4.to HB)).mono ?_
   rintro e V ⟨x2,y2,rfl,z2,bb⟩
   replace HB:=bx HB bb
   replace t1:=t1.to bb
   replace t2:=t2.to bb
   replace z1:=z1.to bb
   refine hK.out _ _ HB ?_
   exact dn (S212 _ _ _ _ _ _ _ HB z1 z2 t1 b1 t2 b2 ne)
  have S11:∀(V:World) (x1 y1:Value) (g1:Nat),Below Y1.heap.size Y1 V->Zc V x1 y1 (upN p q)->Two V g1 (.bool false) (.slice none 0 0)->Y1.heap.size<=g1->G 8 #[true,true,true,false,false,true,false,true,false,false,true,false,false,false] ⟨#[.agg #[a1,a2,a3,a4],.agg #[b1,b2,b3,b4],.pointer (some ⟨w.heap.size,0,none⟩),.pointer (some ⟨w.heap.size+1,0,none⟩),.pointer (some ⟨w.heap.size+1+1,0,none⟩),.pointer (some ⟨g1,0,none⟩),undef,.agg #[a1,a2,a3,a4],.agg #[x1,y1],.agg #[b1,b2,b3,b4],undef,undef,.agg #[b1,b2,b3,b4],undef,.agg #[a1,a2,a3,a4],undef,undef,undef,undef,undef,undef,undef,undef,undef,undef,undef],[]⟩ V:=by
   intro V x1 y1 g1 HB z1 t1 b1
   refine up ?_
   refine wpAnyH_ready (rs:=[3,11]) (by kernel_rfl) (by simp) (ready_cons rfl (by rfl) (fun K hK=>?_) (ready_cons rfl (by rfl) (fun K hK=>?_) AllReadyH.nil))
   .go_simp
    refine (rden_z (h4.to HB)).mono ?_
    rintro e V ⟨x2,y2,rfl,z2,bb⟩
    replace HB:=bx HB bb
    replace t1:=t1.to bb
    replace z1:=z1.to bb
    refine hK.out _ _ HB ?_
    exact dn (S21 _ _ _ _ _ _ HB z1 z2 t1 b1)
   .refine wp_alloc_two (fun g2 V t2 bb hg=>?_)
    have b2:=Nat.le_trans HB.size hg
    replace HB:=bx HB bb
    have ne:g1≠g2:=Nat.ne_of_lt (Nat.lt_of_lt_of_le t1.lt hg)
    replace t1:=t1.to bb
    replace z1:=z1.to bb
    refine hK.out _ _ HB ?_
    exact dn (S112 _ _ _ _ _ HB z1 t1 b1 t2 b2 ne)
  have S12:∀(V:World) (x1 y1:Value) (g2:Nat),Below Y1.heap.size Y1 V->Zc V x1 y1 (upN p q)->Two V g2 (.bool false) (.slice none 0 0)->Y1.heap.size<=g2->G 8 #[true,true,true,false,false,true,false,true,false,false,false,true,false,false] ⟨#[.agg #[a1,a2,a3,a4],.agg #[b1,b2,b3,b4],.pointer (some ⟨w.heap.size,0,none⟩),.pointer (some ⟨w.heap.size+1,0,none⟩),.pointer (some ⟨w.heap.size+1+1,0,none⟩),undef,.pointer (some ⟨g2,0,none⟩),.agg #[a1,a2,a3,a4],.agg #[x1,y1],.agg #[b1,b2,b3,b4],undef,undef,.agg #[b1,b2,b3,b4],undef,.agg #[a1,a2,a3,a4],undef,undef,undef,undef,undef,undef,undef,undef,undef,undef,undef],[]⟩ V:=by
   intro V x1 y1 g2 HB z1 t2 b2
   refine up ?_
   refine wpAnyH_ready (rs:=[3,10]) (by kernel_rfl) (by simp) (ready_cons rfl (by rfl) (fun K hK=>?_) (ready_cons rfl (by rfl) (fun K hK=>?_) AllReadyH.nil))
   .go_simp
    refine (rden_z (h4.to HB)).mono ?_
    rintro e V ⟨x2,y2,rfl,z2,bb⟩
    replace HB:=bx HB bb
    replace t2:=t2.to bb
    replace z1:=z1.to bb
    refine hK.out _ _ HB ?_
    exact dn (S22 _ _ _ _ _ _ HB z1 z2 t2 b2)
   .refine wp_alloc_two (fun g1 V t1 bb hg=>?_)
    have b1:=Nat.le_trans HB.size hg
    replace HB:=bx HB bb
    have ne:g1≠g2:=Nat.ne_of_gt (Nat.lt_of_lt_of_le t2.lt hg)
    replace t2:=t2.to bb
    replace z1:=z1.to bb
    refine hK.out _ _ HB ?_
    exact dn (S112 _ _ _ _ _ HB z1 t1 b1 t2 b2 ne)
  have S1:∀(V:World) (x1 y1:Value),Below Y1.heap.size Y1 V->Zc V x1 y1 (upN p q)->G 9 #[true,true,true,false,false,true,false,true,false,false,false,false,false,false] ⟨#[.agg #[a1,a2,a3,a4],.agg #[b1,b2,b3,b4],.pointer (some ⟨w.heap.size,0,none⟩),.pointer (some ⟨w.heap.size+1,0,none⟩),.pointer (some ⟨w.heap.size+1+1,0,none⟩),undef,undef,.agg #[a1,a2,a3,a4],.agg #[x1,y1],.agg #[b1,b2,b3,b4],undef,undef,.agg #[b1,b2,b3,b4],undef,.agg #[a1,a2,a3,a4],undef,undef,undef,undef,undef,undef,undef,undef,undef,undef,undef],[]⟩ V:=by
   intro V x1 y1 HB z1
   refine up ?_
   refine wpAnyH_ready (rs:=[3,10,11]) (by kernel_rfl) (by simp) (ready_cons rfl (by rfl) (fun K hK=>?_) (ready_cons rfl (by rfl) (fun K hK=>?_) (ready_cons rfl (by rfl) (fun K hK=>?_) AllReadyH.nil)))
   .go_simp
    refine (rden_z (h4.to HB)).mono ?_
    rintro e V ⟨x2,y2,rfl,z2,bb⟩
    replace HB:=bx HB bb
    replace z1:=z1.to bb
    refine hK.out _ _ HB ?_
    exact dn (S2 _ _ _ _ _ HB z1 z2)
   .refine wp_alloc_two (fun g1 V t1 bb hg=>?_)
    have b1:=Nat.le_trans HB.size hg
    replace HB:=bx HB bb
    replace z1:=z1.to bb
    refine hK.out _ _ HB ?_
    exact dn (S11 _ _ _ _ HB z1 t1 b1)
   .refine wp_alloc_two (fun g2 V t2 bb hg=>?_)
    have b2:=Nat.le_trans HB.size hg
    replace HB:=bx HB bb
    replace z1:=z1.to bb
    refine hK.out _ _ HB ?_
    exact dn (S12 _ _ _ _ HB z1 t2 b2)
  have S012:∀(V:World) (g1:Nat) (g2:Nat),Below Y1.heap.size Y1 V->Two V g1 (.bool false) (.slice none 0 0)->Y1.heap.size<=g1->Two V g2 (.bool false) (.slice none 0 0)->Y1.heap.size<=g2->g1≠g2->G 8 #[true,false,true,false,false,true,false,true,false,false,true,true,false,false] ⟨#[.agg #[a1,a2,a3,a4],.agg #[b1,b2,b3,b4],.pointer (some ⟨w.heap.size,0,none⟩),.pointer (some ⟨w.heap.size+1,0,none⟩),.pointer (some ⟨w.heap.size+1+1,0,none⟩),.pointer (some ⟨g1,0,none⟩),.pointer (some ⟨g2,0,none⟩),.agg #[a1,a2,a3,a4],undef,.agg #[b1,b2,b3,b4],undef,undef,.agg #[b1,b2,b3,b4],undef,.agg #[a1,a2,a3,a4],undef,undef,undef,undef,undef,undef,undef,undef,undef,undef,undef],[]⟩ V:=by
   intro V g1 g2 HB t1 b1 t2 b2 ne
   refine up ?_
   refine rdy1 (i:=1) (by kernel_rfl) rfl (by rfl) (fun K hK=>?_)
   go_simp
   refine (rnum_z (h1.to HB) (h2.to HB)).mono ?_
   rintro e V ⟨x1,y1,rfl,z1,bb⟩
   replace HB:=bx HB bb
   replace t1:=t1.to bb
   replace t2:=t2.to bb
   refine hK.out _ _ HB ?_
   exact dn (S112 _ _ _ _ _ HB z1 t1 b1 t2 b2 ne)
  have S01:∀(V:World) (g1:Nat),Below Y1.heap.size Y1 V->Two V g1 (.bool false) (.slice none 0 0)->Y1.heap.size<=g1->G 9 #[true,false,true,false,false,true,false,true,false,false,true,false,false,false] ⟨#[.agg #[a1,a2,a3,a4],.agg #[b1,b2,b3,b4],.pointer (some ⟨w.heap.size,0,none⟩),.pointer (some ⟨w.heap.size+1,0,none⟩),.pointer (some ⟨w.heap.size+1+1,0,none⟩),.pointer (some ⟨g1,0,none⟩),undef,.agg #[a1,a2,a3,a4],undef,.agg #[b1,b2,b3,b4],undef,undef,.agg #[b1,b2,b3,b4],undef,.agg #[a1,a2,a3,a4],undef,undef,undef,undef,undef,undef,undef,undef,undef,undef,undef],[]⟩ V:=by
   intro V g1 HB t1 b1
   refine up ?_
   refine wpAnyH_ready (rs:=[1,11]) (by kernel_rfl) (by simp) (ready_cons rfl (by rfl) (fun K hK=>?_) (ready_cons rfl (by rfl) (fun K hK=>?_) AllReadyH.nil))
   .go_simp
    refine (rnum_z (h1.to HB) (h2.to HB)).mono ?_
    rintro e V ⟨x1,y1,rfl,z1,bb⟩
    replace HB:=bx HB bb
    replace t1:=t1.to bb
    refine hK.out _ _ HB ?_
    exact dn (S11 _ _ _ _ HB z1 t1 b1)
   .refine wp_alloc_two (fun g2 V t2 bb hg=>?_)
    have b2:=Nat.le_trans HB.size hg
    replace HB:=bx HB bb
    have ne:g1≠g2:=Nat.ne_of_lt (Nat.lt_of_lt_of_le t1.lt hg)
    replace t1:=t1.to bb
    refine hK.out _ _ HB ?_
    exact dn (S012 _ _ _ HB t1 b1 t2 b2 ne)
  have S02:∀(V:World) (g2:Nat),Below Y1.heap.size Y1 V->Two V g2 (.bool false) (.slice none 0 0)->Y1.heap.size<=g2->G 9 #[true,false,true,false,false,true,false,true,false,false,false,true,false,false] ⟨#[.agg #[a1,a2,a3,a4],.agg #[b1,b2,b3,b4],.pointer (some ⟨w.heap.size,0,none⟩),.pointer (some ⟨w.heap.size+1,0,none⟩),.pointer (some ⟨w.heap.size+1+1,0,none⟩),undef,.pointer (some ⟨g2,0,none⟩),.agg #[a1,a2,a3,a4],undef,.agg #[b1,b2,b3,b4],undef,undef,.agg #[b1,b2,b3,b4],undef,.agg #[a1,a2,a3,a4],undef,undef,undef,undef,undef,undef,undef,undef,undef,undef,undef],[]⟩ V:=by
   intro V g2 HB t2 b2
   refine up ?_
   refine wpAnyH_ready (rs:=[1,10]) (by kernel_rfl) (by simp) (ready_cons rfl (by rfl) (fun K hK=>?_) (ready_cons rfl (by rfl) (fun K hK=>?_) AllReadyH.nil))
   .go_simp
    refine (rnum_z (h1.to HB) (h2.to HB)).mono ?_
    rintro e V ⟨x1,y1,rfl,z1,bb⟩
    replace HB:=bx HB bb
    replace t2:=t2.to bb
    refine hK.out _ _ HB ?_
    exact dn (S12 _ _ _ _ HB z1 t2 b2)
   .refine wp_alloc_two (fun g1 V t1 bb hg=>?_)
    have b1:=Nat.le_trans HB.size hg
    replace HB:=bx HB bb
    have ne:g1≠g2:=Nat.ne_of_gt (Nat.lt_of_lt_of_le t2.lt hg)
    replace t2:=t2.to bb
    refine hK.out _ _ HB ?_
    exact dn (S012 _ _ _ HB t1 b1 t2 b2 ne)
  have S0:∀(V:World),Below Y1.heap.size Y1 V->G 10 #[true,false,true,false,false,true,false,true,false,false,false,false,false,false] ⟨#[.agg #[a1,a2,a3,a4],.agg #[b1,b2,b3,b4],.pointer (some ⟨w.heap.size,0,none⟩),.pointer (some ⟨w.heap.size+1,0,none⟩),.pointer (some ⟨w.heap.size+1+1,0,none⟩),undef,undef,.agg #[a1,a2,a3,a4],undef,.agg #[b1,b2,b3,b4],undef,undef,.agg #[b1,b2,b3,b4],undef,.agg #[a1,a2,a3,a4],undef,undef,undef,undef,undef,undef,undef,undef,undef,undef,undef],[]⟩ V:=by
   intro V HB
   refine up ?_
   refine wpAnyH_ready (rs:=[1,10,11]) (by kernel_rfl) (by simp) (ready_cons rfl (by rfl) (fun K hK=>?_) (ready_cons rfl (by rfl) (fun K hK=>?_) (ready_cons rfl (by rfl) (fun K hK=>?_) AllReadyH.nil)))
   .go_simp
    refine (rnum_z (h1.to HB) (h2.to HB)).mono ?_
    rintro e V ⟨x1,y1,rfl,z1,bb⟩
    replace HB:=bx HB bb
    refine hK.out _ _ HB ?_
    exact dn (S1 _ _ _ HB z1)
   .refine wp_alloc_two (fun g1 V t1 bb hg=>?_)
    have b1:=Nat.le_trans HB.size hg
    replace HB:=bx HB bb
    refine hK.out _ _ HB ?_
    exact dn (S01 _ _ HB t1 b1)
   .refine wp_alloc_two (fun g2 V t2 bb hg=>?_)
    have b2:=Nat.le_trans HB.size hg
    replace HB:=bx HB bb
    refine hK.out _ _ HB ?_
    exact dn (S02 _ _ HB t2 b2)
  exact S0 _ HB
 rintro v' Y2 ⟨gtX,gtY,tX0,tX1,tY0,tY1,_,_,_,_,_,_,_,_,_,_,rfl,tX,ztX,tY,ztY,hge,bb⟩
 simp only[Act.put,List.setIfInBounds_toArray,List.set_cons_zero,List.set_cons_succ]
 have hntX:gtX≠(w.heap.size+1+1):=by have:=tR.lt;omega
 have hntY:gtY≠(w.heap.size+1+1):=by have:=tR.lt;omega
 clear hge
 replace tA:=tA.to bb
 replace tB:=tB.to bb
 replace tR:=tR.to bb
 replace h1:=h1.to bb
 replace h2:=h2.to bb
 replace h3:=h3.to bb
 replace h4:=h4.to bb
 replace HB:=Hxb HB bb
 clear bb
 clear h1 h3
 go_wp2_with fail
 refine wp_region_plan (S:=fun w'=>Below w.heap.size w w'/\Four w' (w.heap.size) a1 a2 a3 a4/\Four w' (w.heap.size+1) b1 b2 b3 b4/\Two w' (gtX) tX0 tX1/\Two w' (gtY) tY0 tY1) [(0,true),(1,true),(3,true),(5,true),(2,false),(4,false),(6,false),(7,false),(8,false),(9,false)] (by kernel_rfl) (by kernel_rfl) ⟨HB.out.drew,tA.to (Below.refl _ _).drew,tB.to (Below.refl _ _).drew,tX.to (Below.refl _ _).drew,tY.to (Below.refl _ _).drew⟩ ?_
 have hb:=HB.out.drew
 replace tA:=tA.to (Below.refl _ _).drew
 replace tB:=tB.to (Below.refl _ _).drew
 replace tX:=tX.to (Below.refl _ _).drew
 replace tY:=tY.to (Below.refl _ _).drew
 replace tR:=tR.to (Below.refl _ _).drew
 replace h2:=h2.to (Below.refl _ _).drew
 replace h4:=h4.to (Below.refl _ _).drew
 replace ztX:=ztX.to (Below.refl _ _).drew
 replace ztY:=ztY.to (Below.refl _ _).drew
 clear HB
 refine plan_take rfl (by rfl) (fun w' hS=>load_two (by rfl) (hS.2.2.2.1)) ?_;simp only[Act.put,List.setIfInBounds_toArray,List.set_cons_zero,List.set_cons_succ]
 refine plan_take rfl (by rfl) (fun w' hS=>load_two (by rfl) (hS.2.2.2.2)) ?_;simp only[Act.put,List.setIfInBounds_toArray,List.set_cons_zero,List.set_cons_succ]
 refine plan_take rfl (by rfl) (fun w' hS=>load_four (by rfl) (hS.2.1)) ?_;simp only[Act.put,List.setIfInBounds_toArray,List.set_cons_zero,List.set_cons_succ]
 refine plan_take rfl (by rfl) (fun w' hS=>load_four (by rfl) (hS.2.2.1)) ?_;simp only[Act.put,List.setIfInBounds_toArray,List.set_cons_zero,List.set_cons_succ]
 refine plan_call rfl (by rfl) (fun K hK=>?_)
 go_simp
 refine (radd_z (ztX.zs sX.out) (ztY.zs sY.out)).mono ?_
 rintro e V3 ⟨x3,y3,rfl,z3,bb⟩
 replace hb:=Bxb hb bb
 replace tA:=tA.to bb
 replace tB:=tB.to bb
 replace tX:=tX.to bb
 replace tY:=tY.to bb
 replace tR:=tR.to bb
 replace h2:=h2.to bb
 replace h4:=h4.to bb
 refine hK.out _ _ ⟨hb,tA,tB,tX,tY⟩ ?_
 clear hK K bb
 refine plan_call rfl (by rfl) (fun K hK=>?_)
 go_simp
 refine (rden_z h2).mono ?_
 rintro e V4 ⟨x4,y4,rfl,z4,bb⟩
 replace hb:=Bxb hb bb
 replace tA:=tA.to bb
 replace tB:=tB.to bb
 replace tX:=tX.to bb
 replace tY:=tY.to bb
 replace tR:=tR.to bb
 replace h4:=h4.to bb
 replace z3:=z3.to bb
 refine hK.out _ _ ⟨hb,tA,tB,tX,tY⟩ ?_
 clear hK K bb
 refine plan_call rfl (by rfl) (fun K hK=>?_)
 go_simp
 refine (rden_z h4).mono ?_
 rintro e V5 ⟨x5,y5,rfl,z5,bb⟩
 replace hb:=Bxb hb bb
 replace tA:=tA.to bb
 replace tB:=tB.to bb
 replace tX:=tX.to bb
 replace tY:=tY.to bb
 replace tR:=tR.to bb
 replace z3:=z3.to bb
 replace z4:=z4.to bb
 refine hK.out _ _ ⟨hb,tA,tB,tX,tY⟩ ?_
 clear hK K bb
 refine plan_call rfl (by rfl) (fun K hK=>?_)
 go_simp
 refine (rmul_z (z4.zs sD.out) (z5.zs sD'.out)).mono ?_
 rintro e V6 ⟨x6,y6,rfl,z6,bb⟩
 replace hb:=Bxb hb bb
 replace tA:=tA.to bb
 replace tB:=tB.to bb
 replace tX:=tX.to bb
 replace tY:=tY.to bb
 replace tR:=tR.to bb
 replace z3:=z3.to bb
 refine hK.out _ _ ⟨hb,tA,tB,tX,tY⟩ ?_
 clear hK K bb
 refine plan_call rfl (by rfl) (fun K hK=>?_)
 go_simp
 refine (over_z (z3.zs sS.out) (z6.zs sDD.out) pDD.out).mono ?_
 rintro e V7 ⟨x7,y7,u7,v7,rfl,q7,bb⟩
 replace hb:=Bxb hb bb
 replace tA:=tA.to bb
 replace tB:=tB.to bb
 replace tX:=tX.to bb
 replace tY:=tY.to bb
 replace tR:=tR.to bb
 refine hK.out _ _ ⟨hb,tA,tB,tX,tY⟩ ?_
 clear hK K bb
 refine plan_call rfl (by rfl) (fun K hK=>?_)
 refine wp_store_q (by rfl) (by rfl) tR Fq.nil q7.fq (fun V u kp=>?_)
 replace tA:=kp.four (by omega) tA
 replace tB:=kp.four (by omega) tB
 replace tX:=kp.two (by omega) tX
 replace tY:=kp.two (by omega) tY
 replace hb:=kp.bel _ _ hb (by omega)
 replace q7:=kp.qc q7
 refine hK.out _ _ ⟨hb,tA,tB,tX,tY⟩ ?_
 clear hK K kp tR tA tB tX tY
 simp only[Act.put,List.setIfInBounds_toArray,List.set_cons_zero,List.set_cons_succ]
 refine plan_done ?_
 have U0:=u.c0
 have U1:=u.c1
 have U2:=u.c2
 have U3:=u.c3
 have RZ:=Hd q7
 have HE:=Hd hb
 obtain ⟨⟨n1,A1,j1,m1,rfl,rfl⟩,⟨n2,A2,j2,m2,rfl,rfl⟩⟩:=q7.fq
 clear q7 hb u
 go_wp2
 refine bodyPost_ret (v:=.agg #[.bool n1,.slice A1 j1 m1,.bool n2,.slice A2 j2 m2]) (by simp[results,Tryz.f83,go_sem,U0,U1,U2,U3]) rfl ?_
 exact ⟨_,_,_,_,rfl,RZ.out,HE.out⟩
end Go.Proofs.YtglhdielkkhefaaGreat
