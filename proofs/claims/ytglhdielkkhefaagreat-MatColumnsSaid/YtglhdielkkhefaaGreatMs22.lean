/- Parts: 8. -/
import Derived.Test.YtglhdielkkhefaaGreatMs16
import Derived.Test.YtglhdielkkhefaaGreatMs17
import Derived.Test.YtglhdielkkhefaaGreatMs19
import Derived.Test.YtglhdielkkhefaaGreatMs20
import Derived.Test.YtglhdielkkhefaaGreatMs21
set_option linter.unusedVariables false
set_option linter.unusedSimpArgs false
set_option maxRecDepth 100000
set_option maxHeartbeats 40000000

namespace Go.Proofs.YtglhdielkkhefaaGreat
open Go.RowKit Go.Shelf
theorem rsub_q {w:World}{a1 a2 a3 a4 b1 b2 b3 b4:Value}{r s:Rat}{k l:Nat}(hA:Qi w a1 a2 a3 a4 r k)(hB:Qi w b1 b2 b3 b4 s l)(hk:0<k)(hl:0<l)(hkl:k+l+1<=10000) :
  Calls Tryz.prog 134 #[.agg #[a1,a2,a3,a4],.agg #[b1,b2,b3,b4]] w (QR w (r-s)):=by
 have mB:=(hB.qm hl).neg
 rw[Rat.sub_eq_add_neg]
 obtain ⟨W0,hW0⟩:∃W0,W0=((w.alloc (.cells #[a1,a2,a3,a4] 32)).alloc (.cells #[b1,b2,b3,b4] 32)).alloc (.cells #[.bool false,.slice none 0 0,.bool false,.slice none 0 0] 32):=⟨_,rfl⟩
 have hbw:Below w.heap.size w W0:=by rw[hW0];exact ((((Below.refl _ _).alloc (Nat.le_refl _) _).alloc (by simp) _).alloc (by simp;omega) _)
 have tA:Four W0 (w.heap.size) a1 a2 a3 a4:=by
  have h:=Four.new w a1 a2 a3 a4 32
  rw[hW0];exact ((h.alloc _).alloc _)
 have tB:Four W0 (w.heap.size+1) b1 b2 b3 b4:=by
  have h:=Four.new (w.alloc (.cells #[a1,a2,a3,a4] 32)) b1 b2 b3 b4 32
  rw[World.size_alloc]at h
  rw[hW0];exact (h.alloc _)
 have tR:Four W0 (w.heap.size+1+1) (.bool false) (.slice none 0 0) (.bool false) (.slice none 0 0):=by
  have h:=Four.new ((w.alloc (.cells #[a1,a2,a3,a4] 32)).alloc (.cells #[b1,b2,b3,b4] 32)) (.bool false) (.slice none 0 0) (.bool false) (.slice none 0 0) 32
  rw[World.size_alloc,World.size_alloc]at h
  rw[hW0];exact h
 replace hA:=hA.to hbw
 replace hB:=hB.to hbw
 have HW0:=Hd hW0
 have HB:=Hd hbw
 clear hW0 hbw
 go_enter Tryz.func134,Tryz.ntmps134
 go_wp2_with fail
 rw[<-HW0.out]
 clear HW0
 refine wp_region_plan (S:=fun w'=>Below w.heap.size w w'/\Four w' (w.heap.size) a1 a2 a3 a4/\Four w' (w.heap.size+1) b1 b2 b3 b4) [(0,true),(1,true),(2,false),(3,false),(4,false)] (by kernel_rfl) (by kernel_rfl) ⟨HB.out.drew,tA.to (Below.refl _ _).drew,tB.to (Below.refl _ _).drew⟩ ?_
 have hb:=HB.out.drew
 replace tA:=tA.to (Below.refl _ _).drew
 replace tB:=tB.to (Below.refl _ _).drew
 replace tR:=tR.to (Below.refl _ _).drew
 replace hA:=hA.to (Below.refl _ _).drew
 replace hB:=hB.to (Below.refl _ _).drew
 clear HB
 refine plan_take rfl (by rfl) (fun w' hS=>load_four (by rfl) (hS.2.1)) ?_
 refine plan_take rfl (by rfl) (fun w' hS=>load_four (by rfl) (hS.2.2)) ?_
 refine plan_call rfl (by rfl) (fun K hK=>?_)
 go_simp
 refine (rneg_q hB hl (by omega)).mono ?_
 rintro e V1 ⟨x1,y1,u1,v1,rfl,q1,bb⟩
 replace hb:=Bxb hb bb
 replace tA:=tA.to bb
 replace tB:=tB.to bb
 replace tR:=tR.to bb
 replace hA:=hA.to bb
 refine hK.out _ _ ⟨hb,tA,tB⟩ ?_
 clear hK K bb
 refine plan_call rfl (by rfl) (fun K hK=>?_)
 go_simp
 refine (radd_q hA (q1.qi mB (by omega)) hk hl hkl).mono ?_
 rintro e V2 ⟨x2,y2,u2,v2,rfl,q2,bb⟩
 replace hb:=Bxb hb bb
 replace tA:=tA.to bb
 replace tB:=tB.to bb
 replace tR:=tR.to bb
 refine hK.out _ _ ⟨hb,tA,tB⟩ ?_
 clear hK K bb
 refine plan_call rfl (by rfl) (fun K hK=>?_)
 refine wp_store_q (by rfl) (by rfl) tR Fq.nil q2.fq (fun V u kp=>?_)
 replace tA:=kp.four (by omega) tA
 replace tB:=kp.four (by omega) tB
 replace hb:=kp.bel _ _ hb (by omega)
 replace q2:=kp.qc q2
 refine hK.out _ _ ⟨hb,tA,tB⟩ ?_
 clear hK K kp tR tA tB
 refine plan_done ?_
 have U0:=u.c0
 have U1:=u.c1
 have U2:=u.c2
 have U3:=u.c3
 have RZ:=Hd q2
 have HE:=Hd hb
 obtain ⟨⟨n1,A1,j1,m1,rfl,rfl⟩,⟨n2,A2,j2,m2,rfl,rfl⟩⟩:=q2.fq
 clear q2 hb u
 go_wp2
 refine bodyPost_ret (v:=.agg #[.bool n1,.slice A1 j1 m1,.bool n2,.slice A2 j2 m2]) (by simp[results,Tryz.f134,go_sem,U0,U1,U2,U3]) rfl ?_
 exact ⟨_,_,_,_,rfl,RZ.out,HE.out⟩
theorem rsign_q {w:World}{a1 a2 a3 a4:Value}{r:Rat}{k:Nat}(hA:Qi w a1 a2 a3 a4 r k)(hk2:k<=10000){v:Int}(hv:sgnQ r=v) :
  Calls Tryz.prog 133 #[.agg #[a1,a2,a3,a4]] w (fun e w'=>e=.returned (.int .i64 v)/\Below w.heap.size w w'):=by
 obtain ⟨p,q,h1,h2,rfl,s1,s2⟩:=hA
 have sN:Hid (Sg (upN p q)):=(s1.upN q).sg hk2
 rw[sgn_up]at hv
 have HV:=Hd hv
 clear s1 s2 hk2 hv
 obtain ⟨W0,hW0⟩:∃W0,W0=w.alloc (.cells #[a1,a2,a3,a4] 32):=⟨_,rfl⟩
 have hbw:Below w.heap.size w W0:=by rw[hW0];exact ((Below.refl _ _).alloc (Nat.le_refl _) _)
 have tA:Four W0 (w.heap.size) a1 a2 a3 a4:=by
  have h:=Four.new w a1 a2 a3 a4 32
  rw[hW0];exact h
 replace h1:=h1.to hbw
 replace h2:=h2.to hbw
 have HW0:=Hd hW0
 have HB:=Hd hbw
 clear hW0 hbw
 go_enter Tryz.func133,Tryz.ntmps133
 go_wp2_with fail
 rw[<-HW0.out]
 clear HW0
 have kktA0:=tA.c0
 have kktA1:=tA.c1
 have kktA2:=tA.c2
 have kktA3:=tA.c3
 go_wp2_with fail
 refine (rnum_z h1 h2).mono ?_
 rintro e V1 ⟨x1,y1,rfl,z1,bb⟩
 clear kktA0 kktA1 kktA2 kktA3
 replace tA:=tA.to bb
 replace HB:=Hxb HB bb
 clear bb
 have kktA0:=tA.c0
 have kktA1:=tA.c1
 have kktA2:=tA.c2
 have kktA3:=tA.c3
 go_wp2_with fail
 refine (rsign_v (z1.zs sN.out) HV.out).mono ?_
 rintro e V2 ⟨rfl,bb⟩
 clear kktA0 kktA1 kktA2 kktA3
 replace tA:=tA.to bb
 replace HB:=Hxb HB bb
 clear bb
 clear tA
 go_wp2
 go_ret
 exact ⟨rfl,HB.out⟩
theorem rcmp_q {w:World}{a1 a2 a3 a4 b1 b2 b3 b4:Value}{r s:Rat}{k l:Nat}(hA:Qi w a1 a2 a3 a4 r k)(hB:Qi w b1 b2 b3 b4 s l)(hk:0<k)(hl:0<l)(hkl:k+l+1<=10000){v:Int}(hv:cmpQ r s=v) :
  Calls Tryz.prog 102 #[.agg #[a1,a2,a3,a4],.agg #[b1,b2,b3,b4]] w (fun e w'=>e=.returned (.int .i64 v)/\Below w.heap.size w w'):=by
 have m:=(hA.qm hk).sub (hB.qm hl)
 rw[<-sgn_sub]at hv
 have HV:=Hd hv
 clear hv
 obtain ⟨W0,hW0⟩:∃W0,W0=(w.alloc (.cells #[a1,a2,a3,a4] 32)).alloc (.cells #[b1,b2,b3,b4] 32):=⟨_,rfl⟩
 have hbw:Below w.heap.size w W0:=by rw[hW0];exact (((Below.refl _ _).alloc (Nat.le_refl _) _).alloc (by simp) _)
 have tA:Four W0 (w.heap.size) a1 a2 a3 a4:=by
  have h:=Four.new w a1 a2 a3 a4 32
  rw[hW0];exact (h.alloc _)
 have tB:Four W0 (w.heap.size+1) b1 b2 b3 b4:=by
  have h:=Four.new (w.alloc (.cells #[a1,a2,a3,a4] 32)) b1 b2 b3 b4 32
  rw[World.size_alloc]at h
  rw[hW0];exact h
 replace hA:=hA.to hbw
 replace hB:=hB.to hbw
 have HW0:=Hd hW0
 have HB:=Hd hbw
 clear hW0 hbw
 go_enter Tryz.func102,Tryz.ntmps102
 go_wp2_with fail
 rw[<-HW0.out]
 clear HW0
 have kktA0:=tA.c0
 have kktA1:=tA.c1
 have kktA2:=tA.c2
 have kktA3:=tA.c3
 have kktB0:=tB.c0
 have kktB1:=tB.c1
 have kktB2:=tB.c2
 have kktB3:=tB.c3
 go_wp2_with fail
 refine (rsub_q hA hB hk hl hkl).mono ?_
 rintro e V1 ⟨x1,y1,u1,v1,rfl,q1,bb⟩
 clear kktA0 kktA1 kktA2 kktA3 kktB0 kktB1 kktB2 kktB3
 replace tA:=tA.to bb
 replace tB:=tB.to bb
 replace HB:=Hxb HB bb
 clear bb
 have kktA0:=tA.c0
 have kktA1:=tA.c1
 have kktA2:=tA.c2
 have kktA3:=tA.c3
 have kktB0:=tB.c0
 have kktB1:=tB.c1
 have kktB2:=tB.c2
 have kktB3:=tB.c3
 go_wp2_with fail
 refine (rsign_q (q1.qi m hkl) hkl HV.out).mono ?_
 rintro e V2 ⟨rfl,bb⟩
 clear kktA0 kktA1 kktA2 kktA3 kktB0 kktB1 kktB2 kktB3
 replace tA:=tA.to bb
 replace tB:=tB.to bb
 replace HB:=Hxb HB bb
 clear bb
 clear tA tB
 go_wp2
 go_ret
 exact ⟨rfl,HB.out⟩
theorem rint_q (n:Int)(n1:-9223372036854775808<=n)(n2:n<=9223372036854775807)(w:World) :
  Calls Tryz.prog 66 #[.int .i64 n] w (QR w (n:Rat)):=by
 have HN:=Hd fun W=>rfrom_z n n1 n2 W
 clear n1 n2
 obtain ⟨W0,hW0⟩:∃W0,W0=w.alloc (.cells #[.bool false,.slice none 0 0,.bool false,.slice none 0 0] 32):=⟨_,rfl⟩
 have hbw:Below w.heap.size w W0:=by rw[hW0];exact ((Below.refl _ _).alloc (Nat.le_refl _) _)
 have tR:Four W0 (w.heap.size) (.bool false) (.slice none 0 0) (.bool false) (.slice none 0 0):=by
  have h:=Four.new w (.bool false) (.slice none 0 0) (.bool false) (.slice none 0 0) 32
  rw[hW0];exact h
 have HW0:=Hd hW0
 have HB:=Hd hbw
 clear hW0 hbw
 go_enter Tryz.func66,Tryz.ntmps66
 go_wp2_with fail
 rw[<-HW0.out]
 clear HW0
 go_wp2_with fail
 refine (HN.out _).mono ?_
 rintro e V1 ⟨x1,y1,rfl,z1,bb⟩
 replace tR:=tR.to bb
 replace HB:=Hxb HB bb
 clear bb
 have rq:Qc _ x1 y1 (.bool false) (.slice none 0 0) (n:Rat):=⟨z1,zc_nil _⟩
 have RZ:=Hd rq
 obtain ⟨V99,eV,u,kp⟩:=pack4 tR Fq.nil x1 y1 (.bool false) (.slice none 0 0)
 obtain ⟨n1,A1,j1,m1,rfl,rfl⟩:=rq.fq.1
 obtain ⟨v0,v1,v2,v3,v4,v5,v6,v7,_⟩:=tR
 have EV:=Hd eV
 have KP:=Hd kp
 have U:=Hd u
 clear eV kp u rq
 go_wp2
 rw[EV.out]
 refine bodyPost_ret (v:=.agg #[.bool n1,.slice A1 j1 m1,.bool false,.slice none 0 0]) (by simp[results,Tryz.f66,go_sem,U.out.c0,U.out.c1,U.out.c2,U.out.c3]) rfl ?_
 exact ⟨_,_,_,_,rfl,RZ.out.k4 KP.out,KP.out.bel _ _ HB.out (by omega)⟩
theorem Zc.same {w:World}{x y x' y':Value}{a b:Int}(ha:Zc w x y a)(hb:Zc w x' y' b){v:Bool}(hv:decide (a=b)=v):Calls Tryz.prog 52 #[.agg #[x,y],.agg #[x',y']] w fun e w'=>e=.returned (.bool v)/\Below w.heap.size w w':=by
 subst hv;exact same_c ha hb
theorem den_cell {r s:Rat}(h:r≠s)(hn:r.num=s.num):(if r.den=1 then 0 else (r.den:Int))≠(if s.den=1 then 0 else (s.den:Int)):=by
 intro h2
 apply h
 refine Rat.ext hn ?_
 have h3:=r.den_pos
 have h4:=s.den_pos
 split at h2<;>split at h2<;>omega
theorem is_t {w:World}{a1 a2 a3 a4 b1 b2 b3 b4:Value}{r s:Rat}(hA:Qc w a1 a2 a3 a4 r)(hB:Qc w b1 b2 b3 b4 s)(h:r=s) :
  Calls Tryz.prog 15 #[.agg #[a1,a2,a3,a4],.agg #[b1,b2,b3,b4]] w (fun e w'=>e=.returned (.bool true)/\Below w.heap.size w w'):=by
 have e1:Hid (decide (r.num=s.num)=true):=decide_eq_true (by rw[h])
 have e2:Hid (decide ((if r.den=1 then 0 else (r.den:Int))=(if s.den=1 then 0 else (s.den:Int)))=true):=decide_eq_true (by rw[h])
 clear h
 obtain ⟨W0,hW0⟩:∃W0,W0=(w.alloc (.cells #[a1,a2,a3,a4] 32)).alloc (.cells #[b1,b2,b3,b4] 32):=⟨_,rfl⟩
 have hbw:Below w.heap.size w W0:=by rw[hW0];exact (((Below.refl _ _).alloc (Nat.le_refl _) _).alloc (by simp) _)
 have tA:Four W0 (w.heap.size) a1 a2 a3 a4:=by
  have h:=Four.new w a1 a2 a3 a4 32
  rw[hW0];exact (h.alloc _)
 have tB:Four W0 (w.heap.size+1) b1 b2 b3 b4:=by
  have h:=Four.new (w.alloc (.cells #[a1,a2,a3,a4] 32)) b1 b2 b3 b4 32
  rw[World.size_alloc]at h
  rw[hW0];exact h
 replace hA:=hA.to hbw
 replace hB:=hB.to hbw
 have HW0:=Hd hW0
 have HB:=Hd hbw
 clear hW0 hbw
 go_enter Tryz.func15,Tryz.ntmps15
 go_wp2_with fail
 rw[<-HW0.out]
 clear HW0
 have kktA0:=tA.c0
 have kktA1:=tA.c1
 have kktA2:=tA.c2
 have kktA3:=tA.c3
 have kktB0:=tB.c0
 have kktB1:=tB.c1
 have kktB2:=tB.c2
 have kktB3:=tB.c3
 go_wp2_with fail
 refine (hA.1.same hB.1 e1.out).mono ?_
 rintro e V1 ⟨rfl,bb⟩
 clear kktA0 kktA1 kktA2 kktA3 kktB0 kktB1 kktB2 kktB3
 replace tA:=tA.to bb
 replace tB:=tB.to bb
 replace hA:=hA.to bb
 replace hB:=hB.to bb
 replace HB:=Hxb HB bb
 clear bb
 have kktA0:=tA.c0
 have kktA1:=tA.c1
 have kktA2:=tA.c2
 have kktA3:=tA.c3
 have kktB0:=tB.c0
 have kktB1:=tB.c1
 have kktB2:=tB.c2
 have kktB3:=tB.c3
 go_wp2_with fail
 refine (hA.2.same hB.2 e2.out).mono ?_
 rintro e V2 ⟨rfl,bb⟩
 clear kktA0 kktA1 kktA2 kktA3 kktB0 kktB1 kktB2 kktB3
 replace tA:=tA.to bb
 replace tB:=tB.to bb
 replace HB:=Hxb HB bb
 clear bb
 clear tA tB
 go_wp2
 go_ret
 exact ⟨rfl,HB.out⟩
theorem is_n {w:World}{a1 a2 a3 a4 b1 b2 b3 b4:Value}{r s:Rat}(hA:Qc w a1 a2 a3 a4 r)(hB:Qc w b1 b2 b3 b4 s)(h:r.num≠s.num) :
  Calls Tryz.prog 15 #[.agg #[a1,a2,a3,a4],.agg #[b1,b2,b3,b4]] w (fun e w'=>e=.returned (.bool false)/\Below w.heap.size w w'):=by
 have e1:Hid (decide (r.num=s.num)=false):=decide_eq_false h
 clear h
 obtain ⟨W0,hW0⟩:∃W0,W0=(w.alloc (.cells #[a1,a2,a3,a4] 32)).alloc (.cells #[b1,b2,b3,b4] 32):=⟨_,rfl⟩
 have hbw:Below w.heap.size w W0:=by rw[hW0];exact (((Below.refl _ _).alloc (Nat.le_refl _) _).alloc (by simp) _)
 have tA:Four W0 (w.heap.size) a1 a2 a3 a4:=by
  have h:=Four.new w a1 a2 a3 a4 32
  rw[hW0];exact (h.alloc _)
 have tB:Four W0 (w.heap.size+1) b1 b2 b3 b4:=by
  have h:=Four.new (w.alloc (.cells #[a1,a2,a3,a4] 32)) b1 b2 b3 b4 32
  rw[World.size_alloc]at h
  rw[hW0];exact h
 replace hA:=hA.to hbw
 replace hB:=hB.to hbw
 have HW0:=Hd hW0
 have HB:=Hd hbw
 clear hW0 hbw
 go_enter Tryz.func15,Tryz.ntmps15
 go_wp2_with fail
 rw[<-HW0.out]
 clear HW0
 have kktA0:=tA.c0
 have kktA1:=tA.c1
 have kktA2:=tA.c2
 have kktA3:=tA.c3
 have kktB0:=tB.c0
 have kktB1:=tB.c1
 have kktB2:=tB.c2
 have kktB3:=tB.c3
 go_wp2_with fail
 refine (hA.1.same hB.1 e1.out).mono ?_
 rintro e V1 ⟨rfl,bb⟩
 clear kktA0 kktA1 kktA2 kktA3 kktB0 kktB1 kktB2 kktB3
 replace tA:=tA.to bb
 replace tB:=tB.to bb
 replace hA:=hA.to bb
 replace hB:=hB.to bb
 replace HB:=Hxb HB bb
 clear bb
 clear tA tB
 go_wp2
 go_ret
 exact ⟨rfl,HB.out⟩
theorem is_d {w:World}{a1 a2 a3 a4 b1 b2 b3 b4:Value}{r s:Rat}(hA:Qc w a1 a2 a3 a4 r)(hB:Qc w b1 b2 b3 b4 s)(h:r≠s)(hn:r.num=s.num) :
  Calls Tryz.prog 15 #[.agg #[a1,a2,a3,a4],.agg #[b1,b2,b3,b4]] w (fun e w'=>e=.returned (.bool false)/\Below w.heap.size w w'):=by
 have e1:Hid (decide (r.num=s.num)=true):=decide_eq_true hn
 have e2:Hid (decide ((if r.den=1 then 0 else (r.den:Int))=(if s.den=1 then 0 else (s.den:Int)))=false):=decide_eq_false (den_cell h hn)
 clear h hn
 obtain ⟨W0,hW0⟩:∃W0,W0=(w.alloc (.cells #[a1,a2,a3,a4] 32)).alloc (.cells #[b1,b2,b3,b4] 32):=⟨_,rfl⟩
 have hbw:Below w.heap.size w W0:=by rw[hW0];exact (((Below.refl _ _).alloc (Nat.le_refl _) _).alloc (by simp) _)
 have tA:Four W0 (w.heap.size) a1 a2 a3 a4:=by
  have h:=Four.new w a1 a2 a3 a4 32
  rw[hW0];exact (h.alloc _)
 have tB:Four W0 (w.heap.size+1) b1 b2 b3 b4:=by
  have h:=Four.new (w.alloc (.cells #[a1,a2,a3,a4] 32)) b1 b2 b3 b4 32
  rw[World.size_alloc]at h
  rw[hW0];exact h
 replace hA:=hA.to hbw
 replace hB:=hB.to hbw
 have HW0:=Hd hW0
 have HB:=Hd hbw
 clear hW0 hbw
 go_enter Tryz.func15,Tryz.ntmps15
 go_wp2_with fail
 rw[<-HW0.out]
 clear HW0
 have kktA0:=tA.c0
 have kktA1:=tA.c1
 have kktA2:=tA.c2
 have kktA3:=tA.c3
 have kktB0:=tB.c0
 have kktB1:=tB.c1
 have kktB2:=tB.c2
 have kktB3:=tB.c3
 go_wp2_with fail
 refine (hA.1.same hB.1 e1.out).mono ?_
 rintro e V1 ⟨rfl,bb⟩
 clear kktA0 kktA1 kktA2 kktA3 kktB0 kktB1 kktB2 kktB3
 replace tA:=tA.to bb
 replace tB:=tB.to bb
 replace hA:=hA.to bb
 replace hB:=hB.to bb
 replace HB:=Hxb HB bb
 clear bb
 have kktA0:=tA.c0
 have kktA1:=tA.c1
 have kktA2:=tA.c2
 have kktA3:=tA.c3
 have kktB0:=tB.c0
 have kktB1:=tB.c1
 have kktB2:=tB.c2
 have kktB3:=tB.c3
 go_wp2_with fail
 refine (hA.2.same hB.2 e2.out).mono ?_
 rintro e V2 ⟨rfl,bb⟩
 clear kktA0 kktA1 kktA2 kktA3 kktB0 kktB1 kktB2 kktB3
 replace tA:=tA.to bb
 replace tB:=tB.to bb
 replace HB:=Hxb HB bb
 clear bb
 clear tA tB
 go_wp2
 go_ret
 exact ⟨rfl,HB.out⟩
theorem is_q {w:World}{a1 a2 a3 a4 b1 b2 b3 b4:Value}{r s:Rat}(hA:Qc w a1 a2 a3 a4 r)(hB:Qc w b1 b2 b3 b4 s){v:Bool}(hv:decide (r=s)=v):Calls Tryz.prog 15 #[.agg #[a1,a2,a3,a4],.agg #[b1,b2,b3,b4]] w fun e w'=>e=.returned (.bool v)/\Below w.heap.size w w':=by
 subst hv
 by_cases h:r=s
 .rw[decide_eq_true h];exact is_t hA hB h
 .rw[decide_eq_false h]
  by_cases hn:r.num=s.num
  .exact is_d hA hB h hn
  .exact is_n hA hB hn
theorem rints_v {w:World}{A:Option Addr}{c:Nat}{ns:List Int}(h:Rn w A ns)(hn:∀n∈ns,-9223372036854775808<=n/\n<=9223372036854775807)(hl:ns.length+1<=1000000) :
  Calls Tryz.prog 50 #[.slice A ns.length c] w (VR w (ratsOf ns)):=by
 have H:=Hd h
 have HN:=Hd hn
 have HL:=Hd hl
 obtain ⟨f,hf⟩:∃f:Nat->Rat,Hid (f=fun i=>(ratsOf ns).getD i 0):=⟨_,rfl⟩
 obtain ⟨N,hN⟩:∃N,ns.length=N:=⟨_,rfl⟩
 have HNN:=Hd hN
 rw[hN]at hl HL ⊢
 clear h hn hN
 go_enter Tryz.func50,Tryz.ntmps50
 go_wp2
 go_loopw [3,4] (fun v i wr=>∃(k:Nat) (A1:Option Addr) (c1:Nat),v=.slice A1 k c1/\i=.int .i64 k/\k<=N/\Hid (TotV wr (.slice A1 k c1) k f w.heap.size)/\Below w.heap.size w wr) (fun _ i _=>N-(intOf i).toNat)
 case atStart=>exact ⟨0,none,0,rfl,rfl,Nat.zero_le _,.inl ⟨rfl,rfl⟩,Below.refl _ _⟩
 case round =>
  obtain ⟨k,A1,c1,rfl,rfl,hk,hT,hb⟩:=hrel
  by_cases hlt:k<N
  .have hk1:(0:Int)<=(k:Int):=by omega
   have hk2:(k:Int)<(N:Int):=by omega
   have hk3:(k:Int)+1<=9223372036854775807:=by omega
   have hkn:k<ns.length:=by have:=HNN.out;omega
   obtain ⟨b,o,rfl,hc⟩:=H.out k hkn
   have hbn:=HN.out _ (List.getElem_mem hkn)
   have hfk:Hid (f k=((ns[k]:Int):Rat)):=by show _=_;rw[hf.out];simp[ratsOf,List.getD,hkn]
   have cc:=(hb.cell (p:=⟨b,o+k,none⟩) (World.block_lt_of_cell? w _ hc)).trans hc
   generalize ns[k]=n at hbn hfk cc
   have HB:=Hd hb
   have HLT:=Hd hlt
   have HBN:=Hd hbn
   clear hc hb hkn hbn hlt
   go_wp2_with fail
   refine (rint_q n HBN.out.1 HBN.out.2 wr).mono ?_
   rintro e V ⟨x1,x2,x3,x4,rfl,q,bb⟩
   have bb2:Below V.heap.size V (V.alloc (.cells #[x1,x2,x3,x4] 32)):=(Below.refl _ _).alloc (Nat.le_refl _) _
   have c5:=(Hp.new V #[x1,x2,x3,x4] 32).four
   have hB1:=HB.out.trans (bb.mono HB.out.size)
   have hB2:=Bxb hB1 bb2
   obtain ⟨v',X,hrun,hT2,hbel⟩:=qapp ((hT.out.to bb).to bb2) hB2.size (by have:=HL.out;have:=HLT.out;omega) (e:=⟨x1,x2,x3,x4⟩) q.fq (by rw[hfk.out];exact q.to bb2) (a:=⟨V.heap.size,0,none⟩) (c:=1) c5.c0 c5.c1 c5.c2 c5.c3 38
   obtain ⟨A2,c2,rfl⟩:=hT2.sl
   have HRUN:=Hd hrun
   have HE:Hid (TotV X (.slice A2 (k+1) c2) (k+1) f w.heap.size/\Below w.heap.size w X):=⟨hT2,hB2.trans hbel⟩
   clear bb2 c5 hbel hrun bb q hT2 hB1 hB2
   go_wp2_with (at_builtin;refine wpList_append_run rfl (.tmp 11) (.tmp 17) 38 rfl (by rfl) (by rfl) HRUN.out ?_;clear HRUN)
   go_roundw
   case rel=>exact ⟨k+1,A2,c2,rfl,by simp,HLT.out,HE.out.1,HE.out.2⟩
   case measure=>have:=HLT.out;simp[intOf];omega
  .obtain rfl:k=N:=by omega
   have HT:=hT
   have HB:=Hd hb
   clear hT hb hlt
   go_wp2
   go_ret
   have h1:=HT.out
   have h2:(ratsOf ns).length=k:=by rw[ratsOf_length,HNN.out]
   rw[hf.out]at h1
   subst h2
   exact h1.vr (by have:=HL.out;omega) HB.out
def unitQ (n k:Int):List Rat:=(List.range (min n.toNat 65536)).map fun i:Nat=>if (i:Int)=k then (1:Rat) else 0
theorem unitQ_length (n k:Int):(unitQ n k).length=min n.toNat 65536:=by simp[unitQ]
theorem unitQ_in {n k:Int}{i:Nat}(h:i<min n.toNat 65536):(unitQ n k).getD i 0=if (i:Int)=k then (1:Rat) else 0:=by
 rw[getD_lt (by rw[unitQ_length];exact h)]
 simp[unitQ]
theorem unit_out {w:World}{n k:Int}(hn:n<1)(hn2:n<=9223372036854775807) :
  Calls Tryz.prog 47 #[.int .i64 n,.int .i64 k] w fun e w'=>e=.returned (.slice none 0 0)/\Below w.heap.size w w':=by
 have HC:=Hd (resize_nil (w:=w) (A:=none) (c:=0) (l:=0) hn)
 by_cases hk:0<=k
 .have hk2:¬k<0:=by omega
  go_enter Tryz.func47,Tryz.ntmps47
  go_wp2_with fail
  refine HC.out.mono ?_
  rintro e V ⟨rfl,bb⟩
  go_wp2
  go_ret
  exact ⟨rfl,bb⟩
 .go_enter Tryz.func47,Tryz.ntmps47
  go_wp2_with fail
  refine HC.out.mono ?_
  rintro e V ⟨rfl,bb⟩
  go_wp2
  go_ret
  exact ⟨rfl,bb⟩
theorem unit_far {w:World}{n k:Int}(hn:1<=n)(hn2:n<=9223372036854775807){N:Nat}(hN:min n 65536=(N:Int))(hk:¬(0<=k/\k<(N:Int))) :
  Calls Tryz.prog 47 #[.int .i64 n,.int .i64 k] w fun e w'=>∃g fl,e=.returned (.slice (some ⟨g,0,none⟩) N N)/\w.heap.size<=g/\Row w' g fl/\fl.length=N/\(∀i,i<N->Qc w' (fl.getD i E4.z).a (fl.getD i E4.z).b (fl.getD i E4.z).c (fl.getD i E4.z).d (if (i:Int)=k then (1:Rat) else 0))/\Below w.heap.size w w':=by
 have HC:=Hd (resize_row (Vi.nil w (k:=1) (c:=0) (A:=none) (by decide)) (by decide) (by decide) hn hn2 hN)
 have HK:=Hd hk
 clear hN hn hn2
 by_cases h0:0<=k
 .have h1:¬k<(N:Int):=fun h=>hk ⟨h0,h⟩
  clear hk
  go_enter Tryz.func47,Tryz.ntmps47
  go_wp2_with fail
  refine HC.out.mono ?_
  rintro e V ⟨g,fl,rfl,hg,hr,hl,hq,bb⟩
  have HE:Hid (w.heap.size<=g/\Row V g fl/\fl.length=N/\(∀i,i<N->Qc V (fl.getD i E4.z).a (fl.getD i E4.z).b (fl.getD i E4.z).c (fl.getD i E4.z).d (if (i:Int)=k then (1:Rat) else 0))/\Below w.heap.size w V) :=
   ⟨hg,hr,hl,fun i hi=>by rw[if_neg (by omega)];exact hq i hi,bb⟩
  clear hg hr hl hq bb
  go_wp2
  go_ret
  first|exact ⟨g,fl,rfl,HE.out⟩|exact ⟨g,rfl,HE.out.1,fl,HE.out.2⟩
 .clear hk
  go_enter Tryz.func47,Tryz.ntmps47
  go_wp2_with fail
  refine HC.out.mono ?_
  rintro e V ⟨g,fl,rfl,hg,hr,hl,hq,bb⟩
  have HE:Hid (w.heap.size<=g/\Row V g fl/\fl.length=N/\(∀i,i<N->Qc V (fl.getD i E4.z).a (fl.getD i E4.z).b (fl.getD i E4.z).c (fl.getD i E4.z).d (if (i:Int)=k then (1:Rat) else 0))/\Below w.heap.size w V) :=
   ⟨hg,hr,hl,fun i hi=>by rw[if_neg (by omega)];exact hq i hi,bb⟩
  clear hg hr hl hq bb
  go_wp2
  go_ret
  first|exact ⟨g,fl,rfl,HE.out⟩|exact ⟨g,rfl,HE.out.1,fl,HE.out.2⟩
theorem unit_at {w:World}{n:Int}{k:Nat}(hn:1<=n)(hn2:n<=9223372036854775807){N:Nat}(hN:min n 65536=(N:Int))(hk:k<N) :
  Calls Tryz.prog 47 #[.int .i64 n,.int .i64 (k:Int)] w fun e w'=>∃g fl,e=.returned (.slice (some ⟨g,0,none⟩) N N)/\w.heap.size<=g/\Row w' g fl/\fl.length=N/\(∀i,i<N->Qc w' (fl.getD i E4.z).a (fl.getD i E4.z).b (fl.getD i E4.z).c (fl.getD i E4.z).d (if (i:Int)=(k:Int) then (1:Rat) else 0))/\Below w.heap.size w w':=by
 have HC:=Hd (resize_row (Vi.nil w (k:=1) (c:=0) (A:=none) (by decide)) (by decide) (by decide) hn hn2 hN)
 have HK:=Hd hk
 have h0:(0:Int)<=(k:Int):=by omega
 have h1:(k:Int)<(N:Int):=by omega
 clear hN hn hn2 hk
 go_enter Tryz.func47,Tryz.ntmps47
 go_wp2_with fail
 refine HC.out.mono ?_
 rintro e V ⟨g,fl,rfl,hg,hr,hl,hq,bb⟩
 have HE:=Hd (show w.heap.size<=g/\Row V g fl/\fl.length=N/\(∀i,i<N->Qc V (fl.getD i E4.z).a (fl.getD i E4.z).b (fl.getD i E4.z).c (fl.getD i E4.z).d (([]:List Rat).getD i 0))/\Below w.heap.size w V from ⟨hg,hr,hl,hq,bb⟩)
 clear hg hr hl hq bb
 go_wp2_with fail
 refine (fromInt_q 1 (by decide) (by decide) V).mono ?_
 rintro e U ⟨x1,x2,x3,x4,rfl,q,bb⟩
 obtain ⟨hg,hr,hl,hq,b0⟩:=HE.out
 have R1:=Hd (hr.to bb)
 have R2:Hid (k<fl.length):=by show _<_;have:=HK.out;omega
 have QF:=Hd (show (⟨x1,x2,x3,x4⟩:E4).fq from q.fq)
 have HF:Hid (w.heap.size<=g/\Row (U.setRow g (flat (fl.set k ⟨x1,x2,x3,x4⟩)).toArray) g (fl.set k ⟨x1,x2,x3,x4⟩)/\(fl.set k ⟨x1,x2,x3,x4⟩).length=N/\(∀i,i<N->Qc (U.setRow g (flat (fl.set k ⟨x1,x2,x3,x4⟩)).toArray) ((fl.set k ⟨x1,x2,x3,x4⟩).getD i E4.z).a ((fl.set k ⟨x1,x2,x3,x4⟩).getD i E4.z).b ((fl.set k ⟨x1,x2,x3,x4⟩).getD i E4.z).c ((fl.set k ⟨x1,x2,x3,x4⟩).getD i E4.z).d (if (i:Int)=(k:Int) then (1:Rat) else 0))/\Below w.heap.size w (U.setRow g (flat (fl.set k ⟨x1,x2,x3,x4⟩)).toArray)):=by
  have kw:Kw U (U.setRow g (flat (fl.set k ⟨x1,x2,x3,x4⟩)).toArray):=R1.out.kw
  refine ⟨hg,R1.out.app q.fq,by simpa using hl,fun i hi=>?_,below_setRow (Bxb b0 bb) hg _⟩
  by_cases hik:i=k
  .subst hik
   rw[show (fl.set i (⟨x1,x2,x3,x4⟩:E4)).getD i E4.z=⟨x1,x2,x3,x4⟩ from by simp[List.getD,show i<fl.length by omega],if_pos rfl]
   exact kw.qc q
  .rw[show (fl.set k (⟨x1,x2,x3,x4⟩:E4)).getD i E4.z=fl.getD i E4.z from by simp[List.getD,List.getElem?_set,Ne.symm hik],if_neg (by omega)]
   exact kw.qc ((hq i hi).to bb)
 clear hg hr hl hq b0 bb q HE
 go_wp2_with (refine wpList_storeq rfl (.tmp 19) (.tmp 18) rfl (by rfl) (by rfl) R1.out R2.out QF.out ?_;clear R1)
 go_ret
 exact ⟨g,_,rfl,HF.out⟩
theorem vunit_v {w:World}{n k:Int}(hn2:n<=9223372036854775807):Calls Tryz.prog 47 #[.int .i64 n,.int .i64 k] w (VR w (unitQ n k)):=by
 by_cases hn:n<1
 .refine (unit_out hn hn2).mono ?_
  rintro e w' ⟨rfl,hb⟩
  have h0:unitQ n k=[]:=List.eq_nil_of_length_eq_zero (by rw[unitQ_length];omega)
  rw[h0]
  exact ⟨none,0,[],rfl,Vc.nil _ (by decide),hb⟩
 .have hN:min n 65536=((min n.toNat 65536:Nat):Int):=by omega
  have fin:∀e w',(∃g fl,e=Ending.returned (.slice (some ⟨g,0,none⟩) (min n.toNat 65536) (min n.toNat 65536))/\w.heap.size<=g/\Row w' g fl/\fl.length=min n.toNat 65536/\(∀i,i<min n.toNat 65536->Qc w' (fl.getD i E4.z).a (fl.getD i E4.z).b (fl.getD i E4.z).c (fl.getD i E4.z).d (if (i:Int)=k then (1:Rat) else 0))/\Below w.heap.size w w')->VR w (unitQ n k) e w':=by
   rintro e w' ⟨g,fl,rfl,_,hr,hl,hq,hb⟩
   refine ⟨some ⟨g,0,none⟩,min n.toNat 65536,fl,by rw[unitQ_length],hr.vc hl (unitQ_length ..) (by omega) fun i hi=>?_,hb⟩
   rw[unitQ_in hi]
   exact hq i hi
  by_cases hk:0<=k/\k<((min n.toNat 65536:Nat):Int)
  .obtain ⟨m,rfl⟩:=Int.eq_ofNat_of_zero_le hk.1
   exact (unit_at (by omega) hn2 hN (by omega)).mono fin
  .exact (unit_far (by omega) hn2 hN hk).mono fin
theorem is3_len {w:World}{A A':Option Addr}{l l' c c':Nat}(hl:l≠l') :
  Calls Tryz.prog 37 #[.slice A l c,.slice A' l' c'] w fun e w'=>e=.returned (.bool false)/\Below w.heap.size w w':=by
 have h1:((l:Int) != (l':Int))=true:=by rw[bne_iff_ne];omega
 clear hl
 go_enter Tryz.func37,Tryz.ntmps37
 go_wp2
 go_ret
 exact ⟨rfl,Below.refl _ _⟩
theorem is3_f {b:Nat->Bool}{w:World}{A A':Option Addr}{c c' L:Nat}{es fs:List E4}(hx:Rq w w.heap.size A es)(hy:Rq w w.heap.size A' fs)(h1:es.length=L)(h2:fs.length=L)(hL:L<=4398046511104)
  (hF:∀(V:World),Below w.heap.size w V->∀i,i<L->Calls Tryz.prog 15 #[(es.getD i E4.z).v,(fs.getD i E4.z).v] V fun e w'=>e=.returned (.bool (b i))/\Below V.heap.size V w') {r:Bool} (hr:(List.range L).all b=r) :
  Calls Tryz.prog 37 #[.slice A L c,.slice A' L c'] w fun e w'=>e=.returned (.bool r)/\Below w.heap.size w w':=by
 have RX:=Hd hx
 have RY:=Hd hy
 have H1:=Hd h1
 have H2:=Hd h2
 have HF:=Hd hF
 have HR:=Hd hr
 have hne:((L:Int) != (L:Int))=false:=by simp
 clear hx hy h1 h2 hF hr
 go_enter Tryz.func37,Tryz.ntmps37
 go_wp2
 go_loopw [5] (fun i wr=>∃k:Nat,i=.int .i64 k/\k<=L/\(∀j,j<k->b j=true)/\Below w.heap.size w wr) (fun i _=>L-(intOf i).toNat)
 case atStart=>exact ⟨0,rfl,Nat.zero_le _,(fun j hj=>by omega),Below.refl _ _⟩
 case round =>
  obtain ⟨k,rfl,hk,ht,hb⟩:=hrel
  have HT:=Hd ht
  have HB:=Hd hb
  clear ht hb
  by_cases hlt:k<L
  .have hki:(0:Int)<=(k:Int):=by omega
   have hki':(k:Int)<(L:Int):=by omega
   have hkx:k<es.length:=by have:=H1.out;omega
   have hky:k<fs.length:=by have:=H2.out;omega
   have HC:=Hd (fun (V:World) (hV:Below w.heap.size w V)=>HF.out V hV k hlt)
   obtain ⟨b1,o1,rfl,hb1,f0,f1,f2,f3⟩:=RX.out k hkx
   obtain ⟨b2,o2,rfl,hb2,g0,g1,g2,g3⟩:=RY.out k hky
   rw[getD_at' hkx,getD_at' hky]at HC
   have FX:Hid (∀w',Below w.heap.size w w'->w'.cell? ⟨b1,o1+k*4,none⟩=some es[k].a/\w'.cell? ⟨b1,o1+k*4+1,none⟩=some es[k].b/\w'.cell? ⟨b1,o1+k*4+2,none⟩=some es[k].c/\w'.cell? ⟨b1,o1+k*4+3,none⟩=some es[k].d):=fun w' hS =>
    ⟨(hS.cell (p:=⟨b1,_,none⟩) hb1).trans f0,(hS.cell (p:=⟨b1,_,none⟩) hb1).trans f1,(hS.cell (p:=⟨b1,_,none⟩) hb1).trans f2,(hS.cell (p:=⟨b1,_,none⟩) hb1).trans f3⟩
   have FY:Hid (∀w',Below w.heap.size w w'->w'.cell? ⟨b2,o2+k*4,none⟩=some fs[k].a/\w'.cell? ⟨b2,o2+k*4+1,none⟩=some fs[k].b/\w'.cell? ⟨b2,o2+k*4+2,none⟩=some fs[k].c/\w'.cell? ⟨b2,o2+k*4+3,none⟩=some fs[k].d):=fun w' hS =>
    ⟨(hS.cell (p:=⟨b2,_,none⟩) hb2).trans g0,(hS.cell (p:=⟨b2,_,none⟩) hb2).trans g1,(hS.cell (p:=⟨b2,_,none⟩) hb2).trans g2,(hS.cell (p:=⟨b2,_,none⟩) hb2).trans g3⟩
   generalize es[k]=X at FX HC
   generalize fs[k]=Y at FY HC
   obtain ⟨x1,x2,x3,x4⟩:=X
   obtain ⟨y1,y2,y3,y4⟩:=Y
   simp only[E4.v]at HC
   dsimp only at FX FY
   have HLT:=Hd hlt
   clear f0 f1 f2 f3 g0 g1 g2 g3 hb1 hb2 hkx hky HF RX RY hlt
   obtain ⟨v,hv⟩:∃v,b k=v:=⟨_,rfl⟩
   rw[hv]at HC
   have HV:=Hd hv
   clear hv
   cases v with
   | true =>
    go_wp2_with fail
    refine wp_region_plan (S:=fun w'=>Below w.heap.size w w') [(0,true),(1,true),(2,true),(3,true),(4,true),(5,true),(6,true),(7,true),(8,false),(9,true)] (by kernel_rfl) (by kernel_rfl) HB.out.drew ?_
    have hb:=HB.out.drew
    iterate 8 (refine plan_take (v:=?_) rfl (by rfl) ?_ ?_;rotate_left;(focus (intro w' hS;obtain ⟨f0,f1,f2,f3⟩:=FX.out w' hS;obtain ⟨g0,g1,g2,g3⟩:=FY.out w' hS;go_simp;try with_reducible rfl)))
    refine plan_call rfl (by rfl) (fun K hK=>?_)
    go_simp
    refine (HC.out _ hb).mono ?_
    rintro e V ⟨rfl,bb⟩
    replace hb:=Bxb hb bb
    refine hK.out _ _ hb ?_
    clear hK K bb
    refine plan_take (v:=?_) rfl (by rfl) ?_ ?_;rotate_left;(focus (intro w' hS;obtain ⟨f0,f1,f2,f3⟩:=FX.out w' hS;obtain ⟨g0,g1,g2,g3⟩:=FY.out w' hS;go_simp;try with_reducible rfl))
    refine plan_done ?_
    have HE:=Hd hb
    clear hb HB
    go_wp2
    go_roundw
    case rel =>
     refine ⟨k+1,by simp,HLT.out,fun j hj=>?_,HE.out⟩
     by_cases hjk:j=k
     .subst hjk;exact HV.out
     .exact HT.out j (by omega)
    case measure=>have:=HLT.out;simp[intOf];omega
   | false =>
    go_wp2_with fail
    refine wp_region_plan (S:=fun w'=>Below w.heap.size w w') [(0,true),(1,true),(2,true),(3,true),(4,true),(5,true),(6,true),(7,true),(8,false),(9,true)] (by kernel_rfl) (by kernel_rfl) HB.out.drew ?_
    have hb:=HB.out.drew
    iterate 8 (refine plan_take (v:=?_) rfl (by rfl) ?_ ?_;rotate_left;(focus (intro w' hS;obtain ⟨f0,f1,f2,f3⟩:=FX.out w' hS;obtain ⟨g0,g1,g2,g3⟩:=FY.out w' hS;go_simp;try with_reducible rfl)))
    refine plan_call rfl (by rfl) (fun K hK=>?_)
    go_simp
    refine (HC.out _ hb).mono ?_
    rintro e V ⟨rfl,bb⟩
    replace hb:=Bxb hb bb
    refine hK.out _ _ hb ?_
    clear hK K bb
    refine plan_take (v:=?_) rfl (by rfl) ?_ ?_;rotate_left;(focus (intro w' hS;obtain ⟨f0,f1,f2,f3⟩:=FX.out w' hS;obtain ⟨g0,g1,g2,g3⟩:=FY.out w' hS;go_simp;try with_reducible rfl))
    refine plan_done ?_
    have HE:=Hd hb
    clear hb HB
    go_wp2
    go_ret
    refine ⟨?_,HE.out⟩
    rw[<-HR.out,show (List.range L).all b=false from by
     rw[List.all_eq_false]
     exact ⟨k,by simpa using HLT.out,by rw[HV.out];decide⟩]
    rfl
  .obtain rfl:k=L:=by omega
   go_wp2
   go_ret
   refine ⟨?_,HB.out⟩
   rw[<-HR.out,show (List.range k).all b=true from by
    rw[List.all_eq_true]
    intro x hx
    exact HT.out x (by simpa using hx)]
   rfl
theorem all_same {rs ss:List Rat}{L:Nat}(h1:rs.length=L)(h2:ss.length=L):(List.range L).all (fun i=>decide (rs.getD i 0=ss.getD i 0))=decide (rs=ss):=by
 rw[Bool.eq_iff_iff,List.all_eq_true,decide_eq_true_eq]
 constructor
 .intro h
  refine List.ext_getElem (by omega) fun i hi hj=>?_
  have:=h i (by simp;omega)
  rw[decide_eq_true_eq,getD_lt hi,getD_lt hj]at this
  exact this
 .rintro rfl x _
  simp
theorem vis_v {w:World}{A A':Option Addr}{c c':Nat}{es fs:List E4}{rs ss:List Rat}(hA:Vc w A c es rs)(hB:Vc w A' c' fs ss)(hL:rs.length<=4398046511104){v:Bool}(hv:decide (rs=ss)=v) :
  Calls Tryz.prog 37 #[.slice A rs.length c,.slice A' ss.length c'] w fun e w'=>e=.returned (.bool v)/\Below w.heap.size w w':=by
 by_cases h:rs.length=ss.length
 .rw[<-h]
  exact is3_f (b:=fun i=>decide (rs.getD i 0=ss.getD i 0)) hA.row hB.row hA.len (by rw[hB.len,h]) hL (fun V hV i _=>is_q ((hA.el i).to hV) ((hB.el i).to hV) rfl) (by rw[all_same rfl h.symm];exact hv)
 .rw[<-hv,decide_eq_false (fun e=>h (by rw[e]))]
  exact is3_len h
structure Im (W:World)(P:Option Addr)(N:Nat)(ns:Nat->List Int):Prop where
 row:∀k,k<N->∃b o A c,P=some ⟨b,o,none⟩/\b<W.heap.size/\W.cell? ⟨b,o+k,none⟩=some (.slice A (ns k).length c)/\Rn W A (ns k)
 bd:∀k,k<N->∀n∈ns k,-9223372036854775808<=n/\n<=9223372036854775807
 le:∀k,k<N->(ns k).length+1<=1000000
def Rs (W:World)(P:Option Addr)(N:Nat)(rs:Nat->List Rat):Prop:=∀k,k<N->∃b o A c,P=some ⟨b,o,none⟩/\b<W.heap.size/\W.cell? ⟨b,o+k,none⟩=some (.slice A (rs k).length c)
theorem Mc.rs {W:World}{P:Option Addr}{N C:Nat}{rs:Nat->List Rat}(h:Mc W P N C rs):Rs W P N rs:=fun k hk=>by
 obtain ⟨b,o,A,c,es,e,h1,h2,h3⟩:=h.row k hk
 exact ⟨b,o,A,c,e,h1,h2⟩
theorem Mi.rs {W:World}{P:Option Addr}{N C m:Nat}{rs:Nat->List Rat}(h:Mi W P N C rs m):Rs W P N rs:=fun k hk=>by
 obtain ⟨b,o,A,c,es,e,h1,h2,h3⟩:=h.row k hk
 exact ⟨b,o,A,c,e,h1,h2⟩
theorem Rn.go {W V:World}{A:Option Addr}{ns:List Int}(h:Rn W A ns)(hb:Below W.heap.size W V):Rn V A ns:=fun k hk=>by
 obtain ⟨b,o,e,hc⟩:=h k hk
 exact ⟨b,o,e,(hb.cell (p:=⟨b,o+k,none⟩) (World.block_lt_of_cell? W _ hc)).trans hc⟩
theorem Im.to {W V:World}{P:Option Addr}{N:Nat}{ns:Nat->List Int}(h:Im W P N ns)(hb:Below W.heap.size W V):Im V P N ns :=
 ⟨fun k hk=>by
  obtain ⟨b,o,A,c,e,h1,h2,h3⟩:=h.row k hk
  exact ⟨b,o,A,c,e,Nat.lt_of_lt_of_le h1 hb.size,(hb.cell (p:=⟨b,_,none⟩) h1).trans h2,h3.go hb⟩,h.bd,h.le⟩
theorem rints4_m {w:World}{P:Option Addr}{N C:Nat}{ns:Nat->List Int}(h:Im w P N ns)(hl:N+1<=1000000) :
  Calls Tryz.prog 42 #[.slice P N C] w (MR w N (fun k=>ratsOf (ns k))):=by
 have HL:=Hd hl
 have HI:=Hd (fun (V:World) (hV:Below w.heap.size w V) k (hk:k<N) {A:Option Addr} {c:Nat} (hA:Rn V A (ns k))=>rints_v (c:=c) hA (h.bd k hk) (h.le k hk))
 have HR:=Hd (fun (V:World) (hV:Below w.heap.size w V)=>(h.to hV).row)
 obtain ⟨rs,hrs⟩:∃rs:Nat->List Rat,rs=fun k=>ratsOf (ns k):=⟨_,rfl⟩
 have hrk:∀k,ratsOf (ns k)=rs k:=fun k=>by rw[hrs]
 simp only[hrk]at HI
 rw[<-hrs]
 have HRL:Hid (∀k,(rs k).length=(ns k).length):=fun k=>by rw[<-hrk,ratsOf_length]
 clear h hrs hrk
 go_enter Tryz.func42,Tryz.ntmps42
 go_wp2
 go_loopw [3,4] (fun v i wr=>∃(k:Nat) (A1:Option Addr) (c1:Nat),v=.slice A1 k c1/\i=.int .i64 k/\k<=N/\Hid (TotS (Vs rs) wr (.slice A1 k c1) k w.heap.size)/\Below w.heap.size w wr) (fun _ i _=>N-(intOf i).toNat)
 case atStart=>exact ⟨0,none,0,rfl,rfl,Nat.zero_le _,.inl ⟨rfl,rfl⟩,Below.refl _ _⟩
 case round =>
  obtain ⟨k,A1,c1,rfl,rfl,hk,hT,hb⟩:=hrel
  by_cases hlt:k<N
  .have hk1:(0:Int)<=(k:Int):=by omega
   have hk2:(k:Int)<(N:Int):=by omega
   have hk3:(k:Int)+1<=9223372036854775807:=by have:=HL.out;omega
   obtain ⟨b,o,A,c,rfl,hb1,cc,hA⟩:=HR.out wr hb k hlt
   have HC:=Hd (HI.out wr hb k hlt (c:=c) hA)
   clear hA hb1
   have HB:=Hd hb
   have HLT:=Hd hlt
   clear hb hlt hk
   go_wp2_with fail
   refine (HC.out).mono ?_
   rintro e V ⟨A2,c2,fl2,rfl,hv,bb⟩
   have bb2:Below V.heap.size V (V.alloc (.cells #[.slice A2 (rs k).length c2] 38)):=(Below.refl _ _).alloc (Nat.le_refl _) _
   have c5:=(Hp.new V #[.slice A2 (rs k).length c2] 38).one
   have hB1:=HB.out.trans (bb.mono HB.out.size)
   have hB2:=Bxb hB1 bb2
   obtain ⟨v',X,hrun,hT2,hbel⟩:=sapp (Vs.kept rs) ((hT.out.mv (Vs.kept rs) bb).mv (Vs.kept rs) bb2) hB2.size (by have:=HL.out;have:=HLT.out;omega) ⟨_,_,_,rfl⟩ ⟨A2,c2,fl2,rfl,hv.to bb2⟩ (a:=⟨V.heap.size,0,none⟩) (c:=1) c5 22
   obtain ⟨A3,c3,rfl⟩:=hT2.sl
   have HRUN:=Hd hrun
   have HE:Hid (TotS (Vs rs) X (.slice A3 (k+1) c3) (k+1) w.heap.size/\Below w.heap.size w X):=⟨hT2,hB2.trans hbel⟩
   clear bb2 c5 hbel hrun bb hv hT2 hB1 hB2
   go_wp2_with (at_builtin;refine wpList_append_run rfl (.tmp 11) (.tmp 17) 22 rfl (by rfl) (by rfl) HRUN.out ?_;clear HRUN)
   go_roundw
   case rel=>exact ⟨k+1,A3,c3,rfl,by simp,HLT.out,HE.out.1,HE.out.2⟩
   case measure=>have:=HLT.out;simp[intOf];omega
  .obtain rfl:k=N:=by omega
   have HT:=hT
   have HB:=Hd hb
   clear hT hb hlt hk
   go_wp2
   go_ret
   exact ⟨A1,c1,rfl,HT.out.mc,HB.out⟩
theorem is4_t {w:World}{P Q:Option Addr}{N C D:Nat}{rs ss:Nat->List Rat}(hx:Mc w P N C rs)(hy:Mc w Q N D ss)(he:∀k,k<N->rs k=ss k)(hl:∀k,k<N->(rs k).length<=4398046511104) :
  Calls Tryz.prog 20 #[.slice P N C,.slice Q N D] w fun e w'=>e=.returned (.bool true)/\Below w.heap.size w w':=by
 have RX:=Hd hx.row
 have RY:=Hd hy.row
 have HN:=Hd (hx.n63)
 have HE:=Hd he
 have HL:=Hd hl
 have hne:((N:Int) != (N:Int))=false:=by simp
 clear hx hy he hl
 go_enter Tryz.func20,Tryz.ntmps20
 go_wp2
 go_loopw [5] (fun i wr=>∃k:Nat,i=.int .i64 k/\k<=N/\Below w.heap.size w wr) (fun i _=>N-(intOf i).toNat)
 case atStart=>exact ⟨0,rfl,Nat.zero_le _,Below.refl _ _⟩
 case round =>
  obtain ⟨k,rfl,hk,hb⟩:=hrel
  by_cases hlt:k<N
  .have hk1:(0:Int)<=(k:Int):=by omega
   have hk2:(k:Int)<(N:Int):=by omega
   have hk3:(k:Int)+1<=9223372036854775807:=by have:=HN.out;omega
   obtain ⟨b1,o1,A1,c1,es1,rfl,hb1,f1,v1⟩:=RX.out k hlt
   obtain ⟨b2,o2,A2,c2,es2,rfl,hb2,f2,v2⟩:=RY.out k hlt
   have HC:=Hd (fun (V:World) (hV:Below w.heap.size w V)=>vis_v (v1.to hV) (v2.to hV) (HL.out k hlt) (decide_eq_true (HE.out k hlt)))
   have F1:Hid (∀V,Below w.heap.size w V->V.cell? ⟨b1,o1+k,none⟩=some (.slice A1 (rs k).length c1)):=fun V hV=>(hV.cell (p:=⟨b1,_,none⟩) hb1).trans f1
   have F2:Hid (∀V,Below w.heap.size w V->V.cell? ⟨b2,o2+k,none⟩=some (.slice A2 (ss k).length c2)):=fun V hV=>(hV.cell (p:=⟨b2,_,none⟩) hb2).trans f2
   have HB:=Hd hb
   have HLT:=Hd hlt
   clear v1 v2 hb1 hb2 hb hlt hk RX RY HE HL f1 f2
   go_wp2_with fail
   refine wp_region_plan (S:=fun w'=>Below w.heap.size w w') [(0,true),(1,true),(2,true),(3,true),(4,true),(5,true),(6,true),(7,true),(8,false),(9,true)] (by kernel_rfl) (by kernel_rfl) HB.out.drew ?_
   have hb:=HB.out.drew
   iterate 3 (refine plan_take (v:=?_) rfl (by rfl) ?_ ?_;rotate_left;(focus (intro w' _;go_simp;try with_reducible rfl));simp only[Act.put,List.setIfInBounds_toArray,List.set_cons_zero,List.set_cons_succ])
   refine plan_take (v:=?_) rfl (by rfl) ?_ ?_;rotate_left;(focus (intro w' hS;have f1:=F1.out w' hS;go_simp;try with_reducible rfl));simp only[Act.put,List.setIfInBounds_toArray,List.set_cons_zero,List.set_cons_succ]
   iterate 3 (refine plan_take (v:=?_) rfl (by rfl) ?_ ?_;rotate_left;(focus (intro w' _;go_simp;try with_reducible rfl));simp only[Act.put,List.setIfInBounds_toArray,List.set_cons_zero,List.set_cons_succ])
   refine plan_take (v:=?_) rfl (by rfl) ?_ ?_;rotate_left;(focus (intro w' hS;have f2:=F2.out w' hS;go_simp;try with_reducible rfl));simp only[Act.put,List.setIfInBounds_toArray,List.set_cons_zero,List.set_cons_succ]
   refine plan_call rfl (by rfl) (fun K hK=>?_)
   go_simp
   refine (HC.out _ hb).mono ?_
   rintro e V ⟨rfl,bb⟩
   replace hb:=Bxb hb bb
   refine hK.out _ _ hb ?_
   clear hK K bb
   refine plan_take (v:=?_) rfl (by rfl) ?_ ?_;rotate_left;(focus (intro w' _;go_simp;try with_reducible rfl));simp only[Act.put,List.setIfInBounds_toArray,List.set_cons_zero,List.set_cons_succ]
   refine plan_done ?_
   have HB2:=Hd hb
   clear hb HC F1 F2 HB
   go_wp2
   go_roundw
   case rel=>exact ⟨k+1,by simp,HLT.out,HB2.out⟩
   case measure=>have:=HLT.out;simp[intOf];omega
  .obtain rfl:k=N:=by omega
   have HB:=Hd hb
   clear hb hlt hk RX RY HE HL
   go_wp2
   go_ret
   exact ⟨rfl,HB.out⟩
theorem rcols_m {w:World}{P:Option Addr}{N C:Nat}{rs:Nat->List Rat}(hx:Rs w P N rs)(hN:N<=9223372036854775806)(hl:∀k,k<N->(rs k).length<=9223372036854775807) :
  Calls Tryz.prog 14 #[.slice P N C] w fun e w'=>e=.returned (.int .i64 (colsN rs N))/\Below w.heap.size w w':=by
 have RX:=Hd hx
 have HN:=Hd hN
 have HL:=Hd hl
 have HM:=Hd (fun k (hk:k<=N)=>colsN_le (rs:=rs) (M:=9223372036854775807) (N:=k) (fun j hj=>hl j (by omega)))
 clear hx hl hN
 go_enter Tryz.func14,Tryz.ntmps14
 go_wp2
 go_loopw [3,4] (fun v i wr=>∃k:Nat,v=.int .i64 (colsN rs k:Nat)/\i=.int .i64 k/\k<=N/\Below w.heap.size w wr) (fun _ i _=>N-(intOf i).toNat)
 case atStart=>exact ⟨0,rfl,rfl,Nat.zero_le _,Below.refl _ _⟩
 case round =>
  obtain ⟨k,rfl,rfl,hk,hb⟩:=hrel
  by_cases hlt:k<N
  .have hk1:(0:Int)<=(k:Int):=by omega
   have hk2:(k:Int)<(N:Int):=by omega
   have hk3:(k:Int)+1<=9223372036854775807:=by have:=HN.out;omega
   obtain ⟨b,o,A,c,rfl,hb1,f1⟩:=RX.out k hlt
   replace f1:=(hb.cell (p:=⟨b,_,none⟩) hb1).trans f1
   have e1:colsN rs (k+1)=max (colsN rs k) (rs k).length:=rfl
   have h1:=HM.out k (by omega)
   have h2:=HL.out k hlt
   have HLT:=Hd hlt
   have HB:=Hd hb
   clear hlt hb hk hb1
   obtain ⟨x,hx⟩:∃x,colsN rs (k+1)=x:=⟨_,rfl⟩
   have HX:=Hd hx
   rw[hx]at e1
   clear hx
   generalize colsN rs k=y at e1 h1 ⊢
   generalize (rs k).length=z at e1 f1 h2
   have e3:(max (y:Int) (z:Int))=(x:Int):=by omega
   clear e1 h1 h2
   go_wp2
   go_roundw
   case rel=>exact ⟨k+1,by rw[HX.out],by simp,HLT.out,HB.out⟩
   case measure=>have:=HLT.out;simp[intOf];omega
  .obtain rfl:k=N:=by omega
   have HB:=Hd hb
   clear hb hlt hk RX HL HM
   go_wp2
   go_ret
   exact ⟨rfl,HB.out⟩
theorem cols_m {w:World}{P:Option Addr}{N C:Nat}{rs:Nat->List Rat}(hx:Rs w P N rs)(hN:N<=9223372036854775806)(hl:∀k,k<N->(rs k).length<=9223372036854775807) :
  Calls Tryz.prog 13 #[.slice P N C] w fun e w'=>e=.returned (.int .i64 (colsN rs N))/\Below w.heap.size w w':=by
 have RX:=Hd hx
 have HN:=Hd hN
 have HL:=Hd hl
 have HM:=Hd (fun k (hk:k<=N)=>colsN_le (rs:=rs) (M:=9223372036854775807) (N:=k) (fun j hj=>hl j (by omega)))
 clear hx hl hN
 go_enter Tryz.func13,Tryz.ntmps13
 go_wp2
 go_loopw [3,8] (fun v i wr=>∃k:Nat,v=.int .i64 (colsN rs k:Nat)/\i=.int .i64 k/\k<=N/\Below w.heap.size w wr) (fun _ i _=>N-(intOf i).toNat)
 case atStart=>exact ⟨0,rfl,rfl,Nat.zero_le _,Below.refl _ _⟩
 case round =>
  obtain ⟨k,rfl,rfl,hk,hb⟩:=hrel
  by_cases hlt:k<N
  .have hk1:(0:Int)<=(k:Int):=by omega
   have hk2:(k:Int)<(N:Int):=by omega
   have hk3:(k:Int)+1<=9223372036854775807:=by have:=HN.out;omega
   obtain ⟨b,o,A,c,rfl,hb1,f1⟩:=RX.out k hlt
   replace f1:=(hb.cell (p:=⟨b,_,none⟩) hb1).trans f1
   have e1:colsN rs (k+1)=max (colsN rs k) (rs k).length:=rfl
   have h1:=HM.out k (by omega)
   have h2:=HL.out k hlt
   have HLT:=Hd hlt
   have HB:=Hd hb
   clear hlt hb hk hb1
   obtain ⟨x,hx⟩:∃x,colsN rs (k+1)=x:=⟨_,rfl⟩
   have HX:=Hd hx
   rw[hx]at e1
   clear hx
   generalize colsN rs k=y at e1 h1 ⊢
   generalize (rs k).length=z at e1 f1 h2
   have e3:(max (y:Int) (z:Int))=(x:Int):=by omega
   clear e1 h1 h2
   go_wp2
   go_roundw
   case rel=>exact ⟨k+1,by rw[HX.out],by simp,HLT.out,HB.out⟩
   case measure=>have:=HLT.out;simp[intOf];omega
  .obtain rfl:k=N:=by omega
   have HB:=Hd hb
   clear hb hlt hk RX HL HM
   go_wp2
   go_ret
   exact ⟨rfl,HB.out⟩
theorem rowAt_in {w:World}{b o N C i n c:Nat}{A:Option Addr}(hc:w.cell? ⟨b,o+i,none⟩=some (.slice A n c))(hi:i<N)(hN:N<=9223372036854775807) :
  Calls Tryz.prog 53 #[.slice (some ⟨b,o,none⟩) N C,.int .i64 (i:Int)] w fun e w'=>e=.returned (.slice A n c)/\Below w.heap.size w w':=by
 have h0:(0:Int)<=(i:Int):=by omega
 have h1:¬(i:Int)<0:=by omega
 have h2:¬(N:Int)<=(i:Int):=by omega
 have h3:(i:Int)<(N:Int):=by omega
 clear hi
 go_enter Tryz.func53,Tryz.ntmps53
 go_wp2
 go_ret
 exact ⟨rfl,Below.refl _ _⟩
theorem at_m {w:World}{P:Option Addr}{N C m i j:Nat}{rs:Nat->List Rat}(hM:Mi w P N C rs m)(hm:m<=10000)(hi:i<N)(hl:(rs i).length<=4398046511104) :
  Calls Tryz.prog 16 #[.slice P N C,.int .i64 (i:Int),.int .i64 (j:Int)] w (QR w ((rs i).getD j 0)):=by
 have hN:=hM.n63
 obtain ⟨r,hr⟩:∃r,(rs i).getD j 0=r:=⟨_,rfl⟩
 have HRR:=Hd hr
 rw[hr]
 obtain ⟨b,o,A,c,es,rfl,hb1,hc,hv⟩:=hM.row i hi
 obtain ⟨W0,hW0⟩:∃W0,W0=w.alloc (.cells #[.bool false,.slice none 0 0,.bool false,.slice none 0 0] 32):=⟨_,rfl⟩
 have hbw:Below w.heap.size w W0:=by rw[hW0];exact (Below.refl _ _).alloc (Nat.le_refl _) _
 have tR:Four W0 w.heap.size (.bool false) (.slice none 0 0) (.bool false) (.slice none 0 0):=by rw[hW0];exact Four.new w _ _ _ _ _
 have HR:=Hd (rowAt_in (w:=W0) (C:=C) ((hbw.cell (p:=⟨b,_,none⟩) hb1).trans hc) hi hN)
 replace hv:=hv.to hbw
 have HW0:=Hd hW0
 have HB:=Hd hbw
 have hj0:¬(j:Int)<0:=by omega
 clear hM hi hc hb1 hW0 hbw hr
 go_enter Tryz.func16,Tryz.ntmps16
 go_wp2_with fail
 rw[<-HW0.out]
 refine HR.out.mono ?_
 rintro e V ⟨rfl,bb⟩
 replace tR:=tR.to bb
 replace hv:=hv.to bb
 replace HB:=Hxb HB bb
 clear bb HR HW0
 by_cases hj:j<(rs i).length
 .have hj1:¬((rs i).length:Int)<=(j:Int):=by omega
  have hj2:(j:Int)<((rs i).length:Int):=by omega
  have hj3:(0:Int)<=(j:Int):=by omega
  have hje:j<es.length:=by rw[hv.len];exact hj
  obtain ⟨b',o',rfl,hbo,f0,f1,f2,f3⟩:=hv.row j hje
  have hq:=hv.el j
  rw[getD_at' hje,HRR.out]at hq
  have HC:=Hd (canonical_q hq hm)
  generalize es[j]=X at f0 f1 f2 f3 HC
  obtain ⟨x1,x2,x3,x4⟩:=X
  dsimp only at f0 f1 f2 f3 HC
  clear hq hje hj hv hbo
  go_wp2_with fail
  refine HC.out.mono ?_
  rintro e V2 ⟨y1,y2,y3,y4,rfl,q,bb⟩
  replace tR:=tR.to bb
  replace HB:=Hxb HB bb
  clear bb HC f0 f1 f2 f3
  have RZ:=Hd q
  obtain ⟨V99,eV,u,kp⟩:=pack4 tR Fq.nil y1 y2 y3 y4
  obtain ⟨⟨n1,A1,k1,m1,rfl,rfl⟩,⟨n2,A2,k2,m2,rfl,rfl⟩⟩:=q.fq
  obtain ⟨v0,v1,v2,v3,v4,v5,v6,v7,_⟩:=tR
  have EV:=Hd eV
  have KP:=Hd kp
  have U:=Hd u
  clear eV kp u q
  go_wp2
  rw[EV.out]
  refine bodyPost_ret (v:=.agg #[.bool n1,.slice A1 k1 m1,.bool n2,.slice A2 k2 m2]) (by simp[results,Tryz.f16,go_sem,U.out.c0,U.out.c1,U.out.c2,U.out.c3]) rfl ?_
  exact ⟨_,_,_,_,rfl,RZ.out.k4 KP.out,KP.out.bel _ _ HB.out (by omega)⟩
 .have hj1:((rs i).length:Int)<=(j:Int):=by omega
  obtain rfl:r=0:=by rw[<-HRR.out,getD_ge (l:=rs i) (by omega)]
  obtain ⟨V99,eV,u,kp⟩:=pack4 tR Fq.nil (.bool false) (.slice none 0 0) (.bool false) (.slice none 0 0)
  obtain ⟨v0,v1,v2,v3,v4,v5,v6,v7,_⟩:=tR
  have EV:=Hd eV
  have KP:=Hd kp
  have U:=Hd u
  clear eV kp u hv hj
  go_wp2
  rw[EV.out]
  refine bodyPost_ret (v:=.agg #[.bool false,.slice none 0 0,.bool false,.slice none 0 0]) (by simp[results,Tryz.f16,go_sem,U.out.c0,U.out.c1,U.out.c2,U.out.c3]) rfl ?_
  exact ⟨_,_,_,_,rfl,⟨Zc.zero _,Zc.zero _⟩,KP.out.bel _ _ HB.out (by omega)⟩
theorem column_m {w:World}{P:Option Addr}{N C m j:Nat}{rs:Nat->List Rat}(hM:Mi w P N C rs m)(hm:m<=10000)(hl:N+1<=1000000)(hr:∀i,i<N->(rs i).length<=4398046511104) :
  Calls Tryz.prog 68 #[.slice P N C,.int .i64 (j:Int)] w (VR w (tab N (fun i=>(rs i).getD j 0))):=by
 have HL:=Hd hl
 obtain ⟨g,hg⟩:∃g:Nat->Rat,g=fun i=>(rs i).getD j 0:=⟨_,rfl⟩
 have HA:=Hd (fun (V:World) (hV:Below w.heap.size w V) k (hk:k<N)=>at_m (j:=j) (hM.to hV) hm hk (hr k hk))
 have hgk:∀i,(rs i).getD j 0=g i:=fun i=>by rw[hg]
 simp only[hgk]at HA
 rw[<-hg]
 clear hM hm hr hg hgk
 go_enter Tryz.func68,Tryz.ntmps68
 go_wp2_with (at_make;refine wpList_makeq _ rfl _ _ rfl 0 N rfl rfl (by omega) (by omega) (Nat.zero_le _) (by have:=HL.out;omega) ?_)
 have hacc:Hid (TotV (w.alloc (.cells (flat (List.replicate N E4.z)).toArray 32)) (.slice (some ⟨w.heap.size,0,none⟩) 0 N) 0 g w.heap.size):=TotV.new (Nat.le_refl _) (by have:=HL.out;omega)
 have hbw:Below w.heap.size w (w.alloc (.cells (flat (List.replicate N E4.z)).toArray 32)):=(Below.refl _ _).alloc (Nat.le_refl _) _
 generalize w.alloc (.cells (flat (List.replicate N E4.z)).toArray 32)=w1 at hacc hbw ⊢
 go_loopw [5,12] (fun v i wr=>∃(k:Nat) (A1:Option Addr) (c1:Nat),v=.slice A1 k c1/\i=.int .i64 k/\k<=N/\Hid (TotV wr (.slice A1 k c1) k g w.heap.size)/\Below w.heap.size w wr) (fun _ i _=>N-(intOf i).toNat)
 case atStart=>exact ⟨0,_,_,rfl,rfl,Nat.zero_le _,hacc,hbw⟩
 case round =>
  obtain ⟨k,A1,c1,rfl,rfl,hk,hT,hb⟩:=hrel
  clear hacc hbw
  by_cases hlt:k<N
  .have hk1:(0:Int)<=(k:Int):=by omega
   have hk2:(k:Int)<(N:Int):=by omega
   have hk3:(k:Int)+1<=9223372036854775807:=by have:=HL.out;omega
   have HC:=Hd (HA.out wr hb k hlt)
   have HB:=Hd hb
   have HLT:=Hd hlt
   clear hb hlt hk
   go_wp2_with fail
   refine (HC.out).mono ?_
   rintro e V ⟨x1,x2,x3,x4,rfl,q,bb⟩
   have bb2:Below V.heap.size V (V.alloc (.cells #[x1,x2,x3,x4] 32)):=(Below.refl _ _).alloc (Nat.le_refl _) _
   have c5:=(Hp.new V #[x1,x2,x3,x4] 32).four
   have hB1:=HB.out.trans (bb.mono HB.out.size)
   have hB2:=Bxb hB1 bb2
   obtain ⟨v',X,hrun,hT2,hbel⟩:=qapp ((hT.out.to bb).to bb2) hB2.size (by have:=HL.out;have:=HLT.out;omega) (e:=⟨x1,x2,x3,x4⟩) q.fq (q.to bb2) (a:=⟨V.heap.size,0,none⟩) (c:=1) c5.c0 c5.c1 c5.c2 c5.c3 38
   obtain ⟨A3,c3,rfl⟩:=hT2.sl
   have HRUN:=Hd hrun
   have HE:Hid (TotV X (.slice A3 (k+1) c3) (k+1) g w.heap.size/\Below w.heap.size w X):=⟨hT2,hB2.trans hbel⟩
   clear bb2 c5 hbel hrun bb q hT2 hB1 hB2
   go_wp2_with (at_builtin;refine wpList_append_run rfl (.tmp 15) (.tmp 20) 38 rfl (by rfl) (by rfl) HRUN.out ?_;clear HRUN)
   go_roundw
   case rel=>exact ⟨k+1,A3,c3,rfl,by simp,HLT.out,HE.out.1,HE.out.2⟩
   case measure=>have:=HLT.out;simp[intOf];omega
  .obtain rfl:k=N:=by omega
   have HT:=hT
   have HB:=Hd hb
   clear hT hb hlt hk
   go_wp2
   go_ret
   exact HT.out.vtab (by have:=HL.out;omega) HB.out
theorem mulVec_m {w:World}{P A':Option Addr}{N C m c' l:Nat}{rs:Nat->List Rat}{fs:List E4}{ss:List Rat}(hM:Mi w P N C rs m)(hX:Vi w A' c' fs ss l)(hm:0<m)(hl0:0<l)(hl:N+1<=1000000)(hr:∀i,i<N->(rs i).length<=4398046511104)(hs:ss.length<=4398046511104)(hb0:∀i,i<N->(max (rs i).length ss.length)*(m+l+1)+1+(m+l)+1<=10000) :
  Calls Tryz.prog 38 #[.slice P N C,.slice A' ss.length c'] w (VR w (tab N (fun i=>dotQ (rs i) ss))):=by
 have HL:=Hd hl
 obtain ⟨g,hg⟩:∃g:Nat->Rat,g=fun i=>dotQ (rs i) ss:=⟨_,rfl⟩
 have HD:=Hd (fun (V:World) (hV:Below w.heap.size w V) k (hk:k<N) {A:Option Addr} {c:Nat} {es:List E4} (h:Vi V A c es (rs k) m)=>vdot_v (c:=c) (c':=c') h (hX.to hV) hm hl0 (hr k hk) hs (hb0 k hk))
 have HR:=Hd (fun (V:World) (hV:Below w.heap.size w V)=>(hM.to hV).row)
 have hgk:∀i,dotQ (rs i) ss=g i:=fun i=>by rw[hg]
 simp only[hgk]at HD
 rw[<-hg]
 clear hM hX hm hl0 hr hs hb0 hg hgk
 go_enter Tryz.func38,Tryz.ntmps38
 go_wp2_with (at_make;refine wpList_makeq _ rfl _ _ rfl 0 N rfl rfl (by omega) (by omega) (Nat.zero_le _) (by have:=HL.out;omega) ?_)
 have hacc:Hid (TotV (w.alloc (.cells (flat (List.replicate N E4.z)).toArray 32)) (.slice (some ⟨w.heap.size,0,none⟩) 0 N) 0 g w.heap.size):=TotV.new (Nat.le_refl _) (by have:=HL.out;omega)
 have hbw:Below w.heap.size w (w.alloc (.cells (flat (List.replicate N E4.z)).toArray 32)):=(Below.refl _ _).alloc (Nat.le_refl _) _
 generalize w.alloc (.cells (flat (List.replicate N E4.z)).toArray 32)=w1 at hacc hbw ⊢
 go_loopw [5,13] (fun v i wr=>∃(k:Nat) (A1:Option Addr) (c1:Nat),v=.slice A1 k c1/\i=.int .i64 k/\k<=N/\Hid (TotV wr (.slice A1 k c1) k g w.heap.size)/\Below w.heap.size w wr) (fun _ i _=>N-(intOf i).toNat)
 case atStart=>exact ⟨0,_,_,rfl,rfl,Nat.zero_le _,hacc,hbw⟩
 case round =>
  obtain ⟨k,A1,c1,rfl,rfl,hk,hT,hb⟩:=hrel
  clear hacc hbw
  by_cases hlt:k<N
  .have hk1:(0:Int)<=(k:Int):=by omega
   have hk2:(k:Int)<(N:Int):=by omega
   have hk3:(k:Int)+1<=9223372036854775807:=by have:=HL.out;omega
   obtain ⟨b,o,A,c,es,rfl,hb1,cc,hv⟩:=HR.out wr hb k hlt
   have HC:=Hd (HD.out wr hb k hlt hv)
   clear hb1 hv
   have HB:=Hd hb
   have HLT:=Hd hlt
   clear hb hlt hk
   go_wp2_with fail
   refine (HC.out).mono ?_
   rintro e V ⟨x1,x2,x3,x4,rfl,q,bb⟩
   have bb2:Below V.heap.size V (V.alloc (.cells #[x1,x2,x3,x4] 32)):=(Below.refl _ _).alloc (Nat.le_refl _) _
   have c5:=(Hp.new V #[x1,x2,x3,x4] 32).four
   have hB1:=HB.out.trans (bb.mono HB.out.size)
   have hB2:=Bxb hB1 bb2
   obtain ⟨v',X,hrun,hT2,hbel⟩:=qapp ((hT.out.to bb).to bb2) hB2.size (by have:=HL.out;have:=HLT.out;omega) (e:=⟨x1,x2,x3,x4⟩) q.fq (q.to bb2) (a:=⟨V.heap.size,0,none⟩) (c:=1) c5.c0 c5.c1 c5.c2 c5.c3 38
   obtain ⟨A3,c3,rfl⟩:=hT2.sl
   have HRUN:=Hd hrun
   have HE:Hid (TotV X (.slice A3 (k+1) c3) (k+1) g w.heap.size/\Below w.heap.size w X):=⟨hT2,hB2.trans hbel⟩
   clear bb2 c5 hbel hrun bb q hT2 hB1 hB2 cc HC
   go_wp2_with (at_builtin;refine wpList_append_run rfl (.tmp 17) (.tmp 21) 38 rfl (by rfl) (by rfl) HRUN.out ?_;clear HRUN)
   go_roundw
   case rel=>exact ⟨k+1,A3,c3,rfl,by simp,HLT.out,HE.out.1,HE.out.2⟩
   case measure=>have:=HLT.out;simp[intOf];omega
  .obtain rfl:k=N:=by omega
   have HT:=hT
   have HB:=Hd hb
   clear hT hb hlt hk
   go_wp2
   go_ret
   exact HT.out.vtab (by have:=HL.out;omega) HB.out
theorem Hp.cellAt {W:World}{g:Nat}{cs:Array Value}{t:TypeId}(h:Hp W g (.cells cs t (0,0)))(j:Nat):W.cell? ⟨g,j,none⟩=cs[j]?:=by simp[World.cell?,show W.heap[g]?=_ from h]
theorem sm2_of {z:Int}(h:z.natAbs<18446744073709551616):Sm 2 z:=h
theorem rats_qm {ns:List Int}(h:ns.all (fun n=>decide (n.natAbs<18446744073709551616))=true)(i:Nat):Qm 2 ((ratsOf ns).getD i 0):=by
 by_cases hi:i<ns.length
 .rw[ratsOf_getD hi,getD_lt hi]
  exact Qm.int (sm2_of (by simpa using (List.all_eq_true.1 h) _ (List.getElem_mem hi))) (by decide)
 .rw[getD_ge (by rw[ratsOf_length];omega)]
  exact Qm.zero (by decide)
theorem Vc.one {W:World}{x1 x2 x3 x4:Value}{r:Rat}(q:Qc W x1 x2 x3 x4 r):Vc (W.alloc (.cells #[x1,x2,x3,x4] 32)) (some ⟨W.heap.size,0,none⟩) 1 [⟨x1,x2,x3,x4⟩] [r]:=by
 have h:=Row.one (Hp.new W #[x1,x2,x3,x4] 32) q.fq
 exact h.vc rfl rfl (by decide) fun i hi=>by
  obtain rfl:i=0:=by omega
  exact q.to ((Below.refl _ _).alloc (Nat.le_refl _) _)
theorem Vc.two {W:World}{x1 x2 x3 x4 y1 y2 y3 y4:Value}{r s:Rat}(q:Qc W x1 x2 x3 x4 r)(q':Qc W y1 y2 y3 y4 s):Vc (W.alloc (.cells #[x1,x2,x3,x4,y1,y2,y3,y4] 32)) (some ⟨W.heap.size,0,none⟩) 2 [⟨x1,x2,x3,x4⟩,⟨y1,y2,y3,y4⟩] [r,s]:=by
 have hp:Row (W.alloc (.cells #[x1,x2,x3,x4,y1,y2,y3,y4] 32)) W.heap.size [⟨x1,x2,x3,x4⟩,⟨y1,y2,y3,y4⟩]:=⟨Hp.new W #[x1,x2,x3,x4,y1,y2,y3,y4] 32,fun e he=>by
  simp only[List.mem_cons,List.not_mem_nil,or_false]at he
  rcases he with rfl|rfl
  .exact q.fq
  .exact q'.fq⟩
 have bb:Below W.heap.size W (W.alloc (.cells #[x1,x2,x3,x4,y1,y2,y3,y4] 32)):=(Below.refl _ _).alloc (Nat.le_refl _) _
 exact hp.vc rfl rfl (by decide) fun i hi=>by
  match i,hi with
  | 0,_=>exact q.to bb
  | 1,_=>exact q'.to bb
theorem fill_m {w:World}{N F:Nat}{caps:Array Value}{rs:Nat->List Rat}(hl:N+1<=1000000)(ec:∀args V,(callFunc F args).run Tryz.prog V=.ok (.enter F args) V)
  (hC:∀(V:World),Below w.heap.size w V->∀i:Nat,i<N->Calls Tryz.prog F (#[.int .i64 (i:Int)]++caps) V (VR V (rs i))) :
  Calls Tryz.prog 63 #[.agg #[.int .i64 (N:Int),.func (.func F) #[] caps]] w (MR w N rs):=by
 have HL:=Hd hl
 have EC:=Hd ec
 have HC:=Hd hC
 obtain ⟨W0,hW0⟩:∃W0,W0=w.alloc (.cells #[.int .i64 (N:Int),.func (.func F) #[] caps] 74):=⟨_,rfl⟩
 have hbw:Below w.heap.size w W0:=by rw[hW0];exact (Below.refl _ _).alloc (Nat.le_refl _) _
 have hp:Hp W0 w.heap.size (.cells #[.int .i64 (N:Int),.func (.func F) #[] caps] 74 (0,0)):=by rw[hW0];exact Hp.new _ _ _
 have q0:W0.cell? ⟨w.heap.size,0,none⟩=some (.int .i64 (N:Int)):=(hp.cellAt 0).trans rfl
 have q1:W0.cell? ⟨w.heap.size,1,none⟩=some (.func (.func F) #[] caps):=(hp.cellAt 1).trans rfl
 have hlt0:=hp.lt
 have HP:Hid (∀V,Below W0.heap.size W0 V->V.cell? ⟨w.heap.size,0,none⟩=some (.int .i64 (N:Int))/\V.cell? ⟨w.heap.size,1,none⟩=some (.func (.func F) #[] caps)):=fun V hV=>⟨(hV.cell (p:=⟨_,_,none⟩) hlt0).trans q0,(hV.cell (p:=⟨_,_,none⟩) hlt0).trans q1⟩
 have HW:=Hd hbw
 have HW0:=Hd hW0
 rw[hW0]at q0
 have q2:=(HP.out (W0.alloc (.cells (zrow N) 38)) ((Below.refl _ _).alloc (Nat.le_refl _) _)).1
 clear hl ec hC hW0 hp hbw q1 hlt0
 go_enter Tryz.func63,Tryz.ntmps63
 go_wp2_with (at_make;rw[<-HW0.out];refine wpList_makes W0 rfl _ _ rfl 0 N rfl rfl (by omega) (by omega) (Nat.zero_le _) (by have:=HL.out;omega) ?_)
 have hacc:Hid (TotS (Vs rs) (W0.alloc (.cells (zrow N) 38)) (.slice (some ⟨W0.heap.size,0,none⟩) 0 N) 0 W0.heap.size):=TotS.new (Nat.le_refl _) (by have:=HL.out;omega)
 have hb1:Below W0.heap.size W0 (W0.alloc (.cells (zrow N) 38)):=(Below.refl _ _).alloc (Nat.le_refl _) _
 generalize W0.alloc (.cells (zrow N) 38)=w1 at hacc hb1 q2 ⊢
 clear HW0 q2 q0
 go_loopw [3,10] (fun v i wr=>∃(k:Nat) (A1:Option Addr) (c1:Nat),v=.slice A1 k c1/\i=.int .i64 k/\k<=N/\Hid (TotS (Vs rs) wr (.slice A1 k c1) k W0.heap.size)/\Below W0.heap.size W0 wr) (fun _ i _=>N-(intOf i).toNat)
 case atStart=>exact ⟨0,_,_,rfl,rfl,Nat.zero_le _,hacc,hb1⟩
 case round =>
  obtain ⟨k,A1,c1,rfl,rfl,hk,hT,hb⟩:=hrel
  clear hacc hb1
  by_cases hlt:k<N
  .have hk1:(0:Int)<=(k:Int):=by omega
   have hk2:(k:Int)<(N:Int):=by omega
   have hk3:(k:Int)+1<=9223372036854775807:=by have:=HL.out;omega
   obtain ⟨q0,q1⟩:=HP.out wr hb
   have HCK:=Hd (HC.out wr (HW.out.trans (hb.mono HW.out.size)) k hlt)
   have HB:=Hd hb
   have HLT:=Hd hlt
   clear hb hlt hk
   go_wp2_with fail
   rw[EC.out]
   go_simp
   refine HCK.out.mono ?_
   rintro e V ⟨A2,c2,fl2,rfl,hv,bb⟩
   have bb2:Below V.heap.size V (V.alloc (.cells #[.slice A2 (rs k).length c2] 38)):=(Below.refl _ _).alloc (Nat.le_refl _) _
   have c5:=(Hp.new V #[.slice A2 (rs k).length c2] 38).one
   have hB1:=HB.out.trans (bb.mono HB.out.size)
   have hB2:=Bxb hB1 bb2
   obtain ⟨v',X,hrun,hT2,hbel⟩:=sapp (Vs.kept rs) ((hT.out.mv (Vs.kept rs) bb).mv (Vs.kept rs) bb2) hB2.size (by have:=HL.out;have:=HLT.out;omega) ⟨_,_,_,rfl⟩ ⟨A2,c2,fl2,rfl,hv.to bb2⟩ (a:=⟨V.heap.size,0,none⟩) (c:=1) c5 22
   obtain ⟨A3,c3,rfl⟩:=hT2.sl
   have HRUN:=Hd hrun
   have HE:Hid (TotS (Vs rs) X (.slice A3 (k+1) c3) (k+1) W0.heap.size/\Below W0.heap.size W0 X):=⟨hT2,hB2.trans hbel⟩
   clear bb2 c5 hbel hrun bb hv hT2 hB1 hB2 q0 q1 HCK
   go_wp2_with (at_builtin;refine wpList_append_run rfl (.tmp 13) (.tmp 18) 22 rfl (by rfl) (by rfl) HRUN.out ?_;clear HRUN)
   go_roundw
   case rel=>exact ⟨k+1,A3,c3,rfl,by simp,HLT.out,HE.out.1,HE.out.2⟩
   case measure=>have:=HLT.out;simp[intOf];omega
  .obtain rfl:k=N:=by omega
   have HB:=Hd hb
   clear hb hlt hk
   go_wp2
   go_ret
   exact ⟨A1,c1,rfl,hT.out.mc,HW.out.trans (HB.out.mono HW.out.size)⟩
end Go.Proofs.YtglhdielkkhefaaGreat
