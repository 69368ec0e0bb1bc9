/- Parts: 7. -/
import Derived.Test.YtglhdielkkhefaaGreatMl3
import Derived.Test.YtglhdielkkhefaaGreatMl10
import Derived.Test.YtglhdielkkhefaaGreatMl11
set_option linter.unusedVariables false
set_option linter.unusedSimpArgs false
set_option maxRecDepth 100000
set_option maxHeartbeats 40000000

namespace Go.Proofs.YtglhdielkkhefaaGreat
open Go.RowKit Go.Shelf
theorem one4_new (w:World)(o:Obj):Below w.heap.size w (w.alloc o):=bRR
theorem gcd_v {w:World}{x y x' y':Value}{a b G:Int}(ha:Zl w x y a)(hb:Zl w x' y' b)(sa:Sg a)(sb:Sg b)(hG:(Int.gcd a b:Int)=G):Calls Tryz.prog 122 #[.agg #[x,y],.agg #[x',y']] w (ZR w G):=by
 subst hG;exact gcd_z ha hb sa sb
theorem gcd_le (a b:Int)(hb:b≠0):Int.gcd a b<=b.natAbs:=Nat.le_of_dvd (by omega) (Int.gcd_dvd_natAbs_right a b)
theorem quot_n1 {w:World}{x1 y1 x2 y2:Value}{a b:Int}(ha:Zl w x1 y1 a)(hb:Zl w x2 y2 b)(hb0:b≠0)(hb1:b≠1)(sa:Sg a)(sb:Sg b)(hneg:b<0)(hone:(Rat.divInt a b).den=1) :
  Calls Tryz.prog 97 #[.agg #[x1,y1],.agg #[x2,y2]] w (QR w (Rat.divInt a b)):=by
 have hgn:Int.gcd a b≠0:=fun h=>hb0 (Int.gcd_eq_zero_iff.1 h).2
 have hgl:=gcd_le a b hb0;have hn:=Hd (cmn_num a b hb0);have hdd:=Hd (cmn_den a b hb0);have hc0:=Hd (cmn_ne a b hb0)
 have sc:Hid (Sg (cmn a b)):=by
  show Sg _
  unfold Sg cmn at *
  split<;>omega
 have sg:Hid (Sg (Int.gcd a b:Nat)):=by
  show Sg _
  unfold Sg at *;omega
 have sd:=Hd (sb.den (a:=a) hb0);rw[<-hdd.out]at sd;have h1:Hid (decide (b=1)=false):=decide_eq_false hb1;have hs:Hid (sgn b=-1):=by show _=_;unfold sgn;rw[if_neg hb0,if_pos hneg]
 have hd1:Hid (decide (b / cmn a b=1)=true):=by
  show _=_
  rw[hdd.out];exact decide_eq_true (by rw[hone];rfl)
 have hcm:Hid (-(Int.gcd a b:Int)=cmn a b):=by show _=_;unfold cmn;rw[if_pos hneg]
 obtain ⟨C,eC⟩:∃C,cmn a b=C:=⟨_,rfl⟩
 obtain ⟨G,eG⟩:∃G:Int,(Int.gcd a b:Int)=G:=⟨_,rfl⟩
 rw[eC]at hn hdd hc0 sc sd hd1 hcm;rw[eG]at sg hcm;have EG:=Hd eG;clear eC eG hgn hgl;obtain ⟨W0,hW0⟩:∃W0,W0=((w.alloc (.cells #[x1,y1] 30)).alloc (.cells #[x2,y2] 30)).alloc (.cells #[.bool false,.slice none 0 0,.bool false,.slice none 0 0] 32):=⟨_,rfl⟩
 have hbw:Below w.heap.size w W0:=by rw[hW0];exact (bRR.alloc (by simp) _).alloc (by simp;omega) _
 have tA:Two W0 w.heap.size x1 y1:=by rw[hW0];exact ((Two.new w _ _ _).alloc _).alloc _
 have tB:Two W0 (w.heap.size+1) x2 y2:=by
  have h:=Two.new (w.alloc (.cells #[x1,y1] 30)) x2 y2 30;rw[szA]at h;rw[hW0];exact h.alloc _
 have tR:Four W0 (w.heap.size+1+1) (.bool false) (.slice none 0 0) (.bool false) (.slice none 0 0):=by
  have h:=Four.new ((w.alloc (.cells #[x1,y1] 30)).alloc (.cells #[x2,y2] 30)) (.bool false) (.slice none 0 0) (.bool false) (.slice none 0 0) 32;rw[szA,szA]at h;rw[hW0];exact h
 have HW0:=Hd hW0;have hA:=ha.to hbw;have hB:=hb.to hbw;have HB:=Hd hbw;have hneB:Hid (w.heap.size+1≠w.heap.size):=by show _≠_;omega
 have hneR:Hid (w.heap.size+1+1≠w.heap.size):=by show _≠_;omega
 have hneRB:Hid (w.heap.size+1+1≠w.heap.size+1):=by show _≠_;omega
 replace sa:=Hd sa;replace sb:=Hd sb;clear ha hb hb0 hb1 hneg hone hW0 hbw
 go_enter Tryz.func97,Tryz.ntmps97
 go_wp2_with fail
 rw[<-HW0.out];have k0:=tB.c0;have k1:=tB.c1
 go_wp2_with fail
 refine (isOne_v hB h1.out).mono ?_;rintro e V1 ⟨rfl,bb⟩;clear k0 k1;replace tA:=tA.to bb;replace tB:=tB.to bb;replace tR:=tR.to bb;replace hA:=hA.to bb;replace hB:=hB.to bb;replace HB:=Hxb HB bb;clear bb;have k0:=tA.c0;have k1:=tA.c1;have k2:=tB.c0;have k3:=tB.c1
 go_wp2_with fail
 refine (gcd_v hA hB sa.out sb.out EG.out).mono ?_;rintro e V2 ⟨xg,yg,rfl,rg,bb⟩;clear k0 k1 k2 k3;replace tA:=tA.to bb;replace tB:=tB.to bb;replace tR:=tR.to bb;replace hA:=hA.to bb;replace hB:=hB.to bb;replace HB:=Hxb HB bb;clear bb;have hg5w:Hid (w.heap.size<=V2.heap.size):=HB.out.size;have rg2:=rg;obtain ⟨Ag,cg,rfl,rfl,-⟩:=rg2;have bb:=one4_new V2 (.cells #[.bool (decide (G<0)),.slice Ag (dig b32 G.natAbs).length cg] 30);have t5:=Two.new V2 (.bool (decide (G<0))) (.slice Ag (dig b32 G.natAbs).length cg) 30;replace rg:=rg.to bb;have hne5A:=Nat.ne_of_lt tA.lt;have hne5B:=Nat.ne_of_lt tB.lt;have hne5R:=Nat.ne_of_lt tR.lt;replace tA:=tA.to bb;replace tB:=tB.to bb;replace tR:=tR.to bb;replace hA:=hA.to bb;replace hB:=hB.to bb;replace HB:=Hxb HB bb;clear bb;have k0:=tB.c0;have k1:=tB.c1
 go_wp2_with fail
 obtain ⟨V3,hV3⟩:∃V,V=V2.alloc (.cells #[.bool (decide (G<0)),.slice Ag (dig b32 G.natAbs).length cg] 30):=⟨_,rfl⟩
 obtain ⟨g5,hg5⟩:∃g,g=V2.heap.size:=⟨_,rfl⟩
 rw[<-hV3,<-hg5];rw[<-hV3]at rg tA tB tR hA hB HB;rw[<-hV3,<-hg5]at t5;rw[<-hg5]at hne5A hne5B hne5R hg5w;clear k0 k1;clear hV3 hg5;refine (sign_v hB hs.out).mono ?_;rintro e V4 ⟨rfl,bb⟩;replace rg:=rg.to bb;replace tA:=tA.to bb;replace tB:=tB.to bb;replace t5:=t5.to bb;replace tR:=tR.to bb;replace hA:=hA.to bb;replace hB:=hB.to bb;replace HB:=Hxb HB bb;clear bb;have k0:=t5.c0;have k1:=t5.c1
 go_wp2_with fail
 refine (neg_z (rg.zs sg.out).zi).mono ?_;rintro e V5 ⟨xn,yn,rfl,rc,bb⟩;clear k0 k1;replace tA:=tA.to bb;replace tB:=tB.to bb;replace t5:=t5.to bb;replace tR:=tR.to bb;replace hA:=hA.to bb;replace hB:=hB.to bb;replace HB:=Hxb HB bb;clear bb rg;rw[hcm.out]at rc;have rg2:=rc;obtain ⟨Ac,cc,rfl,rfl,-⟩:=rg2;have k0:=t5.c0;have k1:=t5.c1;have k2:=t5.f0;have k3:=t5.f1;obtain ⟨V6,eV,u5,kp,kf⟩:=pack2 t5 ⟨_,_,_,_,rfl,rfl⟩ (.bool (decide (C<0))) (.slice Ac (dig b32 C.natAbs).length cc);replace tA:=kp.two _ _ _ hne5A tA;replace tB:=kp.two _ _ _ hne5B tB;replace tR:=kf _ _ _ _ _ hne5R tR;replace hA:=kp.zl hA;replace hB:=kp.zl hB;replace rc:=kp.zc _ _ _ rc;replace HB:=Hd (kp.bel _ _ HB.out hg5w.out);clear t5 kp kf;have t5:=u5;have k4:=tA.c0;have k5:=tA.c1;have k6:=t5.c0;have k7:=t5.c1
 go_wp2_with fail
 clear k0 k1 k2 k3 k4 k5 k6 k7 eV u5;refine (dm_z hA (rc.zs sc.out) hc0.out sa.out).mono ?_;rintro e V7 ⟨A1,c1,A2,c2,rfl,r1,r2,l1,m1,l2,m2,bb⟩;replace rc:=rc.to bb;replace tA:=tA.to bb;replace tB:=tB.to bb;replace t5:=t5.to bb;replace tR:=tR.to bb;replace hA:=hA.to bb;replace hB:=hB.to bb;replace HB:=Hxb HB bb;clear bb r2 l2 m2;have rn:Zc V7 (.bool (decide (a / C<0))) (.slice A1 (dig b32 (a / C).natAbs).length c1) (a / C):=⟨A1,c1,rfl,rfl,r1,l1,m1⟩
 clear r1 l1 m1;obtain ⟨V8,eV,u,kp,kf⟩:=pack2 tA hA.fs (.bool (decide (a / C<0))) (.slice A1 (dig b32 (a / C).natAbs).length c1);have k0:=tA.c0;have k1:=tA.c1;have k2:=tA.f0;have k3:=tA.f1;replace tB:=kp.two _ _ _ hneB.out tB;replace t5:=kp.two _ _ _ (Ne.symm hne5A) t5;replace tR:=kf _ _ _ _ _ hneR.out tR;replace hB:=kp.zl hB;replace rc:=kp.zc _ _ _ rc;replace rn:=kp.zc _ _ _ rn;replace HB:=Hd (kp.bel _ _ HB.out (Nat.le_refl _));clear tA hA kp kf;have tA:=u;have k4:=tB.c0;have k5:=tB.c1;have k6:=t5.c0;have k7:=t5.c1
 go_wp2_with fail
 clear k0 k1 k2 k3 k4 k5 k6 k7 eV u;refine (dm_z hB (rc.zs sc.out) hc0.out sb.out).mono ?_;rintro e V9 ⟨A3,c3,A4,c4,rfl,r1,r2,l1,m1,l2,m2,bb⟩;replace rn:=rn.to bb;replace tA:=tA.to bb;replace tB:=tB.to bb;replace tR:=tR.to bb;replace hB:=hB.to bb;replace HB:=Hxb HB bb;clear bb r2 l2 m2 rc t5;have rd:Zc V9 (.bool (decide (b / C<0))) (.slice A3 (dig b32 (b / C).natAbs).length c3) (b / C):=⟨A3,c3,rfl,rfl,r1,l1,m1⟩
 clear r1 l1 m1;obtain ⟨V10,eV,u,kp,kf⟩:=pack2 tB hB.fs (.bool (decide (b / C<0))) (.slice A3 (dig b32 (b / C).natAbs).length c3);have k0:=tB.c0;have k1:=tB.c1;have k2:=tB.f0;have k3:=tB.f1;replace tA:=kp.two _ _ _ (Ne.symm hneB.out) tA;replace tR:=kf _ _ _ _ _ hneRB.out tR;replace rn:=kp.zc _ _ _ rn;replace rd:=kp.zc _ _ _ rd;replace HB:=Hd (kp.bel _ _ HB.out (Nat.le_succ _));clear tB hB kp kf;have tB:=u;have k4:=tB.c0;have k5:=tB.c1
 go_wp2_with fail
 clear k0 k1 k2 k3 k4 k5 eV u;refine (isOne_v (rd.zs sd.out) hd1.out).mono ?_;rintro e V11 ⟨rfl,bb⟩;replace rn:=rn.to bb;replace rd:=rd.to bb;replace tA:=tA.to bb;replace tB:=tB.to bb;replace tR:=tR.to bb;replace HB:=Hxb HB bb;clear bb;have RN:=Hd rn;have RD:=Hd rd;clear rn rd;obtain ⟨V12,eV,u,kp⟩:=pack4 tR Fq.nil (.bool (decide (a / C<0))) (.slice A1 (dig b32 (a / C).natAbs).length c1) (.bool false) (.slice none 0 0);have k0:=tA.c0;have k1:=tA.c1;obtain ⟨v0,v1,v2,v3,v4,v5,v6,v7,_⟩:=tR;have EV:=Hd eV;have KP:=Hd kp;have U:=Hd u;clear eV kp u tA tB;go_wp2
 rw[EV.out];refine bodyPost_ret (v:=.agg #[.bool (decide (a / C<0)),.slice A1 (dig b32 (a / C).natAbs).length c1,.bool false,.slice none 0 0]) (by simp[results,Tryz.f97,go_sem,U.out.c0,U.out.c1,U.out.c2,U.out.c3]) rfl ?_;exact ⟨_,_,_,_,rfl,⟨by rw[<-hn.out];exact KP.out.zc _ _ _ RN.out,by rw[if_pos (by have h1:=hdd.out;have h2:=of_decide_eq_true hd1.out;omega)];exact Zc.zero V12⟩,KP.out.bel _ _ HB.out (by omega)⟩
theorem quot_n0 {w:World}{x1 y1 x2 y2:Value}{a b:Int}(ha:Zl w x1 y1 a)(hb:Zl w x2 y2 b)(hb0:b≠0)(hb1:b≠1)(sa:Sg a)(sb:Sg b)(hneg:b<0)(hone:(Rat.divInt a b).den≠1) :
  Calls Tryz.prog 97 #[.agg #[x1,y1],.agg #[x2,y2]] w (QR w (Rat.divInt a b)):=by
 have hgn:Int.gcd a b≠0:=fun h=>hb0 (Int.gcd_eq_zero_iff.1 h).2
 have hgl:=gcd_le a b hb0;have hn:=Hd (cmn_num a b hb0);have hdd:=Hd (cmn_den a b hb0);have hc0:=Hd (cmn_ne a b hb0)
 have sc:Hid (Sg (cmn a b)):=by
  show Sg _
  unfold Sg cmn at *
  split<;>omega
 have sg:Hid (Sg (Int.gcd a b:Nat)):=by
  show Sg _
  unfold Sg at *;omega
 have sd:=Hd (sb.den (a:=a) hb0);rw[<-hdd.out]at sd;have h1:Hid (decide (b=1)=false):=decide_eq_false hb1;have hs:Hid (sgn b=-1):=by show _=_;unfold sgn;rw[if_neg hb0,if_pos hneg]
 have hd1:Hid (decide (b / cmn a b=1)=false):=by
  show _=_
  rw[hdd.out];exact decide_eq_false (by omega)
 have hcm:Hid (-(Int.gcd a b:Int)=cmn a b):=by show _=_;unfold cmn;rw[if_pos hneg]
 obtain ⟨C,eC⟩:∃C,cmn a b=C:=⟨_,rfl⟩
 obtain ⟨G,eG⟩:∃G:Int,(Int.gcd a b:Int)=G:=⟨_,rfl⟩
 rw[eC]at hn hdd hc0 sc sd hd1 hcm;rw[eG]at sg hcm;have EG:=Hd eG;clear eC eG hgn hgl;obtain ⟨W0,hW0⟩:∃W0,W0=((w.alloc (.cells #[x1,y1] 30)).alloc (.cells #[x2,y2] 30)).alloc (.cells #[.bool false,.slice none 0 0,.bool false,.slice none 0 0] 32):=⟨_,rfl⟩
 have hbw:Below w.heap.size w W0:=by rw[hW0];exact (bRR.alloc (by simp) _).alloc (by simp;omega) _
 have tA:Two W0 w.heap.size x1 y1:=by rw[hW0];exact ((Two.new w _ _ _).alloc _).alloc _
 have tB:Two W0 (w.heap.size+1) x2 y2:=by
  have h:=Two.new (w.alloc (.cells #[x1,y1] 30)) x2 y2 30;rw[szA]at h;rw[hW0];exact h.alloc _
 have tR:Four W0 (w.heap.size+1+1) (.bool false) (.slice none 0 0) (.bool false) (.slice none 0 0):=by
  have h:=Four.new ((w.alloc (.cells #[x1,y1] 30)).alloc (.cells #[x2,y2] 30)) (.bool false) (.slice none 0 0) (.bool false) (.slice none 0 0) 32;rw[szA,szA]at h;rw[hW0];exact h
 have HW0:=Hd hW0;have hA:=ha.to hbw;have hB:=hb.to hbw;have HB:=Hd hbw;have hneB:Hid (w.heap.size+1≠w.heap.size):=by show _≠_;omega
 have hneR:Hid (w.heap.size+1+1≠w.heap.size):=by show _≠_;omega
 have hneRB:Hid (w.heap.size+1+1≠w.heap.size+1):=by show _≠_;omega
 replace sa:=Hd sa;replace sb:=Hd sb;clear ha hb hb0 hb1 hneg hone hW0 hbw
 go_enter Tryz.func97,Tryz.ntmps97
 go_wp2_with fail
 rw[<-HW0.out];have k0:=tB.c0;have k1:=tB.c1
 go_wp2_with fail
 refine (isOne_v hB h1.out).mono ?_;rintro e V1 ⟨rfl,bb⟩;clear k0 k1;replace tA:=tA.to bb;replace tB:=tB.to bb;replace tR:=tR.to bb;replace hA:=hA.to bb;replace hB:=hB.to bb;replace HB:=Hxb HB bb;clear bb;have k0:=tA.c0;have k1:=tA.c1;have k2:=tB.c0;have k3:=tB.c1
 go_wp2_with fail
 refine (gcd_v hA hB sa.out sb.out EG.out).mono ?_;rintro e V2 ⟨xg,yg,rfl,rg,bb⟩;clear k0 k1 k2 k3;replace tA:=tA.to bb;replace tB:=tB.to bb;replace tR:=tR.to bb;replace hA:=hA.to bb;replace hB:=hB.to bb;replace HB:=Hxb HB bb;clear bb;have hg5w:Hid (w.heap.size<=V2.heap.size):=HB.out.size;have rg2:=rg;obtain ⟨Ag,cg,rfl,rfl,-⟩:=rg2;have bb:=one4_new V2 (.cells #[.bool (decide (G<0)),.slice Ag (dig b32 G.natAbs).length cg] 30);have t5:=Two.new V2 (.bool (decide (G<0))) (.slice Ag (dig b32 G.natAbs).length cg) 30;replace rg:=rg.to bb;have hne5A:=Nat.ne_of_lt tA.lt;have hne5B:=Nat.ne_of_lt tB.lt;have hne5R:=Nat.ne_of_lt tR.lt;replace tA:=tA.to bb;replace tB:=tB.to bb;replace tR:=tR.to bb;replace hA:=hA.to bb;replace hB:=hB.to bb;replace HB:=Hxb HB bb;clear bb;have k0:=tB.c0;have k1:=tB.c1
 go_wp2_with fail
 obtain ⟨V3,hV3⟩:∃V,V=V2.alloc (.cells #[.bool (decide (G<0)),.slice Ag (dig b32 G.natAbs).length cg] 30):=⟨_,rfl⟩
 obtain ⟨g5,hg5⟩:∃g,g=V2.heap.size:=⟨_,rfl⟩
 rw[<-hV3,<-hg5];rw[<-hV3]at rg tA tB tR hA hB HB;rw[<-hV3,<-hg5]at t5;rw[<-hg5]at hne5A hne5B hne5R hg5w;clear k0 k1;clear hV3 hg5;refine (sign_v hB hs.out).mono ?_;rintro e V4 ⟨rfl,bb⟩;replace rg:=rg.to bb;replace tA:=tA.to bb;replace tB:=tB.to bb;replace t5:=t5.to bb;replace tR:=tR.to bb;replace hA:=hA.to bb;replace hB:=hB.to bb;replace HB:=Hxb HB bb;clear bb;have k0:=t5.c0;have k1:=t5.c1
 go_wp2_with fail
 refine (neg_z (rg.zs sg.out).zi).mono ?_;rintro e V5 ⟨xn,yn,rfl,rc,bb⟩;clear k0 k1;replace tA:=tA.to bb;replace tB:=tB.to bb;replace t5:=t5.to bb;replace tR:=tR.to bb;replace hA:=hA.to bb;replace hB:=hB.to bb;replace HB:=Hxb HB bb;clear bb rg;rw[hcm.out]at rc;have rg2:=rc;obtain ⟨Ac,cc,rfl,rfl,-⟩:=rg2;have k0:=t5.c0;have k1:=t5.c1;have k2:=t5.f0;have k3:=t5.f1;obtain ⟨V6,eV,u5,kp,kf⟩:=pack2 t5 ⟨_,_,_,_,rfl,rfl⟩ (.bool (decide (C<0))) (.slice Ac (dig b32 C.natAbs).length cc);replace tA:=kp.two _ _ _ hne5A tA;replace tB:=kp.two _ _ _ hne5B tB;replace tR:=kf _ _ _ _ _ hne5R tR;replace hA:=kp.zl hA;replace hB:=kp.zl hB;replace rc:=kp.zc _ _ _ rc;replace HB:=Hd (kp.bel _ _ HB.out hg5w.out);clear t5 kp kf;have t5:=u5;have k4:=tA.c0;have k5:=tA.c1;have k6:=t5.c0;have k7:=t5.c1
 go_wp2_with fail
 clear k0 k1 k2 k3 k4 k5 k6 k7 eV u5;refine (dm_z hA (rc.zs sc.out) hc0.out sa.out).mono ?_;rintro e V7 ⟨A1,c1,A2,c2,rfl,r1,r2,l1,m1,l2,m2,bb⟩;replace rc:=rc.to bb;replace tA:=tA.to bb;replace tB:=tB.to bb;replace t5:=t5.to bb;replace tR:=tR.to bb;replace hA:=hA.to bb;replace hB:=hB.to bb;replace HB:=Hxb HB bb;clear bb r2 l2 m2;have rn:Zc V7 (.bool (decide (a / C<0))) (.slice A1 (dig b32 (a / C).natAbs).length c1) (a / C):=⟨A1,c1,rfl,rfl,r1,l1,m1⟩
 clear r1 l1 m1;obtain ⟨V8,eV,u,kp,kf⟩:=pack2 tA hA.fs (.bool (decide (a / C<0))) (.slice A1 (dig b32 (a / C).natAbs).length c1);have k0:=tA.c0;have k1:=tA.c1;have k2:=tA.f0;have k3:=tA.f1;replace tB:=kp.two _ _ _ hneB.out tB;replace t5:=kp.two _ _ _ (Ne.symm hne5A) t5;replace tR:=kf _ _ _ _ _ hneR.out tR;replace hB:=kp.zl hB;replace rc:=kp.zc _ _ _ rc;replace rn:=kp.zc _ _ _ rn;replace HB:=Hd (kp.bel _ _ HB.out (Nat.le_refl _));clear tA hA kp kf;have tA:=u;have k4:=tB.c0;have k5:=tB.c1;have k6:=t5.c0;have k7:=t5.c1
 go_wp2_with fail
 clear k0 k1 k2 k3 k4 k5 k6 k7 eV u;refine (dm_z hB (rc.zs sc.out) hc0.out sb.out).mono ?_;rintro e V9 ⟨A3,c3,A4,c4,rfl,r1,r2,l1,m1,l2,m2,bb⟩;replace rn:=rn.to bb;replace tA:=tA.to bb;replace tB:=tB.to bb;replace tR:=tR.to bb;replace hB:=hB.to bb;replace HB:=Hxb HB bb;clear bb r2 l2 m2 rc t5;have rd:Zc V9 (.bool (decide (b / C<0))) (.slice A3 (dig b32 (b / C).natAbs).length c3) (b / C):=⟨A3,c3,rfl,rfl,r1,l1,m1⟩
 clear r1 l1 m1;obtain ⟨V10,eV,u,kp,kf⟩:=pack2 tB hB.fs (.bool (decide (b / C<0))) (.slice A3 (dig b32 (b / C).natAbs).length c3);have k0:=tB.c0;have k1:=tB.c1;have k2:=tB.f0;have k3:=tB.f1;replace tA:=kp.two _ _ _ (Ne.symm hneB.out) tA;replace tR:=kf _ _ _ _ _ hneRB.out tR;replace rn:=kp.zc _ _ _ rn;replace rd:=kp.zc _ _ _ rd;replace HB:=Hd (kp.bel _ _ HB.out (Nat.le_succ _));clear tB hB kp kf;have tB:=u;have k4:=tB.c0;have k5:=tB.c1
 go_wp2_with fail
 clear k0 k1 k2 k3 k4 k5 eV u;refine (isOne_v (rd.zs sd.out) hd1.out).mono ?_;rintro e V11 ⟨rfl,bb⟩;replace rn:=rn.to bb;replace rd:=rd.to bb;replace tA:=tA.to bb;replace tB:=tB.to bb;replace tR:=tR.to bb;replace HB:=Hxb HB bb;clear bb;have RN:=Hd rn;have RD:=Hd rd;clear rn rd;obtain ⟨V12,eV,u,kp⟩:=pack4 tR Fq.nil (.bool (decide (a / C<0))) (.slice A1 (dig b32 (a / C).natAbs).length c1) (.bool (decide (b / C<0))) (.slice A3 (dig b32 (b / C).natAbs).length c3);have k0:=tA.c0;have k1:=tA.c1;have k2:=tB.c0;have k3:=tB.c1;obtain ⟨v0,v1,v2,v3,v4,v5,v6,v7,_⟩:=tR;have EV:=Hd eV;have KP:=Hd kp;have U:=Hd u;clear eV kp u tA tB;go_wp2
 rw[EV.out];refine bodyPost_ret (v:=.agg #[.bool (decide (a / C<0)),.slice A1 (dig b32 (a / C).natAbs).length c1,.bool (decide (b / C<0)),.slice A3 (dig b32 (b / C).natAbs).length c3]) (by simp[results,Tryz.f97,go_sem,U.out.c0,U.out.c1,U.out.c2,U.out.c3]) rfl ?_;exact ⟨_,_,_,_,rfl,⟨by rw[<-hn.out];exact KP.out.zc _ _ _ RN.out,by rw[if_neg (by have h1:=hdd.out;have h2:=of_decide_eq_false hd1.out;omega),<-hdd.out];exact KP.out.zc _ _ _ RD.out⟩,KP.out.bel _ _ HB.out (by omega)⟩
theorem quot_p1 {w:World}{x1 y1 x2 y2:Value}{a b:Int}(ha:Zl w x1 y1 a)(hb:Zl w x2 y2 b)(hb0:b≠0)(hb1:b≠1)(sa:Sg a)(sb:Sg b)(hneg:0<b)(hone:(Rat.divInt a b).den=1) :
  Calls Tryz.prog 97 #[.agg #[x1,y1],.agg #[x2,y2]] w (QR w (Rat.divInt a b)):=by
 have hgn:Int.gcd a b≠0:=fun h=>hb0 (Int.gcd_eq_zero_iff.1 h).2
 have hgl:=gcd_le a b hb0;have hn:=Hd (cmn_num a b hb0);have hdd:=Hd (cmn_den a b hb0);have hc0:=Hd (cmn_ne a b hb0)
 have sc:Hid (Sg (cmn a b)):=by
  show Sg _
  unfold Sg cmn at *
  split<;>omega
 have sg:Hid (Sg (Int.gcd a b:Nat)):=by
  show Sg _
  unfold Sg at *;omega
 have sd:=Hd (sb.den (a:=a) hb0);rw[<-hdd.out]at sd;have h1:Hid (decide (b=1)=false):=decide_eq_false hb1;have hs:Hid (sgn b=1):=by show _=_;unfold sgn;rw[if_neg hb0,if_neg (by omega)]
 have hd1:Hid (decide (b / cmn a b=1)=true):=by
  show _=_
  rw[hdd.out];exact decide_eq_true (by rw[hone];rfl)
 have hcm:(Int.gcd a b:Int)=cmn a b:=by unfold cmn;rw[if_neg (by omega)]
 obtain ⟨G,eG⟩:∃G:Int,(Int.gcd a b:Int)=G:=⟨_,rfl⟩
 rw[eG]at sg hcm;rw[<-hcm]at hn hdd hc0 sc sd hd1;have EG:=Hd eG;clear eG hgn hgl hcm;obtain ⟨W0,hW0⟩:∃W0,W0=((w.alloc (.cells #[x1,y1] 30)).alloc (.cells #[x2,y2] 30)).alloc (.cells #[.bool false,.slice none 0 0,.bool false,.slice none 0 0] 32):=⟨_,rfl⟩
 have hbw:Below w.heap.size w W0:=by rw[hW0];exact (bRR.alloc (by simp) _).alloc (by simp;omega) _
 have tA:Two W0 w.heap.size x1 y1:=by rw[hW0];exact ((Two.new w _ _ _).alloc _).alloc _
 have tB:Two W0 (w.heap.size+1) x2 y2:=by
  have h:=Two.new (w.alloc (.cells #[x1,y1] 30)) x2 y2 30;rw[szA]at h;rw[hW0];exact h.alloc _
 have tR:Four W0 (w.heap.size+1+1) (.bool false) (.slice none 0 0) (.bool false) (.slice none 0 0):=by
  have h:=Four.new ((w.alloc (.cells #[x1,y1] 30)).alloc (.cells #[x2,y2] 30)) (.bool false) (.slice none 0 0) (.bool false) (.slice none 0 0) 32;rw[szA,szA]at h;rw[hW0];exact h
 have HW0:=Hd hW0;have hA:=ha.to hbw;have hB:=hb.to hbw;have HB:=Hd hbw;have hneB:Hid (w.heap.size+1≠w.heap.size):=by show _≠_;omega
 have hneR:Hid (w.heap.size+1+1≠w.heap.size):=by show _≠_;omega
 have hneRB:Hid (w.heap.size+1+1≠w.heap.size+1):=by show _≠_;omega
 replace sa:=Hd sa;replace sb:=Hd sb;clear ha hb hb0 hb1 hneg hone hW0 hbw
 go_enter Tryz.func97,Tryz.ntmps97
 go_wp2_with fail
 rw[<-HW0.out];have k0:=tB.c0;have k1:=tB.c1
 go_wp2_with fail
 refine (isOne_v hB h1.out).mono ?_;rintro e V1 ⟨rfl,bb⟩;clear k0 k1;replace tA:=tA.to bb;replace tB:=tB.to bb;replace tR:=tR.to bb;replace hA:=hA.to bb;replace hB:=hB.to bb;replace HB:=Hxb HB bb;clear bb;have k0:=tA.c0;have k1:=tA.c1;have k2:=tB.c0;have k3:=tB.c1
 go_wp2_with fail
 refine (gcd_v hA hB sa.out sb.out EG.out).mono ?_;rintro e V2 ⟨xg,yg,rfl,rg,bb⟩;clear k0 k1 k2 k3;replace tA:=tA.to bb;replace tB:=tB.to bb;replace tR:=tR.to bb;replace hA:=hA.to bb;replace hB:=hB.to bb;replace HB:=Hxb HB bb;clear bb;have hg5w:Hid (w.heap.size<=V2.heap.size):=HB.out.size;have rg2:=rg;obtain ⟨Ag,cg,rfl,rfl,-⟩:=rg2;have bb:=one4_new V2 (.cells #[.bool (decide (G<0)),.slice Ag (dig b32 G.natAbs).length cg] 30);have t5:=Two.new V2 (.bool (decide (G<0))) (.slice Ag (dig b32 G.natAbs).length cg) 30;replace rg:=rg.to bb;have hne5A:=Nat.ne_of_lt tA.lt;have hne5B:=Nat.ne_of_lt tB.lt;have hne5R:=Nat.ne_of_lt tR.lt;replace tA:=tA.to bb;replace tB:=tB.to bb;replace tR:=tR.to bb;replace hA:=hA.to bb;replace hB:=hB.to bb;replace HB:=Hxb HB bb;clear bb;have k0:=tB.c0;have k1:=tB.c1
 go_wp2_with fail
 obtain ⟨V3,hV3⟩:∃V,V=V2.alloc (.cells #[.bool (decide (G<0)),.slice Ag (dig b32 G.natAbs).length cg] 30):=⟨_,rfl⟩
 obtain ⟨g5,hg5⟩:∃g,g=V2.heap.size:=⟨_,rfl⟩
 rw[<-hV3,<-hg5];rw[<-hV3]at rg tA tB tR hA hB HB;rw[<-hV3,<-hg5]at t5;rw[<-hg5]at hne5A hne5B hne5R hg5w;clear k0 k1;clear hV3 hg5;refine (sign_v hB hs.out).mono ?_;rintro e V4 ⟨rfl,bb⟩;replace rg:=rg.to bb;replace tA:=tA.to bb;replace tB:=tB.to bb;replace t5:=t5.to bb;replace tR:=tR.to bb;replace hA:=hA.to bb;replace hB:=hB.to bb;replace HB:=Hxb HB bb;clear bb;have rc:=rg;clear rg;have k4:=tA.c0;have k5:=tA.c1;have k6:=t5.c0;have k7:=t5.c1
 go_wp2_with fail
 clear k4 k5 k6 k7;refine (dm_z hA (rc.zs sc.out) hc0.out sa.out).mono ?_;rintro e V7 ⟨A1,c1,A2,c2,rfl,r1,r2,l1,m1,l2,m2,bb⟩;replace rc:=rc.to bb;replace tA:=tA.to bb;replace tB:=tB.to bb;replace t5:=t5.to bb;replace tR:=tR.to bb;replace hA:=hA.to bb;replace hB:=hB.to bb;replace HB:=Hxb HB bb;clear bb r2 l2 m2;have rn:Zc V7 (.bool (decide (a / G<0))) (.slice A1 (dig b32 (a / G).natAbs).length c1) (a / G):=⟨A1,c1,rfl,rfl,r1,l1,m1⟩
 clear r1 l1 m1;obtain ⟨V8,eV,u,kp,kf⟩:=pack2 tA hA.fs (.bool (decide (a / G<0))) (.slice A1 (dig b32 (a / G).natAbs).length c1);have k0:=tA.c0;have k1:=tA.c1;have k2:=tA.f0;have k3:=tA.f1;replace tB:=kp.two _ _ _ hneB.out tB;replace t5:=kp.two _ _ _ (Ne.symm hne5A) t5;replace tR:=kf _ _ _ _ _ hneR.out tR;replace hB:=kp.zl hB;replace rc:=kp.zc _ _ _ rc;replace rn:=kp.zc _ _ _ rn;replace HB:=Hd (kp.bel _ _ HB.out (Nat.le_refl _));clear tA hA kp kf;have tA:=u;have k4:=tB.c0;have k5:=tB.c1;have k6:=t5.c0;have k7:=t5.c1
 go_wp2_with fail
 clear k0 k1 k2 k3 k4 k5 k6 k7 eV u;refine (dm_z hB (rc.zs sc.out) hc0.out sb.out).mono ?_;rintro e V9 ⟨A3,c3,A4,c4,rfl,r1,r2,l1,m1,l2,m2,bb⟩;replace rn:=rn.to bb;replace tA:=tA.to bb;replace tB:=tB.to bb;replace tR:=tR.to bb;replace hB:=hB.to bb;replace HB:=Hxb HB bb;clear bb r2 l2 m2 rc t5;have rd:Zc V9 (.bool (decide (b / G<0))) (.slice A3 (dig b32 (b / G).natAbs).length c3) (b / G):=⟨A3,c3,rfl,rfl,r1,l1,m1⟩
 clear r1 l1 m1;obtain ⟨V10,eV,u,kp,kf⟩:=pack2 tB hB.fs (.bool (decide (b / G<0))) (.slice A3 (dig b32 (b / G).natAbs).length c3);have k0:=tB.c0;have k1:=tB.c1;have k2:=tB.f0;have k3:=tB.f1;replace tA:=kp.two _ _ _ (Ne.symm hneB.out) tA;replace tR:=kf _ _ _ _ _ hneRB.out tR;replace rn:=kp.zc _ _ _ rn;replace rd:=kp.zc _ _ _ rd;replace HB:=Hd (kp.bel _ _ HB.out (Nat.le_succ _));clear tB hB kp kf;have tB:=u;have k4:=tB.c0;have k5:=tB.c1
 go_wp2_with fail
 clear k0 k1 k2 k3 k4 k5 eV u;refine (isOne_v (rd.zs sd.out) hd1.out).mono ?_;rintro e V11 ⟨rfl,bb⟩;replace rn:=rn.to bb;replace rd:=rd.to bb;replace tA:=tA.to bb;replace tB:=tB.to bb;replace tR:=tR.to bb;replace HB:=Hxb HB bb;clear bb;have RN:=Hd rn;have RD:=Hd rd;clear rn rd;obtain ⟨V12,eV,u,kp⟩:=pack4 tR Fq.nil (.bool (decide (a / G<0))) (.slice A1 (dig b32 (a / G).natAbs).length c1) (.bool false) (.slice none 0 0);have k0:=tA.c0;have k1:=tA.c1;obtain ⟨v0,v1,v2,v3,v4,v5,v6,v7,_⟩:=tR;have EV:=Hd eV;have KP:=Hd kp;have U:=Hd u;clear eV kp u tA tB;go_wp2
 rw[EV.out];refine bodyPost_ret (v:=.agg #[.bool (decide (a / G<0)),.slice A1 (dig b32 (a / G).natAbs).length c1,.bool false,.slice none 0 0]) (by simp[results,Tryz.f97,go_sem,U.out.c0,U.out.c1,U.out.c2,U.out.c3]) rfl ?_;exact ⟨_,_,_,_,rfl,⟨by rw[<-hn.out];exact KP.out.zc _ _ _ RN.out,by rw[if_pos (by have h1:=hdd.out;have h2:=of_decide_eq_true hd1.out;omega)];exact Zc.zero V12⟩,KP.out.bel _ _ HB.out (by omega)⟩
theorem quot_p0 {w:World}{x1 y1 x2 y2:Value}{a b:Int}(ha:Zl w x1 y1 a)(hb:Zl w x2 y2 b)(hb0:b≠0)(hb1:b≠1)(sa:Sg a)(sb:Sg b)(hneg:0<b)(hone:(Rat.divInt a b).den≠1) :
  Calls Tryz.prog 97 #[.agg #[x1,y1],.agg #[x2,y2]] w (QR w (Rat.divInt a b)):=by
 have hgn:Int.gcd a b≠0:=fun h=>hb0 (Int.gcd_eq_zero_iff.1 h).2
 have hgl:=gcd_le a b hb0;have hn:=Hd (cmn_num a b hb0);have hdd:=Hd (cmn_den a b hb0);have hc0:=Hd (cmn_ne a b hb0)
 have sc:Hid (Sg (cmn a b)):=by
  show Sg _
  unfold Sg cmn at *
  split<;>omega
 have sg:Hid (Sg (Int.gcd a b:Nat)):=by
  show Sg _
  unfold Sg at *;omega
 have sd:=Hd (sb.den (a:=a) hb0);rw[<-hdd.out]at sd;have h1:Hid (decide (b=1)=false):=decide_eq_false hb1;have hs:Hid (sgn b=1):=by show _=_;unfold sgn;rw[if_neg hb0,if_neg (by omega)]
 have hd1:Hid (decide (b / cmn a b=1)=false):=by
  show _=_
  rw[hdd.out];exact decide_eq_false (by omega)
 have hcm:(Int.gcd a b:Int)=cmn a b:=by unfold cmn;rw[if_neg (by omega)]
 obtain ⟨G,eG⟩:∃G:Int,(Int.gcd a b:Int)=G:=⟨_,rfl⟩
 rw[eG]at sg hcm;rw[<-hcm]at hn hdd hc0 sc sd hd1;have EG:=Hd eG;clear eG hgn hgl hcm;obtain ⟨W0,hW0⟩:∃W0,W0=((w.alloc (.cells #[x1,y1] 30)).alloc (.cells #[x2,y2] 30)).alloc (.cells #[.bool false,.slice none 0 0,.bool false,.slice none 0 0] 32):=⟨_,rfl⟩
 have hbw:Below w.heap.size w W0:=by rw[hW0];exact (bRR.alloc (by simp) _).alloc (by simp;omega) _
 have tA:Two W0 w.heap.size x1 y1:=by rw[hW0];exact ((Two.new w _ _ _).alloc _).alloc _
 have tB:Two W0 (w.heap.size+1) x2 y2:=by
  have h:=Two.new (w.alloc (.cells #[x1,y1] 30)) x2 y2 30;rw[szA]at h;rw[hW0];exact h.alloc _
 have tR:Four W0 (w.heap.size+1+1) (.bool false) (.slice none 0 0) (.bool false) (.slice none 0 0):=by
  have h:=Four.new ((w.alloc (.cells #[x1,y1] 30)).alloc (.cells #[x2,y2] 30)) (.bool false) (.slice none 0 0) (.bool false) (.slice none 0 0) 32;rw[szA,szA]at h;rw[hW0];exact h
 have HW0:=Hd hW0;have hA:=ha.to hbw;have hB:=hb.to hbw;have HB:=Hd hbw;have hneB:Hid (w.heap.size+1≠w.heap.size):=by show _≠_;omega
 have hneR:Hid (w.heap.size+1+1≠w.heap.size):=by show _≠_;omega
 have hneRB:Hid (w.heap.size+1+1≠w.heap.size+1):=by show _≠_;omega
 replace sa:=Hd sa;replace sb:=Hd sb;clear ha hb hb0 hb1 hneg hone hW0 hbw
 go_enter Tryz.func97,Tryz.ntmps97
 go_wp2_with fail
 rw[<-HW0.out];have k0:=tB.c0;have k1:=tB.c1
 go_wp2_with fail
 refine (isOne_v hB h1.out).mono ?_;rintro e V1 ⟨rfl,bb⟩;clear k0 k1;replace tA:=tA.to bb;replace tB:=tB.to bb;replace tR:=tR.to bb;replace hA:=hA.to bb;replace hB:=hB.to bb;replace HB:=Hxb HB bb;clear bb;have k0:=tA.c0;have k1:=tA.c1;have k2:=tB.c0;have k3:=tB.c1
 go_wp2_with fail
 refine (gcd_v hA hB sa.out sb.out EG.out).mono ?_;rintro e V2 ⟨xg,yg,rfl,rg,bb⟩;clear k0 k1 k2 k3;replace tA:=tA.to bb;replace tB:=tB.to bb;replace tR:=tR.to bb;replace hA:=hA.to bb;replace hB:=hB.to bb;replace HB:=Hxb HB bb;clear bb;have hg5w:Hid (w.heap.size<=V2.heap.size):=HB.out.size;have rg2:=rg;obtain ⟨Ag,cg,rfl,rfl,-⟩:=rg2;have bb:=one4_new V2 (.cells #[.bool (decide (G<0)),.slice Ag (dig b32 G.natAbs).length cg] 30);have t5:=Two.new V2 (.bool (decide (G<0))) (.slice Ag (dig b32 G.natAbs).length cg) 30;replace rg:=rg.to bb;have hne5A:=Nat.ne_of_lt tA.lt;have hne5B:=Nat.ne_of_lt tB.lt;have hne5R:=Nat.ne_of_lt tR.lt;replace tA:=tA.to bb;replace tB:=tB.to bb;replace tR:=tR.to bb;replace hA:=hA.to bb;replace hB:=hB.to bb;replace HB:=Hxb HB bb;clear bb;have k0:=tB.c0;have k1:=tB.c1
 go_wp2_with fail
 obtain ⟨V3,hV3⟩:∃V,V=V2.alloc (.cells #[.bool (decide (G<0)),.slice Ag (dig b32 G.natAbs).length cg] 30):=⟨_,rfl⟩
 obtain ⟨g5,hg5⟩:∃g,g=V2.heap.size:=⟨_,rfl⟩
 rw[<-hV3,<-hg5];rw[<-hV3]at rg tA tB tR hA hB HB;rw[<-hV3,<-hg5]at t5;rw[<-hg5]at hne5A hne5B hne5R hg5w;clear k0 k1;clear hV3 hg5;refine (sign_v hB hs.out).mono ?_;rintro e V4 ⟨rfl,bb⟩;replace rg:=rg.to bb;replace tA:=tA.to bb;replace tB:=tB.to bb;replace t5:=t5.to bb;replace tR:=tR.to bb;replace hA:=hA.to bb;replace hB:=hB.to bb;replace HB:=Hxb HB bb;clear bb;have rc:=rg;clear rg;have k4:=tA.c0;have k5:=tA.c1;have k6:=t5.c0;have k7:=t5.c1
 go_wp2_with fail
 clear k4 k5 k6 k7;refine (dm_z hA (rc.zs sc.out) hc0.out sa.out).mono ?_;rintro e V7 ⟨A1,c1,A2,c2,rfl,r1,r2,l1,m1,l2,m2,bb⟩;replace rc:=rc.to bb;replace tA:=tA.to bb;replace tB:=tB.to bb;replace t5:=t5.to bb;replace tR:=tR.to bb;replace hA:=hA.to bb;replace hB:=hB.to bb;replace HB:=Hxb HB bb;clear bb r2 l2 m2;have rn:Zc V7 (.bool (decide (a / G<0))) (.slice A1 (dig b32 (a / G).natAbs).length c1) (a / G):=⟨A1,c1,rfl,rfl,r1,l1,m1⟩
 clear r1 l1 m1;obtain ⟨V8,eV,u,kp,kf⟩:=pack2 tA hA.fs (.bool (decide (a / G<0))) (.slice A1 (dig b32 (a / G).natAbs).length c1);have k0:=tA.c0;have k1:=tA.c1;have k2:=tA.f0;have k3:=tA.f1;replace tB:=kp.two _ _ _ hneB.out tB;replace t5:=kp.two _ _ _ (Ne.symm hne5A) t5;replace tR:=kf _ _ _ _ _ hneR.out tR;replace hB:=kp.zl hB;replace rc:=kp.zc _ _ _ rc;replace rn:=kp.zc _ _ _ rn;replace HB:=Hd (kp.bel _ _ HB.out (Nat.le_refl _));clear tA hA kp kf;have tA:=u;have k4:=tB.c0;have k5:=tB.c1;have k6:=t5.c0;have k7:=t5.c1
 go_wp2_with fail
 clear k0 k1 k2 k3 k4 k5 k6 k7 eV u;refine (dm_z hB (rc.zs sc.out) hc0.out sb.out).mono ?_;rintro e V9 ⟨A3,c3,A4,c4,rfl,r1,r2,l1,m1,l2,m2,bb⟩;replace rn:=rn.to bb;replace tA:=tA.to bb;replace tB:=tB.to bb;replace tR:=tR.to bb;replace hB:=hB.to bb;replace HB:=Hxb HB bb;clear bb r2 l2 m2 rc t5;have rd:Zc V9 (.bool (decide (b / G<0))) (.slice A3 (dig b32 (b / G).natAbs).length c3) (b / G):=⟨A3,c3,rfl,rfl,r1,l1,m1⟩
 clear r1 l1 m1;obtain ⟨V10,eV,u,kp,kf⟩:=pack2 tB hB.fs (.bool (decide (b / G<0))) (.slice A3 (dig b32 (b / G).natAbs).length c3);have k0:=tB.c0;have k1:=tB.c1;have k2:=tB.f0;have k3:=tB.f1;replace tA:=kp.two _ _ _ (Ne.symm hneB.out) tA;replace tR:=kf _ _ _ _ _ hneRB.out tR;replace rn:=kp.zc _ _ _ rn;replace rd:=kp.zc _ _ _ rd;replace HB:=Hd (kp.bel _ _ HB.out (Nat.le_succ _));clear tB hB kp kf;have tB:=u;have k4:=tB.c0;have k5:=tB.c1
 go_wp2_with fail
 clear k0 k1 k2 k3 k4 k5 eV u;refine (isOne_v (rd.zs sd.out) hd1.out).mono ?_;rintro e V11 ⟨rfl,bb⟩;replace rn:=rn.to bb;replace rd:=rd.to bb;replace tA:=tA.to bb;replace tB:=tB.to bb;replace tR:=tR.to bb;replace HB:=Hxb HB bb;clear bb;have RN:=Hd rn;have RD:=Hd rd;clear rn rd;obtain ⟨V12,eV,u,kp⟩:=pack4 tR Fq.nil (.bool (decide (a / G<0))) (.slice A1 (dig b32 (a / G).natAbs).length c1) (.bool (decide (b / G<0))) (.slice A3 (dig b32 (b / G).natAbs).length c3);have k0:=tA.c0;have k1:=tA.c1;have k2:=tB.c0;have k3:=tB.c1;obtain ⟨v0,v1,v2,v3,v4,v5,v6,v7,_⟩:=tR;have EV:=Hd eV;have KP:=Hd kp;have U:=Hd u;clear eV kp u tA tB;go_wp2
 rw[EV.out];refine bodyPost_ret (v:=.agg #[.bool (decide (a / G<0)),.slice A1 (dig b32 (a / G).natAbs).length c1,.bool (decide (b / G<0)),.slice A3 (dig b32 (b / G).natAbs).length c3]) (by simp[results,Tryz.f97,go_sem,U.out.c0,U.out.c1,U.out.c2,U.out.c3]) rfl ?_;exact ⟨_,_,_,_,rfl,⟨by rw[<-hn.out];exact KP.out.zc _ _ _ RN.out,by rw[if_neg (by have h1:=hdd.out;have h2:=of_decide_eq_false hd1.out;omega),<-hdd.out];exact KP.out.zc _ _ _ RD.out⟩,KP.out.bel _ _ HB.out (by omega)⟩
theorem Qc.fq {W:World}{a b c d:Value}{r:Rat}(h:Qc W a b c d r):Fq a b c d:=⟨h.1.fs,h.2.fs⟩
theorem Qc.k4 {g:Nat}{w V:World}{a b c d:Value}{r:Rat}(h:Qc w a b c d r)(kp:Kept4 g w V):Qc V a b c d r:=⟨kp.zc _ _ _ h.1,kp.zc _ _ _ h.2⟩
theorem quot_one {w:World}{x1 y1 x2 y2:Value}{a b:Int}(ha:Zl w x1 y1 a)(hb:Zl w x2 y2 b)(hb1:b=1) :
  Calls Tryz.prog 97 #[.agg #[x1,y1],.agg #[x2,y2]] w (QR w (Rat.divInt a b)):=by
 have h1:Hid (decide (b=1)=true):=decide_eq_true hb1;rw[hb1,divInt_one];obtain ⟨W0,hW0⟩:∃W0,W0=((w.alloc (.cells #[x1,y1] 30)).alloc (.cells #[x2,y2] 30)).alloc (.cells #[.bool false,.slice none 0 0,.bool false,.slice none 0 0] 32):=⟨_,rfl⟩
 have hbw:Below w.heap.size w W0:=by rw[hW0];exact (bRR.alloc (by simp) _).alloc (by simp;omega) _
 have tA:Two W0 w.heap.size x1 y1:=by rw[hW0];exact ((Two.new w _ _ _).alloc _).alloc _
 have tB:Two W0 (w.heap.size+1) x2 y2:=by
  have h:=Two.new (w.alloc (.cells #[x1,y1] 30)) x2 y2 30;rw[szA]at h;rw[hW0];exact h.alloc _
 have tR:Four W0 (w.heap.size+1+1) (.bool false) (.slice none 0 0) (.bool false) (.slice none 0 0):=by
  have h:=Four.new ((w.alloc (.cells #[x1,y1] 30)).alloc (.cells #[x2,y2] 30)) (.bool false) (.slice none 0 0) (.bool false) (.slice none 0 0) 32;rw[szA,szA]at h;rw[hW0];exact h
 have HW0:=Hd hW0;have hA:=ha.to hbw;have hB:=hb.to hbw;have HB:=Hd hbw;clear ha hb hb1 hW0 hbw
 go_enter Tryz.func97,Tryz.ntmps97
 go_wp2_with fail
 rw[<-HW0.out];have k0:=tB.c0;have k1:=tB.c1
 go_wp2_with fail
 refine (isOne_v hB h1.out).mono ?_;rintro e V1 ⟨rfl,bb⟩;replace tA:=tA.to bb;replace tR:=tR.to bb;replace hA:=hA.to bb;replace HB:=Hxb HB bb;clear k0 k1 bb tB hB;have k0:=tA.c0;have k1:=tA.c1
 go_wp2_with fail
 refine (fromInteger_z hA.zi).mono ?_;rintro e V2 ⟨a1,b1,c1,d1,rfl,rq,bb⟩;replace tR:=tR.to bb;replace HB:=Hxb HB bb;clear k0 k1 bb tA hA;have RQ:=Hd rq;obtain ⟨V3,eV,u,kp⟩:=pack4 tR Fq.nil a1 b1 c1 d1;obtain ⟨⟨n1,A1,l1,m1,rfl,rfl⟩,⟨n2,A2,l2,m2,rfl,rfl⟩⟩:=rq.fq;obtain ⟨v0,v1,v2,v3,v4,v5,v6,v7,_⟩:=tR;have EV:=Hd eV;have KP:=Hd kp;have U:=Hd u;clear eV kp u rq;go_wp2
 rw[EV.out];refine bodyPost_ret (v:=.agg #[.bool n1,.slice A1 l1 m1,.bool n2,.slice A2 l2 m2]) (by simp[results,Tryz.f97,go_sem,U.out.c0,U.out.c1,U.out.c2,U.out.c3]) rfl ?_;exact ⟨_,_,_,_,rfl,RQ.out.k4 KP.out,KP.out.bel _ _ HB.out (by omega)⟩
theorem quotient_z {w:World}{x1 y1 x2 y2:Value}{a b:Int}(ha:Zl w x1 y1 a)(hb:Zl w x2 y2 b)(hb0:b≠0)(sa:Sg a)(sb:Sg b) :
  Calls Tryz.prog 97 #[.agg #[x1,y1],.agg #[x2,y2]] w (QR w (Rat.divInt a b)):=by
 by_cases h1:b=1
 .exact quot_one ha hb h1
 .rcases Int.lt_or_le b 0 with hn|hp
  .by_cases hd:(Rat.divInt a b).den=1
   .exact quot_n1 ha hb hb0 h1 sa sb hn hd
   .exact quot_n0 ha hb hb0 h1 sa sb hn hd
  .by_cases hd:(Rat.divInt a b).den=1
   .exact quot_p1 ha hb hb0 h1 sa sb (by omega) hd
   .exact quot_p0 ha hb hb0 h1 sa sb (by omega) hd
def rv (p q:Int):Rat:=if q=0 then (p:Rat) else Rat.divInt p q
theorem sgn_zero {q:Int} : sgn q=0↔q=0:=by unfold sgn;split<;>(try split)<;>simp_all
theorem sgn_neg {q:Int}(h:q<0):sgn q=-1:=by unfold sgn;rw[if_neg (by omega),if_pos h]
theorem sgn_pos {q:Int}(h:0<q):sgn q=1:=by unfold sgn;rw[if_neg (by omega),if_neg (by omega)]
theorem canonical_z {w:World}{x1 y1 x2 y2:Value}{p q:Int}(h1:Zl w x1 y1 p)(h2:Zl w x2 y2 q)(sp:Sg p)(sq:Sg q) :
  Calls Tryz.prog 54 #[.agg #[x1,y1,x2,y2]] w (QR w (rv p q)):=by
 obtain ⟨W0,hW0⟩:∃W0,W0=(w.alloc (.cells #[x1,y1,x2,y2] 32)).alloc (.cells #[.bool false,.slice none 0 0,.bool false,.slice none 0 0] 32):=⟨_,rfl⟩
 have hbw:Below w.heap.size w W0:=by rw[hW0];exact bRR.alloc (by simp) _
 have tA:Four W0 w.heap.size x1 y1 x2 y2:=by rw[hW0];exact (Four.new w _ _ _ _ _).alloc _
 have tR:Four W0 (w.heap.size+1) (.bool false) (.slice none 0 0) (.bool false) (.slice none 0 0):=by
  have h:=Four.new (w.alloc (.cells #[x1,y1,x2,y2] 32)) (.bool false) (.slice none 0 0) (.bool false) (.slice none 0 0) 32;rw[szA]at h;rw[hW0];exact h
 have HW0:=Hd hW0;have hA:=h1.to hbw;have hB:=h2.to hbw;have HB:=Hd hbw;have HSP:=Hd sp;have HSQ:=Hd sq;clear h1 h2 hW0 hbw sp sq
 by_cases hq:q=0
 .have HR:Hid (rv p q=(p:Rat)):=by show _=_;unfold rv;rw[if_pos hq]
  rw[HR.out];have hs:Hid (sgn q=0):=sgn_zero.2 hq;clear hq
  go_enter Tryz.func54,Tryz.ntmps54
  go_wp2_with fail
  rw[<-HW0.out];have k0:=tA.c0;have k1:=tA.c1;have k2:=tA.c2;have k3:=tA.c3
  go_wp2_with fail
  refine (sign_v hB hs.out).mono ?_;rintro e V1 ⟨rfl,bb⟩;replace tA:=tA.to bb;replace tR:=tR.to bb;replace hA:=hA.to bb;replace HB:=Hxb HB bb;clear k0 k1 k2 k3 bb hB;have k0:=tA.c0;have k1:=tA.c1
  go_wp2_with fail
  refine (fromInteger_z hA.zi).mono ?_;rintro e V2 ⟨a1,b1,c1,d1,rfl,rq,bb⟩;replace tR:=tR.to bb;replace HB:=Hxb HB bb;clear k0 k1 bb tA hA;have RQ:=Hd rq;obtain ⟨V3,eV,u,kp⟩:=pack4 tR Fq.nil a1 b1 c1 d1;obtain ⟨⟨n1,A1,l1,m1,rfl,rfl⟩,⟨n2,A2,l2,m2,rfl,rfl⟩⟩:=rq.fq;obtain ⟨v0,v1,v2,v3,v4,v5,v6,v7,_⟩:=tR;have EV:=Hd eV;have KP:=Hd kp;have U:=Hd u;clear eV kp u rq;go_wp2
  rw[EV.out];refine bodyPost_ret (v:=.agg #[.bool n1,.slice A1 l1 m1,.bool n2,.slice A2 l2 m2]) (by simp[results,Tryz.f54,go_sem,U.out.c0,U.out.c1,U.out.c2,U.out.c3]) rfl ?_;exact ⟨_,_,_,_,rfl,RQ.out.k4 KP.out,KP.out.bel _ _ HB.out (by omega)⟩
 .have HR:Hid (rv p q=Rat.divInt p q):=by show _=_;unfold rv;rw[if_neg hq]
  rw[HR.out];have hs:(sgn q==0)=false:=by simpa using fun h=>hq (sgn_zero.1 h)
  obtain ⟨s,es⟩:∃s,sgn q=s:=⟨_,rfl⟩
  rw[es]at hs;have ES:=Hd es;have HQ:=Hd hq;clear es hq
  go_enter Tryz.func54,Tryz.ntmps54
  go_wp2_with fail
  rw[<-HW0.out];have k0:=tA.c0;have k1:=tA.c1;have k2:=tA.c2;have k3:=tA.c3
  go_wp2_with fail
  refine (sign_v hB ES.out).mono ?_;rintro e V1 ⟨rfl,bb⟩;replace tA:=tA.to bb;replace tR:=tR.to bb;replace hA:=hA.to bb;replace hB:=hB.to bb;replace HB:=Hxb HB bb;clear k0 k1 k2 k3 bb;have k0:=tA.c0;have k1:=tA.c1;have k2:=tA.c2;have k3:=tA.c3
  go_wp2_with fail
  refine (quotient_z hA hB HQ.out HSP.out HSQ.out).mono ?_;rintro e V2 ⟨a1,b1,c1,d1,rfl,rq,bb⟩;replace tR:=tR.to bb;replace HB:=Hxb HB bb;clear k0 k1 k2 k3 bb tA hA hB;have RQ:=Hd rq;obtain ⟨V3,eV,u,kp⟩:=pack4 tR Fq.nil a1 b1 c1 d1;obtain ⟨⟨n1,A1,l1,m1,rfl,rfl⟩,⟨n2,A2,l2,m2,rfl,rfl⟩⟩:=rq.fq;obtain ⟨v0,v1,v2,v3,v4,v5,v6,v7,_⟩:=tR;have EV:=Hd eV;have KP:=Hd kp;have U:=Hd u;clear eV kp u rq;go_wp2
  rw[EV.out];refine bodyPost_ret (v:=.agg #[.bool n1,.slice A1 l1 m1,.bool n2,.slice A2 l2 m2]) (by simp[results,Tryz.f54,go_sem,U.out.c0,U.out.c1,U.out.c2,U.out.c3]) rfl ?_;exact ⟨_,_,_,_,rfl,RQ.out.k4 KP.out,KP.out.bel _ _ HB.out (by omega)⟩
def upN (p q:Int):Int:=if q<0 then -p else p
def upD (q:Int):Int:=if q=0 then 1 else if q<0 then -q else q
theorem upD_pos (q:Int):0<upD q:=by unfold upD;split<;>(try split)<;>omega
theorem rv_up (p q:Int):rv p q=Rat.divInt (upN p q) (upD q):=by
 unfold rv upN upD
 by_cases h:q=0
 .subst h;simp[divInt_one]
 .by_cases h2:q<0
  .rw[if_neg h,if_pos h2,if_neg h,if_pos h2,Rat.neg_divInt_neg]
  .rw[if_neg h,if_neg h2,if_neg h,if_neg h2]
theorem Sm.upN {k:Nat}{p:Int}(h:Sm k p)(q:Int):Sm k (upN p q):=by unfold Go.Proofs.YtglhdielkkhefaaGreat.upN;split;exact h.neg;exact h
theorem Sm.one {k:Nat}(hk:0<k):Sm k 1:=by
 have h:b32 ^ 1<=b32 ^ k:=Nat.pow_le_pow_right (by decide) hk;rw[Nat.pow_one]at h;exact Nat.lt_of_lt_of_le (by decide) h
theorem Sm.zero {k:Nat} : Sm k 0:=Nat.pow_pos (by decide)
theorem Sm.upD {k:Nat}{q:Int}(h:Sm k q)(hk:0<k):Sm k (upD q):=by
 unfold Go.Proofs.YtglhdielkkhefaaGreat.upD
 split
 .exact Sm.one hk
 .split
  .exact h.neg
  .exact h
def Qm (k:Nat)(r:Rat):Prop:=Sm k r.num/\Sm k (r.den:Int)
theorem Qm.mono {k l:Nat}{r:Rat}(h:Qm k r)(hl:k<=l):Qm l r:=⟨h.1.mono hl,h.2.mono hl⟩
theorem Sm.le {k:Nat}{a b:Int}(h:Sm k a)(hl:b.natAbs<=a.natAbs):Sm k b:=Nat.lt_of_le_of_lt hl h
theorem Qm.divInt {k:Nat}{a b:Int}(ha:Sm k a)(hb:Sm k b)(h0:b≠0):Qm k (Rat.divInt a b):=by
 constructor
 .rw[<-cmn_num a b h0];exact ha.le (Int.natAbs_ediv_le_natAbs _ _)
 .rw[<-cmn_den a b h0];exact hb.le (Int.natAbs_ediv_le_natAbs _ _)
theorem Qm.rv {k:Nat}{p q:Int}(hp:Sm k p)(hq:Sm k q)(hk:0<k):Qm k (rv p q):=by
 rw[rv_up];exact Qm.divInt (hp.upN q) (hq.upD hk) (by have:=upD_pos q;omega)
theorem Qm.pos {k:Nat}{r:Rat}(h:Qm k r):0<k:=by
 rcases Nat.eq_zero_or_pos k with rfl|hk
 .have h1:=h.2;have h2:=r.den_pos;unfold Sm at h1;rw[Nat.pow_zero,Int.natAbs_natCast]at h1;omega
 .exact hk
theorem den_ne (r:Rat):(r.den:Int)≠0:=by have:=r.den_pos;omega
theorem add_up (r s:Rat):r+s=Rat.divInt (r.num*s.den+s.num*r.den) (r.den*s.den):=by
 have h:=Rat.divInt_add_divInt r.num s.num (den_ne r) (den_ne s);rw[Rat.num_divInt_den,Rat.num_divInt_den]at h;exact h
theorem mul_up (r s:Rat):r*s=Rat.divInt (r.num*s.num) (r.den*s.den):=by
 have h:=Rat.divInt_mul_divInt r.num s.num (d₁:=r.den) (d₂:=s.den);rw[Rat.num_divInt_den,Rat.num_divInt_den]at h;exact h
theorem mul_ne (r s:Rat):(r.den:Int)*s.den≠0:=Int.mul_ne_zero (den_ne r) (den_ne s)
theorem Qm.add {k l:Nat}{r s:Rat}(h:Qm k r)(h':Qm l s):Qm (k+l+1) (r+s):=by
 rw[add_up];refine Qm.divInt ((h.1.mul h'.2).add ?_) ((h.2.mul h'.2).mono (by omega)) (mul_ne r s);have:=h'.1.mul h.2
 rwa [Nat.add_comm]at this
theorem Qm.mul {k l:Nat}{r s:Rat}(h:Qm k r)(h':Qm l s):Qm (k+l) (r*s):=by
 rw[mul_up];exact Qm.divInt (h.1.mul h'.1) (h.2.mul h'.2) (mul_ne r s)
theorem Qm.int {k:Nat}{z:Int}(h:Sm k z)(hk:0<k):Qm k (z:Rat):=⟨h,Sm.one hk⟩
def Qi (W:World)(a b c d:Value)(r:Rat)(k:Nat):Prop:=∃p q,Zl W a b p/\Zl W c d q/\rv p q=r/\Sm k p/\Sm k q
section
variable {W V : World} {a b c d : Value} {r : Rat} {k : Nat}
theorem Qi.to (h:Qi W a b c d r k)(hb:Below W.heap.size W V):Qi V a b c d r k:=by
 obtain ⟨p,q,h1,h2,h3⟩:=h;exact ⟨p,q,h1.to hb,h2.to hb,h3⟩
theorem Qi.qm (h:Qi W a b c d r k)(hk:0<k):Qm k r:=by
 obtain ⟨p,q,h1,h2,rfl,h3,h4⟩:=h;exact Qm.rv h3 h4 hk
theorem rv_self (r:Rat):rv r.num (if r.den=1 then 0 else (r.den:Int))=r:=by
 unfold rv
 by_cases h:r.den=1
 .rw[if_pos (by rw[if_pos h])];exact Rat.ext (by simp) (by simp[h])
 .have:=r.den_pos;rw[if_neg h,if_neg (by omega),Rat.num_divInt_den]
theorem Qc.qi (h:Qc W a b c d r)(hm:Qm k r)(hk:k<=10000):Qi W a b c d r k:=by
 refine ⟨r.num,_,h.1.zs (hm.1.sg hk),h.2.zs ?_,rv_self r,hm.1,?_⟩
 .split
  .exact sg_lit (by decide)
  .exact hm.2.sg hk
 .split
  .exact Sm.zero
  .exact hm.2
end
def cmpQ (r s:Rat):Int:=if r<s then -1 else if s<r then 1 else 0
end Go.Proofs.YtglhdielkkhefaaGreat

namespace Go.Proofs.YtglhdielkkhefaaGreat
open Go.RowKit Go.Shelf
theorem upright_pos {w:World}{x1 y1 x2 y2:Value}{p q:Int}(h1:Zl w x1 y1 p)(h2:Zl w x2 y2 q)(hq:0<q) :
  Calls Tryz.prog 111 #[.agg #[x1,y1,x2,y2]] w fun e w'=>e=.returned (.agg #[x1,y1,x2,y2])/\Below w.heap.size w w':=by
 obtain ⟨W0,hW0⟩:∃W0,W0=(w.alloc (.cells #[x1,y1,x2,y2] 32)).alloc (.cells #[.bool false,.slice none 0 0,.bool false,.slice none 0 0] 32):=⟨_,rfl⟩
 have hbw:Below w.heap.size w W0:=by rw[hW0];exact bRR.alloc (by simp) _
 have tA:Four W0 w.heap.size x1 y1 x2 y2:=by rw[hW0];exact (Four.new w _ _ _ _ _).alloc _
 have tR:Four W0 (w.heap.size+1) (.bool false) (.slice none 0 0) (.bool false) (.slice none 0 0):=by
  have h:=Four.new (w.alloc (.cells #[x1,y1,x2,y2] 32)) (.bool false) (.slice none 0 0) (.bool false) (.slice none 0 0) 32;rw[szA]at h;rw[hW0];exact h
 have HW0:=Hd hW0;have hB:=h2.to hbw;have HB:=Hd hbw;have hs:=Hd (sgn_pos hq);have f1:=h1.fs;have f2:=h2.fs;clear h1 h2 hW0 hbw hq;obtain ⟨n1,A1,l1,m1,rfl,rfl⟩:=f1;obtain ⟨n2,A2,l2,m2,rfl,rfl⟩:=f2
 go_enter Tryz.func111,Tryz.ntmps111
 go_wp2_with fail
 rw[<-HW0.out];have k0:=tA.c0;have k1:=tA.c1;have k2:=tA.c2;have k3:=tA.c3
 go_wp2_with fail
 refine (sign_v hB hs.out).mono ?_;rintro e V1 ⟨rfl,bb⟩;replace tA:=tA.to bb;replace tR:=tR.to bb;replace HB:=Hxb HB bb;clear k0 k1 k2 k3 bb hB;have k0:=tA.c0;have k1:=tA.c1;have k2:=tA.c2;have k3:=tA.c3;obtain ⟨V3,eV,u,kp⟩:=pack4 tR Fq.nil (.bool n1) (.slice A1 l1 m1) (.bool n2) (.slice A2 l2 m2);obtain ⟨v0,v1,v2,v3,v4,v5,v6,v7,_⟩:=tR;have EV:=Hd eV;have KP:=Hd kp;have U:=Hd u;clear eV kp u;go_wp2
 rw[EV.out];refine bodyPost_ret (v:=.agg #[.bool n1,.slice A1 l1 m1,.bool n2,.slice A2 l2 m2]) (by simp[results,Tryz.f111,go_sem,U.out.c0,U.out.c1,U.out.c2,U.out.c3]) rfl ?_;exact ⟨rfl,KP.out.bel _ _ HB.out (by omega)⟩
theorem upright_0 {w:World}{x1 y1 x2 y2:Value}{p q:Int}(h1:Zl w x1 y1 p)(h2:Zl w x2 y2 q)(hq:q=0) :
  Calls Tryz.prog 111 #[.agg #[x1,y1,x2,y2]] w fun e w'=>∃x y,e=.returned (.agg #[x1,y1,x,y])/\Zl w' x1 y1 p/\Zc w' x y 1/\Below w.heap.size w w':=by
 obtain ⟨W0,hW0⟩:∃W0,W0=(w.alloc (.cells #[x1,y1,x2,y2] 32)).alloc (.cells #[.bool false,.slice none 0 0,.bool false,.slice none 0 0] 32):=⟨_,rfl⟩
 have hbw:Below w.heap.size w W0:=by rw[hW0];exact bRR.alloc (by simp) _
 have tA:Four W0 w.heap.size x1 y1 x2 y2:=by rw[hW0];exact (Four.new w _ _ _ _ _).alloc _
 have tR:Four W0 (w.heap.size+1) (.bool false) (.slice none 0 0) (.bool false) (.slice none 0 0):=by
  have h:=Four.new (w.alloc (.cells #[x1,y1,x2,y2] 32)) (.bool false) (.slice none 0 0) (.bool false) (.slice none 0 0) 32;rw[szA]at h;rw[hW0];exact h
 have HW0:=Hd hW0;have hA:=h1.to hbw;have hB:=h2.to hbw;have HB:=Hd hbw;have hs:Hid (sgn q=0):=sgn_zero.2 hq;have f1:=h1.zi.fs;have f2:=h2.zi.fs;clear h1 h2 hW0 hbw hq;obtain ⟨n1,A1,l1,m1,rfl,rfl⟩:=f1;obtain ⟨n2,A2,l2,m2,rfl,rfl⟩:=f2
 go_enter Tryz.func111,Tryz.ntmps111
 go_wp2_with fail
 rw[<-HW0.out];have k0:=tA.c0;have k1:=tA.c1;have k2:=tA.c2;have k3:=tA.c3
 go_wp2_with fail
 refine (sign_v hB hs.out).mono ?_;rintro e V1 ⟨rfl,bb⟩;replace tA:=tA.to bb;replace tR:=tR.to bb;replace hA:=hA.to bb;replace hB:=hB.to bb;replace HB:=Hxb HB bb;clear k0 k1 k2 k3 bb HW0
 go_wp2_with fail
 refine wp_region_plan (S:=fun w'=>Below w.heap.size w w'/\Four w' w.heap.size (.bool n1) (.slice A1 l1 m1) (.bool n2) (.slice A2 l2 m2)) [(0,true),(1,true),(2,false),(3,true),(4,false)] (by kernel_rfl) (by kernel_rfl) ⟨HB.out.drew,tA.to (Below.refl _ _).drew⟩ ?_;have hb:=HB.out.drew;have bb:=(Below.refl V1.heap.size V1).drew;replace tA:=tA.to bb;replace tR:=tR.to bb;replace hA:=hA.to bb;clear bb HB hB
 iterate 2 (refine plan_take (v:=?_) rfl (by rfl) ?_ ?_;rotate_left;(focus (intro w' hS;have k0:=hS.2.c0;have k1:=hS.2.c1;have k2:=hS.2.c2;have k3:=hS.2.c3;go_simp;try with_reducible rfl)))
 refine plan_call rfl (by rfl) (fun K hK=>?_);go_simp
 refine (from_z 1 (by decide) (by decide) _).mono ?_;rintro e V2 ⟨xo,yo,rfl,rz,bb⟩;replace hb:=Bxb hb bb;replace tA:=tA.to bb;replace tR:=tR.to bb;replace hA:=hA.to bb;refine hK.out _ _ ⟨hb,tA⟩ ?_;clear hK K bb;refine plan_take (v:=?_) rfl (by rfl) ?_ ?_;rotate_left;(focus (intro w' hS;have k0:=hS.2.c0;have k1:=hS.2.c1;have k2:=hS.2.c2;have k3:=hS.2.c3;go_simp;try with_reducible rfl));refine plan_call rfl (by rfl) (fun K hK=>?_);refine wp_store_four (by rfl) (by rfl) tR Fq.nil ⟨⟨_,_,_,_,rfl,rfl⟩,rz.fs⟩ (fun V u kp=>?_);replace tA:=kp.four _ _ _ _ _ (by omega) tA;replace hb:=kp.bel _ _ hb (by omega);replace rz:=kp.zc _ _ _ rz;replace hA:=kp.zl hA;refine hK.out _ _ ⟨hb,tA⟩ ?_;clear hK K kp tR tA;refine plan_done ?_;have U0:=u.c0;have U1:=u.c1;have U2:=u.c2;have U3:=u.c3;have RZ:=Hd rz;have RA:=Hd hA;have HB:=Hd hb;clear u rz hA hb;go_wp2
 refine bodyPost_ret (v:=.agg #[.bool n1,.slice A1 l1 m1,xo,yo]) (by simp[results,Tryz.f111,go_sem,U0,U1,U2,U3]) rfl ?_;exact ⟨_,_,rfl,RA.out,RZ.out,HB.out⟩
theorem upright_n {w:World}{x1 y1 x2 y2:Value}{p q:Int}(h1:Zl w x1 y1 p)(h2:Zl w x2 y2 q)(hq:q<0) :
  Calls Tryz.prog 111 #[.agg #[x1,y1,x2,y2]] w fun e w'=>∃u v u' v',e=.returned (.agg #[u,v,u',v'])/\Zc w' u v (-p)/\Zc w' u' v' (-q)/\Below w.heap.size w w':=by
 obtain ⟨W0,hW0⟩:∃W0,W0=(w.alloc (.cells #[x1,y1,x2,y2] 32)).alloc (.cells #[.bool false,.slice none 0 0,.bool false,.slice none 0 0] 32):=⟨_,rfl⟩
 have hbw:Below w.heap.size w W0:=by rw[hW0];exact bRR.alloc (by simp) _
 have tA:Four W0 w.heap.size x1 y1 x2 y2:=by rw[hW0];exact (Four.new w _ _ _ _ _).alloc _
 have tR:Four W0 (w.heap.size+1) (.bool false) (.slice none 0 0) (.bool false) (.slice none 0 0):=by
  have h:=Four.new (w.alloc (.cells #[x1,y1,x2,y2] 32)) (.bool false) (.slice none 0 0) (.bool false) (.slice none 0 0) 32;rw[szA]at h;rw[hW0];exact h
 have HW0:=Hd hW0;have hA:=h1.to hbw;have hB:=h2.to hbw;have HB:=Hd hbw;have hs:Hid (sgn q=-1):=sgn_neg hq;have f1:=h1.zi.fs;have f2:=h2.zi.fs;clear h1 h2 hW0 hbw hq;obtain ⟨n1,A1,l1,m1,rfl,rfl⟩:=f1;obtain ⟨n2,A2,l2,m2,rfl,rfl⟩:=f2
 go_enter Tryz.func111,Tryz.ntmps111
 go_wp2_with fail
 rw[<-HW0.out];have k0:=tA.c0;have k1:=tA.c1;have k2:=tA.c2;have k3:=tA.c3
 go_wp2_with fail
 refine (sign_v hB hs.out).mono ?_;rintro e V1 ⟨rfl,bb⟩;replace tA:=tA.to bb;replace tR:=tR.to bb;replace hA:=hA.to bb;replace hB:=hB.to bb;replace HB:=Hxb HB bb;clear k0 k1 k2 k3 bb HW0
 go_wp2_with fail
 refine wp_region_plan (S:=fun w'=>Below w.heap.size w w'/\Four w' w.heap.size (.bool n1) (.slice A1 l1 m1) (.bool n2) (.slice A2 l2 m2)) [(0,true),(1,true),(3,true),(4,true),(2,false),(5,false),(6,true),(7,false)] (by kernel_rfl) (by kernel_rfl) ⟨HB.out.drew,tA.to (Below.refl _ _).drew⟩ ?_;have hb:=HB.out.drew;have bb:=(Below.refl V1.heap.size V1).drew;replace tA:=tA.to bb;replace tR:=tR.to bb;replace hA:=hA.to bb;replace hB:=hB.to bb;clear bb HB
 iterate 4 (refine plan_take (v:=?_) rfl (by rfl) ?_ ?_;rotate_left;(focus (intro w' hS;have k0:=hS.2.c0;have k1:=hS.2.c1;have k2:=hS.2.c2;have k3:=hS.2.c3;go_simp;try with_reducible rfl)))
 refine plan_call rfl (by rfl) (fun K hK=>?_);go_simp
 refine (neg_z hA.zi).mono ?_;rintro e V2 ⟨xo,yo,rfl,rz,bb⟩;replace hb:=Bxb hb bb;replace tA:=tA.to bb;replace tR:=tR.to bb;replace hB:=hB.to bb;refine hK.out _ _ ⟨hb,tA⟩ ?_;clear hK K bb hA;refine plan_call rfl (by rfl) (fun K hK=>?_);go_simp
 refine (neg_z hB.zi).mono ?_;rintro e V3 ⟨xu,yu,rfl,ru,bb⟩;replace hb:=Bxb hb bb;replace tA:=tA.to bb;replace tR:=tR.to bb;replace rz:=rz.to bb;refine hK.out _ _ ⟨hb,tA⟩ ?_;clear hK K bb hB;refine plan_take (v:=?_) rfl (by rfl) ?_ ?_;rotate_left;(focus (intro w' hS;have k0:=hS.2.c0;have k1:=hS.2.c1;have k2:=hS.2.c2;have k3:=hS.2.c3;go_simp;try with_reducible rfl));refine plan_call rfl (by rfl) (fun K hK=>?_);refine wp_store_four (by rfl) (by rfl) tR Fq.nil ⟨rz.fs,ru.fs⟩ (fun V u kp=>?_);replace tA:=kp.four _ _ _ _ _ (by omega) tA;replace hb:=kp.bel _ _ hb (by omega);replace rz:=kp.zc _ _ _ rz;replace ru:=kp.zc _ _ _ ru;refine hK.out _ _ ⟨hb,tA⟩ ?_;clear hK K kp tR tA;refine plan_done ?_;have U0:=u.c0;have U1:=u.c1;have U2:=u.c2;have U3:=u.c3;have RZ:=Hd rz;have RU:=Hd ru;have HB:=Hd hb;clear u rz ru hb;go_wp2
 refine bodyPost_ret (v:=.agg #[xo,yo,xu,yu]) (by simp[results,Tryz.f111,go_sem,U0,U1,U2,U3]) rfl ?_;exact ⟨_,_,_,_,rfl,RZ.out,RU.out,HB.out⟩
structure Up (W:World)(a b c d:Value)(r:Rat)(k:Nat)(N D:Int):Prop where
 n:Zl W a b N
 d:Zl W c d D
 pos:0<D
 eq:Rat.divInt N D=r
 sn:Sm k N
 sd:Sm k D
theorem Up.to {W V:World}{a b c d:Value}{r:Rat}{k:Nat}{N D:Int}(h:Up W a b c d r k N D)(hb:Below W.heap.size W V):Up V a b c d r k N D:=⟨h.n.to hb,h.d.to hb,h.pos,h.eq,h.sn,h.sd⟩
theorem Up.fq {W:World}{a b c d:Value}{r:Rat}{k:Nat}{N D:Int}(h:Up W a b c d r k N D):Fq a b c d:=⟨h.n.fs,h.d.fs⟩
def UpR (w:World)(r:Rat)(k:Nat)(e:Ending)(w':World):Prop:=∃a b c d N D,e=.returned (.agg #[a,b,c,d])/\Up w' a b c d r k N D/\Below w.heap.size w w'
theorem upright_q {w:World}{a b c d:Value}{r:Rat}{k:Nat}(h:Qi w a b c d r k)(hk:0<k)(hk2:k<=10000):Calls Tryz.prog 111 #[.agg #[a,b,c,d]] w (UpR w r k):=by
 obtain ⟨p,q,h1,h2,rfl,s1,s2⟩:=h
 rcases Int.lt_trichotomy q 0 with hq|hq|hq
 .refine (upright_n h1 h2 hq).mono ?_;rintro e w' ⟨u,v,u',v',rfl,z1,z2,hb⟩;refine ⟨u,v,u',v',_,_,rfl,⟨z1.zs (s1.neg.sg hk2),z2.zs (s2.neg.sg hk2),by omega,?_,s1.neg,s2.neg⟩,hb⟩;rw[Rat.neg_divInt_neg];unfold rv;rw[if_neg (by omega)]
 .refine (upright_0 h1 h2 hq).mono ?_;rintro e w' ⟨u,v,rfl,z1,z2,hb⟩;refine ⟨a,b,u,v,_,_,rfl,⟨z1,z2.zs (sg_lit (by decide)),by omega,?_,s1,Sm.one hk⟩,hb⟩;rw[divInt_one];unfold rv;rw[if_pos hq]
 .refine (upright_pos h1 h2 hq).mono ?_;rintro e w' ⟨rfl,hb⟩;refine ⟨a,b,c,d,_,_,rfl,⟨h1.to hb,h2.to hb,hq,?_,s1,s2⟩,hb⟩;unfold rv;rw[if_neg (by omega)]
end Go.Proofs.YtglhdielkkhefaaGreat
