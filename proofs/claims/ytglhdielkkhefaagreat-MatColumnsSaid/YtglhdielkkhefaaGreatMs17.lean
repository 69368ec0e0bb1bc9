/- Parts: 12. -/
import Derived.Test.YtglhdielkkhefaaGreatMs1
import Derived.Test.YtglhdielkkhefaaGreatMs3
import Derived.Test.YtglhdielkkhefaaGreatMs5
import Derived.Test.YtglhdielkkhefaaGreatMs8
import Derived.Test.YtglhdielkkhefaaGreatMs16
import Derived.BigQuiet
import Derived.Deep.QuietTactic
import Derived.Laws.MakeOwn
import Derived.Maps.AppendAt
import Derived.WalkMore
set_option linter.unusedVariables false
set_option linter.unusedSimpArgs false
set_option maxRecDepth 100000
set_option maxHeartbeats 40000000

namespace Go.Proofs.YtglhdielkkhefaaGreat
open Go.RowKit Go.Shelf
theorem sgn_num (r:Rat):sgn r.num=if r=0 then 0 else if r<0 then -1 else 1:=by
 have h1:r.num=0↔r=0:=Rat.num_eq_zero
 have h2:0<=r.num↔0<=r:=Rat.num_nonneg
 have h3:r<0↔¬0<=r:=Rat.not_le.symm
 unfold sgn
 simp only[h1,h3,<-h2]
 repeat' split
 all_goals omega
def sgnQ (r:Rat):Int:=sgn r.num
theorem sgnQ_zero {r:Rat} : sgnQ r=0↔r=0:=by
 unfold sgnQ
 rw[sgn_zero,Rat.num_eq_zero]
theorem sgn_divInt {n d:Int}(hd:0<d):sgn (Rat.divInt n d).num=sgn n:=by
 have h1:(Rat.divInt n d).num=0↔n=0:=by
  rw[Rat.num_eq_zero]
  constructor
  .intro h
   have:=(Rat.divInt_eq_divInt_iff (n₁:=n) (n₂:=0) (d₁:=d) (d₂:=1) (by omega) (by decide)).1 (by rw[h];rfl)
   omega
  .rintro rfl;exact Rat.zero_divInt _
 have h2:0<=(Rat.divInt n d).num↔0<=n:=by rw[Rat.num_nonneg,Rat.divInt_nonneg_iff_of_pos_right hd]
 unfold sgn
 simp only[h1]
 repeat' split
 all_goals omega
theorem sgn_up (p q:Int):sgnQ (rv p q)=sgn (upN p q):=by
 unfold sgnQ
 rw[rv_up,sgn_divInt (upD_pos q)]
theorem sgn_neg_wrap (p:Int):IntKind.i64.wrap (-(sgn p))=sgn (-p):=by
 unfold sgn
 by_cases h0:p=0
 .subst h0;decide
 .by_cases h1:p<0
  .rw[if_neg h0,if_pos h1,if_neg (by omega),if_neg (by omega)];decide
  .rw[if_neg h0,if_neg h1,if_neg (by omega),if_pos (by omega)];decide
theorem add_q {w:World}{a1 a2 a3 a4 b1 b2 b3 b4:Value}{r s:Rat}{k l:Nat}(h1:Qi w a1 a2 a3 a4 r k)(h2:Qi w b1 b2 b3 b4 s l)(hk:0<k)(hl:0<l)(hkl:k+l+1<=10000):Calls Tryz.prog 90 #[.agg #[a1,a2,a3,a4],.agg #[b1,b2,b3,b4]] w (QR w (r+s)):=by
 obtain ⟨W0,hW0⟩:∃W0,W0=((w.alloc (.cells #[a1,a2,a3,a4] 32)).alloc (.cells #[b1,b2,b3,b4] 32)).alloc (.cells #[.bool false,.slice none 0 0,.bool false,.slice none 0 0] 32):=⟨_,rfl⟩
 have hbw:Below w.heap.size w W0:=by rw[hW0];exact (((Below.refl _ _).alloc (Nat.le_refl _) _).alloc (by simp) _).alloc (by simp;omega) _
 have tA:Four W0 w.heap.size a1 a2 a3 a4:=by rw[hW0];exact ((Four.new w _ _ _ _ _).alloc _).alloc _
 have tB:Four W0 (w.heap.size+1) b1 b2 b3 b4:=by
  have h:=Four.new (w.alloc (.cells #[a1,a2,a3,a4] 32)) b1 b2 b3 b4 32
  rw[World.size_alloc]at h
  rw[hW0];exact h.alloc _
 have tR:Four W0 (w.heap.size+1+1) (.bool false) (.slice none 0 0) (.bool false) (.slice none 0 0):=by
  have h:=Four.new ((w.alloc (.cells #[a1,a2,a3,a4] 32)).alloc (.cells #[b1,b2,b3,b4] 32)) (.bool false) (.slice none 0 0) (.bool false) (.slice none 0 0) 32
  rw[World.size_alloc,World.size_alloc]at h
  rw[hW0];exact h
 have HW0:=Hd hW0
 have HC:=Hd (operate_add (h1.to hbw) (h2.to hbw) hk hl hkl)
 have HB:=Hd hbw
 clear h1 h2 hk hl hkl hW0 hbw
 go_enter Tryz.func90,Tryz.ntmps90
 go_wp2_with fail
 rw[<-HW0.out]
 have k0:=tA.c0
 have k1:=tA.c1
 have k2:=tA.c2
 have k3:=tA.c3
 have l0:=tB.c0
 have l1:=tB.c1
 have l2:=tB.c2
 have l3:=tB.c3
 go_wp2_with fail
 refine HC.out.mono ?_
 rintro e V1 ⟨x1,x2,x3,x4,rfl,rq,bb⟩
 replace tR:=tR.to bb
 replace HB:=Hxb HB bb
 clear k0 k1 k2 k3 l0 l1 l2 l3 bb tA tB HC HW0
 have RQ:=Hd rq
 obtain ⟨V9,eV,u,kp⟩:=pack4 tR Fq.nil x1 x2 x3 x4
 obtain ⟨⟨n1,A1,l1,m1,rfl,rfl⟩,⟨n2,A2,l2,m2,rfl,rfl⟩⟩:=rq.fq
 obtain ⟨v0,v1,v2,v3,v4,v5,v6,v7,_⟩:=tR
 have EV:=Hd eV
 have KP:=Hd kp
 have U:=Hd u
 clear eV kp u rq
 go_wp2
 rw[EV.out]
 refine bodyPost_ret (v:=.agg #[.bool n1,.slice A1 l1 m1,.bool n2,.slice A2 l2 m2]) (by simp[results,Tryz.f90,go_sem,U.out.c0,U.out.c1,U.out.c2,U.out.c3]) rfl ?_
 exact ⟨_,_,_,_,rfl,RQ.out.k4 KP.out,KP.out.bel _ _ HB.out (by omega)⟩
theorem mul_q {w:World}{a1 a2 a3 a4 b1 b2 b3 b4:Value}{r s:Rat}{k l:Nat}(h1:Qi w a1 a2 a3 a4 r k)(h2:Qi w b1 b2 b3 b4 s l)(hk:0<k)(hl:0<l)(hkl:k+l+1<=10000):Calls Tryz.prog 91 #[.agg #[a1,a2,a3,a4],.agg #[b1,b2,b3,b4]] w (QR w (r*s)):=by
 obtain ⟨W0,hW0⟩:∃W0,W0=((w.alloc (.cells #[a1,a2,a3,a4] 32)).alloc (.cells #[b1,b2,b3,b4] 32)).alloc (.cells #[.bool false,.slice none 0 0,.bool false,.slice none 0 0] 32):=⟨_,rfl⟩
 have hbw:Below w.heap.size w W0:=by rw[hW0];exact (((Below.refl _ _).alloc (Nat.le_refl _) _).alloc (by simp) _).alloc (by simp;omega) _
 have tA:Four W0 w.heap.size a1 a2 a3 a4:=by rw[hW0];exact ((Four.new w _ _ _ _ _).alloc _).alloc _
 have tB:Four W0 (w.heap.size+1) b1 b2 b3 b4:=by
  have h:=Four.new (w.alloc (.cells #[a1,a2,a3,a4] 32)) b1 b2 b3 b4 32
  rw[World.size_alloc]at h
  rw[hW0];exact h.alloc _
 have tR:Four W0 (w.heap.size+1+1) (.bool false) (.slice none 0 0) (.bool false) (.slice none 0 0):=by
  have h:=Four.new ((w.alloc (.cells #[a1,a2,a3,a4] 32)).alloc (.cells #[b1,b2,b3,b4] 32)) (.bool false) (.slice none 0 0) (.bool false) (.slice none 0 0) 32
  rw[World.size_alloc,World.size_alloc]at h
  rw[hW0];exact h
 have HW0:=Hd hW0
 have HC:=Hd (operate_mul (h1.to hbw) (h2.to hbw) hk hl hkl)
 have HB:=Hd hbw
 clear h1 h2 hk hl hkl hW0 hbw
 go_enter Tryz.func91,Tryz.ntmps91
 go_wp2_with fail
 rw[<-HW0.out]
 have k0:=tA.c0
 have k1:=tA.c1
 have k2:=tA.c2
 have k3:=tA.c3
 have l0:=tB.c0
 have l1:=tB.c1
 have l2:=tB.c2
 have l3:=tB.c3
 go_wp2_with fail
 refine HC.out.mono ?_
 rintro e V1 ⟨x1,x2,x3,x4,rfl,rq,bb⟩
 replace tR:=tR.to bb
 replace HB:=Hxb HB bb
 clear k0 k1 k2 k3 l0 l1 l2 l3 bb tA tB HC HW0
 have RQ:=Hd rq
 obtain ⟨V9,eV,u,kp⟩:=pack4 tR Fq.nil x1 x2 x3 x4
 obtain ⟨⟨n1,A1,l1,m1,rfl,rfl⟩,⟨n2,A2,l2,m2,rfl,rfl⟩⟩:=rq.fq
 obtain ⟨v0,v1,v2,v3,v4,v5,v6,v7,_⟩:=tR
 have EV:=Hd eV
 have KP:=Hd kp
 have U:=Hd u
 clear eV kp u rq
 go_wp2
 rw[EV.out]
 refine bodyPost_ret (v:=.agg #[.bool n1,.slice A1 l1 m1,.bool n2,.slice A2 l2 m2]) (by simp[results,Tryz.f91,go_sem,U.out.c0,U.out.c1,U.out.c2,U.out.c3]) rfl ?_
 exact ⟨_,_,_,_,rfl,RQ.out.k4 KP.out,KP.out.bel _ _ HB.out (by omega)⟩
theorem sign_q {w:World}{a1 a2 a3 a4:Value}{r:Rat}{k:Nat}(h1:Qi w a1 a2 a3 a4 r k){v:Int}(hv:sgnQ r=v):Calls Tryz.prog 105 #[.agg #[a1,a2,a3,a4]] w fun e w'=>e=.returned (.int .i64 v)/\Below w.heap.size w w':=by
 obtain ⟨p,q,z1,z2,rfl,-,-⟩:=h1
 rw[sgn_up]at hv
 obtain ⟨W0,hW0⟩:∃W0,W0=w.alloc (.cells #[a1,a2,a3,a4] 32):=⟨_,rfl⟩
 have hbw:Below w.heap.size w W0:=by rw[hW0];exact (Below.refl _ _).alloc (Nat.le_refl _) _
 have tA:Four W0 w.heap.size a1 a2 a3 a4:=by rw[hW0];exact Four.new w _ _ _ _ _
 have HW0:=Hd hW0
 have hA:=z1.to hbw
 have hB:=z2.to hbw
 have HB:=Hd hbw
 clear z1 z2 hW0 hbw
 obtain ⟨sq,esq⟩:∃sq,sgn q=sq:=⟨_,rfl⟩
 obtain ⟨sp,esp⟩:∃sp,sgn p=sp:=⟨_,rfl⟩
 have ESQ:=Hd esq
 have ESP:=Hd esp
 by_cases hq:q<0
 .have hlt:sq<0:=by rw[<-esq,sgn_neg hq];decide
  have hw:IntKind.i64.wrap (-sp)=v:=by rw[<-hv,<-esp,sgn_neg_wrap];unfold upN;rw[if_pos hq]
  clear hv esq esp hq
  go_enter Tryz.func105,Tryz.ntmps105
  go_wp2_with fail
  rw[<-HW0.out]
  have k0:=tA.c0
  have k1:=tA.c1
  have k2:=tA.c2
  have k3:=tA.c3
  go_wp2_with fail
  refine (sign_v hB ESQ.out).mono ?_
  rintro e V1 ⟨rfl,bb⟩
  replace tA:=tA.to bb
  replace hA:=hA.to bb
  replace HB:=Hxb HB bb
  clear k0 k1 k2 k3 bb hB HW0
  have k0:=tA.c0
  have k1:=tA.c1
  have k2:=tA.c2
  have k3:=tA.c3
  go_wp2_with fail
  refine (sign_v hA ESP.out).mono ?_
  rintro e V2 ⟨rfl,bb⟩
  replace HB:=Hxb HB bb
  clear k0 k1 k2 k3 bb hA tA
  go_wp2
  go_ret
  exact ⟨rfl,HB.out⟩
 .have hlt:¬sq<0:=by
   rw[<-esq];unfold sgn
   repeat' split
   all_goals omega
  have hw:sp=v:=by rw[<-hv,<-esp];unfold upN;rw[if_neg hq]
  clear hv esq esp hq
  go_enter Tryz.func105,Tryz.ntmps105
  go_wp2_with fail
  rw[<-HW0.out]
  have k0:=tA.c0
  have k1:=tA.c1
  have k2:=tA.c2
  have k3:=tA.c3
  go_wp2_with fail
  refine (sign_v hB ESQ.out).mono ?_
  rintro e V1 ⟨rfl,bb⟩
  replace tA:=tA.to bb
  replace hA:=hA.to bb
  replace HB:=Hxb HB bb
  clear k0 k1 k2 k3 bb hB HW0
  have k0:=tA.c0
  have k1:=tA.c1
  have k2:=tA.c2
  have k3:=tA.c3
  go_wp2_with fail
  refine (sign_v hA ESP.out).mono ?_
  rintro e V2 ⟨rfl,bb⟩
  replace HB:=Hxb HB bb
  clear k0 k1 k2 k3 bb hA tA
  go_wp2
  go_ret
  exact ⟨rfl,HB.out⟩
theorem cmp_q {w:World}{a1 a2 a3 a4 b1 b2 b3 b4:Value}{r s:Rat}{k l:Nat}(h1:Qi w a1 a2 a3 a4 r k)(h2:Qi w b1 b2 b3 b4 s l)(hk:0<k)(hl:0<l)(hkl:k+l<=10000){v:Int}(hv:cmpQ r s=v):Calls Tryz.prog 87 #[.agg #[a1,a2,a3,a4],.agg #[b1,b2,b3,b4]] w fun e w'=>e=.returned (.int .i64 v)/\Below w.heap.size w w':=by
 obtain ⟨W0,hW0⟩:∃W0,W0=(w.alloc (.cells #[a1,a2,a3,a4] 32)).alloc (.cells #[b1,b2,b3,b4] 32):=⟨_,rfl⟩
 have hbw:Below w.heap.size w W0:=by rw[hW0];exact ((Below.refl _ _).alloc (Nat.le_refl _) _).alloc (by simp) _
 have tA:Four W0 w.heap.size a1 a2 a3 a4:=by rw[hW0];exact (Four.new w _ _ _ _ _).alloc _
 have tB:Four W0 (w.heap.size+1) b1 b2 b3 b4:=by
  have h:=Four.new (w.alloc (.cells #[a1,a2,a3,a4] 32)) b1 b2 b3 b4 32
  rw[World.size_alloc]at h
  rw[hW0];exact h
 have HW0:=Hd hW0
 have HU1:Hid (∀V,Below W0.heap.size W0 V->Calls Tryz.prog 111 #[.agg #[a1,a2,a3,a4]] V (UpR V r k)):=fun V hb=>upright_q ((h1.to hbw).to hb) hk (by omega)
 have HU2:Hid (∀V,Below W0.heap.size W0 V->Calls Tryz.prog 111 #[.agg #[b1,b2,b3,b4]] V (UpR V s l)):=fun V hb=>upright_q ((h2.to hbw).to hb) hl (by omega)
 have HB0:=Hd hbw
 have HKL:=Hd hkl
 have HV:=Hd hv
 clear h1 h2 hk hl hW0 hbw hkl hv
 go_enter Tryz.func87,Tryz.ntmps87
 go_wp2_with fail
 rw[<-HW0.out]
 clear HW0
 refine wp_cut (fun a' v' w'=>∃(x1 x2:Value) (g1 g2:Nat) (u10 u11 u12 u13 u20 u21 u22 u23 y1 y2:Value) (N1 D1 N2 D2:Int),v'=((((((a'.put (some 7) x1).put (some 9) x2).put (some 8) y1).put (some 10) y2).put (some 5) (.pointer (some ⟨g1,0,none⟩))).put (some 6) (.pointer (some ⟨g2,0,none⟩)))/\Four w' g1 u10 u11 u12 u13/\Four w' g2 u20 u21 u22 u23/\Up w' u10 u11 u12 u13 r k N1 D1/\Up w' u20 u21 u22 u23 s l N2 D2/\(W0.heap.size<=g1/\W0.heap.size<=g2)/\Below W0.heap.size W0 w') ?_ ?_
 .refine wp_region_planTo (S:=fun w'=>Below W0.heap.size W0 w') [(0,true),(2,true)] #[true,false,true,false,false,false,false,false] 6 (by kernel_rfl) (by kernel_rfl) (Below.refl _ _).drew ?_
  refine plan_take rfl (by rfl) (fun w' hS=>load_four (by rfl) (tA.to hS)) ?_;simp only[Act.put,List.setIfInBounds_toArray,List.set_cons_zero,List.set_cons_succ]
  refine plan_take rfl (by rfl) (fun w' hS=>load_four (by rfl) (tB.to hS)) ?_;simp only[Act.put,List.setIfInBounds_toArray,List.set_cons_zero,List.set_cons_succ]
  intro HB
  refine dag (fun G up dn=>?_)
  have S212:∀(V:World) (u10 u11 u12 u13:Value) (N1 D1:Int) (u20 u21 u22 u23:Value) (N2 D2:Int) (g1:Nat) (g2:Nat),Below W0.heap.size W0 V->Up V u10 u11 u12 u13 r k N1 D1->Up V u20 u21 u22 u23 s l N2 D2->Four V g1 (.bool false) (.slice none 0 0) (.bool false) (.slice none 0 0)->W0.heap.size<=g1->Four V g2 (.bool false) (.slice none 0 0) (.bool false) (.slice none 0 0)->W0.heap.size<=g2->g1≠g2->G 2 #[true,true,true,true,true,true,false,false] ⟨#[.agg #[a1,a2,a3,a4],.agg #[b1,b2,b3,b4],.pointer (some ⟨w.heap.size,0,none⟩),.pointer (some ⟨w.heap.size+1,0,none⟩),.int .i64 0,.pointer (some ⟨g1,0,none⟩),.pointer (some ⟨g2,0,none⟩),.agg #[a1,a2,a3,a4],.agg #[u10,u11,u12,u13],.agg #[b1,b2,b3,b4],.agg #[u20,u21,u22,u23],undef,undef,undef,undef,undef,undef,undef],[]⟩ V:=by
   intro V u10 u11 u12 u13 N1 D1 u20 u21 u22 u23 N2 D2 g1 g2 HB r1 r2 t1 b1 t2 b2 ne
   refine up ?_
   refine rdy1 (i:=6) (by kernel_rfl) rfl (by rfl) (fun K hK=>?_)
   refine wp_store_q (by rfl) (by rfl) t1 Fq.nil r1.fq (fun V u kp=>?_)
   replace t2:=kp.four (Ne.symm ne) t2
   replace r1:=kp.up r1
   replace r2:=kp.up r2
   replace HB:=kp.bel _ _ HB b1
   clear t1
   have t1:=u
   refine hK.out _ _ HB ?_
   clear hK K kp u
   refine rdy1 (i:=7) (by kernel_rfl) rfl (by rfl) (fun K hK=>?_)
   refine wp_store_q (by rfl) (by rfl) t2 Fq.nil r2.fq (fun V u kp=>?_)
   replace t1:=kp.four ne t1
   replace r1:=kp.up r1
   replace r2:=kp.up r2
   replace HB:=kp.bel _ _ HB b2
   clear t2
   have t2:=u
   refine hK.out _ _ HB ?_
   clear hK K kp u
   exact wpAnyH_done (by kernel_rfl) ⟨rfl,_,_,g1,g2,_,_,_,_,_,_,_,_,_,_,_,_,_,_,by rfl,t1,t2,r1,r2,⟨b1,b2⟩,HB⟩ _
  have S21:∀(V:World) (u10 u11 u12 u13:Value) (N1 D1:Int) (u20 u21 u22 u23:Value) (N2 D2:Int) (g1:Nat),Below W0.heap.size W0 V->Up V u10 u11 u12 u13 r k N1 D1->Up V u20 u21 u22 u23 s l N2 D2->Four V g1 (.bool false) (.slice none 0 0) (.bool false) (.slice none 0 0)->W0.heap.size<=g1->G 3 #[true,true,true,true,true,false,false,false] ⟨#[.agg #[a1,a2,a3,a4],.agg #[b1,b2,b3,b4],.pointer (some ⟨w.heap.size,0,none⟩),.pointer (some ⟨w.heap.size+1,0,none⟩),.int .i64 0,.pointer (some ⟨g1,0,none⟩),undef,.agg #[a1,a2,a3,a4],.agg #[u10,u11,u12,u13],.agg #[b1,b2,b3,b4],.agg #[u20,u21,u22,u23],undef,undef,undef,undef,undef,undef,undef],[]⟩ V:=by
   intro V u10 u11 u12 u13 N1 D1 u20 u21 u22 u23 N2 D2 g1 HB r1 r2 t1 b1
   refine up ?_
   refine rdy1 (i:=5) (by kernel_rfl) rfl (by rfl) (fun K hK=>?_)
   refine wp_alloc_four (fun g2 V t2 bb hg=>?_)
   have b2:=Nat.le_trans HB.size hg
   replace HB:=bx HB bb
   have ne:g1≠g2:=Nat.ne_of_lt (Nat.lt_of_lt_of_le t1.lt hg)
   replace t1:=t1.to bb
   replace r1:=r1.to bb
   replace r2:=r2.to bb
   refine hK.out _ _ HB ?_
   exact dn (S212 _ _ _ _ _ _ _ _ _ _ _ _ _ _ _ HB r1 r2 t1 b1 t2 b2 ne)
  have S22:∀(V:World) (u10 u11 u12 u13:Value) (N1 D1:Int) (u20 u21 u22 u23:Value) (N2 D2:Int) (g2:Nat),Below W0.heap.size W0 V->Up V u10 u11 u12 u13 r k N1 D1->Up V u20 u21 u22 u23 s l N2 D2->Four V g2 (.bool false) (.slice none 0 0) (.bool false) (.slice none 0 0)->W0.heap.size<=g2->G 3 #[true,true,true,true,false,true,false,false] ⟨#[.agg #[a1,a2,a3,a4],.agg #[b1,b2,b3,b4],.pointer (some ⟨w.heap.size,0,none⟩),.pointer (some ⟨w.heap.size+1,0,none⟩),.int .i64 0,undef,.pointer (some ⟨g2,0,none⟩),.agg #[a1,a2,a3,a4],.agg #[u10,u11,u12,u13],.agg #[b1,b2,b3,b4],.agg #[u20,u21,u22,u23],undef,undef,undef,undef,undef,undef,undef],[]⟩ V:=by
   intro V u10 u11 u12 u13 N1 D1 u20 u21 u22 u23 N2 D2 g2 HB r1 r2 t2 b2
   refine up ?_
   refine rdy1 (i:=4) (by kernel_rfl) rfl (by rfl) (fun K hK=>?_)
   refine wp_alloc_four (fun g1 V t1 bb hg=>?_)
   have b1:=Nat.le_trans HB.size hg
   replace HB:=bx HB bb
   have ne:g1≠g2:=Nat.ne_of_gt (Nat.lt_of_lt_of_le t2.lt hg)
   replace t2:=t2.to bb
   replace r1:=r1.to bb
   replace r2:=r2.to bb
   refine hK.out _ _ HB ?_
   exact dn (S212 _ _ _ _ _ _ _ _ _ _ _ _ _ _ _ HB r1 r2 t1 b1 t2 b2 ne)
  have S2:∀(V:World) (u10 u11 u12 u13:Value) (N1 D1:Int) (u20 u21 u22 u23:Value) (N2 D2:Int),Below W0.heap.size W0 V->Up V u10 u11 u12 u13 r k N1 D1->Up V u20 u21 u22 u23 s l N2 D2->G 4 #[true,true,true,true,false,false,false,false] ⟨#[.agg #[a1,a2,a3,a4],.agg #[b1,b2,b3,b4],.pointer (some ⟨w.heap.size,0,none⟩),.pointer (some ⟨w.heap.size+1,0,none⟩),.int .i64 0,undef,undef,.agg #[a1,a2,a3,a4],.agg #[u10,u11,u12,u13],.agg #[b1,b2,b3,b4],.agg #[u20,u21,u22,u23],undef,undef,undef,undef,undef,undef,undef],[]⟩ V:=by
   intro V u10 u11 u12 u13 N1 D1 u20 u21 u22 u23 N2 D2 HB r1 r2
   refine up ?_
   refine wpAnyH_ready (rs:=[4,5]) (by kernel_rfl) (by simp) (ready_cons rfl (by rfl) (fun K hK=>?_) (ready_cons rfl (by rfl) (fun K hK=>?_) AllReadyH.nil))
   .refine wp_alloc_four (fun g1 V t1 bb hg=>?_)
    have b1:=Nat.le_trans HB.size hg
    replace HB:=bx HB bb
    replace r1:=r1.to bb
    replace r2:=r2.to bb
    refine hK.out _ _ HB ?_
    exact dn (S21 _ _ _ _ _ _ _ _ _ _ _ _ _ _ HB r1 r2 t1 b1)
   .refine wp_alloc_four (fun g2 V t2 bb hg=>?_)
    have b2:=Nat.le_trans HB.size hg
    replace HB:=bx HB bb
    replace r1:=r1.to bb
    replace r2:=r2.to bb
    refine hK.out _ _ HB ?_
    exact dn (S22 _ _ _ _ _ _ _ _ _ _ _ _ _ _ HB r1 r2 t2 b2)
  have S112:∀(V:World) (u10 u11 u12 u13:Value) (N1 D1:Int) (g1:Nat) (g2:Nat),Below W0.heap.size W0 V->Up V u10 u11 u12 u13 r k N1 D1->Four V g1 (.bool false) (.slice none 0 0) (.bool false) (.slice none 0 0)->W0.heap.size<=g1->Four V g2 (.bool false) (.slice none 0 0) (.bool false) (.slice none 0 0)->W0.heap.size<=g2->g1≠g2->G 3 #[true,true,true,false,true,true,false,false] ⟨#[.agg #[a1,a2,a3,a4],.agg #[b1,b2,b3,b4],.pointer (some ⟨w.heap.size,0,none⟩),.pointer (some ⟨w.heap.size+1,0,none⟩),.int .i64 0,.pointer (some ⟨g1,0,none⟩),.pointer (some ⟨g2,0,none⟩),.agg #[a1,a2,a3,a4],.agg #[u10,u11,u12,u13],.agg #[b1,b2,b3,b4],undef,undef,undef,undef,undef,undef,undef,undef],[]⟩ V:=by
   intro V u10 u11 u12 u13 N1 D1 g1 g2 HB r1 t1 b1 t2 b2 ne
   refine up ?_
   refine rdy1 (i:=3) (by kernel_rfl) rfl (by rfl) (fun K hK=>?_)
   go_simp
   refine (HU2 _ HB).mono ?_
   rintro e V ⟨u20,u21,u22,u23,N2,D2,rfl,r2,bb⟩
   replace HB:=bx HB bb
   replace t1:=t1.to bb
   replace t2:=t2.to bb
   replace r1:=r1.to bb
   refine hK.out _ _ HB ?_
   exact dn (S212 _ _ _ _ _ _ _ _ _ _ _ _ _ _ _ HB r1 r2 t1 b1 t2 b2 ne)
  have S11:∀(V:World) (u10 u11 u12 u13:Value) (N1 D1:Int) (g1:Nat),Below W0.heap.size W0 V->Up V u10 u11 u12 u13 r k N1 D1->Four V g1 (.bool false) (.slice none 0 0) (.bool false) (.slice none 0 0)->W0.heap.size<=g1->G 4 #[true,true,true,false,true,false,false,false] ⟨#[.agg #[a1,a2,a3,a4],.agg #[b1,b2,b3,b4],.pointer (some ⟨w.heap.size,0,none⟩),.pointer (some ⟨w.heap.size+1,0,none⟩),.int .i64 0,.pointer (some ⟨g1,0,none⟩),undef,.agg #[a1,a2,a3,a4],.agg #[u10,u11,u12,u13],.agg #[b1,b2,b3,b4],undef,undef,undef,undef,undef,undef,undef,undef],[]⟩ V:=by
   intro V u10 u11 u12 u13 N1 D1 g1 HB r1 t1 b1
   refine up ?_
   refine wpAnyH_ready (rs:=[3,5]) (by kernel_rfl) (by simp) (ready_cons rfl (by rfl) (fun K hK=>?_) (ready_cons rfl (by rfl) (fun K hK=>?_) AllReadyH.nil))
   .go_simp
    refine (HU2 _ HB).mono ?_
    rintro e V ⟨u20,u21,u22,u23,N2,D2,rfl,r2,bb⟩
    replace HB:=bx HB bb
    replace t1:=t1.to bb
    replace r1:=r1.to bb
    refine hK.out _ _ HB ?_
    exact dn (S21 _ _ _ _ _ _ _ _ _ _ _ _ _ _ HB r1 r2 t1 b1)
   .refine wp_alloc_four (fun g2 V t2 bb hg=>?_)
    have b2:=Nat.le_trans HB.size hg
    replace HB:=bx HB bb
    have ne:g1≠g2:=Nat.ne_of_lt (Nat.lt_of_lt_of_le t1.lt hg)
    replace t1:=t1.to bb
    replace r1:=r1.to bb
    refine hK.out _ _ HB ?_
    exact dn (S112 _ _ _ _ _ _ _ _ _ HB r1 t1 b1 t2 b2 ne)
  have S12:∀(V:World) (u10 u11 u12 u13:Value) (N1 D1:Int) (g2:Nat),Below W0.heap.size W0 V->Up V u10 u11 u12 u13 r k N1 D1->Four V g2 (.bool false) (.slice none 0 0) (.bool false) (.slice none 0 0)->W0.heap.size<=g2->G 4 #[true,true,true,false,false,true,false,false] ⟨#[.agg #[a1,a2,a3,a4],.agg #[b1,b2,b3,b4],.pointer (some ⟨w.heap.size,0,none⟩),.pointer (some ⟨w.heap.size+1,0,none⟩),.int .i64 0,undef,.pointer (some ⟨g2,0,none⟩),.agg #[a1,a2,a3,a4],.agg #[u10,u11,u12,u13],.agg #[b1,b2,b3,b4],undef,undef,undef,undef,undef,undef,undef,undef],[]⟩ V:=by
   intro V u10 u11 u12 u13 N1 D1 g2 HB r1 t2 b2
   refine up ?_
   refine wpAnyH_ready (rs:=[3,4]) (by kernel_rfl) (by simp) (ready_cons rfl (by rfl) (fun K hK=>?_) (ready_cons rfl (by rfl) (fun K hK=>?_) AllReadyH.nil))
   .go_simp
    refine (HU2 _ HB).mono ?_
    rintro e V ⟨u20,u21,u22,u23,N2,D2,rfl,r2,bb⟩
    replace HB:=bx HB bb
    replace t2:=t2.to bb
    replace r1:=r1.to bb
    refine hK.out _ _ HB ?_
    exact dn (S22 _ _ _ _ _ _ _ _ _ _ _ _ _ _ HB r1 r2 t2 b2)
   .refine wp_alloc_four (fun g1 V t1 bb hg=>?_)
    have b1:=Nat.le_trans HB.size hg
    replace HB:=bx HB bb
    have ne:g1≠g2:=Nat.ne_of_gt (Nat.lt_of_lt_of_le t2.lt hg)
    replace t2:=t2.to bb
    replace r1:=r1.to bb
    refine hK.out _ _ HB ?_
    exact dn (S112 _ _ _ _ _ _ _ _ _ HB r1 t1 b1 t2 b2 ne)
  have S1:∀(V:World) (u10 u11 u12 u13:Value) (N1 D1:Int),Below W0.heap.size W0 V->Up V u10 u11 u12 u13 r k N1 D1->G 5 #[true,true,true,false,false,false,false,false] ⟨#[.agg #[a1,a2,a3,a4],.agg #[b1,b2,b3,b4],.pointer (some ⟨w.heap.size,0,none⟩),.pointer (some ⟨w.heap.size+1,0,none⟩),.int .i64 0,undef,undef,.agg #[a1,a2,a3,a4],.agg #[u10,u11,u12,u13],.agg #[b1,b2,b3,b4],undef,undef,undef,undef,undef,undef,undef,undef],[]⟩ V:=by
   intro V u10 u11 u12 u13 N1 D1 HB r1
   refine up ?_
   refine wpAnyH_ready (rs:=[3,4,5]) (by kernel_rfl) (by simp) (ready_cons rfl (by rfl) (fun K hK=>?_) (ready_cons rfl (by rfl) (fun K hK=>?_) (ready_cons rfl (by rfl) (fun K hK=>?_) AllReadyH.nil)))
   .go_simp
    refine (HU2 _ HB).mono ?_
    rintro e V ⟨u20,u21,u22,u23,N2,D2,rfl,r2,bb⟩
    replace HB:=bx HB bb
    replace r1:=r1.to bb
    refine hK.out _ _ HB ?_
    exact dn (S2 _ _ _ _ _ _ _ _ _ _ _ _ _ HB r1 r2)
   .refine wp_alloc_four (fun g1 V t1 bb hg=>?_)
    have b1:=Nat.le_trans HB.size hg
    replace HB:=bx HB bb
    replace r1:=r1.to bb
    refine hK.out _ _ HB ?_
    exact dn (S11 _ _ _ _ _ _ _ _ HB r1 t1 b1)
   .refine wp_alloc_four (fun g2 V t2 bb hg=>?_)
    have b2:=Nat.le_trans HB.size hg
    replace HB:=bx HB bb
    replace r1:=r1.to bb
    refine hK.out _ _ HB ?_
    exact dn (S12 _ _ _ _ _ _ _ _ HB r1 t2 b2)
  have S012:∀(V:World) (g1:Nat) (g2:Nat),Below W0.heap.size W0 V->Four V g1 (.bool false) (.slice none 0 0) (.bool false) (.slice none 0 0)->W0.heap.size<=g1->Four V g2 (.bool false) (.slice none 0 0) (.bool false) (.slice none 0 0)->W0.heap.size<=g2->g1≠g2->G 4 #[true,false,true,false,true,true,false,false] ⟨#[.agg #[a1,a2,a3,a4],.agg #[b1,b2,b3,b4],.pointer (some ⟨w.heap.size,0,none⟩),.pointer (some ⟨w.heap.size+1,0,none⟩),.int .i64 0,.pointer (some ⟨g1,0,none⟩),.pointer (some ⟨g2,0,none⟩),.agg #[a1,a2,a3,a4],undef,.agg #[b1,b2,b3,b4],undef,undef,undef,undef,undef,undef,undef,undef],[]⟩ V:=by
   intro V g1 g2 HB t1 b1 t2 b2 ne
   refine up ?_
   refine rdy1 (i:=1) (by kernel_rfl) rfl (by rfl) (fun K hK=>?_)
   go_simp
   refine (HU1 _ HB).mono ?_
   rintro e V ⟨u10,u11,u12,u13,N1,D1,rfl,r1,bb⟩
   replace HB:=bx HB bb
   replace t1:=t1.to bb
   replace t2:=t2.to bb
   refine hK.out _ _ HB ?_
   exact dn (S112 _ _ _ _ _ _ _ _ _ HB r1 t1 b1 t2 b2 ne)
  have S01:∀(V:World) (g1:Nat),Below W0.heap.size W0 V->Four V g1 (.bool false) (.slice none 0 0) (.bool false) (.slice none 0 0)->W0.heap.size<=g1->G 5 #[true,false,true,false,true,false,false,false] ⟨#[.agg #[a1,a2,a3,a4],.agg #[b1,b2,b3,b4],.pointer (some ⟨w.heap.size,0,none⟩),.pointer (some ⟨w.heap.size+1,0,none⟩),.int .i64 0,.pointer (some ⟨g1,0,none⟩),undef,.agg #[a1,a2,a3,a4],undef,.agg #[b1,b2,b3,b4],undef,undef,undef,undef,undef,undef,undef,undef],[]⟩ V:=by
   intro V g1 HB t1 b1
   refine up ?_
   refine wpAnyH_ready (rs:=[1,5]) (by kernel_rfl) (by simp) (ready_cons rfl (by rfl) (fun K hK=>?_) (ready_cons rfl (by rfl) (fun K hK=>?_) AllReadyH.nil))
   .go_simp
    refine (HU1 _ HB).mono ?_
    rintro e V ⟨u10,u11,u12,u13,N1,D1,rfl,r1,bb⟩
    replace HB:=bx HB bb
    replace t1:=t1.to bb
    refine hK.out _ _ HB ?_
    exact dn (S11 _ _ _ _ _ _ _ _ HB r1 t1 b1)
   .refine wp_alloc_four (fun g2 V t2 bb hg=>?_)
    have b2:=Nat.le_trans HB.size hg
    replace HB:=bx HB bb
    have ne:g1≠g2:=Nat.ne_of_lt (Nat.lt_of_lt_of_le t1.lt hg)
    replace t1:=t1.to bb
    refine hK.out _ _ HB ?_
    exact dn (S012 _ _ _ HB t1 b1 t2 b2 ne)
  have S02:∀(V:World) (g2:Nat),Below W0.heap.size W0 V->Four V g2 (.bool false) (.slice none 0 0) (.bool false) (.slice none 0 0)->W0.heap.size<=g2->G 5 #[true,false,true,false,false,true,false,false] ⟨#[.agg #[a1,a2,a3,a4],.agg #[b1,b2,b3,b4],.pointer (some ⟨w.heap.size,0,none⟩),.pointer (some ⟨w.heap.size+1,0,none⟩),.int .i64 0,undef,.pointer (some ⟨g2,0,none⟩),.agg #[a1,a2,a3,a4],undef,.agg #[b1,b2,b3,b4],undef,undef,undef,undef,undef,undef,undef,undef],[]⟩ V:=by
   intro V g2 HB t2 b2
   refine up ?_
   refine wpAnyH_ready (rs:=[1,4]) (by kernel_rfl) (by simp) (ready_cons rfl (by rfl) (fun K hK=>?_) (ready_cons rfl (by rfl) (fun K hK=>?_) AllReadyH.nil))
   .go_simp
    refine (HU1 _ HB).mono ?_
    rintro e V ⟨u10,u11,u12,u13,N1,D1,rfl,r1,bb⟩
    replace HB:=bx HB bb
    replace t2:=t2.to bb
    refine hK.out _ _ HB ?_
    exact dn (S12 _ _ _ _ _ _ _ _ HB r1 t2 b2)
   .refine wp_alloc_four (fun g1 V t1 bb hg=>?_)
    have b1:=Nat.le_trans HB.size hg
    replace HB:=bx HB bb
    have ne:g1≠g2:=Nat.ne_of_gt (Nat.lt_of_lt_of_le t2.lt hg)
    replace t2:=t2.to bb
    refine hK.out _ _ HB ?_
    exact dn (S012 _ _ _ HB t1 b1 t2 b2 ne)
  have S0:∀(V:World),Below W0.heap.size W0 V->G 6 #[true,false,true,false,false,false,false,false] ⟨#[.agg #[a1,a2,a3,a4],.agg #[b1,b2,b3,b4],.pointer (some ⟨w.heap.size,0,none⟩),.pointer (some ⟨w.heap.size+1,0,none⟩),.int .i64 0,undef,undef,.agg #[a1,a2,a3,a4],undef,.agg #[b1,b2,b3,b4],undef,undef,undef,undef,undef,undef,undef,undef],[]⟩ V:=by
   intro V HB
   refine up ?_
   refine wpAnyH_ready (rs:=[1,4,5]) (by kernel_rfl) (by simp) (ready_cons rfl (by rfl) (fun K hK=>?_) (ready_cons rfl (by rfl) (fun K hK=>?_) (ready_cons rfl (by rfl) (fun K hK=>?_) AllReadyH.nil)))
   .go_simp
    refine (HU1 _ HB).mono ?_
    rintro e V ⟨u10,u11,u12,u13,N1,D1,rfl,r1,bb⟩
    replace HB:=bx HB bb
    refine hK.out _ _ HB ?_
    exact dn (S1 _ _ _ _ _ _ _ HB r1)
   .refine wp_alloc_four (fun g1 V t1 bb hg=>?_)
    have b1:=Nat.le_trans HB.size hg
    replace HB:=bx HB bb
    refine hK.out _ _ HB ?_
    exact dn (S01 _ _ HB t1 b1)
   .refine wp_alloc_four (fun g2 V t2 bb hg=>?_)
    have b2:=Nat.le_trans HB.size hg
    replace HB:=bx HB bb
    refine hK.out _ _ HB ?_
    exact dn (S02 _ _ HB t2 b2)
  exact S0 _ HB
 rintro v' W2 ⟨x1,x2,g1,g2,u10,u11,u12,u13,u20,u21,u22,u23,y1,y2,N1,D1,N2,D2,rfl,t1,t2,r1,r2,hge,HB⟩
 simp only[Act.put,List.setIfInBounds_toArray,List.set_cons_zero,List.set_cons_succ]
 have s1:Sg (N1*D2):=(r1.sn.mul r2.sd).sg HKL.out
 have s2:Sg (N2*D1):=(r2.sn.mul r1.sd).sg (by have:=HKL.out;omega)
 have hc:Hid (cmpZ (N1*D2) (N2*D1)=v):=by show _=_;rw[cmp_up r1.pos r2.pos,r1.eq,r2.eq];exact HV.out
 replace HB0:=Hxb HB0 HB
 clear HB HU1 HU2 tA tB hge
 go_wp2_with fail
 refine wp_region_plan (S:=fun w'=>Below W2.heap.size W2 w') [(0,true),(1,true),(3,true),(4,true),(2,false),(5,false),(6,false),(7,true)] (by kernel_rfl) (by kernel_rfl) (Below.refl _ _).drew ?_
 have HB:=(Below.refl W2.heap.size W2).drew
 refine plan_take rfl (by rfl) (fun w' hS=>load_four (by rfl) (t1.to hS)) ?_;simp only[Act.put,List.setIfInBounds_toArray,List.set_cons_zero,List.set_cons_succ]
 iterate 2 (refine plan_take rfl (by rfl) (fun w' hS=>load_four (by rfl) (t2.to hS)) ?_;simp only[Act.put,List.setIfInBounds_toArray,List.set_cons_zero,List.set_cons_succ])
 refine plan_take rfl (by rfl) (fun w' hS=>load_four (by rfl) (t1.to hS)) ?_;simp only[Act.put,List.setIfInBounds_toArray,List.set_cons_zero,List.set_cons_succ]
 refine plan_call rfl (by rfl) (fun K hK=>?_)
 go_simp
 refine (cross_z (r1.to HB).n (r2.to HB).d).mono ?_
 rintro e V3 ⟨x3,y3,rfl,z3,bb⟩
 replace HB:=Bxb HB bb
 refine hK.out _ _ HB ?_
 clear hK K bb
 refine plan_call rfl (by rfl) (fun K hK=>?_)
 go_simp
 refine (cross_z (r2.to HB).n (r1.to HB).d).mono ?_
 rintro e V4 ⟨x4,y4,rfl,z4,bb⟩
 replace HB:=Bxb HB bb
 replace z3:=z3.to bb
 refine hK.out _ _ HB ?_
 clear hK K bb
 refine plan_call rfl (by rfl) (fun K hK=>?_)
 go_simp
 refine (cmp_z (z3.zs s1).zi (z4.zs s2).zi).mono ?_
 rintro e V5 ⟨rfl,bb⟩
 rw[hc.out]
 replace HB:=Bxb HB bb
 refine hK.out _ _ HB ?_
 clear hK K bb z3 z4
 refine plan_take (v:=?_) rfl (by rfl) ?_ ?_;rotate_left;(focus (intro w' _;go_simp;try with_reducible rfl));simp only[Act.put,List.setIfInBounds_toArray,List.set_cons_zero,List.set_cons_succ]
 refine plan_done ?_
 have HE:=Hxb HB0 HB
 clear HB r1 r2 t1 t2
 go_wp2
 go_ret
 exact ⟨rfl,HE.out⟩
theorem equal_q {w:World}{a1 a2 a3 a4 b1 b2 b3 b4:Value}{r s:Rat}{k l:Nat}(h1:Qi w a1 a2 a3 a4 r k)(h2:Qi w b1 b2 b3 b4 s l)(hk:0<k)(hl:0<l)(hkl:k+l<=10000){v:Bool}(hv:decide (r=s)=v):Calls Tryz.prog 45 #[.agg #[a1,a2,a3,a4],.agg #[b1,b2,b3,b4]] w fun e w'=>e=.returned (.bool v)/\Below w.heap.size w w':=by
 obtain ⟨W0,hW0⟩:∃W0,W0=(w.alloc (.cells #[a1,a2,a3,a4] 32)).alloc (.cells #[b1,b2,b3,b4] 32):=⟨_,rfl⟩
 have hbw:Below w.heap.size w W0:=by rw[hW0];exact ((Below.refl _ _).alloc (Nat.le_refl _) _).alloc (by simp) _
 have tA:Four W0 w.heap.size a1 a2 a3 a4:=by rw[hW0];exact (Four.new w _ _ _ _ _).alloc _
 have tB:Four W0 (w.heap.size+1) b1 b2 b3 b4:=by
  have h:=Four.new (w.alloc (.cells #[a1,a2,a3,a4] 32)) b1 b2 b3 b4 32
  rw[World.size_alloc]at h
  rw[hW0];exact h
 have HW0:=Hd hW0
 obtain ⟨c,ec⟩:∃c,cmpQ r s=c:=⟨_,rfl⟩
 have HC:=Hd (cmp_q (h1.to hbw) (h2.to hbw) hk hl hkl ec)
 have HV:Hid ((c==0)=v):=by
  show _=_
  rw[<-hv,<-ec,Bool.eq_iff_iff,beq_iff_eq,decide_eq_true_iff]
  exact cmpQ_zero
 have HB:=Hd hbw
 clear h1 h2 hk hl hkl hW0 hbw ec hv
 go_enter Tryz.func45,Tryz.ntmps45
 go_wp2_with fail
 rw[<-HW0.out]
 have k0:=tA.c0
 have k1:=tA.c1
 have k2:=tA.c2
 have k3:=tA.c3
 have l0:=tB.c0
 have l1:=tB.c1
 have l2:=tB.c2
 have l3:=tB.c3
 go_wp2_with fail
 refine HC.out.mono ?_
 rintro e V1 ⟨rfl,bb⟩
 replace HB:=Hxb HB bb
 clear k0 k1 k2 k3 l0 l1 l2 l3 bb tA tB HC HW0
 go_wp2
 go_ret
 refine ⟨?_,HB.out⟩
 rw[<-HV.out]
 rfl
theorem canonical_q {w:World}{a1 a2 a3 a4:Value}{r:Rat}{k:Nat}(h1:Qi w a1 a2 a3 a4 r k)(hk:k<=10000):Calls Tryz.prog 54 #[.agg #[a1,a2,a3,a4]] w (QR w r):=by
 obtain ⟨p,q,z1,z2,rfl,s1,s2⟩:=h1
 exact canonical_z z1 z2 (s1.sg hk) (s2.sg hk)
theorem fromInt_q (n:Int)(n1:-9223372036854775808<=n)(n2:n<=9223372036854775807)(w:World):Calls Tryz.prog 93 #[.int .i64 n] w (QR w (n:Rat)):=by
 obtain ⟨W0,hW0⟩:∃W0,W0=w.alloc (.cells #[.bool false,.slice none 0 0,.bool false,.slice none 0 0] 32):=⟨_,rfl⟩
 have hbw:Below w.heap.size w W0:=by rw[hW0];exact (Below.refl _ _).alloc (Nat.le_refl _) _
 have tR:Four W0 w.heap.size (.bool false) (.slice none 0 0) (.bool false) (.slice none 0 0):=by rw[hW0];exact Four.new w _ _ _ _ _
 have HW0:=Hd hW0
 have HB:=Hd hbw
 have HN:=Hd fun W=>from_z n n1 n2 W
 clear hW0 hbw n1 n2
 go_enter Tryz.func93,Tryz.ntmps93
 go_wp2_with fail
 rw[<-HW0.out]
 refine (HN.out _).mono ?_
 rintro e V1 ⟨x1,x2,rfl,rn,bb⟩
 replace tR:=tR.to bb
 replace HB:=Hxb HB bb
 clear bb HN HW0
 have rq:Qc V1 x1 x2 (.bool false) (.slice none 0 0) (n:Rat):=⟨rn,zc_nil _⟩
 have RQ:=Hd rq
 obtain ⟨V9,eV,u,kp⟩:=pack4 tR Fq.nil x1 x2 (.bool false) (.slice none 0 0)
 obtain ⟨n1,A1,l1,m1,rfl,rfl⟩:=rq.fq.1
 obtain ⟨v0,v1,v2,v3,v4,v5,v6,v7,_⟩:=tR
 have EV:=Hd eV
 have KP:=Hd kp
 have U:=Hd u
 clear eV kp u rq rn
 go_wp2
 rw[EV.out]
 refine bodyPost_ret (v:=.agg #[.bool n1,.slice A1 l1 m1,.bool false,.slice none 0 0]) (by simp[results,Tryz.f93,go_sem,U.out.c0,U.out.c1,U.out.c2,U.out.c3]) rfl ?_
 exact ⟨_,_,_,_,rfl,RQ.out.k4 KP.out,KP.out.bel _ _ HB.out (Nat.le_refl _)⟩
def decZ (z:Int):ByteArray:=decS (decide (z<0)) z.natAbs
theorem Zl.zero (W:World):Zl W (.bool false) (.slice none 0 0) 0:=⟨false,none,0,[],rfl,rfl,⟨Rd.nil,Dg.nil,by simp,by decide,by simp⟩,by simp,rfl⟩
def New4 (w:World)(N D:Int)(e:Ending)(w':World):Prop:=∃A c A' c',e=.returned (.tuple #[.agg #[.bool (decide (N<0)),.slice A (dig b32 N.natAbs).length c,.bool (decide (D<0)),.slice A' (dig b32 D.natAbs).length c'],.int .i64 0]) /\
 Zc w' (.bool (decide (N<0))) (.slice A (dig b32 N.natAbs).length c) N/\Zc w' (.bool (decide (D<0))) (.slice A' (dig b32 D.natAbs).length c') D/\Below w.heap.size w w'
theorem long_any (g:Nat)(ns:List Nat)(cap:Nat)(w:World)(h:∀(k:Nat) (hk:k<ns.length),∃A c,w.cell? ⟨g,k*2+1,none⟩=some (.slice A ns[k] c))(hs:∀(k:Nat) (hk:k<ns.length),ns[k]<=9223372036854775807)(hl:ns.length<=1000) :
  Calls Tryz.prog 71 #[.slice (some ⟨g,0,none⟩) ns.length cap] w fun e w'=>e=.returned (.bool (ns.any fun n=>decide (12<n)))/\w'=w:=by
 have H:=Hd h
 have HS:=Hd hs
 clear h hs
 go_enter Tryz.func71,Tryz.ntmps71
 go_wp2
 go_loopw [3] (fun i wr=>∃k:Nat,i=.int .i64 k/\k<=ns.length/\(∀j (hj:j<ns.length),j<k->ns[j]<=12)/\wr=w) (fun i _=>ns.length-(intOf i).toNat)
 case atStart=>exact ⟨0,rfl,Nat.zero_le _,(fun j _ hj=>by omega),rfl⟩
 case round =>
  obtain ⟨k,rfl,hk,ht,rfl⟩:=hrel
  have HT:=Hd ht
  clear ht
  by_cases hlt:k<ns.length
  .obtain ⟨A,c,hc⟩:=H.out k hlt
   have hsm:=HS.out k hlt
   have HN:Hid (ns[k]=ns[k]):=rfl
   generalize hn:ns[k]=n at hc hsm HN
   have HN2:=Hd hn
   clear hn HN
   have hki:(0:Int)<=(k:Int):=by omega
   have hki':(k:Int)<(ns.length:Int):=by omega
   by_cases he:12<n
   .go_wp2
    go_ret
    refine ⟨?_,rfl⟩
    have:(ns.any fun n=>decide (12<n))=true:=by
     rw[List.any_eq_true]
     exact ⟨ns[k],List.getElem_mem hlt,by rw[HN2.out];exact decide_eq_true he⟩
    rw[this]
    rfl
   .go_wp2
    go_roundw
    case rel=>exact ⟨k+1,by simp,by omega,(fun j hj hjk=>by
     rcases Nat.lt_or_ge j k with h1|h1
     .exact HT.out j hj h1
     .obtain rfl:j=k:=by omega
      rw[HN2.out];omega),trivial⟩
    case measure=>simp[intOf];omega
  .obtain rfl:k=ns.length:=by omega
   clear hlt
   go_wp2
   go_ret
   refine ⟨?_,rfl⟩
   have:(ns.any fun n=>decide (12<n))=false:=by
    rw[List.any_eq_false]
    intro x hx
    obtain ⟨j,hj,rfl⟩:=List.getElem_of_mem hx
    have:=HT.out j hj hj
    simpa using this
   rw[this]
   rfl
theorem long_2 {n1 n2:Nat}{A1 A2:Option Addr}{c1 c2:Nat}{V:World}{g:Nat}(h1:n1<=9223372036854775807)(h2:n2<=9223372036854775807)
  (e1:V.cell? ⟨g,1,none⟩=some (.slice A1 n1 c1)) (e2:V.cell? ⟨g,3,none⟩=some (.slice A2 n2 c2)) {r:Bool} (hr:[n1,n2].any (fun n=>decide (12<n))=r) :
  Calls Tryz.prog 71 #[.slice (some ⟨g,0,none⟩) 2 2] V fun e w'=>e=.returned (.bool r)/\w'=V:=by
 have h:=long_any g [n1,n2] 2 V (fun k hk=>by
  match k,hk with
  | 0,_=>exact ⟨A1,c1,e1⟩
  | 1,_=>exact ⟨A2,c2,e2⟩) (fun k hk=>by
  match k,hk with
  | 0,_=>exact h1
  | 1,_=>exact h2) (by simp)
 rw[hr]at h
 exact h
structure Qb (W:World)(g:Nat)(x1 x2 x3 x4:Value)(r:Rat)(k:Nat):Prop where
 four:Four W g x1 x2 x3 x4
 qi:Qi W x1 x2 x3 x4 r k
theorem Qb.to {W V:World}{g:Nat}{x1 x2 x3 x4:Value}{r:Rat}{k:Nat}(h:Qb W g x1 x2 x3 x4 r k)(hb:Below W.heap.size W V):Qb V g x1 x2 x3 x4 r k:=⟨h.four.to hb,h.qi.to hb⟩
def minQ (r s:Rat):Rat:=if r<s then r else s
def maxQ (r s:Rat):Rat:=if s<r then r else s
theorem Qm.min {k:Nat}{r s:Rat}(h:Qm k r)(h':Qm k s):Qm k (minQ r s):=by unfold minQ;split<;>assumption
theorem Qm.max {k:Nat}{r s:Rat}(h:Qm k r)(h':Qm k s):Qm k (maxQ r s):=by unfold maxQ;split<;>assumption
structure E4 where
 a:Value
 b:Value
 c:Value
 d:Value
def E4.v (e:E4):Value:=.agg #[e.a,e.b,e.c,e.d]
def E4.z : E4:=⟨.bool false,.slice none 0 0,.bool false,.slice none 0 0⟩
def E4.fq (e:E4):Prop:=Fq e.a e.b e.c e.d
theorem E4.z_fq : E4.z.fq:=Fq.nil
def flat : List E4->List Value
 | []=>[]
 | e::r=>e.a::e.b::e.c::e.d::flat r
theorem flat_length : ∀es:List E4,(flat es).length=es.length*4
 | []=>rfl
 | e::r=>by simp only[flat,List.length_cons,flat_length r];omega
theorem flat_app : ∀es fs:List E4,flat (es++fs)=flat es++flat fs
 | [],_=>rfl
 | e::r,fs=>by simp only[flat,List.cons_append,flat_app r fs]
theorem flat_at : ∀(es:List E4) (k:Nat) (h:k<es.length),(flat es)[k*4]?=some es[k].a/\(flat es)[k*4+1]?=some es[k].b/\(flat es)[k*4+2]?=some es[k].c/\(flat es)[k*4+3]?=some es[k].d
 | e::r,0,_=>⟨rfl,rfl,rfl,rfl⟩
 | e::r,k+1,h=>by
  have h1:=flat_at r k (by simpa using h)
  rw[show (k+1)*4=k*4+4 from by omega]
  exact h1
theorem flat_take : ∀(es:List E4) (k:Nat),(flat es).take (k*4)=flat (es.take k)
 | [],k=>by simp[flat]
 | e::r,0=>by simp[flat]
 | e::r,k+1=>by
  rw[show (k+1)*4=k*4+1+1+1+1 from by omega]
  simp only[flat,List.take_succ_cons,flat_take r k]
theorem flat_drop : ∀(es:List E4) (k:Nat),(flat es).drop (k*4)=flat (es.drop k)
 | [],k=>by simp[flat]
 | e::r,0=>by simp[flat]
 | e::r,k+1=>by
  rw[show (k+1)*4=k*4+1+1+1+1 from by omega]
  simp only[flat,List.drop_succ_cons,flat_drop r k]
theorem flat_mem : ∀(es:List E4),(∀e∈es,e.fq)->∀u∈flat es,∀n:Int,u≠.int .u32 n
 | [],_,u,hu=>by cases hu
 | e::r,h,u,hu=>by
  obtain ⟨⟨n1,A1,k1,c1,e1,e2⟩,⟨n2,A2,k2,c2,e3,e4⟩⟩:=h e (by simp)
  simp only[flat,List.mem_cons]at hu
  rcases hu with rfl|rfl|rfl|rfl|hu
  .rw[e1];intro n hn;cases hn
  .rw[e2];intro n hn;cases hn
  .rw[e3];intro n hn;cases hn
  .rw[e4];intro n hn;cases hn
  .exact flat_mem r (fun e he=>h e (by simp[he])) u hu
structure Kw (W V:World):Prop where
 size:W.heap.size<=V.heap.size
 word:∀(p:Addr) (n:Int),W.cell? p=some (.int .u32 n)->V.cell? p=some (.int .u32 n)
section
variable {W V U : World}
theorem Kw.refl (W:World):Kw W W:=⟨Nat.le_refl _,fun _ _ h=>h⟩
theorem Kw.trans (h:Kw W V)(k:Kw V U):Kw W U:=⟨Nat.le_trans h.size k.size,fun p n hp=>k.word p n (h.word p n hp)⟩
theorem Kw.of (h:Below W.heap.size W V):Kw W V:=⟨h.size,fun p n hp=>(h.cell (World.block_lt_of_cell? W _ hp)).trans hp⟩
theorem Kw.drew (h:Kw W V):Kw W V.drew:=⟨h.size,h.word⟩
theorem Kw.alloc (h:Kw W V)(o:Obj):Kw W (V.alloc o):=h.trans (Kw.of ((Below.refl _ _).alloc (Nat.le_refl _) _))
theorem Kw.setCell (h:Kw W V){p:Addr}{u:Value}(hp:V.cell? p=some u)(hu:∀n:Int,u≠.int .u32 n)(v:Value):Kw W (V.setCell p v) :=
 ⟨by simpa [World.setCell]using h.size,fun q n hq=>by
  have h1:=h.word q n hq
  rw[World.cell?_setCell_other _ _ _ _ (fun e=>by subst e;rw[hp]at h1;injection h1 with h1;exact hu n h1)]
  exact h1⟩
theorem Kw.rd (k:Kw W V){A:Option Addr}{xs:List Nat}(h:Rd .u32 W W.heap.size A xs):Rd .u32 V V.heap.size A xs:=by
 intro j hj
 obtain ⟨b,o,rfl,hb,hc⟩:=h j hj
 exact ⟨b,o,rfl,Nat.lt_of_lt_of_le hb k.size,k.word _ _ hc⟩
theorem Kw.zl (k:Kw W V){x y:Value}{z:Int}(h:Zl W x y z):Zl V x y z:=by
 obtain ⟨n,A,c,xs,h1,h2,⟨r1,r2,r3,r4,r5⟩,h4⟩:=h
 exact ⟨n,A,c,xs,h1,h2,⟨k.rd r1,r2,r3,r4,r5⟩,h4⟩
theorem Kw.zc (k:Kw W V){x y:Value}{z:Int}(h:Zc W x y z):Zc V x y z:=by
 obtain ⟨A,c,h1,h2,r1,h3⟩:=h
 exact ⟨A,c,h1,h2,k.rd r1,h3⟩
theorem Kw.qc (k:Kw W V){a b c d:Value}{r:Rat}(h:Qc W a b c d r):Qc V a b c d r:=⟨k.zc h.1,k.zc h.2⟩
theorem Kw.qi (k:Kw W V){a b c d:Value}{r:Rat}{n:Nat}(h:Qi W a b c d r n):Qi V a b c d r n:=by
 obtain ⟨p,q,h1,h2,h3⟩:=h
 exact ⟨p,q,k.zl h1,k.zl h2,h3⟩
end
def Rq (W:World)(B:Nat)(A:Option Addr)(es:List E4):Prop :=
 ∀(k:Nat) (h:k<es.length),∃b o,A=some ⟨b,o,none⟩/\b<B/\W.cell? ⟨b,o+k*4,none⟩=some es[k].a/\W.cell? ⟨b,o+k*4+1,none⟩=some es[k].b/\W.cell? ⟨b,o+k*4+2,none⟩=some es[k].c/\W.cell? ⟨b,o+k*4+3,none⟩=some es[k].d
theorem Rq.nil {W:World}{B:Nat}{A:Option Addr} : Rq W B A []:=fun k hk=>by cases hk
theorem Rq.below {W V:World}{B:Nat}{A:Option Addr}{es:List E4}(h:Rq W B A es)(hb:Below B W V):Rq V B A es:=by
 intro k hk
 obtain ⟨b,o,rfl,hB,h0,h1,h2,h3⟩:=h k hk
 exact ⟨b,o,rfl,hB,(hb.cell (p:=⟨b,_,none⟩) hB).trans h0,(hb.cell (p:=⟨b,_,none⟩) hB).trans h1,(hb.cell (p:=⟨b,_,none⟩) hB).trans h2,(hb.cell (p:=⟨b,_,none⟩) hB).trans h3⟩
theorem Rq.grow {W V:World}{B:Nat}{A:Option Addr}{es:List E4}(h:Rq W B A es)(hb:Below W.heap.size W V):Rq V B A es:=by
 intro k hk
 obtain ⟨b,o,rfl,hB,h0,h1,h2,h3⟩:=h k hk
 have hl:b<W.heap.size:=World.block_lt_of_cell? W _ h0
 exact ⟨b,o,rfl,hB,(hb.cell (p:=⟨b,_,none⟩) hl).trans h0,(hb.cell (p:=⟨b,_,none⟩) hl).trans h1,(hb.cell (p:=⟨b,_,none⟩) hl).trans h2,(hb.cell (p:=⟨b,_,none⟩) hl).trans h3⟩
theorem Rq.more {W:World}{B B':Nat}{A:Option Addr}{es:List E4}(h:Rq W B A es)(hB:B<=B'):Rq W B' A es:=by
 intro k hk
 obtain ⟨b,o,rfl,hb,hc⟩:=h k hk
 exact ⟨b,o,rfl,by omega,hc⟩
theorem Rq.to {W V:World}{A:Option Addr}{es:List E4}(h:Rq W W.heap.size A es)(hb:Below W.heap.size W V):Rq V V.heap.size A es:=(h.below hb).more hb.size
structure Row (W:World)(g:Nat)(es:List E4):Prop where
 heap:W.heap[g]?=some (.cells (flat es).toArray 32 (0,0))
 fq:∀e∈es,e.fq
section
variable {W V : World} {g : Nat} {es : List E4}
theorem Row.lt (h:Row W g es):g<W.heap.size:=(Array.getElem?_eq_some_iff.1 h.heap).1
theorem Row.keep (h:Row W g es)(hb:V.heap[g]?=W.heap[g]?):Row V g es:=⟨hb.trans h.heap,h.fq⟩
theorem Row.to (h:Row W g es)(hb:Below W.heap.size W V):Row V g es:=h.keep (hb.block g h.lt)
theorem Row.cells (h:Row W g es){k:Nat}(hk:k<es.length):W.cell? ⟨g,k*4,none⟩=some es[k].a/\W.cell? ⟨g,k*4+1,none⟩=some es[k].b/\W.cell? ⟨g,k*4+2,none⟩=some es[k].c/\W.cell? ⟨g,k*4+3,none⟩=some es[k].d:=by
 have h1:=flat_at es k hk
 have e:∀j,W.cell? ⟨g,j,none⟩=(flat es)[j]?:=fun j=>by simp[World.cell?,h.heap]
 rw[e,e,e,e]
 exact h1
theorem Row.frozen (h:Row W g es)(j:Nat):W.frozen? ⟨g,j,none⟩=false:=by simp[World.frozen?,h.heap]
theorem Row.rq (h:Row W g es)(n:Nat):Rq W W.heap.size (some ⟨g,0,none⟩) (es.take n):=by
 intro k hk
 have hk':k<es.length:=by simp at hk;omega
 have h1:=h.cells hk'
 refine ⟨g,0,rfl,h.lt,?_⟩
 simpa using h1
theorem Row.kw (h:Row W g es){cs:Array Value} : Kw W (W.setRow g cs):=by
 refine ⟨by simp[World.setRow],fun p n hp=>?_⟩
 have hne:p.block≠g:=by
  intro e
  obtain ⟨b,j,f⟩:=p
  obtain rfl:b=g:=e
  unfold World.cell? at hp
  simp only[h.heap]at hp
  have hm:(Value.int .u32 n)∈flat es:=by
   cases f with
   | none=>simp at hp;exact List.mem_of_getElem? hp
   | some f=>simp at hp
  exact flat_mem es h.fq _ hm n rfl
 rw[World.cell?_of_block (setRow_other W g p.block cs hne)]
 exact hp
end
end Go.Proofs.YtglhdielkkhefaaGreat

namespace Go.Proofs.YtglhdielkkhefaaGreat
open Go.RowKit Go.Shelf
theorem infoQ : (Tryz.prog.info? 32).map (fun i=>(i.zero,i.size,i.bytes))=some (some (.agg #[.bool false,.slice none 0 0,.bool false,.slice none 0 0]),4,64):=by kernel_rfl
theorem flat_zero : ∀c:Nat,(flat (List.replicate c E4.z)).toArray=madeCells (.agg #[.bool false,.slice none 0 0,.bool false,.slice none 0 0]:Value).cells (c*4):=by
 intro c
 apply Array.ext'
 apply List.ext_getElem?
 intro j
 unfold madeCells
 by_cases h:j<c*4
 .have hk:j / 4<(List.replicate c E4.z).length:=by simp;omega
  obtain ⟨h0,h1,h2,h3⟩:=flat_at (List.replicate c E4.z) (j / 4) hk
  simp only[List.getElem_replicate]at h0 h1 h2 h3
  have h4:j % 4<4:=Nat.mod_lt _ (by decide)
  have h5:j=j / 4*4+j % 4:=by omega
  have hs:((.agg #[.bool false,.slice none 0 0,.bool false,.slice none 0 0]:Value).cells)=#[.bool false,.slice none 0 0,.bool false,.slice none 0 0]:=rfl
  rw[hs]
  simp only[List.size_toArray,List.length_cons,List.length_nil,Nat.reduceAdd,Array.toList_map,Array.toList_range,List.getElem?_map,List.getElem?_range h,Option.map_some]
  generalize j / 4=q at *
  generalize j % 4=m at *
  subst h5
  match m,h4 with
  | 0,_=>simpa [E4.z]using h0
  | 1,_=>simpa [E4.z]using h1
  | 2,_=>simpa [E4.z]using h2
  | 3,_=>simpa [E4.z]using h3
 .rw[List.getElem?_eq_none (by simp[flat_length];omega),List.getElem?_eq_none (by simp;omega)]
theorem make_q (W:World)(n c:Nat)(hn:n<=c)(hc:c<=4398046511104) :
  (Instr.makeSlice 38 (.int .i64 (n:Int)) (.int .i64 (c:Int))).run Tryz.prog W=.ok (.slice (some ⟨W.heap.size,0,none⟩) n c) (W.alloc (.cells (flat (List.replicate c E4.z)).toArray 32)):=by
 obtain ⟨i0,hi,hz0,hz1,hz2⟩:=info_parts infoQ
 have h:=run_make W 38 32 i0 _ Tryz.underlying38 hi hz0 .i64 .i64 n c (by omega) (by omega) (by rw[hz2];omega) (by omega)
 rw[hz1,Int.toNat_natCast,Int.toNat_natCast]at h
 rw[h,flat_zero]
theorem Row.new (W:World)(c:Nat):Row (W.alloc (.cells (flat (List.replicate c E4.z)).toArray 32)) W.heap.size (List.replicate c E4.z) :=
 ⟨World.alloc_heap_new W _,fun e he=>by rw[List.eq_of_mem_replicate he];exact E4.z_fq⟩
theorem fq_cells {e:E4}(h:e.fq):∀u∈[e.a,e.b,e.c,e.d],u.oneCell'=true:=by
 obtain ⟨⟨n1,A1,k1,c1,e1,e2⟩,⟨n2,A2,k2,c2,e3,e4⟩⟩:=h
 intro u hu
 simp only[List.mem_cons,List.not_mem_nil,or_false]at hu
 rcases hu with rfl|rfl|rfl|rfl
 .rw[e1];rfl
 .rw[e2];rfl
 .rw[e3];rfl
 .rw[e4];rfl
theorem append_q {W:World}{g:Nat}{fl:List E4}{n:Nat}{e:E4}{a:Addr}{c:Nat}(h:Row W g fl)(hn:n<fl.length)(he:e.fq)
  (h0:W.cell? (a.add 0)=some e.a) (h1:W.cell? (a.add 1)=some e.b) (h2:W.cell? (a.add 2)=some e.c) (h3:W.cell? (a.add 3)=some e.d) (ty:TypeId) :
  (Builtin.append_ #[38,38] ty #[.slice (some ⟨g,0,none⟩) n fl.length,.slice (some a) 1 c]).run Tryz.prog W=.ok (.slice (some ⟨g,0,none⟩) (n+1) fl.length) (W.setRow g (flat (fl.set n e)).toArray):=by
 obtain ⟨i0,hi,hz0,hz1,hz2⟩:=info_parts infoQ
 have hr:=run_append_room (P:=Tryz.prog) W 38 ty 32 i0 Tryz.underlying38 hi g n fl.length _ h.heap a 1 c [e.a,e.b,e.c,e.d] (by rw[hz1];rfl)
  (fun j u hj=>by
   match j,hj with
   | 0,hj=>simp at hj;subst hj;exact h0
   | 1,hj=>simp at hj;subst hj;exact h1
   | 2,hj=>simp at hj;subst hj;exact h2
   | 3,hj=>simp at hj;subst hj;exact h3) (fq_cells he) (by omega) (by rw[hz1];simp[flat_length];omega)
 rw[hr,hz1]
 have e1:fl.set n e=fl.take n++e::fl.drop (n+1):=by
  rw[List.set_eq_take_append_cons_drop,if_pos hn]
 rw[e1,flat_app]
 have e2:(flat fl).drop (n*4+4)=flat (fl.drop (n+1)):=by
  rw[show n*4+4=(n+1)*4 from by omega,flat_drop]
 simp only[List.toList_toArray,flat_take,List.length_cons,List.length_nil,Nat.reduceAdd,e2,flat,List.append_assoc,List.cons_append,List.nil_append]
theorem Row.app {W:World}{g:Nat}{fl:List E4}{n:Nat}{e:E4}(h:Row W g fl)(he:e.fq):Row (W.setRow g (flat (fl.set n e)).toArray) g (fl.set n e) :=
 ⟨setRow_heap W g _ _ _ _ h.heap,fun x hx=>by
  rcases List.mem_or_eq_of_mem_set hx with hx|rfl
  .exact h.fq x hx
  .exact he⟩
theorem setRow_size (W:World)(g:Nat)(cs:Array Value):(W.setRow g cs).heap.size=W.heap.size:=by simp[World.setRow]
theorem below_setRow {B:Nat}{a w:World}(h:Below B a w){g:Nat}(hg:B<=g)(cs:Array Value):Below B a (w.setRow g cs) :=
 ⟨h.os,h.tape,h.output,by rw[setRow_size];exact h.size,fun k hk=>(setRow_other w g k cs (by omega)).trans (h.block k hk)⟩
theorem take_set {α:Type}(l:List α)(n:Nat)(x:α)(h:n<l.length):(l.set n x).take (n+1)=l.take n++[x]:=by
 rw[List.take_succ_eq_append_getElem (by simpa using h),List.take_set,List.set_eq_of_length_le (by rw[List.length_take];omega)]
 simp
structure Vi (W:World)(A:Option Addr)(c:Nat)(es:List E4)(rs:List Rat)(k:Nat):Prop where
 row:Rq W W.heap.size A es
 len:es.length=rs.length
 el:∀i,Qi W (es.getD i E4.z).a (es.getD i E4.z).b (es.getD i E4.z).c (es.getD i E4.z).d (rs.getD i 0) k
 fq:∀e∈es,e.fq
 cap:es.length<=c
 c63:c<=9223372036854775807
structure Vc (W:World)(A:Option Addr)(c:Nat)(es:List E4)(rs:List Rat):Prop where
 row:Rq W W.heap.size A es
 len:es.length=rs.length
 el:∀i,Qc W (es.getD i E4.z).a (es.getD i E4.z).b (es.getD i E4.z).c (es.getD i E4.z).d (rs.getD i 0)
 fq:∀e∈es,e.fq
 cap:es.length<=c
 c63:c<=9223372036854775807
theorem Vi.to {W V:World}{A:Option Addr}{c:Nat}{es:List E4}{rs:List Rat}{k:Nat}(h:Vi W A c es rs k)(hb:Below W.heap.size W V):Vi V A c es rs k :=
 ⟨h.row.to hb,h.len,fun i=>(h.el i).to hb,h.fq,h.cap,h.c63⟩
theorem Vc.to {W V:World}{A:Option Addr}{c:Nat}{es:List E4}{rs:List Rat}(h:Vc W A c es rs)(hb:Below W.heap.size W V):Vc V A c es rs :=
 ⟨h.row.to hb,h.len,fun i=>(h.el i).to hb,h.fq,h.cap,h.c63⟩
theorem Vc.vi {W:World}{A:Option Addr}{c:Nat}{es:List E4}{rs:List Rat}{k:Nat}(h:Vc W A c es rs)(hm:∀i,Qm k (rs.getD i 0))(hk:k<=10000):Vi W A c es rs k :=
 ⟨h.row,h.len,fun i=>(h.el i).qi (hm i) hk,h.fq,h.cap,h.c63⟩
theorem Qi.zero (W:World){k:Nat} : Qi W (.bool false) (.slice none 0 0) (.bool false) (.slice none 0 0) 0 k :=
 ⟨0,0,⟨false,none,0,[],rfl,rfl,⟨Rd.nil,Dg.nil,Nat.le_refl _,by decide,by decide⟩,by decide,rfl⟩,⟨false,none,0,[],rfl,rfl,⟨Rd.nil,Dg.nil,Nat.le_refl _,by decide,by decide⟩,by decide,rfl⟩,rfl,
  Nat.pow_pos (by decide),Nat.pow_pos (by decide)⟩
theorem Vi.nil (W:World){k c:Nat}{A:Option Addr}(hc:c<=9223372036854775807):Vi W A c [] [] k :=
 ⟨Rq.nil,rfl,fun i=>(by simpa [E4.z]using Qi.zero W),fun e he=>(by cases he),Nat.zero_le _,hc⟩
theorem Vc.nil (W:World){c:Nat}{A:Option Addr}(hc:c<=9223372036854775807):Vc W A c [] [] :=
 ⟨Rq.nil,rfl,fun _=>(⟨Zc.zero W,Zc.zero W⟩:Qc W _ _ _ _ 0),fun e he=>(by cases he),Nat.zero_le _,hc⟩
def VR (w:World)(rs:List Rat)(e:Ending)(w':World):Prop:=∃A c es,e=.returned (.slice A rs.length c)/\Vc w' A c es rs/\Below w.heap.size w w'
theorem at_in {w:World}{b o n c k:Nat}{n1 n2:Bool}{A1 A2:Option Addr}{j1 m1 j2 m2:Nat}(hk:k<n)(hn:n<=9223372036854775807)(hb:b<w.heap.size)
  (h0:w.cell? ⟨b,o+k*4,none⟩=some (.bool n1)) (h1:w.cell? ⟨b,o+k*4+1,none⟩=some (.slice A1 j1 m1)) (h2:w.cell? ⟨b,o+k*4+2,none⟩=some (.bool n2)) (h3:w.cell? ⟨b,o+k*4+3,none⟩=some (.slice A2 j2 m2)) :
  Calls Tryz.prog 116 #[.slice (some ⟨b,o,none⟩) n c,.int .i64 k] w fun e w'=>e=.returned (.agg #[.bool n1,.slice A1 j1 m1,.bool n2,.slice A2 j2 m2])/\Below w.heap.size w w':=by
 have hbw:Below w.heap.size w (w.alloc (.cells #[.bool false,.slice none 0 0,.bool false,.slice none 0 0] 32)):=(Below.refl _ _).alloc (Nat.le_refl _) _
 have f0:=(hbw.cell (p:=⟨b,o+k*4,none⟩) hb).trans h0
 have f1:=(hbw.cell (p:=⟨b,o+k*4+1,none⟩) hb).trans h1
 have f2:=(hbw.cell (p:=⟨b,o+k*4+2,none⟩) hb).trans h2
 have f3:=(hbw.cell (p:=⟨b,o+k*4+3,none⟩) hb).trans h3
 have hk0:(k:Int)<(n:Int):=by omega
 have hk1:(0:Int)<=(k:Int):=by omega
 clear hbw h0 h1 h2 h3 hb
 go_enter Tryz.func116,Tryz.ntmps116
 go_wp2
 refine bodyPost_ret (v:=.agg #[.bool n1,.slice A1 j1 m1,.bool n2,.slice A2 j2 m2]) (by simp[results,Tryz.f116,go_sem]) rfl ?_
 exact ⟨rfl,(Below.refl _ _).alloc (Nat.le_refl _) _⟩
theorem at_out {w:World}{A:Option Addr}{n c k:Nat}(hk:¬k<n) :
  Calls Tryz.prog 116 #[.slice A n c,.int .i64 k] w fun e w'=>e=.returned (.agg #[.bool false,.slice none 0 0,.bool false,.slice none 0 0])/\Below w.heap.size w w':=by
 have hk0:¬(k:Int)<(n:Int):=by omega
 clear hk
 go_enter Tryz.func116,Tryz.ntmps116
 go_wp2
 refine bodyPost_ret (v:=.agg #[.bool false,.slice none 0 0,.bool false,.slice none 0 0]) (by simp[results,Tryz.f116,go_sem]) rfl ?_
 exact ⟨rfl,(Below.refl _ _).alloc (Nat.le_refl _) _⟩
theorem getD_at' {es:List E4}{k:Nat}(h:k<es.length):es.getD k E4.z=es[k]:=by simp[List.getD,h]
theorem getD_out {es:List E4}{k:Nat}(h:¬k<es.length):es.getD k E4.z=E4.z:=by simp[List.getD,h]
theorem at_v {w:World}{B:Nat}{A:Option Addr}{c k:Nat}{es:List E4}(h:Rq w B A es)(hq:∀e∈es,e.fq)(hl:es.length<=9223372036854775807) :
  Calls Tryz.prog 116 #[.slice A es.length c,.int .i64 k] w fun e w'=>e=.returned (es.getD k E4.z).v/\Below w.heap.size w w':=by
 by_cases hk:k<es.length
 .obtain ⟨b,o,rfl,hb,h0,h1,h2,h3⟩:=h k hk
  rw[getD_at' hk]
  have hf:=hq _ (List.getElem_mem hk)
  generalize es[k]=e at h0 h1 h2 h3 hf
  obtain ⟨e1,e2,e3,e4⟩:=e
  obtain ⟨⟨n1,A1,k1,c1,g1,g2⟩,⟨n2,A2,k2,c2,g3,g4⟩⟩:=hf
  dsimp only at g1 g2 g3 g4 h0 h1 h2 h3
  subst g1 g2 g3 g4
  exact at_in hk hl (World.block_lt_of_cell? w _ h0) h0 h1 h2 h3
 .rw[getD_out hk]
  exact at_out hk
theorem vpairs_any (A A':Option Addr)(n n' c c':Nat)(w:World) :
  Calls Tryz.prog 92 #[.slice A n c,.slice A' n' c'] w fun e w'=>e=.returned (.func (.func 115) #[] #[.pointer (some ⟨w.heap.size,0,none⟩),.pointer (some ⟨w.heap.size+1,0,none⟩)]) /\
   w'=(w.alloc (.cells #[.slice A n c] 38)).alloc (.cells #[.slice A' n' c'] 38):=by
 go_enter Tryz.func92,Tryz.ntmps92
 go_wp2
 go_ret
 exact ⟨rfl,rfl⟩
end Go.Proofs.YtglhdielkkhefaaGreat

namespace Go.Proofs.YtglhdielkkhefaaGreat
open Go.RowKit
def GivesB (P:Program)(g:Nat)(lb:Array Value)(N:Nat)(enc:Nat->Array Value)(S:Addr->Prop)(W:World):Prop :=
 ∀(l:Nat) (J Jx:Nat->World->Prop),
  (∀k V V',J k V->Below V.heap.size V V'->J k V') ->
  (∀k V,k<N->J k V->YieldAt Fence.wide 1 P l (enc k) V fun e V' =>
   (e=.returned (.bool true)/\J (k+1) V'/\KeepAt S V V')∨(e=.returned (.bool false)/\Jx k V')) ->
  J 0 W ->
  CallsIn Fence.wide 2 P g (#[.func (.yield l) #[] #[]]++lb) W fun e V=>(∃v,e=.returned v)/\(J N V∨∃k,k<N/\Jx k V)
theorem wp_roundsB {P:Program}{g:Operand}{ps:Array Tmp}{assign body:Code}{Q:Exit->Act->World->Prop}{a:Act}{w:World}
  {gf:Nat} {lb:Array Value} (hg:a.eval g=.func (.func gf) #[] lb) (eg:∀args v,(callFunc gf args).run P v=.ok (.enter gf args) v)
  {N:Nat} {enc:Nat->Array Value} {S:Addr->Prop} (hS:∀p,S p->p.block<w.heap.size) (hseq:∀W,Below w.heap.size w W->GivesB P gf lb N enc S W)
  (hps:∀k,(enc k).size=ps.size)
  (I:Nat->World->Prop) (I1:Nat->Act->World->Prop) (Ix:Code->Nat->World->Prop) (hI:OwnFrom w.heap.size I) (hI1:OwnFrom w.heap.size (fun s:Nat×Act=>I1 s.1 s.2)) (hIb:∀k V V',I k V->Below V.heap.size V V'->I k V') (hIx:∀c,OwnFrom w.heap.size (Ix c)) (h0:I 0 w)
  (hassign:∀(l k:Nat) (W:World) (K:Act->World->Prop),w.heap.size+1<W.heap.size->I k W->k<N->(∀a1 W1,Below W.heap.size W W1->I1 k a1 W1->K a1 W1) ->
   assign.wpIn (Fence.wide.inRound l) 1 P (Exit.then K (fun _ _ _=>False)) { tmps:=(ps.zip (enc k)).foldl (fun t (p,v)=>t.setIfInBounds p v) a.tmps,defers:=[] } W)
  (hbody:∀(l k:Nat) (a1:Act) (W:World),w.heap.size+1<W.heap.size->I1 k a1 W->k<N->body.wpIn (Fence.wide.inRound l) 1 P (leftBy w.heap.size (KeepAt S) (I (k+1)) (fun c=>Ix c k) W) a1 W)
  (hdone:∀W,I N W->W.heap[w.heap.size]?=some (.deferred (some []))->Q .normal { a with defers:={ target:=.collected w.heap.size,args:=#[] }::a.defers } W)
  (hstop:∀(c:Code) (k:Nat) (W:World),k<N->Ix c k W->W.heap[w.heap.size]?=some (.deferred (some [])) ->
   c.wpIn Fence.wide 3 P Q { a with defers:={ target:=.collected w.heap.size,args:=#[] }::a.defers } W) :
  (Code.rangeFunc g ps assign body).wpIn Fence.wide 3 P Q a w:=by
 refine wpIn_rangeFunc fun fn hfn=>?_
 obtain ⟨rec,hrec⟩:∃rec:LoopState->Option Code->Loop,rec=fun s p=>{ state:=s,pending:=p,fn,tmps:=a.tmps,params:=ps,assign,body,defers:=w.heap.size }:=⟨_,rfl⟩
 obtain ⟨W1,hW1⟩:∃W1,W1=(w.alloc (.deferred (some []))).alloc (.loop (rec .ready none)):=⟨_,rfl⟩
 have hl1:W1.heap[w.heap.size+1]?=some (.loop (rec .ready none)):=by
  have h:=World.alloc_heap_new (w.alloc (.deferred (some []))) (.loop (rec .ready none))
  rw[World.size_alloc]at h
  rw[hW1];exact h
 have hd1:W1.heap[w.heap.size]?=some (.deferred (some [])):=by
  rw[hW1];exact (Below.heap_alloc _ _ _ (by simp)).trans (World.alloc_heap_new w _)
 have hb1:Below w.heap.size w W1:=by rw[hW1];exact ((Below.refl _ w).alloc (Nat.le_refl _) _).alloc (by simp) _
 refine ⟨w.heap.size+1,[{ target:=.collected w.heap.size,args:=#[] }],W1,{ target:=.fn (.func gf) lb,args:=#[.func (.yield (w.heap.size+1)) #[] #[]] },W1,gf,
  #[.func (.yield (w.heap.size+1)) #[] #[]]++lb,W1,?_,?_,fun _ _=>trivial,?_,fun h=>by simp[Fence.wide]at h,?_⟩
 .rw[hW1,hrec];exact run_enterLoop_outer _ _ _ _ _
 .simp only[resolve,hg];simp[go_sem]
 .simp[invoke,go_sem,eg]
 refine (hseq W1 hb1 (w.heap.size+1)
  (fun k V=>I k V/\V.heap[w.heap.size+1]?=some (.loop (rec .ready none))/\V.heap[w.heap.size]?=some (.deferred (some [])))
  (fun k V=>∃c,Ix c k V/\V.heap[w.heap.size+1]?=some (.loop (rec .done (some c)))/\V.heap[w.heap.size]?=some (.deferred (some [])))
  ?stab ?_ ⟨by rw[hW1];exact hI.alloc _ (hI.alloc _ h0),hl1,hd1⟩).mono ?_
 case stab =>
  rintro k V V' ⟨h1,h2,h3⟩ hb
  exact ⟨hIb k V V' h1 hb,(hb.block _ (Array.getElem?_eq_some_iff.1 h2).1).trans h2,(hb.block _ (Array.getElem?_eq_some_iff.1 h3).1).trans h3⟩
 .rintro k V hk ⟨hi,hl,hd⟩
  have hlt:w.heap.size+1<V.heap.size:=(Array.getElem?_eq_some_iff.1 hl).1
  have hy:=run_yield (P:=P) (args:=enc k) hl (by rw[hrec];exact hps k)
  rw[hrec]at hy
  refine ⟨fn,_,assign,body,hy,roundIn_of_wpIn hfn (hassign _ k V _ hlt hi hk ?_)⟩
  clear hy
  intro a1 V1 hV1 hi1
  have hkV:KeepAt S V V1:=fun p hp=>hV1.cell (p:=p) (by have:=hS p hp;omega)
  replace hl:=(hV1.block _ hlt).trans hl
  replace hd:=(hV1.block _ (Array.getElem?_eq_some_iff.1 hd).1).trans hd
  have hlt:w.heap.size+1<V1.heap.size:=(Array.getElem?_eq_some_iff.1 hl).1
  clear hi hV1
  refine ⟨_,run_beginRound hl (by rw[hrec]),?_⟩
  have hl2:=World.putObj_heap_same (w:=V1) (o:=.loop { rec .ready none with state:=.busy }) hlt
  have hd2:(V1.putObj (w.heap.size+1) (.loop { rec .ready none with state:=.busy })).heap[w.heap.size]?=some (.deferred (some [])):=(World.putObj_heap_other (by omega)).trans hd
  have hlt2:w.heap.size+1<(V1.putObj (w.heap.size+1) (.loop { rec .ready none with state:=.busy })).heap.size:=(Array.getElem?_eq_some_iff.1 hl2).1
  refine wpIn_mono (hbody _ k a1 _ hlt2 (hI1.putObj (s:=(k,a1)) _ hi1 (by omega) hl rfl) hk) fun e a3 W3 hp=>?_
  have fin:∀(jump:Option Code),KeepsFrom w.heap.size (V1.putObj (w.heap.size+1) (.loop { rec .ready none with state:=.busy })) W3 ->
    W3.heap[w.heap.size+1]?=some (.loop { rec .ready none with state:=.busy }) /\
    (Instr.endRound (w.heap.size+1) jump).run P W3=.ok (.bool jump.isNone) (W3.putObj (w.heap.size+1) (.loop (rec (if jump.isNone then .ready else .done) jump))) /\
    (W3.putObj (w.heap.size+1) (.loop (rec (if jump.isNone then .ready else .done) jump))).heap[w.heap.size+1]?=some (.loop (rec (if jump.isNone then .ready else .done) jump)) /\
    (W3.putObj (w.heap.size+1) (.loop (rec (if jump.isNone then .ready else .done) jump))).heap[w.heap.size]?=some (.deferred (some [])):=by
   intro jump hkf
   have hl3:=hkf.same _ _ (by omega) hl2 rfl
   have hd3:=hkf.same _ _ (Nat.le_refl _) hd2 rfl
   refine ⟨hl3,?_,World.putObj_heap_same (Array.getElem?_eq_some_iff.1 hl3).1,(World.putObj_heap_other (by omega)).trans hd3⟩
   have h:=run_endRound (P:=P) jump hl3
   rw[hrec]at h ⊢
   exact h
  match e,hp with
  | .normal,⟨hkf,hkp,hi3⟩ =>
   obtain ⟨hl3,hr,hl4,hd4⟩:=fin none hkf
   exact ⟨_,_,hr,.inl ⟨rfl,⟨hI.putObj _ hi3 (by omega) hl3 rfl,hl4,hd4⟩,fun p hp=>(keepAt_round hS _ _ hkp p hp).trans (hkV p hp)⟩⟩
  | .ret,⟨hkf,hi3⟩ =>
   obtain ⟨hl3,hr,hl4,hd4⟩:=fin (some .ret) hkf
   exact ⟨_,_,hr,.inr ⟨rfl,.ret,(hIx _).putObj _ hi3 (by omega) hl3 rfl,hl4,hd4⟩⟩
  | .exit id,⟨hkf,hi3⟩ =>
   obtain ⟨hl3,hr,hl4,hd4⟩:=fin (some (.exit id)) hkf
   exact ⟨_,_,hr,.inr ⟨rfl,.exit id,(hIx _).putObj _ hi3 (by omega) hl3 rfl,hl4,hd4⟩⟩
  | .goto t,⟨hkf,hi3⟩ =>
   obtain ⟨hl3,hr,hl4,hd4⟩:=fin (some (.goto t)) hkf
   exact ⟨_,_,hr,.inr ⟨rfl,.goto t,(hIx _).putObj _ hi3 (by omega) hl3 rfl,hl4,hd4⟩⟩
  | .panic _,hp=>exact hp.elim
  | .outgrown,hp=>exact hp.elim
 .rintro e W2 ⟨⟨v,rfl⟩,hjs⟩
  rcases hjs with ⟨hi,hl,hd⟩|⟨k,hk,c,hi,hl,hd⟩
  .have h:=run_endLoop (P:=P) hl (by rw[hrec];simp)
   rw[show (rec .ready none).pending=none from by rw[hrec]]at h
   exact ⟨none,_,h,hdone _ (hI.putObj _ hi (by omega) hl rfl) ((World.putObj_heap_other (by omega)).trans hd)⟩
  .have h:=run_endLoop (P:=P) hl (by rw[hrec];simp)
   rw[show (rec .done (some c)).pending=some c from by rw[hrec]]at h
   exact ⟨some c,_,h,hstop c k _ hk ((hIx c).putObj _ hi (by omega) hl rfl) ((World.putObj_heap_other (by omega)).trans hd)⟩
end Go.Proofs.YtglhdielkkhefaaGreat
