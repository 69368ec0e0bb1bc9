/- Parts: 4. -/
import Derived.Test.YtglhdielkkhefaaGreatMl5
import Derived.Test.YtglhdielkkhefaaGreatMl12
import Derived.Laws.EntriesVeiled
import Derived.MapKept
set_option linter.unusedVariables false
set_option linter.unusedSimpArgs false
set_option maxRecDepth 100000
set_option maxHeartbeats 40000000

namespace Go.Proofs.YtglhdielkkhefaaGreat
open Go.RowKit Go.Shelf
theorem cross_z {w:World}{a1 a2 a3 a4 b1 b2 b3 b4:Value}{N D:Int}(h1:Zl w a1 a2 N)(h4:Zl w b3 b4 D) :
  Calls Tryz.prog 113 #[.agg #[a1,a2,a3,a4],.agg #[b1,b2,b3,b4]] w (ZR w (N*D)):=by
 obtain ⟨W0,hW0⟩:∃W0,W0=((w.alloc (.cells #[a1,a2,a3,a4] 32)).alloc (.cells #[b1,b2,b3,b4] 32)).alloc (.cells #[.bool false,.slice none 0 0] 30):=⟨_,rfl⟩
 have hbw:Below w.heap.size w W0:=by rw[hW0];exact (bRR.alloc (by simp) _).alloc (by simp;omega) _
 have tA:Four W0 w.heap.size a1 a2 a3 a4:=by rw[hW0];exact ((Four.new w _ _ _ _ _).alloc _).alloc _
 have tB:Four W0 (w.heap.size+1) b1 b2 b3 b4:=by
  have h:=Four.new (w.alloc (.cells #[a1,a2,a3,a4] 32)) b1 b2 b3 b4 32;rw[szA]at h;rw[hW0];exact h.alloc _
 have tR:Two W0 (w.heap.size+1+1) (.bool false) (.slice none 0 0):=by
  have h:=Two.new ((w.alloc (.cells #[a1,a2,a3,a4] 32)).alloc (.cells #[b1,b2,b3,b4] 32)) (.bool false) (.slice none 0 0) 30;rw[szA,szA]at h;rw[hW0];exact h
 have HW0:=Hd hW0;have HA:=Hd (h1.to hbw);have HD:=Hd (h4.to hbw);have HB:=Hd hbw;clear h1 h4 hW0 hbw
 go_enter Tryz.func113,Tryz.ntmps113
 go_wp2_with fail
 rw[<-HW0.out];have k0:=tA.c0;have k1:=tA.c1;have k2:=tA.c2;have k3:=tA.c3;have l0:=tB.c0;have l1:=tB.c1;have l2:=tB.c2;have l3:=tB.c3
 go_wp2_with fail
 refine (mul_z HA.out.zi HD.out.zi).mono ?_;rintro e V1 ⟨x,y,rfl,rz,bb⟩;replace tR:=tR.to bb;replace HB:=Hxb HB bb;clear k0 k1 k2 k3 l0 l1 l2 l3 bb tA tB HA HD HW0;obtain ⟨z,ez⟩:∃z,Hid (N*D=z):=⟨_,rfl⟩
 rw[ez.out]at rz;have RZ:=Hd rz;obtain ⟨n1,A1,l1,m1,rfl,rfl⟩:=rz.fs;obtain ⟨V2,eV,u,kp,_⟩:=pack2 tR Fs.nil (.bool n1) (.slice A1 l1 m1);obtain ⟨v0,v1,v2,v3,_⟩:=tR;have EV:=Hd eV;have KP:=Hd kp;have U:=Hd u;clear eV kp u rz;go_wp2
 rw[EV.out];refine bodyPost_ret (v:=.agg #[.bool n1,.slice A1 l1 m1]) (by simp[results,Tryz.f113,go_sem,U.out.c0,U.out.c1]) rfl ?_;rw[ez.out];exact ⟨_,_,rfl,KP.out.zc _ _ _ RZ.out,KP.out.bel _ _ HB.out (by omega)⟩
theorem above_z {w:World}{a1 a2 a3 a4 b1 b2 b3 b4:Value}{N D:Int}(h1:Zl w a1 a2 N)(h4:Zl w b1 b2 D) :
  Calls Tryz.prog 149 #[.agg #[a1,a2,a3,a4],.agg #[b1,b2,b3,b4]] w (ZR w (N*D)):=by
 obtain ⟨W0,hW0⟩:∃W0,W0=((w.alloc (.cells #[a1,a2,a3,a4] 32)).alloc (.cells #[b1,b2,b3,b4] 32)).alloc (.cells #[.bool false,.slice none 0 0] 30):=⟨_,rfl⟩
 have hbw:Below w.heap.size w W0:=by rw[hW0];exact (bRR.alloc (by simp) _).alloc (by simp;omega) _
 have tA:Four W0 w.heap.size a1 a2 a3 a4:=by rw[hW0];exact ((Four.new w _ _ _ _ _).alloc _).alloc _
 have tB:Four W0 (w.heap.size+1) b1 b2 b3 b4:=by
  have h:=Four.new (w.alloc (.cells #[a1,a2,a3,a4] 32)) b1 b2 b3 b4 32;rw[szA]at h;rw[hW0];exact h.alloc _
 have tR:Two W0 (w.heap.size+1+1) (.bool false) (.slice none 0 0):=by
  have h:=Two.new ((w.alloc (.cells #[a1,a2,a3,a4] 32)).alloc (.cells #[b1,b2,b3,b4] 32)) (.bool false) (.slice none 0 0) 30;rw[szA,szA]at h;rw[hW0];exact h
 have HW0:=Hd hW0;have HA:=Hd (h1.to hbw);have HD:=Hd (h4.to hbw);have HB:=Hd hbw;clear h1 h4 hW0 hbw
 go_enter Tryz.func149,Tryz.ntmps149
 go_wp2_with fail
 rw[<-HW0.out];have k0:=tA.c0;have k1:=tA.c1;have k2:=tA.c2;have k3:=tA.c3;have l0:=tB.c0;have l1:=tB.c1;have l2:=tB.c2;have l3:=tB.c3
 go_wp2_with fail
 refine (mul_z HA.out.zi HD.out.zi).mono ?_;rintro e V1 ⟨x,y,rfl,rz,bb⟩;replace tR:=tR.to bb;replace HB:=Hxb HB bb;clear k0 k1 k2 k3 l0 l1 l2 l3 bb tA tB HA HD HW0;obtain ⟨z,ez⟩:∃z,Hid (N*D=z):=⟨_,rfl⟩
 rw[ez.out]at rz;have RZ:=Hd rz;obtain ⟨n1,A1,l1,m1,rfl,rfl⟩:=rz.fs;obtain ⟨V2,eV,u,kp,_⟩:=pack2 tR Fs.nil (.bool n1) (.slice A1 l1 m1);obtain ⟨v0,v1,v2,v3,_⟩:=tR;have EV:=Hd eV;have KP:=Hd kp;have U:=Hd u;clear eV kp u rz;go_wp2
 rw[EV.out];refine bodyPost_ret (v:=.agg #[.bool n1,.slice A1 l1 m1]) (by simp[results,Tryz.f149,go_sem,U.out.c0,U.out.c1]) rfl ?_;rw[ez.out];exact ⟨_,_,rfl,KP.out.zc _ _ _ RZ.out,KP.out.bel _ _ HB.out (by omega)⟩
theorem below_z {w:World}{a1 a2 a3 a4 b1 b2 b3 b4:Value}{N D:Int}(h1:Zl w a3 a4 N)(h4:Zl w b3 b4 D) :
  Calls Tryz.prog 146 #[.agg #[a1,a2,a3,a4],.agg #[b1,b2,b3,b4]] w (ZR w (N*D)):=by
 obtain ⟨W0,hW0⟩:∃W0,W0=((w.alloc (.cells #[a1,a2,a3,a4] 32)).alloc (.cells #[b1,b2,b3,b4] 32)).alloc (.cells #[.bool false,.slice none 0 0] 30):=⟨_,rfl⟩
 have hbw:Below w.heap.size w W0:=by rw[hW0];exact (bRR.alloc (by simp) _).alloc (by simp;omega) _
 have tA:Four W0 w.heap.size a1 a2 a3 a4:=by rw[hW0];exact ((Four.new w _ _ _ _ _).alloc _).alloc _
 have tB:Four W0 (w.heap.size+1) b1 b2 b3 b4:=by
  have h:=Four.new (w.alloc (.cells #[a1,a2,a3,a4] 32)) b1 b2 b3 b4 32;rw[szA]at h;rw[hW0];exact h.alloc _
 have tR:Two W0 (w.heap.size+1+1) (.bool false) (.slice none 0 0):=by
  have h:=Two.new ((w.alloc (.cells #[a1,a2,a3,a4] 32)).alloc (.cells #[b1,b2,b3,b4] 32)) (.bool false) (.slice none 0 0) 30;rw[szA,szA]at h;rw[hW0];exact h
 have HW0:=Hd hW0;have HA:=Hd (h1.to hbw);have HD:=Hd (h4.to hbw);have HB:=Hd hbw;clear h1 h4 hW0 hbw
 go_enter Tryz.func146,Tryz.ntmps146
 go_wp2_with fail
 rw[<-HW0.out];have k0:=tA.c0;have k1:=tA.c1;have k2:=tA.c2;have k3:=tA.c3;have l0:=tB.c0;have l1:=tB.c1;have l2:=tB.c2;have l3:=tB.c3
 go_wp2_with fail
 refine (mul_z HA.out.zi HD.out.zi).mono ?_;rintro e V1 ⟨x,y,rfl,rz,bb⟩;replace tR:=tR.to bb;replace HB:=Hxb HB bb;clear k0 k1 k2 k3 l0 l1 l2 l3 bb tA tB HA HD HW0;obtain ⟨z,ez⟩:∃z,Hid (N*D=z):=⟨_,rfl⟩
 rw[ez.out]at rz;have RZ:=Hd rz;obtain ⟨n1,A1,l1,m1,rfl,rfl⟩:=rz.fs;obtain ⟨V2,eV,u,kp,_⟩:=pack2 tR Fs.nil (.bool n1) (.slice A1 l1 m1);obtain ⟨v0,v1,v2,v3,_⟩:=tR;have EV:=Hd eV;have KP:=Hd kp;have U:=Hd u;clear eV kp u rz;go_wp2
 rw[EV.out];refine bodyPost_ret (v:=.agg #[.bool n1,.slice A1 l1 m1]) (by simp[results,Tryz.f146,go_sem,U.out.c0,U.out.c1]) rfl ?_;rw[ez.out];exact ⟨_,_,rfl,KP.out.zc _ _ _ RZ.out,KP.out.bel _ _ HB.out (by omega)⟩
structure KeptG (g:Nat)(w V:World):Prop where
 cell:∀p:Addr,p.block≠g->V.cell? p=w.cell? p
 froz:∀p:Addr,V.frozen? p=w.frozen? p
 zc:∀x y z,Zc w x y z->Zc V x y z
 zi:∀x y z,Zi w x y z->Zi V x y z
 bel:∀B w0,Below B w0 w->B<=g->Below B w0 V
 size:V.heap.size=w.heap.size
 rd:∀A xs,Rd .u32 w w.heap.size A xs->Rd .u32 V V.heap.size A xs
theorem KeptG.zl {g:Nat}{w V:World}(kp:KeptG g w V){x y:Value}{z:Int}(h:Zl w x y z):Zl V x y z:=zl_of h (kp.zi _ _ _)
theorem KeptG.qc {g:Nat}{w V:World}(kp:KeptG g w V){a b c d:Value}{r:Rat}(h:Qc w a b c d r):Qc V a b c d r:=⟨kp.zc _ _ _ h.1,kp.zc _ _ _ h.2⟩
theorem KeptG.up {g:Nat}{w V:World}(kp:KeptG g w V){a b c d:Value}{r:Rat}{k:Nat}{N D:Int}(h:Up w a b c d r k N D):Up V a b c d r k N D:=⟨kp.zl h.n,kp.zl h.d,h.pos,h.eq,h.sn,h.sd⟩
theorem KeptG.two {g g':Nat}{w V:World}(kp:KeptG g w V){a b:Value}(hne:g'≠g)(h:Two w g' a b):Two V g' a b :=
 ⟨(kp.cell _ hne).trans h.c0,(kp.cell _ hne).trans h.c1,(kp.froz _).trans h.f0,(kp.froz _).trans h.f1,by rw[kp.size];exact h.lt⟩
theorem KeptG.four {g g':Nat}{w V:World}(kp:KeptG g w V){a b c d:Value}(hne:g'≠g)(h:Four w g' a b c d):Four V g' a b c d :=
 ⟨(kp.cell _ hne).trans h.c0,(kp.cell _ hne).trans h.c1,(kp.cell _ hne).trans h.c2,(kp.cell _ hne).trans h.c3,(kp.froz _).trans h.f0,(kp.froz _).trans h.f1,(kp.froz _).trans h.f2,(kp.froz _).trans h.f3,by rw[kp.size];exact h.lt⟩
theorem KeptG.of4 {w:World}{g:Nat}{a b c d:Value}(t:Four w g a b c d)(f:Fq a b c d)(a' b' c' d':Value):KeptG g w (put4 w g a' b' c' d') :=
 ⟨fun _ hp=>cell_put4 (a:=a) (b:=b) (c:=c) (d:=d) hp _ _ _ _,fun _=>frozen_put4 _ _ _ _,(Kept4.of t f _ _ _ _).zc,(Kept4.of t f _ _ _ _).zi,(Kept4.of t f _ _ _ _).bel,(Kept4.of t f _ _ _ _).size,fun A xs h=>by
  rw[size_put4]
  exact Rd.put4 t f.1.nint.1 f.1.nint.2 f.2.nint.1 f.2.nint.2 h _ _ _ _⟩
theorem cell_far2 {w:World}{g:Nat}{u v:Value}{p:Addr}(hp:p.block≠g):((w.setCell ⟨g,0,none⟩ u).setCell ⟨g,1,none⟩ v).cell? p=w.cell? p:=by
 rw[World.cell?_setCell_other _ _ _ _ (by intro e;exact hp (by rw[<-e])),World.cell?_setCell_other _ _ _ _ (by intro e;exact hp (by rw[<-e]))]
theorem KeptG.of2 {w:World}{g:Nat}{a b:Value}(t:Two w g a b)(f:Fs a b)(a' b':Value):KeptG g w ((w.setCell ⟨g,0,none⟩ a').setCell ⟨g,1,none⟩ b'):=by
 have k:=Kept.of t f.nint.1 f.nint.2 a' b'
 exact ⟨fun _ hp=>cell_far2 hp,fun _=>by rw[World.frozen?_setCell,World.frozen?_setCell],k.zc,k.zi,k.bel,k.size,fun A xs h=>by
  have hsz:=k.size
  exact (Rd.set2' t f.nint.1 f.nint.2 h _ _).more (by rw[hsz];exact Nat.le_refl _)⟩
section
variable {ac : Act} {w : World} {K : Act -> World -> Prop} {Q : Exit -> Act -> World -> Prop} {d : Option Tmp} {ty : TypeId} {pos : String} {after : Array Edge} {guard : Option (Nat × Bool)}
theorem wp_store_z {g:Nat}{x y x0 y0:Value}{p v:Operand}(hp:ac.eval p=.pointer (some ⟨g,0,none⟩))(hv:ac.eval v=.agg #[x,y])(t:Two w g x0 y0)(f0:Fs x0 y0)(f1:Fs x y)
  (h:∀V:World,Two V g x y->KeptG g w V->K (ac.put d undef) V) :
  Oper.wp Tryz.prog ⟨d,.store 30 p v,ty,pos,after,guard⟩ ac w K Q:=by
 have h1:=h _ (t.set _ _) (KeptG.of2 t f0 _ _);obtain ⟨n1,A1,k1,c1,rfl,rfl⟩:=f1;have u0:=t.c0;have u1:=t.c1;have v0:=t.f0;have v1:=t.f1;clear h t;simp only[Oper.wp,execOp,hp,hv];go_simp
 exact h1
theorem wp_store_q {g:Nat}{a b c e a0 b0 c0 e0:Value}{p v:Operand}(hp:ac.eval p=.pointer (some ⟨g,0,none⟩))(hv:ac.eval v=.agg #[a,b,c,e])(t:Four w g a0 b0 c0 e0)(f0:Fq a0 b0 c0 e0)(f1:Fq a b c e)
  (h:∀V:World,Four V g a b c e->KeptG g w V->K (ac.put d undef) V) :
  Oper.wp Tryz.prog ⟨d,.store 32 p v,ty,pos,after,guard⟩ ac w K Q:=by
 have h1:=h _ (t.set a b c e) (KeptG.of4 t f0 a b c e);obtain ⟨⟨n1,A1,k1,l1,rfl,rfl⟩,⟨n2,A2,k2,l2,rfl,rfl⟩⟩:=f1;have u0:=t.c0;have u1:=t.c1;have u2:=t.c2;have u3:=t.c3;have v0:=t.f0;have v1:=t.f1;have v2:=t.f2;have v3:=t.f3;clear h t;unfold put4 at h1;simp only[Oper.wp,execOp,hp,hv];go_simp
 exact h1
end
theorem load_four {W:World}{g t:Nat}{a b c e:Value}{ac:Act}{d:Option Tmp}{ty:TypeId}{pos:String}{after:Array Edge}{guard:Option (Nat×Bool)}(ht:ac.eval (.tmp t)=.pointer (some ⟨g,0,none⟩))(h:Four W g a b c e) :
  (execOp ac.eval ⟨d,.load 32 (.tmp t),ty,pos,after,guard⟩).run Tryz.prog W=.ok (.value (.agg #[a,b,c,e])) W:=by
 have h0:=h.c0;have h1:=h.c1;have h2:=h.c2;have h3:=h.c3;simp only[execOp,ht];go_simp
theorem clos_add {w:World}{a1 a2 a3 a4 b1 b2 b3 b4:Value}{N D N' D':Int}{k l:Nat}(h1:Zl w a1 a2 N)(h2:Zl w a3 a4 D)(h3:Zl w b1 b2 N')(h4:Zl w b3 b4 D')(m1:Sm k N)(m2:Sm k D)(m3:Sm l N')(m4:Sm l D')(hkl:k+l<=10000) :
  Calls Tryz.prog 145 #[.agg #[a1,a2,a3,a4],.agg #[b1,b2,b3,b4]] w (ZR w (N*D'+N'*D)):=by
 obtain ⟨W0,hW0⟩:∃W0,W0=((w.alloc (.cells #[a1,a2,a3,a4] 32)).alloc (.cells #[b1,b2,b3,b4] 32)).alloc (.cells #[.bool false,.slice none 0 0] 30):=⟨_,rfl⟩
 have hbw:Below w.heap.size w W0:=by rw[hW0];exact (bRR.alloc (by simp) _).alloc (by simp;omega) _
 have tA:Four W0 w.heap.size a1 a2 a3 a4:=by rw[hW0];exact ((Four.new w _ _ _ _ _).alloc _).alloc _
 have tB:Four W0 (w.heap.size+1) b1 b2 b3 b4:=by
  have h:=Four.new (w.alloc (.cells #[a1,a2,a3,a4] 32)) b1 b2 b3 b4 32;rw[szA]at h;rw[hW0];exact h.alloc _
 have tR:Two W0 (w.heap.size+1+1) (.bool false) (.slice none 0 0):=by
  have h:=Two.new ((w.alloc (.cells #[a1,a2,a3,a4] 32)).alloc (.cells #[b1,b2,b3,b4] 32)) (.bool false) (.slice none 0 0) 30;rw[szA,szA]at h;rw[hW0];exact h
 have HW0:=Hd hW0;replace h1:=h1.to hbw;replace h2:=h2.to hbw;replace h3:=h3.to hbw;replace h4:=h4.to hbw;have s1:Sg (N*D'):=(m1.mul m4).sg (by omega);have s2:Sg (N'*D):=((m3.mul m2).mono (Nat.le_of_eq (Nat.add_comm l k))).sg (by omega);have HB0:=Hd hbw;clear hW0 hbw m1 m2 m3 m4 hkl
 go_enter Tryz.func145,Tryz.ntmps145
 go_wp2_with fail
 rw[<-HW0.out];clear HW0;refine wp_region_plan (S:=fun w'=>Below w.heap.size w w'/\Four w' w.heap.size a1 a2 a3 a4/\Four w' (w.heap.size+1) b1 b2 b3 b4) [(0,true),(1,true),(3,true),(4,true),(2,false),(5,false),(6,false),(7,false)] (by kernel_rfl) (by kernel_rfl) ⟨HB0.out.drew,tA.to (Below.refl _ _).drew,tB.to (Below.refl _ _).drew⟩ ?_;have HB:=HB0.out.drew;have bb:=(Below.refl W0.heap.size W0).drew;replace tA:=tA.to bb;replace tB:=tB.to bb;replace tR:=tR.to bb;replace h1:=h1.to bb;replace h2:=h2.to bb;replace h3:=h3.to bb;replace h4:=h4.to bb;clear bb;refine plan_take rfl (by rfl) (fun w' hS=>load_four (by rfl) hS.2.1) ?_
 iterate 2 (refine plan_take rfl (by rfl) (fun w' hS=>load_four (by rfl) hS.2.2) ?_)
 refine plan_take rfl (by rfl) (fun w' hS=>load_four (by rfl) hS.2.1) ?_;refine plan_call rfl (by rfl) (fun K hK=>?_);go_simp
 refine (cross_z h1 h4).mono ?_;rintro e V1 ⟨x1,y1,rfl,z1,bb⟩;replace HB:=Bxb HB bb;replace tA:=tA.to bb;replace tB:=tB.to bb;replace tR:=tR.to bb;replace h1:=h1.to bb;replace h2:=h2.to bb;replace h3:=h3.to bb;replace h4:=h4.to bb;refine hK.out _ _ ⟨HB,tA,tB⟩ ?_;clear hK K bb;refine plan_call rfl (by rfl) (fun K hK=>?_);go_simp
 refine (cross_z h3 h2).mono ?_;rintro e V2 ⟨x2,y2,rfl,z2,bb⟩;replace HB:=Bxb HB bb;replace tA:=tA.to bb;replace tB:=tB.to bb;replace tR:=tR.to bb;replace z1:=z1.to bb;refine hK.out _ _ ⟨HB,tA,tB⟩ ?_;clear hK K bb h1 h2 h3 h4;refine plan_call rfl (by rfl) (fun K hK=>?_);go_simp
 refine (add_z (z1.zs s1).zi (z2.zs s2).zi).mono ?_;rintro e V3 ⟨x3,y3,rfl,z3,bb⟩;replace HB:=Bxb HB bb;replace tA:=tA.to bb;replace tB:=tB.to bb;replace tR:=tR.to bb;refine hK.out _ _ ⟨HB,tA,tB⟩ ?_;clear hK K bb z1 z2;refine plan_call rfl (by rfl) (fun K hK=>?_);refine wp_store_z (by rfl) (by rfl) tR Fs.nil z3.fs (fun V u kp=>?_);replace tA:=kp.four (by omega) tA;replace tB:=kp.four (by omega) tB;replace HB:=kp.bel _ _ HB (by omega);replace z3:=kp.zc _ _ _ z3;refine hK.out _ _ ⟨HB,tA,tB⟩ ?_;clear hK K kp tR;refine plan_done ?_;have U0:=u.c0;have U1:=u.c1;clear tA tB u;obtain ⟨n1,A1,l1,m1,rfl,rfl⟩:=z3.fs;have Z3:=Hd z3;have HE:=Hd HB;clear z3 HB HB0;go_wp2
 refine bodyPost_ret (v:=.agg #[.bool n1,.slice A1 l1 m1]) (by simp[results,Tryz.f145,go_sem,U0,U1]) rfl ?_;exact ⟨_,_,rfl,Z3.out,HE.out⟩
end Go.Proofs.YtglhdielkkhefaaGreat

namespace Go.Proofs.YtglhdielkkhefaaGreat
open Go
theorem alloc_set (w:World)(o o':Obj):({ w.alloc o with heap:=(w.alloc o).heap.setIfInBounds w.heap.size o' } : World)=w.alloc o':=by
 have h:(w.heap.push o).setIfInBounds w.heap.size o'=w.heap.push o':=by
  apply Array.ext
  .simp
  .intro i h1 h2;rw[Array.getElem_setIfInBounds,Array.getElem_push,Array.getElem_push];simp at h2
   split
   .rename_i h3
    rw[dif_neg (by omega)]
   .rename_i h3
    rw[dif_pos (by omega),dif_pos (by omega)]
   .rw[Array.size_push]at h2 ⊢;exact h2
 unfold World.alloc;simp only[h]
section
variable {P : Program} {w W : World} {t kt et : TypeId} {es : Array MapEntry} {c : Nat} {k : Int} {kd : IntKind} {v : Value}
theorem run_ins (hm:P.underlying t=some (.map kt et))(hd:P.underlying kt=some (.int kd))(hf:Instr.findNow (.int kd) (.int kd k) es.toList 0=some none) :
  (Instr.mapUpdate t (.map (some w.heap.size)) (.int kd k) v).run P (w.alloc (.map es c))=.ok () (w.alloc (.map (es.push ⟨.int kd k,v,c⟩) (c+1))):=by
 have hb:=World.alloc_heap_new w (.map es c);have hk:MapKept.IsKey (.int kd) (.int kd k):=by first|exact ⟨k,rfl⟩|exact rfl|simp[MapKept.IsKey]
 have:=alloc_set w (.map es c) (.map (es.push ⟨.int kd k,v,c⟩) (c+1));simp[Instr.mapUpdate,run_underlying hm,MapKept.run_getObj_map hb,MapKept.run_checkKey hd hk,MapKept.run_findKey hd hf,MapKept.run_setObj_map _ hb,Result.andThen];exact this
theorem run_look {b i:Nat}(hm:P.underlying t=some (.map kt et))(hd:P.underlying kt=some (.int kd))(hb:W.heap[b]?=some (.map es c))(hf:Instr.findNow (.int kd) (.int kd k) es.toList 0=some (some (i,v))) :
  (Instr.lookup t (.map (some b)) (.int kd k) false).run P W=.ok v W:=by
 have hk:MapKept.IsKey (.int kd) (.int kd k):=by first|exact ⟨k,rfl⟩|exact rfl|simp[MapKept.IsKey]
 simp[Instr.lookup,run_underlying hm,MapKept.run_getObj_map hb,MapKept.run_checkKey hd hk,MapKept.run_findKey hd hf,Result.andThen]
end
end Go.Proofs.YtglhdielkkhefaaGreat

namespace Go.Proofs.YtglhdielkkhefaaGreat
open Go.RowKit Go.Shelf
theorem callf_enter {P : Program} {f : FuncId} {fn : Func} (hf : P.funcs[f]? = some fn) (hname : (fn.name == "runtime.NumGoroutine") = false) (hb : fn.body.isNone = false) (args : Array Value) (w : World) :
  (callFunc f args).run P w=.ok (.enter f args) w:=by
 have h1 : fn.name ≠ "runtime.NumGoroutine" := by simpa using hname
 have h2:fn.body≠none:=fun h=>by rw[h]at hb;cases hb
 simp[callFunc,hf,h1,h2]
theorem operate_any {w:World}{a1 a2 a3 a4 b1 b2 b3 b4:Value}{r s R:Rat}{k l i:Nat}{sg:Int}{fn fd:Nat}(h1:Qi w a1 a2 a3 a4 r k)(h2:Qi w b1 b2 b3 b4 s l)(hk:0<k)(hl:0<l)(hk2:k<=10000)(hl2:l<=10000)
  (hf:Instr.findNow (.int .i32) (.int .i32 sg) #[⟨.int .i32 43,.agg #[.func (.func 145) #[] #[],.func (.func 146) #[] #[]],0⟩,⟨.int .i32 45,.agg #[.func (.func 147) #[] #[],.func (.func 146) #[] #[]],1⟩,⟨.int .i32 42,.agg #[.func (.func 149) #[] #[],.func (.func 146) #[] #[]],2⟩,⟨.int .i32 47,.agg #[.func (.func 113) #[] #[],.func (.func 150) #[] #[]],3⟩].toList 0=some (some (i,.agg #[.func (.func fn) #[] #[],.func (.func fd) #[] #[]])))
  (ecn:∀args V,(callFunc fn args).run Tryz.prog V=.ok (.enter fn args) V) (ecd:∀args V,(callFunc fd args).run Tryz.prog V=.ok (.enter fd args) V)
  (num den:Int->Int->Int->Int->Int)
  (hn:∀(V:World) (a1 a2 a3 a4 b1 b2 b3 b4:Value) (N1 D1 N2 D2:Int),Up V a1 a2 a3 a4 r k N1 D1->Up V b1 b2 b3 b4 s l N2 D2->Calls Tryz.prog fn #[.agg #[a1,a2,a3,a4],.agg #[b1,b2,b3,b4]] V (ZR V (num N1 D1 N2 D2)))
  (hd:∀(V:World) (a1 a2 a3 a4 b1 b2 b3 b4:Value) (N1 D1 N2 D2:Int),Up V a1 a2 a3 a4 r k N1 D1->Up V b1 b2 b3 b4 s l N2 D2->Calls Tryz.prog fd #[.agg #[a1,a2,a3,a4],.agg #[b1,b2,b3,b4]] V (ZR V (den N1 D1 N2 D2)))
  (hz:∀N1 D1 N2 D2:Int,0<D1->0<D2->Sm k N1->Sm k D1->Sm l N2->Sm l D2->Rat.divInt N1 D1=r->Rat.divInt N2 D2=s->den N1 D1 N2 D2≠0/\Sg (num N1 D1 N2 D2)/\Sg (den N1 D1 N2 D2)/\Rat.divInt (num N1 D1 N2 D2) (den N1 D1 N2 D2)=R) :
  Calls Tryz.prog 114 #[.int .i32 sg,.agg #[a1,a2,a3,a4],.agg #[b1,b2,b3,b4]] w (QR w R):=by
 obtain ⟨W0,hW0⟩:∃W0,W0=((w.alloc (.cells #[a1,a2,a3,a4] 32)).alloc (.cells #[b1,b2,b3,b4] 32)).alloc (.cells #[.bool false,.slice none 0 0,.bool false,.slice none 0 0] 32):=⟨_,rfl⟩
 have hbw:Below w.heap.size w W0:=by rw[hW0];exact (bRR.alloc (by simp) _).alloc (by simp;omega) _
 have tA:Four W0 w.heap.size a1 a2 a3 a4:=by rw[hW0];exact ((Four.new w _ _ _ _ _).alloc _).alloc _
 have tB:Four W0 (w.heap.size+1) b1 b2 b3 b4:=by
  have h:=Four.new (w.alloc (.cells #[a1,a2,a3,a4] 32)) b1 b2 b3 b4 32;rw[szA]at h;rw[hW0];exact h.alloc _
 have tR:Four W0 (w.heap.size+1+1) (.bool false) (.slice none 0 0) (.bool false) (.slice none 0 0):=by
  have h:=Four.new ((w.alloc (.cells #[a1,a2,a3,a4] 32)).alloc (.cells #[b1,b2,b3,b4] 32)) (.bool false) (.slice none 0 0) (.bool false) (.slice none 0 0) 32;rw[szA,szA]at h;rw[hW0];exact h
 have HW0:=Hd hW0;have HU1:Hid (∀V,Below W0.heap.size W0 V->Calls Tryz.prog 111 #[.agg #[a1,a2,a3,a4]] V (UpR V r k)):=fun V hb=>upright_q ((h1.to hbw).to hb) hk hk2
 have HU2:Hid (∀V,Below W0.heap.size W0 V->Calls Tryz.prog 111 #[.agg #[b1,b2,b3,b4]] V (UpR V s l)):=fun V hb=>upright_q ((h2.to hbw).to hb) hl hl2
 have ECN:=Hd ecn;have ECD:=Hd ecd;have HN:=Hd hn;have HD:=Hd hd;have HZ:=Hd hz;have HB0:=Hd hbw;clear hW0 hbw h1 h2 hk hl hk2 hl2 hn hd hz ecn ecd;have e0:(Instr.makeMap 121 none).run Tryz.prog W0=.ok (.map (some W0.heap.size)) (W0.alloc (.map #[] 0)):=rfl;have e1:(Instr.mapUpdate 121 (.map (some W0.heap.size)) (.int .i32 43) (.agg #[.func (.func 145) #[] #[],.func (.func 146) #[] #[]])).run Tryz.prog (W0.alloc (.map #[] 0))=.ok () (W0.alloc (.map #[⟨.int .i32 43,.agg #[.func (.func 145) #[] #[],.func (.func 146) #[] #[]],0⟩] 1)):=run_ins Tryz.underlying121 Tryz.underlying21 rfl;have e2:(Instr.mapUpdate 121 (.map (some W0.heap.size)) (.int .i32 45) (.agg #[.func (.func 147) #[] #[],.func (.func 146) #[] #[]])).run Tryz.prog (W0.alloc (.map #[⟨.int .i32 43,.agg #[.func (.func 145) #[] #[],.func (.func 146) #[] #[]],0⟩] 1))=.ok () (W0.alloc (.map #[⟨.int .i32 43,.agg #[.func (.func 145) #[] #[],.func (.func 146) #[] #[]],0⟩,⟨.int .i32 45,.agg #[.func (.func 147) #[] #[],.func (.func 146) #[] #[]],1⟩] 2)):=run_ins Tryz.underlying121 Tryz.underlying21 rfl;have e3:(Instr.mapUpdate 121 (.map (some W0.heap.size)) (.int .i32 42) (.agg #[.func (.func 149) #[] #[],.func (.func 146) #[] #[]])).run Tryz.prog (W0.alloc (.map #[⟨.int .i32 43,.agg #[.func (.func 145) #[] #[],.func (.func 146) #[] #[]],0⟩,⟨.int .i32 45,.agg #[.func (.func 147) #[] #[],.func (.func 146) #[] #[]],1⟩] 2))=.ok () (W0.alloc (.map #[⟨.int .i32 43,.agg #[.func (.func 145) #[] #[],.func (.func 146) #[] #[]],0⟩,⟨.int .i32 45,.agg #[.func (.func 147) #[] #[],.func (.func 146) #[] #[]],1⟩,⟨.int .i32 42,.agg #[.func (.func 149) #[] #[],.func (.func 146) #[] #[]],2⟩] 3)):=run_ins Tryz.underlying121 Tryz.underlying21 rfl;have e4:(Instr.mapUpdate 121 (.map (some W0.heap.size)) (.int .i32 47) (.agg #[.func (.func 113) #[] #[],.func (.func 150) #[] #[]])).run Tryz.prog (W0.alloc (.map #[⟨.int .i32 43,.agg #[.func (.func 145) #[] #[],.func (.func 146) #[] #[]],0⟩,⟨.int .i32 45,.agg #[.func (.func 147) #[] #[],.func (.func 146) #[] #[]],1⟩,⟨.int .i32 42,.agg #[.func (.func 149) #[] #[],.func (.func 146) #[] #[]],2⟩] 3))=.ok () (W0.alloc (.map #[⟨.int .i32 43,.agg #[.func (.func 145) #[] #[],.func (.func 146) #[] #[]],0⟩,⟨.int .i32 45,.agg #[.func (.func 147) #[] #[],.func (.func 146) #[] #[]],1⟩,⟨.int .i32 42,.agg #[.func (.func 149) #[] #[],.func (.func 146) #[] #[]],2⟩,⟨.int .i32 47,.agg #[.func (.func 113) #[] #[],.func (.func 150) #[] #[]],3⟩] 4)):=run_ins Tryz.underlying121 Tryz.underlying21 rfl
 have e6:(Instr.lookup 121 (.map (some W0.heap.size)) (.int .i32 sg) false).run Tryz.prog (W0.alloc (.map #[⟨.int .i32 43,.agg #[.func (.func 145) #[] #[],.func (.func 146) #[] #[]],0⟩,⟨.int .i32 45,.agg #[.func (.func 147) #[] #[],.func (.func 146) #[] #[]],1⟩,⟨.int .i32 42,.agg #[.func (.func 149) #[] #[],.func (.func 146) #[] #[]],2⟩,⟨.int .i32 47,.agg #[.func (.func 113) #[] #[],.func (.func 150) #[] #[]],3⟩] 4))=.ok (.agg #[.func (.func fn) #[] #[],.func (.func fd) #[] #[]]) (W0.alloc (.map #[⟨.int .i32 43,.agg #[.func (.func 145) #[] #[],.func (.func 146) #[] #[]],0⟩,⟨.int .i32 45,.agg #[.func (.func 147) #[] #[],.func (.func 146) #[] #[]],1⟩,⟨.int .i32 42,.agg #[.func (.func 149) #[] #[],.func (.func 146) #[] #[]],2⟩,⟨.int .i32 47,.agg #[.func (.func 113) #[] #[],.func (.func 150) #[] #[]],3⟩] 4)):=run_look Tryz.underlying121 Tryz.underlying21 (World.alloc_heap_new W0 (.map #[⟨.int .i32 43,.agg #[.func (.func 145) #[] #[],.func (.func 146) #[] #[]],0⟩,⟨.int .i32 45,.agg #[.func (.func 147) #[] #[],.func (.func 146) #[] #[]],1⟩,⟨.int .i32 42,.agg #[.func (.func 149) #[] #[],.func (.func 146) #[] #[]],2⟩,⟨.int .i32 47,.agg #[.func (.func 113) #[] #[],.func (.func 150) #[] #[]],3⟩] 4)) hf;clear hf
 go_enter Tryz.func114,Tryz.ntmps114
 go_wp2_with fail
 rw[<-HW0.out,e0]
 go_wp2_with fail
 obtain ⟨W1,hW1⟩:∃W1,W1=(W0.alloc (.map #[⟨.int .i32 43,.agg #[.func (.func 145) #[] #[],.func (.func 146) #[] #[]],0⟩,⟨.int .i32 45,.agg #[.func (.func 147) #[] #[],.func (.func 146) #[] #[]],1⟩,⟨.int .i32 42,.agg #[.func (.func 149) #[] #[],.func (.func 146) #[] #[]],2⟩,⟨.int .i32 47,.agg #[.func (.func 113) #[] #[],.func (.func 150) #[] #[]],3⟩] 4)).alloc (.cells #[.func (.func fn) #[] #[],.func (.func fd) #[] #[]] 120):=⟨_,rfl⟩
 obtain ⟨g8,hg8⟩:∃g,g=W0.heap.size+1:=⟨_,rfl⟩
 have bw:Below W0.heap.size W0 W1:=by rw[hW1];exact bRR.alloc (by simp) _
 have t8:Two W1 g8 (.func (.func fn) #[] #[]) (.func (.func fd) #[] #[]):=by
  have h:=Two.new (W0.alloc (.map #[⟨.int .i32 43,.agg #[.func (.func 145) #[] #[],.func (.func 146) #[] #[]],0⟩,⟨.int .i32 45,.agg #[.func (.func 147) #[] #[],.func (.func 146) #[] #[]],1⟩,⟨.int .i32 42,.agg #[.func (.func 149) #[] #[],.func (.func 146) #[] #[]],2⟩,⟨.int .i32 47,.agg #[.func (.func 113) #[] #[],.func (.func 150) #[] #[]],3⟩] 4)) (.func (.func fn) #[] #[]) (.func (.func fd) #[] #[]) 120;rw[szA]at h;rw[hW1,hg8];exact h
 have gne:w.heap.size+1+1<g8:=by have:=tR.lt;omega
 rw[<-hW1,<-hg8];clear hW1 hg8 e0 e1 e2 e3 e4 e6 HW0;replace tA:=tA.to bw;replace tB:=tB.to bw;replace tR:=tR.to bw;replace HU1:Hid (∀V,Below W1.heap.size W1 V->Calls Tryz.prog 111 #[.agg #[a1,a2,a3,a4]] V (UpR V r k)):=fun V hb=>HU1.out V (Bxb bw hb)
 replace HU2:Hid (∀V,Below W1.heap.size W1 V->Calls Tryz.prog 111 #[.agg #[b1,b2,b3,b4]] V (UpR V s l)):=fun V hb=>HU2.out V (Bxb bw hb)
 replace HB0:=Hxb HB0 bw;clear bw;refine wp_cut (fun a' v' w'=>∃(x1 x2:Value) (g1 g2:Nat) (u10 u11 u12 u13 u20 u21 u22 u23 y1 y2:Value) (N1 D1 N2 D2:Int),v'=((((((a'.put (some 20) x1).put (some 22) x2).put (some 21) y1).put (some 23) y2).put (some 9) (.pointer (some ⟨g1,0,none⟩))).put (some 10) (.pointer (some ⟨g2,0,none⟩)))/\Four w' g1 u10 u11 u12 u13/\Four w' g2 u20 u21 u22 u23/\Up w' u10 u11 u12 u13 r k N1 D1/\Up w' u20 u21 u22 u23 s l N2 D2/\(W1.heap.size<=g1/\W1.heap.size<=g2)/\Below W1.heap.size W1 w') ?_ ?_
 .refine wp_region_planTo (S:=fun w'=>Below W1.heap.size W1 w') [(0,true),(2,true)] #[true,false,true,false,false,false,false,false] 6 (by kernel_rfl) (by kernel_rfl) (Below.refl _ _).drew ?_;refine plan_take rfl (by rfl) (fun w' hS=>load_four (by rfl) (tA.to hS)) ?_;simp only[Act.put,pqA,pqB,pqC];refine plan_take rfl (by rfl) (fun w' hS=>load_four (by rfl) (tB.to hS)) ?_;simp only[Act.put,pqA,pqB,pqC];intro HB;refine wpAnyH_ready (rs:=[1,4,5]) (by kernel_rfl) (by simp) (ready_cons rfl (by rfl) (fun K hK=>?_) (ready_cons rfl (by rfl) (fun K hK=>?_) (ready_cons rfl (by rfl) (fun K hK=>?_) AllReadyH.nil)))
  .go_simp
   refine (HU1 _ HB).mono ?_;rintro e V ⟨u10,u11,u12,u13,N1,D1,rfl,r1,bb⟩;replace HB:=Bxb HB bb;refine hK.out _ _ HB ?_;clear hK K bb;refine wpAnyH_ready (rs:=[3,4,5]) (by kernel_rfl) (by simp) (ready_cons rfl (by rfl) (fun K hK=>?_) (ready_cons rfl (by rfl) (fun K hK=>?_) (ready_cons rfl (by rfl) (fun K hK=>?_) AllReadyH.nil)))
   .go_simp
    refine (HU2 _ HB).mono ?_;rintro e V ⟨u20,u21,u22,u23,N2,D2,rfl,r2,bb⟩;replace HB:=Bxb HB bb;replace r1:=r1.to bb;refine hK.out _ _ HB ?_;clear hK K bb;refine wpAnyH_ready (rs:=[4,5]) (by kernel_rfl) (by simp) (ready_cons rfl (by rfl) (fun K hK=>?_) (ready_cons rfl (by rfl) (fun K hK=>?_) AllReadyH.nil))
    .refine wp_alloc_four (fun g1 V t1 bb hg=>?_);have b1:=Nat.le_trans HB.size hg;replace HB:=Bxb HB bb;replace r1:=r1.to bb;replace r2:=r2.to bb;refine hK.out _ _ HB ?_;clear hK K bb hg;simp only[Act.put,pqA,pqB,pqC];refine rdy1 (i:=5) (by kernel_rfl) rfl (by rfl) (fun K hK=>?_)
     .refine wp_alloc_four (fun g2 V t2 bb hg=>?_);have b2:=Nat.le_trans HB.size hg;replace HB:=Bxb HB bb;have ne:g1≠g2:=Nat.ne_of_lt (Nat.lt_of_lt_of_le t1.lt hg);replace t1:=t1.to bb;replace r1:=r1.to bb;replace r2:=r2.to bb;refine hK.out _ _ HB ?_;clear hK K bb hg;simp only[Act.put,pqA,pqB,pqC];refine rdy1 (i:=6) (by kernel_rfl) rfl (by rfl) (fun K hK=>?_)
      .refine wp_store_q (by rfl) (by rfl) t1 Fq.nil r1.fq (fun V u kp=>?_);replace t2:=kp.four (Ne.symm ne) t2;replace r1:=kp.up r1;replace r2:=kp.up r2;replace HB:=kp.bel _ _ HB b1;clear t1;have t1:=u;refine hK.out _ _ HB ?_;clear hK K kp u;simp only[Act.put,pqA,pqB,pqC];refine rdy1 (i:=7) (by kernel_rfl) rfl (by rfl) (fun K hK=>?_)
       .refine wp_store_q (by rfl) (by rfl) t2 Fq.nil r2.fq (fun V u kp=>?_);replace t1:=kp.four ne t1;replace r1:=kp.up r1;replace r2:=kp.up r2;replace HB:=kp.bel _ _ HB b2;clear t2;have t2:=u;refine hK.out _ _ HB ?_;clear hK K kp u;simp only[Act.put,pqA,pqB,pqC];exact wpAnyH_done (by kernel_rfl) ⟨rfl,_,_,g1,g2,_,_,_,_,_,_,_,_,_,_,_,_,_,_,by rfl,t1,t2,r1,r2,⟨b1,b2⟩,HB⟩ _
    .refine wp_alloc_four (fun g2 V t2 bb hg=>?_);have b2:=Nat.le_trans HB.size hg;replace HB:=Bxb HB bb;replace r1:=r1.to bb;replace r2:=r2.to bb;refine hK.out _ _ HB ?_;clear hK K bb hg;simp only[Act.put,pqA,pqB,pqC];refine rdy1 (i:=4) (by kernel_rfl) rfl (by rfl) (fun K hK=>?_)
     .refine wp_alloc_four (fun g1 V t1 bb hg=>?_);have b1:=Nat.le_trans HB.size hg;replace HB:=Bxb HB bb;have ne:g1≠g2:=Nat.ne_of_gt (Nat.lt_of_lt_of_le t2.lt hg);replace t2:=t2.to bb;replace r1:=r1.to bb;replace r2:=r2.to bb;refine hK.out _ _ HB ?_;clear hK K bb hg;simp only[Act.put,pqA,pqB,pqC];refine rdy1 (i:=6) (by kernel_rfl) rfl (by rfl) (fun K hK=>?_)
      .refine wp_store_q (by rfl) (by rfl) t1 Fq.nil r1.fq (fun V u kp=>?_);replace t2:=kp.four (Ne.symm ne) t2;replace r1:=kp.up r1;replace r2:=kp.up r2;replace HB:=kp.bel _ _ HB b1;clear t1;have t1:=u;refine hK.out _ _ HB ?_;clear hK K kp u;simp only[Act.put,pqA,pqB,pqC];refine rdy1 (i:=7) (by kernel_rfl) rfl (by rfl) (fun K hK=>?_)
       .refine wp_store_q (by rfl) (by rfl) t2 Fq.nil r2.fq (fun V u kp=>?_);replace t1:=kp.four ne t1;replace r1:=kp.up r1;replace r2:=kp.up r2;replace HB:=kp.bel _ _ HB b2;clear t2;have t2:=u;refine hK.out _ _ HB ?_;clear hK K kp u;simp only[Act.put,pqA,pqB,pqC];exact wpAnyH_done (by kernel_rfl) ⟨rfl,_,_,g1,g2,_,_,_,_,_,_,_,_,_,_,_,_,_,_,by rfl,t1,t2,r1,r2,⟨b1,b2⟩,HB⟩ _
   .refine wp_alloc_four (fun g1 V t1 bb hg=>?_);have b1:=Nat.le_trans HB.size hg;replace HB:=Bxb HB bb;replace r1:=r1.to bb;refine hK.out _ _ HB ?_;clear hK K bb hg;simp only[Act.put,pqA,pqB,pqC];refine wpAnyH_ready (rs:=[3,5]) (by kernel_rfl) (by simp) (ready_cons rfl (by rfl) (fun K hK=>?_) (ready_cons rfl (by rfl) (fun K hK=>?_) AllReadyH.nil))
    .go_simp
     refine (HU2 _ HB).mono ?_;rintro e V ⟨u20,u21,u22,u23,N2,D2,rfl,r2,bb⟩;replace HB:=Bxb HB bb;replace t1:=t1.to bb;replace r1:=r1.to bb;refine hK.out _ _ HB ?_;clear hK K bb;refine rdy1 (i:=5) (by kernel_rfl) rfl (by rfl) (fun K hK=>?_)
     .refine wp_alloc_four (fun g2 V t2 bb hg=>?_);have b2:=Nat.le_trans HB.size hg;replace HB:=Bxb HB bb;have ne:g1≠g2:=Nat.ne_of_lt (Nat.lt_of_lt_of_le t1.lt hg);replace t1:=t1.to bb;replace r1:=r1.to bb;replace r2:=r2.to bb;refine hK.out _ _ HB ?_;clear hK K bb hg;simp only[Act.put,pqA,pqB,pqC];refine rdy1 (i:=6) (by kernel_rfl) rfl (by rfl) (fun K hK=>?_)
      .refine wp_store_q (by rfl) (by rfl) t1 Fq.nil r1.fq (fun V u kp=>?_);replace t2:=kp.four (Ne.symm ne) t2;replace r1:=kp.up r1;replace r2:=kp.up r2;replace HB:=kp.bel _ _ HB b1;clear t1;have t1:=u;refine hK.out _ _ HB ?_;clear hK K kp u;simp only[Act.put,pqA,pqB,pqC];refine rdy1 (i:=7) (by kernel_rfl) rfl (by rfl) (fun K hK=>?_)
       .refine wp_store_q (by rfl) (by rfl) t2 Fq.nil r2.fq (fun V u kp=>?_);replace t1:=kp.four ne t1;replace r1:=kp.up r1;replace r2:=kp.up r2;replace HB:=kp.bel _ _ HB b2;clear t2;have t2:=u;refine hK.out _ _ HB ?_;clear hK K kp u;simp only[Act.put,pqA,pqB,pqC];exact wpAnyH_done (by kernel_rfl) ⟨rfl,_,_,g1,g2,_,_,_,_,_,_,_,_,_,_,_,_,_,_,by rfl,t1,t2,r1,r2,⟨b1,b2⟩,HB⟩ _
    .refine wp_alloc_four (fun g2 V t2 bb hg=>?_);have b2:=Nat.le_trans HB.size hg;replace HB:=Bxb HB bb;have ne:g1≠g2:=Nat.ne_of_lt (Nat.lt_of_lt_of_le t1.lt hg);replace t1:=t1.to bb;replace r1:=r1.to bb;refine hK.out _ _ HB ?_;clear hK K bb hg;simp only[Act.put,pqA,pqB,pqC];refine rdy1 (i:=3) (by kernel_rfl) rfl (by rfl) (fun K hK=>?_)
     .go_simp
      refine (HU2 _ HB).mono ?_;rintro e V ⟨u20,u21,u22,u23,N2,D2,rfl,r2,bb⟩;replace HB:=Bxb HB bb;replace t1:=t1.to bb;replace t2:=t2.to bb;replace r1:=r1.to bb;refine hK.out _ _ HB ?_;clear hK K bb;refine rdy1 (i:=6) (by kernel_rfl) rfl (by rfl) (fun K hK=>?_)
      .refine wp_store_q (by rfl) (by rfl) t1 Fq.nil r1.fq (fun V u kp=>?_);replace t2:=kp.four (Ne.symm ne) t2;replace r1:=kp.up r1;replace r2:=kp.up r2;replace HB:=kp.bel _ _ HB b1;clear t1;have t1:=u;refine hK.out _ _ HB ?_;clear hK K kp u;simp only[Act.put,pqA,pqB,pqC];refine rdy1 (i:=7) (by kernel_rfl) rfl (by rfl) (fun K hK=>?_)
       .refine wp_store_q (by rfl) (by rfl) t2 Fq.nil r2.fq (fun V u kp=>?_);replace t1:=kp.four ne t1;replace r1:=kp.up r1;replace r2:=kp.up r2;replace HB:=kp.bel _ _ HB b2;clear t2;have t2:=u;refine hK.out _ _ HB ?_;clear hK K kp u;simp only[Act.put,pqA,pqB,pqC];exact wpAnyH_done (by kernel_rfl) ⟨rfl,_,_,g1,g2,_,_,_,_,_,_,_,_,_,_,_,_,_,_,by rfl,t1,t2,r1,r2,⟨b1,b2⟩,HB⟩ _
   .refine wp_alloc_four (fun g2 V t2 bb hg=>?_);have b2:=Nat.le_trans HB.size hg;replace HB:=Bxb HB bb;replace r1:=r1.to bb;refine hK.out _ _ HB ?_;clear hK K bb hg;simp only[Act.put,pqA,pqB,pqC];refine wpAnyH_ready (rs:=[3,4]) (by kernel_rfl) (by simp) (ready_cons rfl (by rfl) (fun K hK=>?_) (ready_cons rfl (by rfl) (fun K hK=>?_) AllReadyH.nil))
    .go_simp
     refine (HU2 _ HB).mono ?_;rintro e V ⟨u20,u21,u22,u23,N2,D2,rfl,r2,bb⟩;replace HB:=Bxb HB bb;replace t2:=t2.to bb;replace r1:=r1.to bb;refine hK.out _ _ HB ?_;clear hK K bb;refine rdy1 (i:=4) (by kernel_rfl) rfl (by rfl) (fun K hK=>?_)
     .refine wp_alloc_four (fun g1 V t1 bb hg=>?_);have b1:=Nat.le_trans HB.size hg;replace HB:=Bxb HB bb;have ne:g1≠g2:=Nat.ne_of_gt (Nat.lt_of_lt_of_le t2.lt hg);replace t2:=t2.to bb;replace r1:=r1.to bb;replace r2:=r2.to bb;refine hK.out _ _ HB ?_;clear hK K bb hg;simp only[Act.put,pqA,pqB,pqC];refine rdy1 (i:=6) (by kernel_rfl) rfl (by rfl) (fun K hK=>?_)
      .refine wp_store_q (by rfl) (by rfl) t1 Fq.nil r1.fq (fun V u kp=>?_);replace t2:=kp.four (Ne.symm ne) t2;replace r1:=kp.up r1;replace r2:=kp.up r2;replace HB:=kp.bel _ _ HB b1;clear t1;have t1:=u;refine hK.out _ _ HB ?_;clear hK K kp u;simp only[Act.put,pqA,pqB,pqC];refine rdy1 (i:=7) (by kernel_rfl) rfl (by rfl) (fun K hK=>?_)
       .refine wp_store_q (by rfl) (by rfl) t2 Fq.nil r2.fq (fun V u kp=>?_);replace t1:=kp.four ne t1;replace r1:=kp.up r1;replace r2:=kp.up r2;replace HB:=kp.bel _ _ HB b2;clear t2;have t2:=u;refine hK.out _ _ HB ?_;clear hK K kp u;simp only[Act.put,pqA,pqB,pqC];exact wpAnyH_done (by kernel_rfl) ⟨rfl,_,_,g1,g2,_,_,_,_,_,_,_,_,_,_,_,_,_,_,by rfl,t1,t2,r1,r2,⟨b1,b2⟩,HB⟩ _
    .refine wp_alloc_four (fun g1 V t1 bb hg=>?_);have b1:=Nat.le_trans HB.size hg;replace HB:=Bxb HB bb;have ne:g1≠g2:=Nat.ne_of_gt (Nat.lt_of_lt_of_le t2.lt hg);replace t2:=t2.to bb;replace r1:=r1.to bb;refine hK.out _ _ HB ?_;clear hK K bb hg;simp only[Act.put,pqA,pqB,pqC];refine rdy1 (i:=3) (by kernel_rfl) rfl (by rfl) (fun K hK=>?_)
     .go_simp
      refine (HU2 _ HB).mono ?_;rintro e V ⟨u20,u21,u22,u23,N2,D2,rfl,r2,bb⟩;replace HB:=Bxb HB bb;replace t1:=t1.to bb;replace t2:=t2.to bb;replace r1:=r1.to bb;refine hK.out _ _ HB ?_;clear hK K bb;refine rdy1 (i:=6) (by kernel_rfl) rfl (by rfl) (fun K hK=>?_)
      .refine wp_store_q (by rfl) (by rfl) t1 Fq.nil r1.fq (fun V u kp=>?_);replace t2:=kp.four (Ne.symm ne) t2;replace r1:=kp.up r1;replace r2:=kp.up r2;replace HB:=kp.bel _ _ HB b1;clear t1;have t1:=u;refine hK.out _ _ HB ?_;clear hK K kp u;simp only[Act.put,pqA,pqB,pqC];refine rdy1 (i:=7) (by kernel_rfl) rfl (by rfl) (fun K hK=>?_)
       .refine wp_store_q (by rfl) (by rfl) t2 Fq.nil r2.fq (fun V u kp=>?_);replace t1:=kp.four ne t1;replace r1:=kp.up r1;replace r2:=kp.up r2;replace HB:=kp.bel _ _ HB b2;clear t2;have t2:=u;refine hK.out _ _ HB ?_;clear hK K kp u;simp only[Act.put,pqA,pqB,pqC];exact wpAnyH_done (by kernel_rfl) ⟨rfl,_,_,g1,g2,_,_,_,_,_,_,_,_,_,_,_,_,_,_,by rfl,t1,t2,r1,r2,⟨b1,b2⟩,HB⟩ _
  .refine wp_alloc_four (fun g1 V t1 bb hg=>?_);have b1:=Nat.le_trans HB.size hg;replace HB:=Bxb HB bb;refine hK.out _ _ HB ?_;clear hK K bb hg;simp only[Act.put,pqA,pqB,pqC];refine wpAnyH_ready (rs:=[1,5]) (by kernel_rfl) (by simp) (ready_cons rfl (by rfl) (fun K hK=>?_) (ready_cons rfl (by rfl) (fun K hK=>?_) AllReadyH.nil))
   .go_simp
    refine (HU1 _ HB).mono ?_;rintro e V ⟨u10,u11,u12,u13,N1,D1,rfl,r1,bb⟩;replace HB:=Bxb HB bb;replace t1:=t1.to bb;refine hK.out _ _ HB ?_;clear hK K bb;refine wpAnyH_ready (rs:=[3,5]) (by kernel_rfl) (by simp) (ready_cons rfl (by rfl) (fun K hK=>?_) (ready_cons rfl (by rfl) (fun K hK=>?_) AllReadyH.nil))
    .go_simp
     refine (HU2 _ HB).mono ?_;rintro e V ⟨u20,u21,u22,u23,N2,D2,rfl,r2,bb⟩;replace HB:=Bxb HB bb;replace t1:=t1.to bb;replace r1:=r1.to bb;refine hK.out _ _ HB ?_;clear hK K bb;refine rdy1 (i:=5) (by kernel_rfl) rfl (by rfl) (fun K hK=>?_)
     .refine wp_alloc_four (fun g2 V t2 bb hg=>?_);have b2:=Nat.le_trans HB.size hg;replace HB:=Bxb HB bb;have ne:g1≠g2:=Nat.ne_of_lt (Nat.lt_of_lt_of_le t1.lt hg);replace t1:=t1.to bb;replace r1:=r1.to bb;replace r2:=r2.to bb;refine hK.out _ _ HB ?_;clear hK K bb hg;simp only[Act.put,pqA,pqB,pqC];refine rdy1 (i:=6) (by kernel_rfl) rfl (by rfl) (fun K hK=>?_)
      .refine wp_store_q (by rfl) (by rfl) t1 Fq.nil r1.fq (fun V u kp=>?_);replace t2:=kp.four (Ne.symm ne) t2;replace r1:=kp.up r1;replace r2:=kp.up r2;replace HB:=kp.bel _ _ HB b1;clear t1;have t1:=u;refine hK.out _ _ HB ?_;clear hK K kp u;simp only[Act.put,pqA,pqB,pqC];refine rdy1 (i:=7) (by kernel_rfl) rfl (by rfl) (fun K hK=>?_)
       .refine wp_store_q (by rfl) (by rfl) t2 Fq.nil r2.fq (fun V u kp=>?_);replace t1:=kp.four ne t1;replace r1:=kp.up r1;replace r2:=kp.up r2;replace HB:=kp.bel _ _ HB b2;clear t2;have t2:=u;refine hK.out _ _ HB ?_;clear hK K kp u;simp only[Act.put,pqA,pqB,pqC];exact wpAnyH_done (by kernel_rfl) ⟨rfl,_,_,g1,g2,_,_,_,_,_,_,_,_,_,_,_,_,_,_,by rfl,t1,t2,r1,r2,⟨b1,b2⟩,HB⟩ _
    .refine wp_alloc_four (fun g2 V t2 bb hg=>?_);have b2:=Nat.le_trans HB.size hg;replace HB:=Bxb HB bb;have ne:g1≠g2:=Nat.ne_of_lt (Nat.lt_of_lt_of_le t1.lt hg);replace t1:=t1.to bb;replace r1:=r1.to bb;refine hK.out _ _ HB ?_;clear hK K bb hg;simp only[Act.put,pqA,pqB,pqC];refine rdy1 (i:=3) (by kernel_rfl) rfl (by rfl) (fun K hK=>?_)
     .go_simp
      refine (HU2 _ HB).mono ?_;rintro e V ⟨u20,u21,u22,u23,N2,D2,rfl,r2,bb⟩;replace HB:=Bxb HB bb;replace t1:=t1.to bb;replace t2:=t2.to bb;replace r1:=r1.to bb;refine hK.out _ _ HB ?_;clear hK K bb;refine rdy1 (i:=6) (by kernel_rfl) rfl (by rfl) (fun K hK=>?_)
      .refine wp_store_q (by rfl) (by rfl) t1 Fq.nil r1.fq (fun V u kp=>?_);replace t2:=kp.four (Ne.symm ne) t2;replace r1:=kp.up r1;replace r2:=kp.up r2;replace HB:=kp.bel _ _ HB b1;clear t1;have t1:=u;refine hK.out _ _ HB ?_;clear hK K kp u;simp only[Act.put,pqA,pqB,pqC];refine rdy1 (i:=7) (by kernel_rfl) rfl (by rfl) (fun K hK=>?_)
       .refine wp_store_q (by rfl) (by rfl) t2 Fq.nil r2.fq (fun V u kp=>?_);replace t1:=kp.four ne t1;replace r1:=kp.up r1;replace r2:=kp.up r2;replace HB:=kp.bel _ _ HB b2;clear t2;have t2:=u;refine hK.out _ _ HB ?_;clear hK K kp u;simp only[Act.put,pqA,pqB,pqC];exact wpAnyH_done (by kernel_rfl) ⟨rfl,_,_,g1,g2,_,_,_,_,_,_,_,_,_,_,_,_,_,_,by rfl,t1,t2,r1,r2,⟨b1,b2⟩,HB⟩ _
   .refine wp_alloc_four (fun g2 V t2 bb hg=>?_);have b2:=Nat.le_trans HB.size hg;replace HB:=Bxb HB bb;have ne:g1≠g2:=Nat.ne_of_lt (Nat.lt_of_lt_of_le t1.lt hg);replace t1:=t1.to bb;refine hK.out _ _ HB ?_;clear hK K bb hg;simp only[Act.put,pqA,pqB,pqC];refine rdy1 (i:=1) (by kernel_rfl) rfl (by rfl) (fun K hK=>?_)
    .go_simp
     refine (HU1 _ HB).mono ?_;rintro e V ⟨u10,u11,u12,u13,N1,D1,rfl,r1,bb⟩;replace HB:=Bxb HB bb;replace t1:=t1.to bb;replace t2:=t2.to bb;refine hK.out _ _ HB ?_;clear hK K bb;refine rdy1 (i:=3) (by kernel_rfl) rfl (by rfl) (fun K hK=>?_)
     .go_simp
      refine (HU2 _ HB).mono ?_;rintro e V ⟨u20,u21,u22,u23,N2,D2,rfl,r2,bb⟩;replace HB:=Bxb HB bb;replace t1:=t1.to bb;replace t2:=t2.to bb;replace r1:=r1.to bb;refine hK.out _ _ HB ?_;clear hK K bb;refine rdy1 (i:=6) (by kernel_rfl) rfl (by rfl) (fun K hK=>?_)
      .refine wp_store_q (by rfl) (by rfl) t1 Fq.nil r1.fq (fun V u kp=>?_);replace t2:=kp.four (Ne.symm ne) t2;replace r1:=kp.up r1;replace r2:=kp.up r2;replace HB:=kp.bel _ _ HB b1;clear t1;have t1:=u;refine hK.out _ _ HB ?_;clear hK K kp u;simp only[Act.put,pqA,pqB,pqC];refine rdy1 (i:=7) (by kernel_rfl) rfl (by rfl) (fun K hK=>?_)
       .refine wp_store_q (by rfl) (by rfl) t2 Fq.nil r2.fq (fun V u kp=>?_);replace t1:=kp.four ne t1;replace r1:=kp.up r1;replace r2:=kp.up r2;replace HB:=kp.bel _ _ HB b2;clear t2;have t2:=u;refine hK.out _ _ HB ?_;clear hK K kp u;simp only[Act.put,pqA,pqB,pqC];exact wpAnyH_done (by kernel_rfl) ⟨rfl,_,_,g1,g2,_,_,_,_,_,_,_,_,_,_,_,_,_,_,by rfl,t1,t2,r1,r2,⟨b1,b2⟩,HB⟩ _
  .refine wp_alloc_four (fun g2 V t2 bb hg=>?_);have b2:=Nat.le_trans HB.size hg;replace HB:=Bxb HB bb;refine hK.out _ _ HB ?_;clear hK K bb hg;simp only[Act.put,pqA,pqB,pqC];refine wpAnyH_ready (rs:=[1,4]) (by kernel_rfl) (by simp) (ready_cons rfl (by rfl) (fun K hK=>?_) (ready_cons rfl (by rfl) (fun K hK=>?_) AllReadyH.nil))
   .go_simp
    refine (HU1 _ HB).mono ?_;rintro e V ⟨u10,u11,u12,u13,N1,D1,rfl,r1,bb⟩;replace HB:=Bxb HB bb;replace t2:=t2.to bb;refine hK.out _ _ HB ?_;clear hK K bb;refine wpAnyH_ready (rs:=[3,4]) (by kernel_rfl) (by simp) (ready_cons rfl (by rfl) (fun K hK=>?_) (ready_cons rfl (by rfl) (fun K hK=>?_) AllReadyH.nil))
    .go_simp
     refine (HU2 _ HB).mono ?_;rintro e V ⟨u20,u21,u22,u23,N2,D2,rfl,r2,bb⟩;replace HB:=Bxb HB bb;replace t2:=t2.to bb;replace r1:=r1.to bb;refine hK.out _ _ HB ?_;clear hK K bb;refine rdy1 (i:=4) (by kernel_rfl) rfl (by rfl) (fun K hK=>?_)
     .refine wp_alloc_four (fun g1 V t1 bb hg=>?_);have b1:=Nat.le_trans HB.size hg;replace HB:=Bxb HB bb;have ne:g1≠g2:=Nat.ne_of_gt (Nat.lt_of_lt_of_le t2.lt hg);replace t2:=t2.to bb;replace r1:=r1.to bb;replace r2:=r2.to bb;refine hK.out _ _ HB ?_;clear hK K bb hg;simp only[Act.put,pqA,pqB,pqC];refine rdy1 (i:=6) (by kernel_rfl) rfl (by rfl) (fun K hK=>?_)
      .refine wp_store_q (by rfl) (by rfl) t1 Fq.nil r1.fq (fun V u kp=>?_);replace t2:=kp.four (Ne.symm ne) t2;replace r1:=kp.up r1;replace r2:=kp.up r2;replace HB:=kp.bel _ _ HB b1;clear t1;have t1:=u;refine hK.out _ _ HB ?_;clear hK K kp u;simp only[Act.put,pqA,pqB,pqC];refine rdy1 (i:=7) (by kernel_rfl) rfl (by rfl) (fun K hK=>?_)
       .refine wp_store_q (by rfl) (by rfl) t2 Fq.nil r2.fq (fun V u kp=>?_);replace t1:=kp.four ne t1;replace r1:=kp.up r1;replace r2:=kp.up r2;replace HB:=kp.bel _ _ HB b2;clear t2;have t2:=u;refine hK.out _ _ HB ?_;clear hK K kp u;simp only[Act.put,pqA,pqB,pqC];exact wpAnyH_done (by kernel_rfl) ⟨rfl,_,_,g1,g2,_,_,_,_,_,_,_,_,_,_,_,_,_,_,by rfl,t1,t2,r1,r2,⟨b1,b2⟩,HB⟩ _
    .refine wp_alloc_four (fun g1 V t1 bb hg=>?_);have b1:=Nat.le_trans HB.size hg;replace HB:=Bxb HB bb;have ne:g1≠g2:=Nat.ne_of_gt (Nat.lt_of_lt_of_le t2.lt hg);replace t2:=t2.to bb;replace r1:=r1.to bb;refine hK.out _ _ HB ?_;clear hK K bb hg;simp only[Act.put,pqA,pqB,pqC];refine rdy1 (i:=3) (by kernel_rfl) rfl (by rfl) (fun K hK=>?_)
     .go_simp
      refine (HU2 _ HB).mono ?_;rintro e V ⟨u20,u21,u22,u23,N2,D2,rfl,r2,bb⟩;replace HB:=Bxb HB bb;replace t1:=t1.to bb;replace t2:=t2.to bb;replace r1:=r1.to bb;refine hK.out _ _ HB ?_;clear hK K bb;refine rdy1 (i:=6) (by kernel_rfl) rfl (by rfl) (fun K hK=>?_)
      .refine wp_store_q (by rfl) (by rfl) t1 Fq.nil r1.fq (fun V u kp=>?_);replace t2:=kp.four (Ne.symm ne) t2;replace r1:=kp.up r1;replace r2:=kp.up r2;replace HB:=kp.bel _ _ HB b1;clear t1;have t1:=u;refine hK.out _ _ HB ?_;clear hK K kp u;simp only[Act.put,pqA,pqB,pqC];refine rdy1 (i:=7) (by kernel_rfl) rfl (by rfl) (fun K hK=>?_)
       .refine wp_store_q (by rfl) (by rfl) t2 Fq.nil r2.fq (fun V u kp=>?_);replace t1:=kp.four ne t1;replace r1:=kp.up r1;replace r2:=kp.up r2;replace HB:=kp.bel _ _ HB b2;clear t2;have t2:=u;refine hK.out _ _ HB ?_;clear hK K kp u;simp only[Act.put,pqA,pqB,pqC];exact wpAnyH_done (by kernel_rfl) ⟨rfl,_,_,g1,g2,_,_,_,_,_,_,_,_,_,_,_,_,_,_,by rfl,t1,t2,r1,r2,⟨b1,b2⟩,HB⟩ _
   .refine wp_alloc_four (fun g1 V t1 bb hg=>?_);have b1:=Nat.le_trans HB.size hg;replace HB:=Bxb HB bb;have ne:g1≠g2:=Nat.ne_of_gt (Nat.lt_of_lt_of_le t2.lt hg);replace t2:=t2.to bb;refine hK.out _ _ HB ?_;clear hK K bb hg;simp only[Act.put,pqA,pqB,pqC];refine rdy1 (i:=1) (by kernel_rfl) rfl (by rfl) (fun K hK=>?_)
    .go_simp
     refine (HU1 _ HB).mono ?_;rintro e V ⟨u10,u11,u12,u13,N1,D1,rfl,r1,bb⟩;replace HB:=Bxb HB bb;replace t1:=t1.to bb;replace t2:=t2.to bb;refine hK.out _ _ HB ?_;clear hK K bb;refine rdy1 (i:=3) (by kernel_rfl) rfl (by rfl) (fun K hK=>?_)
     .go_simp
      refine (HU2 _ HB).mono ?_;rintro e V ⟨u20,u21,u22,u23,N2,D2,rfl,r2,bb⟩;replace HB:=Bxb HB bb;replace t1:=t1.to bb;replace t2:=t2.to bb;replace r1:=r1.to bb;refine hK.out _ _ HB ?_;clear hK K bb;refine rdy1 (i:=6) (by kernel_rfl) rfl (by rfl) (fun K hK=>?_)
      .refine wp_store_q (by rfl) (by rfl) t1 Fq.nil r1.fq (fun V u kp=>?_);replace t2:=kp.four (Ne.symm ne) t2;replace r1:=kp.up r1;replace r2:=kp.up r2;replace HB:=kp.bel _ _ HB b1;clear t1;have t1:=u;refine hK.out _ _ HB ?_;clear hK K kp u;simp only[Act.put,pqA,pqB,pqC];refine rdy1 (i:=7) (by kernel_rfl) rfl (by rfl) (fun K hK=>?_)
       .refine wp_store_q (by rfl) (by rfl) t2 Fq.nil r2.fq (fun V u kp=>?_);replace t1:=kp.four ne t1;replace r1:=kp.up r1;replace r2:=kp.up r2;replace HB:=kp.bel _ _ HB b2;clear t2;have t2:=u;refine hK.out _ _ HB ?_;clear hK K kp u;simp only[Act.put,pqA,pqB,pqC];exact wpAnyH_done (by kernel_rfl) ⟨rfl,_,_,g1,g2,_,_,_,_,_,_,_,_,_,_,_,_,_,_,by rfl,t1,t2,r1,r2,⟨b1,b2⟩,HB⟩ _
 rintro v' W2 ⟨x1,x2,g1,g2,u10,u11,u12,u13,u20,u21,u22,u23,y1,y2,N1,D1,N2,D2,rfl,t1,t2,r1,r2,hge,HB⟩;simp only[Act.put,pqA,pqB,pqC];have hg1:w.heap.size+1+1<g1:=by have:=tR.lt;have:=hge.1;omega
 have hg2:w.heap.size+1+1<g2:=by have:=tR.lt;have:=hge.2;omega
 clear hge;replace tR:=tR.to HB;replace t8:=t8.to HB;replace HB0:=Hxb HB0 HB;have z:=Hd (HZ.out N1 D1 N2 D2 r1.pos r2.pos r1.sn r1.sd r2.sn r2.sd r1.eq r2.eq);clear HB HU1 HU2 HZ tA tB
 go_wp2_with fail
 refine wp_region_plan (S:=fun w'=>Below w.heap.size w w'/\Two w' g8 (.func (.func fn) #[] #[]) (.func (.func fd) #[] #[])/\Four w' g1 u10 u11 u12 u13/\Four w' g2 u20 u21 u22 u23) [(0,true),(1,true),(2,true),(3,true),(5,true),(6,true),(7,true),(8,true),(4,false),(9,false),(10,false),(11,false)] (by kernel_rfl) (by kernel_rfl) ⟨HB0.out.drew,t8.to (Below.refl _ _).drew,t1.to (Below.refl _ _).drew,t2.to (Below.refl _ _).drew⟩ ?_;have HB:=HB0.out.drew;have bb:=(Below.refl W2.heap.size W2).drew;replace t8:=t8.to bb;replace t1:=t1.to bb;replace t2:=t2.to bb;replace tR:=tR.to bb;replace r1:=r1.to bb;replace r2:=r2.to bb;clear bb HB0
 iterate 2 (refine plan_take (v:=?_) rfl (by rfl) ?_ ?_;rotate_left;(focus (intro w' hS;have k0:=hS.2.1.c0;have k1:=hS.2.1.c1;go_simp;try with_reducible rfl));simp only[Act.put,pqA,pqB,pqC])
 refine plan_take rfl (by rfl) (fun w' hS=>load_four (by rfl) hS.2.2.1) ?_;simp only[Act.put,pqA,pqB,pqC];refine plan_take rfl (by rfl) (fun w' hS=>load_four (by rfl) hS.2.2.2) ?_;simp only[Act.put,pqA,pqB,pqC]
 iterate 2 (refine plan_take (v:=?_) rfl (by rfl) ?_ ?_;rotate_left;(focus (intro w' hS;have k0:=hS.2.1.c0;have k1:=hS.2.1.c1;go_simp;try with_reducible rfl));simp only[Act.put,pqA,pqB,pqC])
 refine plan_take rfl (by rfl) (fun w' hS=>load_four (by rfl) hS.2.2.1) ?_;simp only[Act.put,pqA,pqB,pqC];refine plan_take rfl (by rfl) (fun w' hS=>load_four (by rfl) hS.2.2.2) ?_;simp only[Act.put,pqA,pqB,pqC];refine plan_call rfl (by rfl) (fun K hK=>?_);go_simp
 rw[ECN.out];go_simp
 refine (HN.out _ _ _ _ _ _ _ _ _ _ _ _ _ r1 r2).mono ?_;rintro e V3 ⟨x3,y3,rfl,z3,bb⟩;replace HB:=Bxb HB bb;replace t8:=t8.to bb;replace t1:=t1.to bb;replace t2:=t2.to bb;replace tR:=tR.to bb;replace r1:=r1.to bb;replace r2:=r2.to bb;refine hK.out _ _ ⟨HB,t8,t1,t2⟩ ?_;clear hK K bb HN;refine plan_call rfl (by rfl) (fun K hK=>?_);go_simp
 rw[ECD.out];go_simp
 refine (HD.out _ _ _ _ _ _ _ _ _ _ _ _ _ r1 r2).mono ?_;rintro e V4 ⟨x4,y4,rfl,z4,bb⟩;replace HB:=Bxb HB bb;replace t8:=t8.to bb;replace t1:=t1.to bb;replace t2:=t2.to bb;replace tR:=tR.to bb;replace z3:=z3.to bb;refine hK.out _ _ ⟨HB,t8,t1,t2⟩ ?_;clear hK K bb HD r1 r2;refine plan_call rfl (by rfl) (fun K hK=>?_);go_simp
 refine (quotient_z (z3.zs z.out.2.1) (z4.zs z.out.2.2.1) z.out.1 z.out.2.1 z.out.2.2.1).mono ?_;rintro e V5 ⟨x5,x6,x7,x8,rfl,q5,bb⟩;replace HB:=Bxb HB bb;replace t8:=t8.to bb;replace t1:=t1.to bb;replace t2:=t2.to bb;replace tR:=tR.to bb;refine hK.out _ _ ⟨HB,t8,t1,t2⟩ ?_;clear hK K bb z3 z4;refine plan_call rfl (by rfl) (fun K hK=>?_);refine wp_store_q (by rfl) (by rfl) tR Fq.nil q5.fq (fun V u kp=>?_);replace t8:=kp.two (by omega) t8;replace t1:=kp.four (by omega) t1;replace t2:=kp.four (by omega) t2;replace HB:=kp.bel _ _ HB (by omega);replace q5:=kp.qc q5;refine hK.out _ _ ⟨HB,t8,t1,t2⟩ ?_;clear hK K kp tR t8 t1 t2;simp only[Act.put,pqA,pqB,pqC];refine plan_done ?_;have U0:=u.c0;have U1:=u.c1;have U2:=u.c2;have U3:=u.c3;rw[z.out.2.2.2]at q5;have Q5:=Hd q5;have HE:=Hd HB;obtain ⟨⟨m1,A1,l1,k1,rfl,rfl⟩,⟨m2,A2,l2,k2,rfl,rfl⟩⟩:=q5.fq;clear q5 HB u z;go_wp2
 refine bodyPost_ret (v:=.agg #[.bool m1,.slice A1 l1 k1,.bool m2,.slice A2 l2 k2]) (by simp[results,Tryz.f114,go_sem,U0,U1,U2,U3]) rfl ?_;exact ⟨_,_,_,_,rfl,Q5.out,HE.out⟩
theorem operate_add {w:World}{a1 a2 a3 a4 b1 b2 b3 b4:Value}{r s:Rat}{k l:Nat}(h1:Qi w a1 a2 a3 a4 r k)(h2:Qi w b1 b2 b3 b4 s l)(hk:0<k)(hl:0<l)(hkl:k+l+1<=10000) :
  Calls Tryz.prog 114 #[.int .i32 43,.agg #[a1,a2,a3,a4],.agg #[b1,b2,b3,b4]] w (QR w (r+s)) :=
 operate_any h1 h2 hk hl (by omega) (by omega) (i:=0) (fn:=145) (fd:=146) rfl (callf_enter Tryz.func145 (by kernel_rfl) (by kernel_rfl)) (callf_enter Tryz.func146 (by kernel_rfl) (by kernel_rfl)) (fun N1 D1 N2 D2=>N1*D2+N2*D1) (fun N1 D1 N2 D2=>D1*D2)
  (fun V a1 a2 a3 a4 b1 b2 b3 b4 N1 D1 N2 D2 u v=>clos_add u.n u.d v.n v.d u.sn u.sd v.sn v.sd (by omega)) (fun V a1 a2 a3 a4 b1 b2 b3 b4 N1 D1 N2 D2 u v=>below_z u.d v.d)
  (fun N1 D1 N2 D2 p1 p2 m1 m2 m3 m4 e1 e2=>by
   have hne:D1*D2≠0:=Int.mul_ne_zero (by omega) (by omega);subst e1 e2;refine ⟨hne,((m1.mul m4).add ((m3.mul m2).mono (Nat.le_of_eq (Nat.add_comm l k)))).sg (by omega),(m2.mul m4).sg (by omega),?_⟩
   exact (Rat.divInt_add_divInt N1 N2 (by omega) (by omega)).symm)
theorem operate_mul {w:World}{a1 a2 a3 a4 b1 b2 b3 b4:Value}{r s:Rat}{k l:Nat}(h1:Qi w a1 a2 a3 a4 r k)(h2:Qi w b1 b2 b3 b4 s l)(hk:0<k)(hl:0<l)(hkl:k+l+1<=10000) :
  Calls Tryz.prog 114 #[.int .i32 42,.agg #[a1,a2,a3,a4],.agg #[b1,b2,b3,b4]] w (QR w (r*s)) :=
 operate_any h1 h2 hk hl (by omega) (by omega) (i:=2) (fn:=149) (fd:=146) rfl (callf_enter Tryz.func149 (by kernel_rfl) (by kernel_rfl)) (callf_enter Tryz.func146 (by kernel_rfl) (by kernel_rfl)) (fun N1 D1 N2 D2=>N1*N2) (fun N1 D1 N2 D2=>D1*D2)
  (fun V a1 a2 a3 a4 b1 b2 b3 b4 N1 D1 N2 D2 u v=>above_z u.n v.n) (fun V a1 a2 a3 a4 b1 b2 b3 b4 N1 D1 N2 D2 u v=>below_z u.d v.d)
  (fun N1 D1 N2 D2 p1 p2 m1 m2 m3 m4 e1 e2=>by
   have hne:D1*D2≠0:=Int.mul_ne_zero (by omega) (by omega);subst e1 e2;refine ⟨hne,(m1.mul m3).sg (by omega),(m2.mul m4).sg (by omega),?_⟩
   exact (Rat.divInt_mul_divInt N1 N2).symm)
end Go.Proofs.YtglhdielkkhefaaGreat
