/- Parts: 10. -/
import Derived.Test.YtglhdielkkhefaaGreatMs13
import Derived.Test.YtglhdielkkhefaaGreatMs19
import Derived.Test.YtglhdielkkhefaaGreatMs22
import Derived.Test.YtglhdielkkhefaaGreatMs24
import Derived.Test.YtglhdielkkhefaaGreatMs27
set_option linter.unusedVariables false
set_option linter.unusedSimpArgs false
set_option maxRecDepth 100000
set_option maxHeartbeats 40000000

namespace Go.Proofs.YtglhdielkkhefaaGreat
open Go.RowKit Go.Shelf
theorem wp_append_out {P:Program}{w w':World}{a:Act}{K:Act->World->Prop}{Q:Exit->Act->World->Prop}{v u v':Value}{d:Option Tmp}{s x:Operand}{t ty:TypeId}{pos:String}{after:Array Edge}
  (hs:a.eval s=v) (hx:a.eval x=u) (hrun:(Builtin.append_ #[t,t] ty #[v,u]).run P w=.ok v' w') (h:K (a.put d v') w') :
  Oper.wp P ⟨d,.call { callee:=.builtin .append,args:=#[s,x],argTypes:=#[t,t] },ty,pos,after,none⟩ a w K Q:=by
 have h1:=step_append_out (ops:=#[]) (E:=True) (Q:=Q) (o:=⟨d,.call { callee:=.builtin .append,args:=#[s,x],argTypes:=#[t,t] },ty,pos,after,none⟩) rfl s x t rfl hs hx hrun h
 rwa [if_pos (by simp[Region.wanted])]at h1
theorem append_copy {w:World}{A:Option Addr}{c:Nat}{xs:List Nat}(h:Rd .u32 w w.heap.size A xs)(hs:xs.length<=4294967295){i:TypeInfo}(hi:Tryz.prog.info? 89=some i)(hz0:i.zero=some (.int .u32 0))(hz1:i.size=1)(hz2:i.bytes=4) :
  ∃A2 c2 w1,(Builtin.append_ #[28,28] 28 #[.slice none 0 0,.slice A xs.length c]).run Tryz.prog w=.ok (.slice A2 xs.length c2) w1 /\
   Rd .u32 w1 w1.heap.size A2 xs/\xs.length<=c2/\c2<=9223372036854775807/\Below w.heap.size w w1:=by
 cases A with
 | none =>
  have hO:xs=[]:=by
   cases xs with
   | nil=>rfl
   | cons d r=>obtain ⟨b,o,e,_⟩:=h 0 (by simp);cases e
  subst hO
  exact ⟨none,0,_,run_append_nothing _ 28 28 28 89 i Tryz.underlying28 hi _ 0 0 (Nat.le_refl _) _ (Src.ofNil _ Tryz.underlying28 c),Rd.nil,by simp,by decide,Below.refl _ _⟩
 | some a =>
  obtain ⟨v',w1,hrun,hown',hgrow,_,_⟩:=run_append_own_at (P:=Tryz.prog) w w.heap.size 28 28 89 i (.int .u32 0) 1 4
   Tryz.underlying28 hi hz0 hz1 hz2 rfl (by decide) _ 0 _ (World.ownsRow_nil w w.heap.size 89 1) a xs.length c (ints .u32 xs) (by simp[ints]) (Rd.news h (Below.refl _ _)) (by
    intro u hu
    obtain ⟨d,_,rfl⟩:=List.mem_map.1 hu
    rfl) (by unfold maxLen;omega) (by omega) (by simp)
  obtain ⟨A2,c2,rfl⟩:=own_shape hown'
  rw[Nat.zero_add]at hrun hown'
  obtain ⟨hc1,hc2⟩:=own_caps hown'
  exact ⟨A2,c2,w1,hrun,Rd.of_own (by simpa [ints]using hown') (Nat.le_refl _),hc1,hc2,(Below.refl _ _).grown hgrow (Nat.le_refl _) (fun j e=>by simp[Value.ownBlock]at e)⟩
def Zx (W:World)(x y:Value)(n:Bool)(xs:List Nat):Prop:=∃A c,x=.bool n/\y=.slice A xs.length c/\Arg W A c xs
theorem Zx.to {W V:World}{x y:Value}{n:Bool}{xs:List Nat}(h:Zx W x y n xs)(hb:Below W.heap.size W V):Zx V x y n xs:=by
 obtain ⟨A,c,h1,h2,h3⟩:=h
 exact ⟨A,c,h1,h2,h3.to hb⟩
theorem Zx.fs {W:World}{x y:Value}{n:Bool}{xs:List Nat}(h:Zx W x y n xs):Fs x y:=by
 obtain ⟨A,c,rfl,rfl,_⟩:=h
 exact ⟨_,_,_,_,rfl,rfl⟩
theorem Zx.zl {W:World}{x y:Value}{n:Bool}{xs:List Nat}(h:Zx W x y n xs)(hl:xs.length<=10000):Zl W x y (zof n (val b32 xs)):=by
 obtain ⟨A,c,rfl,rfl,h3⟩:=h
 exact ⟨n,A,c,xs,rfl,rfl,h3,hl,rfl⟩
theorem Zx.kept {g:Nat}{w V:World}(kp:Kept g w V){x y:Value}{n:Bool}{xs:List Nat}(h:Zx w x y n xs)(hr:∀A,Rd .u32 w w.heap.size A xs->Rd .u32 V V.heap.size A xs):Zx V x y n xs:=by
 obtain ⟨A,c,rfl,rfl,⟨r1,r2,r3,r4,r5⟩⟩:=h
 exact ⟨A,c,rfl,rfl,⟨hr A r1,r2,r3,r4,r5⟩⟩
theorem same_x {w:World}{x y x' y':Value}{n:Bool}{xs:List Nat}(h:Zx w x y n xs)(h':Zx w x' y' n xs):Calls Tryz.prog 52 #[.agg #[x,y],.agg #[x',y']] w fun e w'=>e=.returned (.bool true)/\Below w.heap.size w w':=by
 obtain ⟨A,c,rfl,rfl,r⟩:=h
 obtain ⟨A',c',rfl,rfl,r'⟩:=h'
 have h:=same_any n n r.rd r'.rd r.le r.cap r'.le r'.cap
 rw[decide_eq_true ⟨rfl,rfl⟩]at h
 exact h
theorem val_inj {b:Nat}(hb:0<b):∀{xs ys:List Nat},Dg b xs->Dg b ys->xs.length=ys.length->val b xs=val b ys->xs=ys
 | [],[],_,_,_,_=>rfl
 | [],_::_,_,_,h,_=>by simp at h
 | _::_,[],_,_,h,_=>by simp at h
 | d::r,e::s,hx,hy,hl,hv=>by
  have h1:=hx d (by simp)
  have h2:=hy e (by simp)
  simp only[val]at hv
  have hd:d=e:=by
   have:=congrArg (· % b) hv
   simpa [Nat.add_mul_mod_self_left,Nat.mod_eq_of_lt h1,Nat.mod_eq_of_lt h2]using this
  subst hd
  have hv2:b*val b r=b*val b s:=by omega
  rw[val_inj hb (fun q hq=>hx q (by simp[hq])) (fun q hq=>hy q (by simp[hq])) (by simpa using hl) (Nat.eq_of_mul_eq_mul_left hb hv2)]
theorem Kept.arg {g:Nat}{w V:World}(kp:Kept g w V){A:Option Addr}{c:Nat}{xs:List Nat}(h:Arg w A c xs):Arg V A c xs:=by
 obtain ⟨n,A',c',xs',e1,e2,h3,h4⟩:=kp.zi _ _ _ ⟨false,A,c,xs,rfl,rfl,h,rfl⟩
 injection e1 with e1
 injection e2 with e2 e3 e4
 subst e1 e2 e4
 have:xs=xs':=val_inj (by decide) h.dg h3.dg e3 (by have h5:=h4.symm;simp only[zof,Bool.false_eq_true,if_false]at h5;omega)
 subst this
 exact h3
theorem own_any (n:Bool){A:Option Addr}{c:Nat}{xs:List Nat}{w:World}(hx:Arg w A c xs)(sx:xs.length<=10000) :
  Calls Tryz.prog 118 #[.agg #[.bool n,.slice A xs.length c]] w fun e w'=>∃x y,e=.returned (.agg #[x,y])/\Zx w' x y n xs/\Below w.heap.size w w':=by
 obtain ⟨W0,hW0⟩:∃W0,W0=((w.alloc (.cells #[.bool n,.slice A xs.length c] 30)).alloc (.cells #[.bool false,.slice none 0 0] 30)):=⟨_,rfl⟩
 have hb:Below w.heap.size w W0:=by rw[hW0];exact ((Below.refl _ _).alloc (Nat.le_refl _) _).alloc (by simp) _
 have tX:Two W0 (w.heap.size) (.bool n) (.slice A xs.length c):=by
  have h:=Two.new w (.bool n) (.slice A xs.length c) 30
  rw[hW0];exact h.alloc _
 have tR:Two W0 (w.heap.size+1) (.bool false) (.slice none 0 0):=by
  have h:=Two.new (w.alloc (.cells #[.bool n,.slice A xs.length c] 30)) (.bool false) (.slice none 0 0) 30
  rw[World.size_alloc]at h
  rw[hW0];exact h
 have HW0:=Hd hW0
 have HB0:=Hd hb
 have HX:=Hd hx
 have hBW:w.heap.size+1<=W0.heap.size:=by rw[hW0];simp
 have Dsx:val b32 xs<b16 ^ (2*xs.length):=by rw[<-pow_2k];exact val_lt hx.dg
 clear hW0 hb hx
 obtain ⟨i0,hi,hz0,hz1,hz2⟩:=info_parts infoWord
 go_enter Tryz.func118,Tryz.ntmps118
 go_wp2_with fail
 rw[<-HW0.out]
 refine wp_region_plan (S:=fun w'=>Below (w.heap.size+1) W0 w') [(0,true),(1,true),(2,true),(3,true),(4,false),(5,true),(6,false)] (by kernel_rfl) (by kernel_rfl) (Below.refl _ _).drew ?_
 have HB:=(Below.refl W0.heap.size W0).drew
 repeat (refine plan_take (v:=?_) rfl (by rfl) ?_ ?_;rotate_left;(focus (intro w' hS;have k0:=(tX.toB hS (by omega)).c0;have k1:=(tX.toB hS (by omega)).c1;go_simp;try with_reducible rfl));simp only[Act.put,List.setIfInBounds_toArray,List.set_cons_zero,List.set_cons_succ])
 have AC:=append_copy (c:=c) (HX.out.to (HB0.out.trans (HB.mono HB0.out.size))).rd HX.out.small hi hz0 hz1 hz2
 obtain ⟨A2,c2,w1,hrun,r1,l1,m1,bb⟩:=AC
 refine plan_call rfl (by rfl) (fun K hK=>?_)
 refine wp_append_out (by rfl) (by rfl) hrun ?_
 have hx1:Arg w1 A2 c2 xs:=⟨r1,HX.out.dg,l1,m1,HX.out.small⟩
 replace HB:=Bxb HB bb
 refine hK.out _ _ (HB.mono hBW) ?_
 clear hK K hrun r1 l1 m1 bb
 simp only[Act.put,List.setIfInBounds_toArray,List.set_cons_zero,List.set_cons_succ]
 repeat (refine plan_take (v:=?_) rfl (by rfl) ?_ ?_;rotate_left;(focus (intro w' hS;have k0:=(tX.toB hS (by omega)).c0;have k1:=(tX.toB hS (by omega)).c1;go_simp;try with_reducible rfl));simp only[Act.put,List.setIfInBounds_toArray,List.set_cons_zero,List.set_cons_succ])
 refine plan_call rfl (by rfl) (fun K hK=>?_)
 refine wp_store_two (by rfl) (by rfl) (tR.to HB) Fs.nil ⟨_,_,_,_,rfl,rfl⟩ (fun V u kp=>?_)
 have HF:Arg V A2 c2 xs:=kp.arg hx1
 have HE:=kp.bel _ _ (HB0.out.trans (HB.mono HB0.out.size)) (by omega)
 refine hK.out _ _ (kp.bel _ _ (HB.mono hBW) (Nat.le_refl _)) ?_
 clear hK K kp
 simp only[Act.put,List.setIfInBounds_toArray,List.set_cons_zero,List.set_cons_succ]
 refine plan_done ?_
 have HF2:=Hd HF
 have HE2:=Hd HE
 clear HF HE
 go_wp2
 exact bodyPost_ret (v:=.agg #[.bool n,.slice A2 xs.length c2]) (by simp[results,Tryz.f118,go_sem,u.c0,u.c1]) rfl ⟨_,_,rfl,⟨A2,c2,rfl,rfl,HF2.out⟩,HE2.out⟩
def Qx (W:World)(a b c d:Value)(n:Bool)(xs:List Nat)(m:Bool)(ys:List Nat):Prop:=Zx W a b n xs/\Zx W c d m ys
theorem Qx.to {W V:World}{a b c d:Value}{n m:Bool}{xs ys:List Nat}(h:Qx W a b c d n xs m ys)(hb:Below W.heap.size W V):Qx V a b c d n xs m ys:=⟨h.1.to hb,h.2.to hb⟩
theorem Qx.qi {W:World}{a b c d:Value}{n m:Bool}{xs ys:List Nat}{k:Nat}(h:Qx W a b c d n xs m ys)(h1:xs.length<=k)(h2:ys.length<=k)(hk:k<=10000):Qi W a b c d (rv (zof n (val b32 xs)) (zof m (val b32 ys))) k:=by
 have z1:=h.1.zl (by omega)
 have z2:=h.2.zl (by omega)
 obtain ⟨⟨A,c,_,_,r1⟩,⟨B,d,_,_,r2⟩⟩:=h
 exact ⟨_,_,z1,z2,rfl,Sm.zof r1.dg h1,Sm.zof r2.dg h2⟩
theorem Qx.fq {W:World}{a b c d:Value}{n m:Bool}{xs ys:List Nat}(h:Qx W a b c d n xs m ys):Fq a b c d:=⟨h.1.fs,h.2.fs⟩
theorem own_x {w:World}{x y:Value}{n:Bool}{xs:List Nat}(h:Zx w x y n xs)(sx:xs.length<=10000):Calls Tryz.prog 118 #[.agg #[x,y]] w fun e w'=>∃x y,e=.returned (.agg #[x,y])/\Zx w' x y n xs/\Below w.heap.size w w':=by
 obtain ⟨A,c,rfl,rfl,hx⟩:=h
 exact own_any n hx sx
theorem kpZx {g:Nat}{w V:World}(kp:KeptG g w V){x y:Value}{n:Bool}{xs:List Nat}(h:Zx w x y n xs):Zx V x y n xs:=by
 obtain ⟨A,c,rfl,rfl,⟨r1,r2,r3,r4,r5⟩⟩:=h
 exact ⟨A,c,rfl,rfl,⟨kp.rd _ _ r1,r2,r3,r4,r5⟩⟩
theorem kpQx {g:Nat}{w V:World}(kp:KeptG g w V){a b c d:Value}{n m:Bool}{xs ys:List Nat}(h:Qx w a b c d n xs m ys):Qx V a b c d n xs m ys:=⟨kpZx kp h.1,kpZx kp h.2⟩
theorem own_q {w:World}{a1 a2 a3 a4:Value}{n m:Bool}{xs ys:List Nat}(h:Qx w a1 a2 a3 a4 n xs m ys)(l1:xs.length<=10000)(l2:ys.length<=10000) :
  Calls Tryz.prog 94 #[.agg #[a1,a2,a3,a4]] w (fun e w'=>∃a b c d,e=.returned (.agg #[a,b,c,d])/\Qx w' a b c d n xs m ys/\Below w.heap.size w w'):=by
 have h1:=h.1
 have h2:=h.2
 clear h
 obtain ⟨W0,hW0⟩:∃W0,W0=(w.alloc (.cells #[a1,a2,a3,a4] 32)).alloc (.cells #[.bool false,.slice none 0 0,.bool false,.slice none 0 0] 32):=⟨_,rfl⟩
 have hbw:Below w.heap.size w W0:=by rw[hW0];exact (((Below.refl _ _).alloc (Nat.le_refl _) _).alloc (by simp) _)
 have tA:Four W0 (w.heap.size) a1 a2 a3 a4:=by
  have h:=Four.new w a1 a2 a3 a4 32
  rw[hW0];exact (h.alloc _)
 have tR:Four W0 (w.heap.size+1) (.bool false) (.slice none 0 0) (.bool false) (.slice none 0 0):=by
  have h:=Four.new (w.alloc (.cells #[a1,a2,a3,a4] 32)) (.bool false) (.slice none 0 0) (.bool false) (.slice none 0 0) 32
  rw[World.size_alloc]at h
  rw[hW0];exact h
 replace h1:=h1.to hbw
 replace h2:=h2.to hbw
 have HW0:=Hd hW0
 have HB:=Hd hbw
 clear hW0 hbw
 go_enter Tryz.func94,Tryz.ntmps94
 go_wp2_with fail
 rw[<-HW0.out]
 clear HW0
 refine wp_region_plan (S:=fun w'=>Below w.heap.size w w'/\Four w' (w.heap.size) a1 a2 a3 a4) [(0,true),(1,true),(3,true),(4,true),(2,false),(5,false),(6,true),(7,false)] (by kernel_rfl) (by kernel_rfl) ⟨HB.out.drew,tA.to (Below.refl _ _).drew⟩ ?_
 have hb:=HB.out.drew
 replace tA:=tA.to (Below.refl _ _).drew
 replace tR:=tR.to (Below.refl _ _).drew
 replace h1:=h1.to (Below.refl _ _).drew
 replace h2:=h2.to (Below.refl _ _).drew
 clear HB
 refine plan_take (v:=?_) rfl (by rfl) ?_ ?_;rotate_left;(focus (intro w' hS;go_simp;try with_reducible rfl))
 refine plan_take (v:=?_) rfl (by rfl) ?_ ?_;rotate_left;(focus (intro w' hS;have k00:=(hS.2).c0;have k01:=(hS.2).c1;have k02:=(hS.2).c2;have k03:=(hS.2).c3;go_simp;try with_reducible rfl))
 refine plan_take (v:=?_) rfl (by rfl) ?_ ?_;rotate_left;(focus (intro w' hS;go_simp;try with_reducible rfl))
 refine plan_take (v:=?_) rfl (by rfl) ?_ ?_;rotate_left;(focus (intro w' hS;have k00:=(hS.2).c0;have k01:=(hS.2).c1;have k02:=(hS.2).c2;have k03:=(hS.2).c3;go_simp;try with_reducible rfl))
 refine plan_call rfl (by rfl) (fun K hK=>?_)
 go_simp
 refine (own_x h1 l1).mono ?_
 rintro e V1 ⟨x1,y1,rfl,z1,bb⟩
 replace hb:=Bxb hb bb
 replace tA:=tA.to bb
 replace tR:=tR.to bb
 replace h2:=h2.to bb
 refine hK.out _ _ ⟨hb,tA⟩ ?_
 clear hK K bb
 refine plan_call rfl (by rfl) (fun K hK=>?_)
 go_simp
 refine (own_x h2 l2).mono ?_
 rintro e V2 ⟨x2,y2,rfl,z2,bb⟩
 replace hb:=Bxb hb bb
 replace tA:=tA.to bb
 replace tR:=tR.to bb
 replace z1:=z1.to bb
 refine hK.out _ _ ⟨hb,tA⟩ ?_
 clear hK K bb
 refine plan_take (v:=?_) rfl (by rfl) ?_ ?_;rotate_left;(focus (intro w' hS;go_simp;try with_reducible rfl))
 refine plan_call rfl (by rfl) (fun K hK=>?_)
 have rq:Qx _ _ _ _ _ n xs m ys:=⟨z1,z2⟩
 refine wp_store_q (by rfl) (by rfl) tR Fq.nil rq.fq (fun V u kp=>?_)
 replace tA:=kp.four (by omega) tA
 replace hb:=kp.bel _ _ hb (by omega)
 replace rq:=kpQx kp rq
 refine hK.out _ _ ⟨hb,tA⟩ ?_
 clear hK K kp tR tA
 refine plan_done ?_
 have U0:=u.c0
 have U1:=u.c1
 have U2:=u.c2
 have U3:=u.c3
 have RZ:=Hd rq
 have HE:=Hd hb
 clear rq hb u
 go_wp2
 refine bodyPost_ret (v:=.agg #[x1,y1,x2,y2]) (by simp[results,Tryz.f94,go_sem,U0,U1,U2,U3]) rfl ?_
 exact ⟨_,_,_,_,rfl,RZ.out,HE.out⟩
theorem is_x {w:World}{a1 a2 a3 a4 b1 b2 b3 b4:Value}{n m:Bool}{xs ys:List Nat}(hA:Qx w a1 a2 a3 a4 n xs m ys)(hB:Qx w b1 b2 b3 b4 n xs m ys) :
  Calls Tryz.prog 15 #[.agg #[a1,a2,a3,a4],.agg #[b1,b2,b3,b4]] w (fun e w'=>e=.returned (.bool true)/\Below w.heap.size w w'):=by
 obtain ⟨W0,hW0⟩:∃W0,W0=(w.alloc (.cells #[a1,a2,a3,a4] 32)).alloc (.cells #[b1,b2,b3,b4] 32):=⟨_,rfl⟩
 have hbw:Below w.heap.size w W0:=by rw[hW0];exact (((Below.refl _ _).alloc (Nat.le_refl _) _).alloc (by simp) _)
 have tA:Four W0 (w.heap.size) a1 a2 a3 a4:=by
  have h:=Four.new w a1 a2 a3 a4 32
  rw[hW0];exact (h.alloc _)
 have tB:Four W0 (w.heap.size+1) b1 b2 b3 b4:=by
  have h:=Four.new (w.alloc (.cells #[a1,a2,a3,a4] 32)) b1 b2 b3 b4 32
  rw[World.size_alloc]at h
  rw[hW0];exact h
 replace hA:=hA.to hbw
 replace hB:=hB.to hbw
 have HW0:=Hd hW0
 have HB:=Hd hbw
 clear hW0 hbw
 go_enter Tryz.func15,Tryz.ntmps15
 go_wp2_with fail
 rw[<-HW0.out]
 clear HW0
 have kktA0:=tA.c0
 have kktA1:=tA.c1
 have kktA2:=tA.c2
 have kktA3:=tA.c3
 have kktB0:=tB.c0
 have kktB1:=tB.c1
 have kktB2:=tB.c2
 have kktB3:=tB.c3
 go_wp2_with fail
 refine (same_x hA.1 hB.1).mono ?_
 rintro e V1 ⟨rfl,bb⟩
 clear kktA0 kktA1 kktA2 kktA3 kktB0 kktB1 kktB2 kktB3
 replace tA:=tA.to bb
 replace tB:=tB.to bb
 replace hA:=hA.to bb
 replace hB:=hB.to bb
 replace HB:=Hxb HB bb
 clear bb
 have kktA0:=tA.c0
 have kktA1:=tA.c1
 have kktA2:=tA.c2
 have kktA3:=tA.c3
 have kktB0:=tB.c0
 have kktB1:=tB.c1
 have kktB2:=tB.c2
 have kktB3:=tB.c3
 go_wp2_with fail
 refine (same_x hA.2 hB.2).mono ?_
 rintro e V2 ⟨rfl,bb⟩
 clear kktA0 kktA1 kktA2 kktA3 kktB0 kktB1 kktB2 kktB3
 replace tA:=tA.to bb
 replace tB:=tB.to bb
 replace HB:=Hxb HB bb
 clear bb
 clear tA tB
 go_wp2
 go_ret
 exact ⟨rfl,HB.out⟩
def errD (s:Rat):Int:=if s=0 then 7 else 0
def QE (w:World)(r:Rat)(v:Int)(e:Ending)(w':World):Prop:=∃x1 x2 x3 x4,e=.returned (.tuple #[.agg #[x1,x2,x3,x4],.int .i64 v])/\Qc w' x1 x2 x3 x4 r/\Below w.heap.size w w'
structure W4 where
 n:Bool
 xs:List Nat
 m:Bool
 ys:List Nat
instance : Inhabited W4:=⟨⟨false,[],false,[]⟩⟩
def Ex (W:World)(e:E4)(u:W4):Prop:=Qx W e.a e.b e.c e.d u.n u.xs u.m u.ys
theorem Kw.zx {W V:World}(k:Kw W V){x y:Value}{n:Bool}{xs:List Nat}(h:Zx W x y n xs):Zx V x y n xs:=by
 obtain ⟨A,c,h1,h2,⟨r1,r2,r3,r4,r5⟩⟩:=h
 exact ⟨A,c,h1,h2,⟨k.rd r1,r2,r3,r4,r5⟩⟩
theorem Kw.ex {W V:World}(k:Kw W V){e:E4}{u:W4}(h:Ex W e u):Ex V e u:=⟨k.zx h.1,k.zx h.2⟩
structure Vx (W:World)(A:Option Addr)(c:Nat)(es:List E4)(u:Nat->W4):Prop where
 row:Rq W W.heap.size A es
 el:∀i,i<es.length->Ex W (es.getD i E4.z) (u i)/\(u i).xs.length<=6/\(u i).ys.length<=6
 fq:∀e∈es,e.fq
 cap:es.length<=c
 c63:c<=9223372036854775807
 le:es.length<=20
theorem Vx.to {W V:World}{A:Option Addr}{c:Nat}{es:List E4}{u:Nat->W4}(h:Vx W A c es u)(hb:Below W.heap.size W V):Vx V A c es u :=
 ⟨h.row.to hb,fun i hi=>⟨(h.el i hi).1.to hb,(h.el i hi).2⟩,h.fq,h.cap,h.c63,h.le⟩
def W4.q (u:W4):Rat:=rv (zof u.n (val b32 u.xs)) (zof u.m (val b32 u.ys))
def ratsW (u:Nat->W4)(N:Nat):List Rat:=(List.range N).map fun i=>(u i).q
theorem ratsW_length (u:Nat->W4)(N:Nat):(ratsW u N).length=N:=by simp[ratsW]
theorem Vx.vi {W:World}{A:Option Addr}{c:Nat}{es:List E4}{u:Nat->W4}(h:Vx W A c es u):Vi W A c es (ratsW u es.length) 6:=by
 refine ⟨h.row,(ratsW_length _ _).symm,fun i=>?_,h.fq,h.cap,h.c63⟩
 by_cases hi:i<es.length
 .obtain ⟨h1,h2,h3⟩:=h.el i hi
  rw[show (ratsW u es.length).getD i 0=(u i).q from by simp[ratsW,List.getD,hi]]
  exact Qx.qi h1 h2 h3 (by decide)
 .rw[getD_ge (l:=ratsW u es.length) (by rw[ratsW_length];omega),getD_ge (l:=es) (by omega)]
  exact Qi.zero W
theorem VIn.vx {w:World}{v:VA}(h:VIn w v)(hl:lngV v.es=false):∃u,Vx w v.A v.c v.es u:=by
 obtain ⟨A,c,es⟩:=v
 obtain ⟨hrow,hel,hcap,hc63⟩:=h
 dsimp only at hrow hel hcap hc63 hl ⊢
 unfold lngV at hl
 simp only[Bool.or_eq_false_iff,decide_eq_false_iff_not,List.any_eq_false]at hl
 have key:∀i,i<es.length->∃u:W4,Ex w (es.getD i E4.z) u/\u.xs.length<=6/\u.ys.length<=6:=fun i hi=>by
  rw[getD_at' hi]
  have he:=List.getElem_mem hi
  have h1:=hl.2 _ he
  obtain ⟨⟨n,A1,d1,xs,f1,f2,r1,g1,l1,m1⟩,⟨m,A2,d2,ys,f3,f4,r2,g2,l2,m2⟩⟩:=hel _ he
  unfold lngE at h1
  simp only[f2,f4,vlen,Bool.or_eq_true,decide_eq_true_eq,not_or]at h1
  have a1:Arg w A1 d1 xs:=⟨r1,g1,l1,m1,by omega⟩
  have a2:Arg w A2 d2 ys:=⟨r2,g2,l2,m2,by omega⟩
  exact ⟨⟨n,xs,m,ys⟩,⟨⟨A1,d1,f1,f2,a1⟩,⟨A2,d2,f3,f4,a2⟩⟩,by show xs.length<=6;omega,by show ys.length<=6;omega⟩
 obtain ⟨u,hu⟩:=Go.Deep.choose_lt key
 exact ⟨u,hrow,hu,fun e he=>(hel e he).fq,hcap,hc63,by omega⟩
theorem vis_x {w:World}{A A':Option Addr}{c c':Nat}{es fs:List E4}{u:Nat->W4}(hA:Vx w A c es u)(hB:Vx w A' c' fs u)(hl:es.length=fs.length) :
  Calls Tryz.prog 37 #[.slice A es.length c,.slice A' fs.length c'] w fun e w'=>e=.returned (.bool true)/\Below w.heap.size w w':=by
 rw[<-hl]
 exact is3_f (b:=fun _=>true) hA.row hB.row rfl hl.symm (by have:=hA.le;omega) (fun V hV i hi=>is_x ((hA.el i hi).1.to hV) ((hB.el i (by omega)).1.to hV)) (by simp)
theorem own3_x {w:World}{A:Option Addr}{c:Nat}{es:List E4}{u:Nat->W4}(h:Vx w A c es u) :
  Calls Tryz.prog 51 #[.slice A es.length c] w fun e w'=>∃A' c' fs,e=.returned (.slice A' es.length c')/\fs.length=es.length/\Vx w' A' c' fs u/\Below w.heap.size w w':=by
 have H:=Hd h
 have HO:=Hd (fun (V:World) (hV:Below w.heap.size w V) i hi=>own_q ((h.el i hi).1.to hV) (by have:=(h.el i hi).2.1;omega) (by have:=(h.el i hi).2.2;omega))
 obtain ⟨N,hN⟩:∃N,es.length=N:=⟨_,rfl⟩
 have HNN:=Hd hN
 have hN2:=h.le
 rw[hN]at hN2 HO ⊢
 have HL:=Hd hN2
 clear h hN hN2
 go_enter Tryz.func51,Tryz.ntmps51
 go_wp2
 go_loopw [3,4] (fun v i wr=>∃(k:Nat) (A1:Option Addr) (c1:Nat),v=.slice A1 k c1/\i=.int .i64 k/\k<=N/\Hid (TotP (fun W i e=>Ex W e (u i)) wr (.slice A1 k c1) k w.heap.size)/\Below w.heap.size w wr) (fun _ i _=>N-(intOf i).toNat)
 case atStart=>exact ⟨0,none,0,rfl,rfl,Nat.zero_le _,.inl ⟨rfl,rfl⟩,Below.refl _ _⟩
 case round =>
  obtain ⟨k,A1,c1,rfl,rfl,hk,hT,hb⟩:=hrel
  by_cases hlt:k<N
  .have hk1:(0:Int)<=(k:Int):=by omega
   have hk2:(k:Int)<(N:Int):=by omega
   have hk3:(k:Int)+1<=9223372036854775807:=by have:=HL.out;omega
   have hkn:k<es.length:=by have:=HNN.out;omega
   have HC:=Hd (HO.out wr hb k hlt)
   obtain ⟨b,o,ha,hb1,f0,f1,f2,f3⟩:=H.out.row k hkn
   rw[getD_at' hkn]at HC
   replace f0:=(hb.cell (p:=⟨b,_,none⟩) hb1).trans f0
   replace f1:=(hb.cell (p:=⟨b,_,none⟩) hb1).trans f1
   replace f2:=(hb.cell (p:=⟨b,_,none⟩) hb1).trans f2
   replace f3:=(hb.cell (p:=⟨b,_,none⟩) hb1).trans f3
   generalize es[k]=X at HC f0 f1 f2 f3
   obtain ⟨x1,x2,x3,x4⟩:=X
   dsimp only at f0 f1 f2 f3 HC
   have HB:=Hd hb
   have HLT:=Hd hlt
   clear hb hkn hlt hb1 HO H HNN
   subst ha
   go_wp2_with fail
   refine HC.out.mono ?_
   rintro e V ⟨y1,y2,y3,y4,rfl,q,bb⟩
   have bb2:Below V.heap.size V (V.alloc (.cells #[y1,y2,y3,y4] 32)):=(Below.refl _ _).alloc (Nat.le_refl _) _
   have c5:=(Hp.new V #[y1,y2,y3,y4] 32).four
   have hB1:=HB.out.trans (bb.mono HB.out.size)
   have hB2:=Bxb hB1 bb2
   have hT1:TotP (fun W i e=>Ex W e (u i)) (V.alloc (.cells #[y1,y2,y3,y4] 32)) (.slice A1 k c1) k w.heap.size:=by
    have h1:=TotP.mv (P:=fun W i e=>Ex W e (u i)) (fun k h=>k.ex h) hT.out bb
    exact TotP.mv (P:=fun W i e=>Ex W e (u i)) (fun k h=>k.ex h) h1 bb2
   obtain ⟨v',X,hrun,hT2,hbel⟩:=papp (P:=fun W i e=>Ex W e (u i)) (fun k h=>k.ex h) hT1 hB2.size (by have:=HL.out;have:=HLT.out;omega) (e:=⟨y1,y2,y3,y4⟩) q.fq (q.to bb2) (a:=⟨V.heap.size,0,none⟩) (c:=1) c5.c0 c5.c1 c5.c2 c5.c3 38
   obtain ⟨A2,c2,rfl⟩:=hT2.sl
   have HRUN:=Hd hrun
   have HE:Hid (TotP (fun W i e=>Ex W e (u i)) X (.slice A2 (k+1) c2) (k+1) w.heap.size/\Below w.heap.size w X):=⟨hT2,hB2.trans hbel⟩
   clear bb2 c5 hbel hrun bb q hT1 hT2 hB1 hB2 HC
   go_wp2_with (at_builtin;refine wpList_append_run rfl (.tmp 11) (.tmp 17) 38 rfl (by rfl) (by rfl) HRUN.out ?_;clear HRUN)
   go_roundw
   case rel=>exact ⟨k+1,A2,c2,rfl,by simp,HLT.out,HE.out.1,HE.out.2⟩
   case measure=>have:=HLT.out;simp[intOf];omega
  .obtain rfl:k=N:=by omega
   have HB:=Hd hb
   have HQ:Hid (∀i,i<k->(u i).xs.length<=6/\(u i).ys.length<=6):=fun i hi=>(H.out.el i (by have:=HNN.out;omega)).2
   clear hb hlt H HO
   go_wp2
   go_ret
   rcases hT.out with ⟨h0,h1⟩|⟨g,cap,fl,h1,hg,h2,h3,h4,h5,h6,h7⟩
   .cases h1
    exact ⟨none,0,[],rfl,rfl,⟨Rq.nil,(fun i hi=>by cases hi),(fun e he=>by cases he),by decide,by decide,by decide⟩,HB.out⟩
   .cases h1
    have hlen:(fl.take k).length=k:=by rw[List.length_take];omega
    refine ⟨_,_,fl.take k,rfl,hlen,⟨h2.rq _,fun i hi=>?_,fun e he=>h2.fq e (List.mem_of_mem_take he),by rw[hlen];exact h4,h5,by rw[hlen];exact HL.out⟩,HB.out⟩
    rw[hlen]at hi
    rw[show (fl.take k).getD i E4.z=fl.getD i E4.z from by simp[List.getD,List.getElem?_take,hi]]
    exact ⟨h6 i hi,HQ.out i hi⟩
structure Mw (W:World)(P:Option Addr)(N C:Nat)(n:Nat->Nat)(U:Nat->Nat->W4):Prop where
 row:∀k,k<N->∃b o A c es,P=some ⟨b,o,none⟩/\b<W.heap.size/\W.cell? ⟨b,o+k,none⟩=some (.slice A (n k) c)/\es.length=n k/\Vx W A c es (U k)
 n63:N<=9223372036854775807
theorem Mw.to {W V:World}{P:Option Addr}{N C:Nat}{n:Nat->Nat}{U:Nat->Nat->W4}(h:Mw W P N C n U)(hb:Below W.heap.size W V):Mw V P N C n U :=
 ⟨fun k hk=>by
  obtain ⟨b,o,A,c,es,e,h1,h2,h3,h4⟩:=h.row k hk
  exact ⟨b,o,A,c,es,e,Nat.lt_of_lt_of_le h1 hb.size,(hb.cell (p:=⟨b,_,none⟩) h1).trans h2,h3,h4.to hb⟩,h.n63⟩
def ratsU (n:Nat->Nat)(U:Nat->Nat->W4)(k:Nat):List Rat:=ratsW (U k) (n k)
theorem ratsU_length (n:Nat->Nat)(U:Nat->Nat->W4)(k:Nat):(ratsU n U k).length=n k:=ratsW_length _ _
theorem Mw.mi {W:World}{P:Option Addr}{N C:Nat}{n:Nat->Nat}{U:Nat->Nat->W4}(h:Mw W P N C n U):Mi W P N C (ratsU n U) 6 :=
 ⟨fun k hk=>by
  obtain ⟨b,o,A,c,es,e,h1,h2,h3,h4⟩:=h.row k hk
  have h5:=h4.vi
  rw[h3]at h5
  exact ⟨b,o,A,c,es,e,h1,by rw[h2,ratsU_length],h5⟩,h.n63⟩
def Vw (n:Nat->Nat)(U:Nat->Nat->W4)(W:World)(i:Nat)(v:Value):Prop:=∃A c es,v=.slice A (n i) c/\es.length=n i/\Vx W A c es (U i)
theorem RowS.vx {W:World}{g:Nat}{fl:List Value}(h:RowS W g fl){cs:Array Value}{A:Option Addr}{c:Nat}{es:List E4}{u:Nat->W4}(hv:Vx W A c es u):Vx (W.setRow g cs) A c es u :=
 ⟨by rw[setRow_size];exact h.rq hv.row hv.fq,fun i hi=>⟨h.kw.ex (hv.el i hi).1,(hv.el i hi).2⟩,hv.fq,hv.cap,hv.c63,hv.le⟩
theorem Vw.kept (n:Nat->Nat)(U:Nat->Nat->W4):KeptS (Vw n U) where
 to:=fun hb h=>by
  obtain ⟨A,c,es,e,h1,h⟩:=h
  exact ⟨A,c,es,e,h1,h.to hb⟩
 set:=fun hr h=>by
  obtain ⟨A,c,es,e,h1,h⟩:=h
  exact ⟨A,c,es,e,h1,hr.vx h⟩
theorem TotS.mw {n:Nat->Nat}{U:Nat->Nat->W4}{W:World}{P:Option Addr}{N c B:Nat}(h:TotS (Vw n U) W (.slice P N c) N B):Mw W P N c n U:=by
 rcases h with ⟨rfl,h⟩|⟨g,cap,fl,h1,h2,h3,h4,h5,h6,h7⟩
 .cases h
  exact ⟨fun k hk=>absurd hk (Nat.not_lt_zero _),by decide⟩
 .cases h1
  refine ⟨fun k hk=>?_,Nat.le_trans h5 h6⟩
  obtain ⟨A,d,es,e,h8,h9⟩:=h7 k hk
  refine ⟨g,0,A,d,es,rfl,h3.lt,?_,h8,h9⟩
  rw[<-e]
  have hk2:k<fl.length:=by omega
  simp[World.cell?,h3.heap,List.getD,hk2]
theorem MIn.mw {w:World}{M:MA}(h:MIn w M)(hl:lngM M=false):∃n U,Mw w M.P M.N M.C n U/\M.N<=8/\∀k,k<M.N->n k<=8:=by
 unfold lngM at hl
 simp only[Bool.or_eq_false_iff,decide_eq_false_iff_not]at hl
 obtain ⟨⟨h1,h2⟩,h3⟩:=hl
 have each:∀i,i<M.N->∃u:Nat->W4,Vx w (M.vs i).A (M.vs i).c (M.vs i).es u:=fun i hi=>by
  have h4:=List.any_eq_false.1 h3 (M.vs i) (List.mem_map.2 ⟨i,List.mem_range.2 hi,rfl⟩)
  exact (h.vin i hi).vx (by simpa using h4)
 obtain ⟨U,hU⟩:=Go.Deep.choose_lt each
 refine ⟨fun k=>(M.vs k).es.length,U,⟨fun k hk=>?_,h.n63⟩,by omega,fun k hk=>?_⟩
 .obtain ⟨b,o,e,h5,h6⟩:=h.row k hk
  exact ⟨b,o,(M.vs k).A,(M.vs k).c,(M.vs k).es,e,h5,h6,rfl,hU k hk⟩
 .have h5:=colsN_ge (rsL M.vs) hk
  simp only[rsL,List.length_replicate]at h5
  show (M.vs k).es.length<=8
  omega
theorem own4_x {w:World}{P:Option Addr}{N C:Nat}{n:Nat->Nat}{U:Nat->Nat->W4}(h:Mw w P N C n U)(hl:N+1<=1000000) :
  Calls Tryz.prog 12 #[.slice P N C] w (fun e w'=>∃P' C',e=.returned (.slice P' N C')/\Mw w' P' N C' n U/\Below w.heap.size w w'):=by
 have HL:=Hd hl
 have HO:=Hd (fun (V:World) (hV:Below w.heap.size w V)=>(h.to hV).row)
 clear h hl
 go_enter Tryz.func12,Tryz.ntmps12
 go_wp2
 go_loopw [3,4] (fun v i wr=>∃(k:Nat) (A1:Option Addr) (c1:Nat),v=.slice A1 k c1/\i=.int .i64 k/\k<=N/\Hid (TotS (Vw n U) wr (.slice A1 k c1) k w.heap.size)/\Below w.heap.size w wr) (fun _ i _=>N-(intOf i).toNat)
 case atStart=>exact ⟨0,none,0,rfl,rfl,Nat.zero_le _,.inl ⟨rfl,rfl⟩,Below.refl _ _⟩
 case round =>
  obtain ⟨k,A1,c1,rfl,rfl,hk,hT,hb⟩:=hrel
  by_cases hlt:k<N
  .have hk1:(0:Int)<=(k:Int):=by omega
   have hk2:(k:Int)<(N:Int):=by omega
   have hk3:(k:Int)+1<=9223372036854775807:=by have:=HL.out;omega
   obtain ⟨b,o,A,c,es,rfl,hb1,cc,hn,hx⟩:=HO.out wr hb k hlt
   have hc:=own3_x hx
   rw[hn]at hc
   have HC:=Hd hc
   clear hc hx hb1 hn
   have HB:=Hd hb
   have HLT:=Hd hlt
   clear hb hlt hk
   go_wp2_with fail
   refine (HC.out).mono ?_
   rintro e V ⟨A2,c2,fl2,rfl,hfl,hv,bb⟩
   have bb2:Below V.heap.size V (V.alloc (.cells #[.slice A2 (n k) c2] 38)):=(Below.refl _ _).alloc (Nat.le_refl _) _
   have c5:=(Hp.new V #[.slice A2 (n k) c2] 38).one
   have hB1:=HB.out.trans (bb.mono HB.out.size)
   have hB2:=Bxb hB1 bb2
   obtain ⟨v',X,hrun,hT2,hbel⟩:=sapp (Vw.kept n U) ((hT.out.mv (Vw.kept n U) bb).mv (Vw.kept n U) bb2) hB2.size (by have:=HL.out;have:=HLT.out;omega) ⟨_,_,_,rfl⟩ ⟨A2,c2,fl2,rfl,hfl,hv.to bb2⟩ (a:=⟨V.heap.size,0,none⟩) (c:=1) c5 22
   obtain ⟨A3,c3,rfl⟩:=hT2.sl
   have HRUN:=Hd hrun
   have HE:Hid (TotS (Vw n U) X (.slice A3 (k+1) c3) (k+1) w.heap.size/\Below w.heap.size w X):=⟨hT2,hB2.trans hbel⟩
   clear bb2 c5 hbel hrun bb hv hT2 hB1 hB2 hfl
   go_wp2_with (at_builtin;refine wpList_append_run rfl (.tmp 11) (.tmp 17) 22 rfl (by rfl) (by rfl) HRUN.out ?_;clear HRUN)
   go_roundw
   case rel=>exact ⟨k+1,A3,c3,rfl,by simp,HLT.out,HE.out.1,HE.out.2⟩
   case measure=>have:=HLT.out;simp[intOf];omega
  .obtain rfl:k=N:=by omega
   have HT:=hT
   have HB:=Hd hb
   clear hT hb hlt hk
   go_wp2
   go_ret
   exact ⟨A1,c1,rfl,HT.out.mw,HB.out⟩
theorem is4_x {w:World}{P Q:Option Addr}{N C D:Nat}{n:Nat->Nat}{U:Nat->Nat->W4}(hx:Mw w P N C n U)(hy:Mw w Q N D n U) :
  Calls Tryz.prog 20 #[.slice P N C,.slice Q N D] w fun e w'=>e=.returned (.bool true)/\Below w.heap.size w w':=by
 have RX:=Hd hx.row
 have RY:=Hd hy.row
 have HN:=Hd (hx.n63)
 have hne:((N:Int) != (N:Int))=false:=by simp
 clear hx hy
 go_enter Tryz.func20,Tryz.ntmps20
 go_wp2
 go_loopw [5] (fun i wr=>∃k:Nat,i=.int .i64 k/\k<=N/\Below w.heap.size w wr) (fun i _=>N-(intOf i).toNat)
 case atStart=>exact ⟨0,rfl,Nat.zero_le _,Below.refl _ _⟩
 case round =>
  obtain ⟨k,rfl,hk,hb⟩:=hrel
  by_cases hlt:k<N
  .have hk1:(0:Int)<=(k:Int):=by omega
   have hk2:(k:Int)<(N:Int):=by omega
   have hk3:(k:Int)+1<=9223372036854775807:=by have:=HN.out;omega
   obtain ⟨b1,o1,A1,c1,es1,rfl,hb1,f1,n1,v1⟩:=RX.out k hlt
   obtain ⟨b2,o2,A2,c2,es2,rfl,hb2,f2,n2,v2⟩:=RY.out k hlt
   have hc:=fun (V:World) (hV:Below w.heap.size w V)=>vis_x (v1.to hV) (v2.to hV) (n1.trans n2.symm)
   rw[n1,n2]at hc
   have HC:=Hd hc
   have F1:Hid (∀V,Below w.heap.size w V->V.cell? ⟨b1,o1+k,none⟩=some (.slice A1 (n k) c1)):=fun V hV=>(hV.cell (p:=⟨b1,_,none⟩) hb1).trans f1
   have F2:Hid (∀V,Below w.heap.size w V->V.cell? ⟨b2,o2+k,none⟩=some (.slice A2 (n k) c2)):=fun V hV=>(hV.cell (p:=⟨b2,_,none⟩) hb2).trans f2
   have HB:=Hd hb
   have HLT:=Hd hlt
   clear v1 v2 hb1 hb2 hb hlt hk RX RY hc n1 n2 f1 f2
   go_wp2_with fail
   refine wp_region_plan (S:=fun w'=>Below w.heap.size w w') [(0,true),(1,true),(2,true),(3,true),(4,true),(5,true),(6,true),(7,true),(8,false),(9,true)] (by kernel_rfl) (by kernel_rfl) HB.out.drew ?_
   have hb:=HB.out.drew
   iterate 3 (refine plan_take (v:=?_) rfl (by rfl) ?_ ?_;rotate_left;(focus (intro w' _;go_simp;try with_reducible rfl));simp only[Act.put,List.setIfInBounds_toArray,List.set_cons_zero,List.set_cons_succ])
   refine plan_take (v:=?_) rfl (by rfl) ?_ ?_;rotate_left;(focus (intro w' hS;have f1:=F1.out w' hS;go_simp;try with_reducible rfl));simp only[Act.put,List.setIfInBounds_toArray,List.set_cons_zero,List.set_cons_succ]
   iterate 3 (refine plan_take (v:=?_) rfl (by rfl) ?_ ?_;rotate_left;(focus (intro w' _;go_simp;try with_reducible rfl));simp only[Act.put,List.setIfInBounds_toArray,List.set_cons_zero,List.set_cons_succ])
   refine plan_take (v:=?_) rfl (by rfl) ?_ ?_;rotate_left;(focus (intro w' hS;have f2:=F2.out w' hS;go_simp;try with_reducible rfl));simp only[Act.put,List.setIfInBounds_toArray,List.set_cons_zero,List.set_cons_succ]
   refine plan_call rfl (by rfl) (fun K hK=>?_)
   go_simp
   refine (HC.out _ hb).mono ?_
   rintro e V ⟨rfl,bb⟩
   replace hb:=Bxb hb bb
   refine hK.out _ _ hb ?_
   clear hK K bb
   refine plan_take (v:=?_) rfl (by rfl) ?_ ?_;rotate_left;(focus (intro w' _;go_simp;try with_reducible rfl));simp only[Act.put,List.setIfInBounds_toArray,List.set_cons_zero,List.set_cons_succ]
   refine plan_done ?_
   have HB2:=Hd hb
   clear hb HC F1 F2 HB
   go_wp2
   go_roundw
   case rel=>exact ⟨k+1,by simp,HLT.out,HB2.out⟩
   case measure=>have:=HLT.out;simp[intOf];omega
  .obtain rfl:k=N:=by omega
   have HB:=Hd hb
   clear hb hlt hk RX RY
   go_wp2
   go_ret
   exact ⟨rfl,HB.out⟩
theorem rat_in {w:World}{b o n c k:Nat}{n1 n2:Bool}{A1 A2:Option Addr}{j1 m1 j2 m2:Nat}(hk:k<n)(hn:n<=9223372036854775807)(hb:b<w.heap.size)
  (h0:w.cell? ⟨b,o+k*4,none⟩=some (.bool n1)) (h1:w.cell? ⟨b,o+k*4+1,none⟩=some (.slice A1 j1 m1)) (h2:w.cell? ⟨b,o+k*4+2,none⟩=some (.bool n2)) (h3:w.cell? ⟨b,o+k*4+3,none⟩=some (.slice A2 j2 m2)) :
  Calls Tryz.prog 56 #[.slice (some ⟨b,o,none⟩) n c,.int .i64 k] w fun e w'=>e=.returned (.agg #[.bool n1,.slice A1 j1 m1,.bool n2,.slice A2 j2 m2])/\Below w.heap.size w w':=by
 have hbw:Below w.heap.size w (w.alloc (.cells #[.bool false,.slice none 0 0,.bool false,.slice none 0 0] 32)):=(Below.refl _ _).alloc (Nat.le_refl _) _
 have f0:=(hbw.cell (p:=⟨b,o+k*4,none⟩) hb).trans h0
 have f1:=(hbw.cell (p:=⟨b,o+k*4+1,none⟩) hb).trans h1
 have f2:=(hbw.cell (p:=⟨b,o+k*4+2,none⟩) hb).trans h2
 have f3:=(hbw.cell (p:=⟨b,o+k*4+3,none⟩) hb).trans h3
 have hk0:(k:Int)<(n:Int):=by omega
 have hk1:(0:Int)<=(k:Int):=by omega
 clear hbw h0 h1 h2 h3 hb
 go_enter Tryz.func56,Tryz.ntmps56
 go_wp2
 refine bodyPost_ret (v:=.agg #[.bool n1,.slice A1 j1 m1,.bool n2,.slice A2 j2 m2]) (by simp[results,Tryz.f56,go_sem]) rfl ?_
 exact ⟨rfl,(Below.refl _ _).alloc (Nat.le_refl _) _⟩
theorem rat_out {w:World}{A:Option Addr}{n c k:Nat}(hk:¬k<n) :
  Calls Tryz.prog 56 #[.slice A n c,.int .i64 k] w fun e w'=>e=.returned (.agg #[.bool false,.slice none 0 0,.bool false,.slice none 0 0])/\Below w.heap.size w w':=by
 have hk0:¬(k:Int)<(n:Int):=by omega
 have hk1:(0:Int)<=(k:Int):=by omega
 clear hk
 go_enter Tryz.func56,Tryz.ntmps56
 go_wp2
 refine bodyPost_ret (v:=.agg #[.bool false,.slice none 0 0,.bool false,.slice none 0 0]) (by simp[results,Tryz.f56,go_sem]) rfl ?_
 exact ⟨rfl,(Below.refl _ _).alloc (Nat.le_refl _) _⟩
theorem rat_v {w:World}{B:Nat}{A:Option Addr}{c k:Nat}{es:List E4}(h:Rq w B A es)(hq:∀e∈es,e.fq)(hl:es.length<=9223372036854775807) :
  Calls Tryz.prog 56 #[.slice A es.length c,.int .i64 k] w fun e w'=>e=.returned (.agg #[(es.getD k E4.z).a,(es.getD k E4.z).b,(es.getD k E4.z).c,(es.getD k E4.z).d])/\Below w.heap.size w w':=by
 by_cases hk:k<es.length
 .obtain ⟨b,o,rfl,hb,h0,h1,h2,h3⟩:=h k hk
  rw[getD_at' hk]
  have hf:=hq _ (List.getElem_mem hk)
  generalize es[k]=e at h0 h1 h2 h3 hf
  obtain ⟨e1,e2,e3,e4⟩:=e
  obtain ⟨⟨n1,A1,k1,c1,g1,g2⟩,⟨n2,A2,k2,c2,g3,g4⟩⟩:=hf
  dsimp only at g1 g2 g3 g4 h0 h1 h2 h3
  subst g1 g2 g3 g4
  exact rat_in hk hl (World.block_lt_of_cell? w _ h0) h0 h1 h2 h3
 .rw[getD_out hk]
  exact rat_out hk
theorem rlex_f {f:Nat->Int}{w:World}{A A':Option Addr}{c c' L M:Nat}{es fs:List E4}{rs ss:List Rat}{k l:Nat}(hA:Vi w A c es rs k)(hB:Vi w A' c' fs ss l)(hk:0<k)(hl:0<l)(hkl:k+l+1<=10000)(hL:es.length=L)(hM:fs.length=M)(h1:L<=4398046511104)(h2:M<=4398046511104)(hf:∀i,cmpQ (rs.getD i 0) (ss.getD i 0)=f i) :
  Calls Tryz.prog 58 #[.slice A L c,.slice A' M c'] w fun e w'=>e=.returned (.int .i64 (lexF f 0 (max L M)))/\Below w.heap.size w w':=by
 have HA:=Hd hA
 have HB:=Hd hB
 have HL:=Hd hL
 have HM:=Hd hM
 have HC:=Hd (fun (V:World) (i:Nat) (hV:Below w.heap.size w V)=>rcmp_q ((hA.el i).to hV) ((hB.el i).to hV) hk hl hkl (hf i))
 have HX:=Hd (fun (V:World) (i:Nat) (hV:Below w.heap.size w V)=>rat_v (c:=c) (k:=i) (hA.row.grow hV) hA.fq (by omega))
 have HY:=Hd (fun (V:World) (i:Nat) (hV:Below w.heap.size w V)=>rat_v (c:=c') (k:=i) (hB.row.grow hV) hB.fq (by omega))
 rw[hL]at HX
 rw[hM]at HY
 clear hA hB hL hM hf hkl
 go_enter Tryz.func58,Tryz.ntmps58
 go_wp2
 go_loopw [5] (fun i wr=>∃k:Nat,i=.int .i64 k/\k<=max L M/\(∀j,j<k->f j=0)/\Below w.heap.size w wr) (fun i _=>max L M-(intOf i).toNat)
 case atStart=>exact ⟨0,rfl,Nat.zero_le _,(fun j hj=>by omega),Below.refl _ _⟩
 case round =>
  obtain ⟨k,rfl,hk',ht,hb⟩:=hrel
  have HT:=Hd ht
  have HBB:=Hd hb
  clear ht hb
  have hki:(0:Int)<=(k:Int):=by omega
  have hk63:(k:Int)+1<=9223372036854775807:=by omega
  by_cases hx:k<L
  .have hx1:(k:Int)<(L:Int):=by omega
   go_wp2_with fail
   refine (HX.out wr k HBB.out).mono ?_
   rintro e V1 ⟨rfl,b1⟩
   have B1:=Hxb HBB b1
   clear b1
   go_wp2_with fail
   refine (HY.out V1 k B1.out).mono ?_
   rintro e V2 ⟨rfl,b2⟩
   have B2:=Hxb B1 b2
   clear b2 B1
   obtain ⟨v,hv⟩:∃v,f k=v:=⟨_,rfl⟩
   have HC2:=Hd (HC.out V2 k B2.out)
   rw[hv]at HC2
   have HV:=Hd hv
   have HLT:Hid (k<max L M):=by show _<_;omega
   clear hv
   go_wp2_with fail
   refine HC2.out.mono ?_
   rintro e V3 ⟨rfl,b3⟩
   have B3:=Hxb B2 b3
   clear b3 B2 HC2
   by_cases h0:v=0
   .have ht:(v != 0)=false:=by rw[h0];rfl
    have H0:=Hd h0
    clear h0
    go_wp2
    go_roundw
    case rel =>
     refine ⟨k+1,by simp,HLT.out,fun j hj=>?_,B3.out⟩
     by_cases hjk:j=k
     .subst hjk;rw[HV.out];exact H0.out
     .exact HT.out j (by omega)
    case measure=>have:=HLT.out;simp[intOf];omega
   .have ht:(v != 0)=true:=by rw[bne_iff_ne];exact h0
    have H0:=Hd h0
    clear h0
    go_wp2
    go_ret
    refine ⟨?_,B3.out⟩
    rw[lexF_stop f (max L M) 0 k (fun j _ hj=>HT.out j hj) (Nat.zero_le _) (by have:=HLT.out;omega) (by rw[HV.out];exact H0.out),HV.out]
    rfl
  .have hx1:¬(k:Int)<(L:Int):=by omega
   by_cases hy:k<M
   .have hy1:(k:Int)<(M:Int):=by omega
    go_wp2_with fail
    refine (HX.out wr k HBB.out).mono ?_
    rintro e V1 ⟨rfl,b1⟩
    have B1:=Hxb HBB b1
    clear b1
    go_wp2_with fail
    refine (HY.out V1 k B1.out).mono ?_
    rintro e V2 ⟨rfl,b2⟩
    have B2:=Hxb B1 b2
    clear b2 B1
    obtain ⟨v,hv⟩:∃v,f k=v:=⟨_,rfl⟩
    have HC2:=Hd (HC.out V2 k B2.out)
    rw[hv]at HC2
    have HV:=Hd hv
    have HLT:Hid (k<max L M):=by show _<_;omega
    clear hv
    go_wp2_with fail
    refine HC2.out.mono ?_
    rintro e V3 ⟨rfl,b3⟩
    have B3:=Hxb B2 b3
    clear b3 B2 HC2
    by_cases h0:v=0
    .have ht:(v != 0)=false:=by rw[h0];rfl
     have H0:=Hd h0
     clear h0
     go_wp2
     go_roundw
     case rel =>
      refine ⟨k+1,by simp,HLT.out,fun j hj=>?_,B3.out⟩
      by_cases hjk:j=k
      .subst hjk;rw[HV.out];exact H0.out
      .exact HT.out j (by omega)
     case measure=>have:=HLT.out;simp[intOf];omega
    .have ht:(v != 0)=true:=by rw[bne_iff_ne];exact h0
     have H0:=Hd h0
     clear h0
     go_wp2
     go_ret
     refine ⟨?_,B3.out⟩
     rw[lexF_stop f (max L M) 0 k (fun j _ hj=>HT.out j hj) (Nat.zero_le _) (by have:=HLT.out;omega) (by rw[HV.out];exact H0.out),HV.out]
     rfl
   .have hy1:¬(k:Int)<(M:Int):=by omega
    go_wp2
    go_ret
    refine ⟨?_,HBB.out⟩
    rw[lexF_zero f (max L M) 0 fun j _ hj=>by have:=HT.out j (by omega);omega]
    rfl
theorem rlex_v {w:World}{A A':Option Addr}{c c':Nat}{es fs:List E4}{rs ss:List Rat}{k l:Nat}(hA:Vi w A c es rs k)(hB:Vi w A' c' fs ss l)(hk:0<k)(hl:0<l)(hkl:k+l+1<=10000)(h1:rs.length<=4398046511104)(h2:ss.length<=4398046511104){v:Int}(hv:lexQ rs ss=v) :
  Calls Tryz.prog 58 #[.slice A rs.length c,.slice A' ss.length c'] w fun e w'=>e=.returned (.int .i64 v)/\Below w.heap.size w w':=by
 subst hv
 exact rlex_f hA hB hk hl hkl hA.len hB.len h1 h2 (fun i=>rfl)
def elI (rs:Nat->List Rat)(N:Nat)(i j:Int):Rat:=if 0<=i/\0<=j then el rs N i.toNat j.toNat else 0
theorem elI_nat (rs:Nat->List Rat)(N i j:Nat):elI rs N (i:Int) (j:Int)=el rs N i j:=by
 unfold elI
 rw[if_pos ⟨Int.natCast_nonneg _,Int.natCast_nonneg _⟩,Int.toNat_natCast,Int.toNat_natCast]
theorem elI_out {rs:Nat->List Rat}{N:Nat}{i j:Int}(h:¬(0<=i/\i<(N:Int)/\0<=j)):elI rs N i j=0:=by
 unfold elI
 split
 .exact el_out (by omega)
 .rfl
theorem rat_neg {w:World}{A:Option Addr}{n c:Nat}{k:Int}(hk:k<0) :
  Calls Tryz.prog 56 #[.slice A n c,.int .i64 k] w fun e w'=>e=.returned (.agg #[.bool false,.slice none 0 0,.bool false,.slice none 0 0])/\Below w.heap.size w w':=by
 have hk1:¬(0:Int)<=k:=by omega
 clear hk
 go_enter Tryz.func56,Tryz.ntmps56
 go_wp2
 refine bodyPost_ret (v:=.agg #[.bool false,.slice none 0 0,.bool false,.slice none 0 0]) (by simp[results,Tryz.f56,go_sem]) rfl ?_
 exact ⟨rfl,(Below.refl _ _).alloc (Nat.le_refl _) _⟩
theorem rat_i {w:World}{A:Option Addr}{c m:Nat}{k:Int}{es:List E4}{rs:List Rat}(h:Vi w A c es rs m) :
  Calls Tryz.prog 56 #[.slice A rs.length c,.int .i64 k] w fun e w'=>∃a b c d,e=.returned (.agg #[a,b,c,d])/\Qi w' a b c d (if 0<=k then rs.getD k.toNat 0 else 0) m/\Below w.heap.size w w':=by
 by_cases hk:0<=k
 .obtain ⟨n,rfl⟩:∃n:Nat,k=(n:Int):=⟨k.toNat,by omega⟩
  have h1:=rat_v (c:=c) (k:=n) h.row h.fq (by have:=h.cap;have:=h.c63;omega)
  rw[h.len]at h1
  refine h1.mono ?_
  rintro e w' ⟨rfl,hb⟩
  rw[if_pos hk,Int.toNat_natCast]
  exact ⟨_,_,_,_,rfl,(h.el n).to hb,hb⟩
 .refine (rat_neg (by omega)).mono ?_
  rintro e w' ⟨rfl,hb⟩
  rw[if_neg hk]
  exact ⟨_,_,_,_,rfl,Qi.zero _,hb⟩
theorem rat4_in {w:World}{P:Option Addr}{N C m i:Nat}{j:Int}{rs:Nat->List Rat}(hM:Mi w P N C rs m)(hm0:0<m)(hm:m<=10000)(hi:i<N) :
  Calls Tryz.prog 17 #[.slice P N C,.int .i64 (i:Int),.int .i64 j] w (QR w (if 0<=j then (rs i).getD j.toNat 0 else 0)):=by
 have hN:=hM.n63
 obtain ⟨r,hr⟩:∃r,rs i=r:=⟨_,rfl⟩
 obtain ⟨b,o,A,c,es,rfl,hb1,hc,hv⟩:=hM.row i hi
 rw[hr]at hc hv
 rw[hr]
 obtain ⟨W0,hW0⟩:∃W0,W0=w.alloc (.cells #[.bool false,.slice none 0 0,.bool false,.slice none 0 0] 32):=⟨_,rfl⟩
 have hbw:Below w.heap.size w W0:=by rw[hW0];exact (Below.refl _ _).alloc (Nat.le_refl _) _
 have tR:Four W0 w.heap.size (.bool false) (.slice none 0 0) (.bool false) (.slice none 0 0):=by rw[hW0];exact Four.new w _ _ _ _ _
 replace hc:=(hbw.cell (p:=⟨b,_,none⟩) hb1).trans hc
 replace hv:=hv.to hbw
 have HR:=Hd (rat_i (k:=j) hv)
 obtain ⟨t,ht⟩:∃t,(if 0<=j then r.getD j.toNat 0 else 0)=t:=⟨_,rfl⟩
 rw[ht]at HR ⊢
 have hi0:¬(i:Int)<0:=by omega
 have hi1:¬(N:Int)<=(i:Int):=by omega
 have hi2:(0:Int)<=(i:Int):=by omega
 have hi3:(i:Int)<(N:Int):=by omega
 have HW0:=Hd hW0
 have HB:=Hd hbw
 rw[hW0]at hc
 clear hM hi hb1 hW0 hbw hr hv ht
 go_enter Tryz.func17,Tryz.ntmps17
 go_wp2_with fail
 rw[<-HW0.out]
 refine HR.out.mono ?_
 rintro e V ⟨x1,x2,x3,x4,rfl,qx,bb⟩
 replace tR:=tR.to bb
 replace HB:=Hxb HB bb
 have HC:=Hd (rleast_q qx hm0 hm)
 clear bb HR HW0 qx hc
 go_wp2_with fail
 refine HC.out.mono ?_
 rintro e V2 ⟨y1,y2,y3,y4,rfl,q,bb⟩
 replace tR:=tR.to bb
 replace HB:=Hxb HB bb
 clear bb HC
 have RZ:=Hd q
 obtain ⟨V99,eV,u,kp⟩:=pack4 tR Fq.nil y1 y2 y3 y4
 obtain ⟨⟨n1,A1,k1,m1,rfl,rfl⟩,⟨n2,A2,k2,m2,rfl,rfl⟩⟩:=q.fq
 obtain ⟨v0,v1,v2,v3,v4,v5,v6,v7,_⟩:=tR
 have EV:=Hd eV
 have KP:=Hd kp
 have U:=Hd u
 clear eV kp u q
 go_wp2
 rw[EV.out]
 refine bodyPost_ret (v:=.agg #[.bool n1,.slice A1 k1 m1,.bool n2,.slice A2 k2 m2]) (by simp[results,Tryz.f17,go_sem,U.out.c0,U.out.c1,U.out.c2,U.out.c3]) rfl ?_
 exact ⟨_,_,_,_,rfl,RZ.out.k4 KP.out,KP.out.bel _ _ HB.out (by omega)⟩
theorem rat4_out {w:World}{P:Option Addr}{N C:Nat}{i j:Int}(hi:¬(0<=i/\i<(N:Int))) :
  Calls Tryz.prog 17 #[.slice P N C,.int .i64 i,.int .i64 j] w (QR w 0):=by
 rcases (show i<0∨(¬i<0/\(N:Int)<=i) by omega) with h1|⟨h1,h2⟩
 .clear hi
  go_enter Tryz.func17,Tryz.ntmps17
  go_wp2
  refine bodyPost_ret (v:=.agg #[.bool false,.slice none 0 0,.bool false,.slice none 0 0]) (by simp[results,Tryz.f17,go_sem]) rfl ?_
  exact ⟨_,_,_,_,rfl,⟨Zc.zero _,Zc.zero _⟩,(Below.refl _ _).alloc (Nat.le_refl _) _⟩
 .clear hi
  go_enter Tryz.func17,Tryz.ntmps17
  go_wp2
  refine bodyPost_ret (v:=.agg #[.bool false,.slice none 0 0,.bool false,.slice none 0 0]) (by simp[results,Tryz.f17,go_sem]) rfl ?_
  exact ⟨_,_,_,_,rfl,⟨Zc.zero _,Zc.zero _⟩,(Below.refl _ _).alloc (Nat.le_refl _) _⟩
theorem rat4_i {w:World}{P:Option Addr}{N C m:Nat}{i j:Int}{rs:Nat->List Rat}(hM:Mi w P N C rs m)(hm0:0<m)(hm:m<=10000) :
  Calls Tryz.prog 17 #[.slice P N C,.int .i64 i,.int .i64 j] w (QR w (elI rs N i j)):=by
 by_cases hi:0<=i/\i<(N:Int)
 .obtain ⟨n,rfl⟩:∃n:Nat,i=(n:Int):=⟨i.toNat,by omega⟩
  have hn:n<N:=by omega
  have h:=rat4_in (j:=j) hM hm0 hm hn
  have e:(if 0<=j then (rs n).getD j.toNat 0 else 0)=elI rs N (n:Int) j:=by
   unfold elI
   by_cases hj:0<=j
   .rw[if_pos hj,if_pos ⟨hi.1,hj⟩,Int.toNat_natCast,el_in hn]
   .rw[if_neg hj,if_neg (fun h=>hj h.2)]
  rwa [e]at h
 .rw[elI_out (by omega)]
  exact rat4_out hi
theorem rowAt_far {w:World}{P:Option Addr}{N C:Nat}{i:Int}(hi:¬(0<=i/\i<(N:Int))) :
  Calls Tryz.prog 53 #[.slice P N C,.int .i64 i] w fun e w'=>e=.returned (.slice none 0 0)/\Below w.heap.size w w':=by
 rcases (show i<0∨(¬i<0/\(N:Int)<=i) by omega) with h1|⟨h1,h2⟩
 .clear hi
  go_enter Tryz.func53,Tryz.ntmps53
  go_wp2
  go_ret
  exact ⟨rfl,Below.refl _ _⟩
 .clear hi
  go_enter Tryz.func53,Tryz.ntmps53
  go_wp2
  go_ret
  exact ⟨rfl,Below.refl _ _⟩
theorem at_zero {w:World}{P:Option Addr}{N C:Nat}{i j:Int}(hR:∀V,Below w.heap.size w V->Calls Tryz.prog 53 #[.slice P N C,.int .i64 i] V fun e w'=>∃A n c,e=.returned (.slice A n c)/\(j<0∨(n:Int)<=j)/\Below V.heap.size V w') :
  Calls Tryz.prog 16 #[.slice P N C,.int .i64 i,.int .i64 j] w (QR w 0):=by
 obtain ⟨W0,hW0⟩:∃W0,W0=w.alloc (.cells #[.bool false,.slice none 0 0,.bool false,.slice none 0 0] 32):=⟨_,rfl⟩
 have hbw:Below w.heap.size w W0:=by rw[hW0];exact (Below.refl _ _).alloc (Nat.le_refl _) _
 have tR:Four W0 w.heap.size (.bool false) (.slice none 0 0) (.bool false) (.slice none 0 0):=by rw[hW0];exact Four.new w _ _ _ _ _
 have HR:=Hd (hR W0 hbw)
 have HB:=Hd hbw
 have HW0:=Hd hW0
 clear hR hbw hW0
 go_enter Tryz.func16,Tryz.ntmps16
 go_wp2_with fail
 rw[<-HW0.out]
 refine HR.out.mono ?_
 rintro e V ⟨A,n,c,rfl,hj,bb⟩
 replace tR:=tR.to bb
 replace HB:=Hxb HB bb
 clear bb HR HW0
 rcases (show j<0∨(¬j<0/\(n:Int)<=j) by omega) with h1|⟨h1,h2⟩
 .clear hj
  obtain ⟨V99,eV,u,kp⟩:=pack4 tR Fq.nil (.bool false) (.slice none 0 0) (.bool false) (.slice none 0 0)
  obtain ⟨v0,v1,v2,v3,v4,v5,v6,v7,_⟩:=tR
  have EV:=Hd eV
  have KP:=Hd kp
  have U:=Hd u
  clear eV kp u
  go_wp2
  rw[EV.out]
  refine bodyPost_ret (v:=.agg #[.bool false,.slice none 0 0,.bool false,.slice none 0 0]) (by simp[results,Tryz.f16,go_sem,U.out.c0,U.out.c1,U.out.c2,U.out.c3]) rfl ?_
  exact ⟨_,_,_,_,rfl,⟨Zc.zero _,Zc.zero _⟩,KP.out.bel _ _ HB.out (by omega)⟩
 .clear hj
  obtain ⟨V99,eV,u,kp⟩:=pack4 tR Fq.nil (.bool false) (.slice none 0 0) (.bool false) (.slice none 0 0)
  obtain ⟨v0,v1,v2,v3,v4,v5,v6,v7,_⟩:=tR
  have EV:=Hd eV
  have KP:=Hd kp
  have U:=Hd u
  clear eV kp u
  go_wp2
  rw[EV.out]
  refine bodyPost_ret (v:=.agg #[.bool false,.slice none 0 0,.bool false,.slice none 0 0]) (by simp[results,Tryz.f16,go_sem,U.out.c0,U.out.c1,U.out.c2,U.out.c3]) rfl ?_
  exact ⟨_,_,_,_,rfl,⟨Zc.zero _,Zc.zero _⟩,KP.out.bel _ _ HB.out (by omega)⟩
theorem at_i {w:World}{P:Option Addr}{N C m:Nat}{i j:Int}{rs:Nat->List Rat}(hM:Mi w P N C rs m)(hm:m<=10000)(hr:∀k,k<N->(rs k).length<=4398046511104) :
  Calls Tryz.prog 16 #[.slice P N C,.int .i64 i,.int .i64 j] w (QR w (elI rs N i j)):=by
 by_cases hi:0<=i/\i<(N:Int)
 .obtain ⟨n,rfl⟩:∃n:Nat,i=(n:Int):=⟨i.toNat,by omega⟩
  have hn:n<N:=by omega
  by_cases hj:0<=j
  .obtain ⟨k,rfl⟩:∃k:Nat,j=(k:Int):=⟨j.toNat,by omega⟩
   rw[elI_nat,el_in hn]
   exact at_m hM hm hn (hr n hn)
  .rw[elI_out (by omega)]
   refine at_zero fun V hV=>?_
   obtain ⟨b,o,A,c,es,rfl,hb1,hc,hv⟩:=hM.row n hn
   refine (rowAt_in ((hV.cell (p:=⟨b,_,none⟩) hb1).trans hc) hn hM.n63).mono ?_
   rintro e w' ⟨rfl,hb⟩
   exact ⟨_,_,_,rfl,.inl (by omega),hb⟩
 .rw[elI_out (by omega)]
  refine at_zero fun V hV=>(rowAt_far hi).mono ?_
  rintro e w' ⟨rfl,hb⟩
  exact ⟨_,_,_,rfl,by omega,hb⟩
theorem wpList_storeq' {W W':World}{ops:Array Oper}{rest:List Oper}{o:Oper}{a:Act}{Q:Exit->Act->World->Prop}{g k:Nat}{fl:List E4}{e:E4}(hW:W'=W.setRow g (flat (fl.set k e)).toArray)
  (hg:o.guard=none) (p v:Operand) (hop:o.op=Op.store 32 p v) (hp:a.eval p=.pointer (some ⟨g,k*4,none⟩)) (hv:a.eval v=e.v) (h:Row W g fl) (hk:k<fl.length) (he:e.fq)
  (hK:wpList Tryz.prog ops Q rest (a.put o.dst undef) W'):wpList Tryz.prog ops Q (o::rest) a W:=by
 subst hW
 exact wpList_storeq hg p v hop hp hv h hk he hK
theorem runit_v {w:World}{n m:Int}(hn2:n<=9223372036854775807) :
  Calls Tryz.prog 70 #[.int .i64 n,.int .i64 m] w (VR w (unitQ n m)):=by
 obtain ⟨f,hf⟩:∃f:Nat->Rat,Hid (f=fun i=>(unitQ n m).getD i 0):=⟨_,rfl⟩
 obtain ⟨M,hM⟩:∃M:Nat,min n.toNat 65536=M:=⟨_,rfl⟩
 have HM:=Hd hM
 have hM2:M<=65536:=by omega
 clear hM
 go_enter Tryz.func70,Tryz.ntmps70
 go_wp2
 go_loopw [5,6] (fun v i wr=>∃(k:Nat) (A1:Option Addr) (c1:Nat),v=.slice A1 k c1/\i=.int .i64 k/\k<=M/\Hid (TotV wr (.slice A1 k c1) k f w.heap.size)/\Below w.heap.size w wr) (fun _ i _=>M-(intOf i).toNat)
 case atStart=>exact ⟨0,none,0,rfl,rfl,Nat.zero_le _,.inl ⟨rfl,rfl⟩,Below.refl _ _⟩
 case round =>
  obtain ⟨j,A1,c1,rfl,rfl,hj,hT,hb⟩:=hrel
  have hj0:(0:Int)<=(j:Int):=by omega
  have hj3:(j:Int)+1<=9223372036854775807:=by omega
  by_cases hlt:j<M
  .have hjn:(j:Int)<n:=by have:=HM.out;omega
   have hj2:(j:Int)<65536:=by omega
   have hfj:Hid (f j=if (j:Int)=m then (1:Rat) else 0):=by show _=_;rw[hf.out];exact unitQ_in (by rw[HM.out];exact hlt)
   have HLT:=Hd hlt
   have bU:Below wr.heap.size wr (wr.alloc (.cells #[.bool false,.slice none 0 0,.bool false,.slice none 0 0] 32)):=(Below.refl _ _).alloc (Nat.le_refl _) _
   have HU:=Hd (Hp.new wr #[.bool false,.slice none 0 0,.bool false,.slice none 0 0] 32)
   by_cases hjm:(j:Int)=m
   .have hf1:Hid (f j=1):=by show _=_;rw[hfj.out,if_pos hjm]
    have HBS:=Hd hb
    have HBU:=Hd bU
    subst hjm
    clear hb hlt hj bU hfj
    go_wp2_with fail
    refine (rint_q 1 (by omega) (by omega) (wr.alloc (.cells #[.bool false,.slice none 0 0,.bool false,.slice none 0 0] 32))).mono ?_
    rintro e V ⟨x1,x2,x3,x4,rfl,q,bb⟩
    have hR:Row V wr.heap.size [E4.z]:=(Row.one (HU.out) E4.z_fq).to bb
    have R1:=Hd hR
    obtain ⟨W2,hW2⟩:∃W2,W2=V.setRow wr.heap.size (flat ([E4.z].set 0 ⟨x1,x2,x3,x4⟩)).toArray:=⟨_,rfl⟩
    have kw:Kw V W2:=by rw[hW2];exact hR.kw
    have t4:Four W2 wr.heap.size x1 x2 x3 x4:=by rw[hW2];exact (hR.app (n:=0) (e:=⟨x1,x2,x3,x4⟩) q.fq).four
    have bW:Below wr.heap.size wr W2:=by
     rw[hW2]
     exact below_setRow (HBU.out.trans (bb.mono HBU.out.size)) (Nat.le_refl _) _
    have QF:=Hd q.fq
    have q2:Qc W2 x1 x2 x3 x4 (f j):=by rw[hf1.out];exact kw.qc q
    have HW2:=Hd hW2
    have bb2:Below W2.heap.size W2 (W2.alloc (.cells #[x1,x2,x3,x4] 32)):=(Below.refl _ _).alloc (Nat.le_refl _) _
    have c5:=(Hp.new W2 #[x1,x2,x3,x4] 32).four
    have hB1:=HBS.out.trans (bW.mono HBS.out.size)
    have hB2:=Bxb hB1 bb2
    obtain ⟨v',X,hrun,hT2,hbel⟩:=qapp ((hT.out.to bW).to bb2) hB2.size (by have:=HLT.out;omega) (e:=⟨x1,x2,x3,x4⟩) q.fq (q2.to bb2) (a:=⟨W2.heap.size,0,none⟩) (c:=1) c5.c0 c5.c1 c5.c2 c5.c3 38
    obtain ⟨A2,c2,rfl⟩:=hT2.sl
    have HRUN:=Hd hrun
    have HE:Hid (TotV X (.slice A2 (j+1) c2) (j+1) f w.heap.size/\Below w.heap.size w X):=⟨hT2,hB2.trans hbel⟩
    have k0:=t4.c0
    have k1:=t4.c1
    have k2:=t4.c2
    have k3:=t4.c3
    clear bb2 c5 hbel hrun bb q q2 hT2 hB1 hB2 hR kw hW2 t4 bW
    go_wp2_with (first
     | (refine wpList_storeq' (k:=0) (e:=⟨x1,x2,x3,x4⟩) HW2.out rfl (.tmp 7) (.tmp 21) rfl (by rfl) (by rfl) R1.out (by simp) QF.out ?_;clear R1)
     | (at_builtin;refine wpList_append_run rfl (.tmp 22) (.tmp 24) 38 rfl (by rfl) (by rfl) HRUN.out ?_;clear HRUN))
    go_roundw
    case rel=>exact ⟨j+1,A2,c2,rfl,by simp,HLT.out,HE.out.1,HE.out.2⟩
    case measure=>have:=HLT.out;simp[intOf];omega
   .have hf0:Hid (f j=0):=by show _=_;rw[hfj.out,if_neg hjm]
    have q0:Qc (wr.alloc (.cells #[.bool false,.slice none 0 0,.bool false,.slice none 0 0] 32)) (.bool false) (.slice none 0 0) (.bool false) (.slice none 0 0) (f j):=by rw[hf0.out];exact qc_z _
    have hB1:=Bxb hb bU
    have bb2:Below (wr.alloc (.cells #[.bool false,.slice none 0 0,.bool false,.slice none 0 0] 32)).heap.size (wr.alloc (.cells #[.bool false,.slice none 0 0,.bool false,.slice none 0 0] 32)) ((wr.alloc (.cells #[.bool false,.slice none 0 0,.bool false,.slice none 0 0] 32)).alloc (.cells #[.bool false,.slice none 0 0,.bool false,.slice none 0 0] 32)):=(Below.refl _ _).alloc (Nat.le_refl _) _
    have c5:=(Hp.new (wr.alloc (.cells #[.bool false,.slice none 0 0,.bool false,.slice none 0 0] 32)) #[.bool false,.slice none 0 0,.bool false,.slice none 0 0] 32).four
    have hB2:=Bxb hB1 bb2
    obtain ⟨v',X,hrun,hT2,hbel⟩:=qapp ((hT.out.to bU).to bb2) hB2.size (by have:=HLT.out;omega) (e:=E4.z) E4.z_fq (q0.to bb2) (a:=⟨(wr.alloc (.cells #[.bool false,.slice none 0 0,.bool false,.slice none 0 0] 32)).heap.size,0,none⟩) (c:=1) c5.c0 c5.c1 c5.c2 c5.c3 38
    obtain ⟨A2,c2,rfl⟩:=hT2.sl
    have HE:Hid (TotV X (.slice A2 (j+1) c2) (j+1) f w.heap.size/\Below w.heap.size w X):=⟨hT2,hB2.trans hbel⟩
    rw[World.size_alloc]at hrun
    have HRUN:=Hd hrun
    have t4:=(HU.out).four
    have k0:=t4.c0
    have k1:=t4.c1
    have k2:=t4.c2
    have k3:=t4.c3
    have hd1:((j:Int)==m)=false:=by simpa using hjm
    have hd2:decide ((j:Int)=m)=false:=by simpa using hjm
    clear bb2 c5 hbel hrun q0 hT2 hB1 hB2 t4 bU hb hlt hj hfj hjm
    go_wp2_with (at_builtin;refine wpList_append_run rfl (.tmp 22) (.tmp 24) 38 rfl (by rfl) (by rfl) HRUN.out ?_;clear HRUN)
    go_roundw
    case rel=>exact ⟨j+1,A2,c2,rfl,by simp,HLT.out,HE.out.1,HE.out.2⟩
    case measure=>have:=HLT.out;simp[intOf];omega
  .have hjM:j=M:=by omega
   have FIN:Hid (VR w (unitQ n m) (.returned (.slice A1 j c1)) wr):=by
    have h1:=hT.out
    have h2:(unitQ n m).length=j:=by rw[unitQ_length,HM.out,hjM]
    rw[hf.out]at h1
    subst h2
    exact h1.vr (by omega) hb
   have HM2:=HM.out
   by_cases hjn:(j:Int)<n
   .have hj2:¬(j:Int)<65536:=by omega
    clear hb hlt hT HM2 hjM hM2
    go_wp2
    go_ret
    exact FIN.out
   .clear hb hlt hT HM2 hjM hM2
    go_wp2
    go_ret
    exact FIN.out
theorem place_0 {w:World}{k1 k2 k3 k4:Value}{P Q:Option Addr}{N C M D:Nat}{i j:Int}{t r:Rat}{l m:Nat}(hK:Qi w k1 k2 k3 k4 t l)(hA:∀V,Below w.heap.size w V->Calls Tryz.prog 17 #[.slice P N C,.int .i64 i,.int .i64 j] V (QR V r))(hr:Qm m r)(hm:0<m)(hl:0<l)(hml:l+m+1<=10000) :
  Calls Tryz.prog 103 #[.int .u8 0,.agg #[k1,k2,k3,k4],.slice P N C,.slice Q M D,.int .i64 i,.int .i64 j] w (QR w (t*r)):=by
 obtain ⟨W0,hW0⟩:∃W0,W0=(w.alloc (.cells #[k1,k2,k3,k4] 32)).alloc (.cells #[.bool false,.slice none 0 0,.bool false,.slice none 0 0] 32):=⟨_,rfl⟩
 have hbw:Below w.heap.size w W0:=by rw[hW0];exact ((Below.refl _ _).alloc (Nat.le_refl _) _).alloc (by simp) _
 have tK:Four W0 w.heap.size k1 k2 k3 k4:=by
  have h:=Four.new w k1 k2 k3 k4 32
  rw[hW0];exact h.alloc _
 have tR:Four W0 (w.heap.size+1) (.bool false) (.slice none 0 0) (.bool false) (.slice none 0 0):=by
  have h:=Four.new (w.alloc (.cells #[k1,k2,k3,k4] 32)) (.bool false) (.slice none 0 0) (.bool false) (.slice none 0 0) 32
  rw[World.size_alloc]at h
  rw[hW0];exact h
 have HA:=Hd hA
 have HM:=Hd (fun (V:World) (hV:Below w.heap.size w V) (x1 x2 x3 x4:Value) (q:Qc V x1 x2 x3 x4 r)=>rmul_q (hK.to hV) (q.qi hr (by omega)) hl hm hml)
 obtain ⟨s,hs⟩:∃s,t*r=s:=⟨_,rfl⟩
 rw[hs]at HM ⊢
 have HW0:=Hd hW0
 have HB:=Hd hbw
 have TK:=Hd tK
 clear hK hA hr hm hl hml hW0 hbw tK hs
 go_enter Tryz.func103,Tryz.ntmps103
 go_wp2_with fail
 rw[<-HW0.out]
 clear HW0
 have hbd:Below W0.heap.size W0 W0.drew:=(Below.refl _ _).drew
 have hb:Below w.heap.size w W0.drew:=HB.out.trans (hbd.mono HB.out.size)
 refine wp_region_plan (S:=fun w'=>Below w.heap.size w w'/\Four w' w.heap.size k1 k2 k3 k4) [(0,true),(1,true),(2,true),(3,true),(4,false),(5,false),(6,false)] (by kernel_rfl) (by kernel_rfl) ⟨hb,TK.out.to hbd⟩ ?_
 have tK:=TK.out.to hbd
 replace tR:=tR.to hbd
 clear hbd
 refine plan_take rfl (by rfl) (fun w' hS=>load_four (by rfl) hS.2) ?_;simp only[Act.put,List.setIfInBounds_toArray,List.set_cons_zero,List.set_cons_succ]
 iterate 3 (refine plan_take (v:=?_) rfl (by rfl) ?_ ?_;rotate_left;(focus (intro w' _;go_simp;try with_reducible rfl));simp only[Act.put,List.setIfInBounds_toArray,List.set_cons_zero,List.set_cons_succ])
 refine plan_call rfl (by rfl) (fun K hK=>?_)
 go_simp
 refine (HA.out _ hb).mono ?_
 rintro e V ⟨x1,x2,x3,x4,rfl,q,bb⟩
 replace hb:=Bxb hb bb
 replace tK:=tK.to bb
 replace tR:=tR.to bb
 refine hK.out _ _ ⟨hb,tK⟩ ?_
 clear hK K bb
 refine plan_call rfl (by rfl) (fun K hK=>?_)
 go_simp
 refine (HM.out _ hb _ _ _ _ q).mono ?_
 rintro e V ⟨y1,y2,y3,y4,rfl,q2,bb⟩
 replace hb:=Bxb hb bb
 replace tK:=tK.to bb
 replace tR:=tR.to bb
 refine hK.out _ _ ⟨hb,tK⟩ ?_
 clear hK K bb q
 refine plan_call rfl (by rfl) (fun K hK=>?_)
 refine wp_store_q (by rfl) (by rfl) tR Fq.nil q2.fq (fun V' u kp=>?_)
 replace hb:=kp.bel _ _ hb (by omega)
 replace tK:=kp.four (by omega) tK
 replace q2:=kp.qc q2
 refine hK.out _ _ ⟨hb,tK⟩ ?_
 clear hK K kp tK tR
 refine plan_done ?_
 have U:=Hd u
 have HE:=Hd hb
 have Q2:=Hd q2
 obtain ⟨⟨n1,A1,c1,m1,rfl,rfl⟩,⟨n2,A2,c2,m2,rfl,rfl⟩⟩:=q2.fq
 clear u hb q2 HA HM
 go_wp2
 refine bodyPost_ret (v:=.agg #[.bool n1,.slice A1 c1 m1,.bool n2,.slice A2 c2 m2]) (by simp[results,Tryz.f103,go_sem,U.out.c0,U.out.c1,U.out.c2,U.out.c3]) rfl ?_
 exact ⟨_,_,_,_,rfl,Q2.out,HE.out⟩
theorem place_1 {w:World}{k1 k2 k3 k4:Value}{P Q:Option Addr}{N C M D:Nat}{i j:Int}{r:Rat}(hA:∀V,Below w.heap.size w V->Calls Tryz.prog 17 #[.slice P N C,.int .i64 j,.int .i64 i] V (QR V r)) :
  Calls Tryz.prog 103 #[.int .u8 1,.agg #[k1,k2,k3,k4],.slice P N C,.slice Q M D,.int .i64 i,.int .i64 j] w (QR w r):=by
 obtain ⟨W0,hW0⟩:∃W0,W0=(w.alloc (.cells #[k1,k2,k3,k4] 32)).alloc (.cells #[.bool false,.slice none 0 0,.bool false,.slice none 0 0] 32):=⟨_,rfl⟩
 have hbw:Below w.heap.size w W0:=by rw[hW0];exact ((Below.refl _ _).alloc (Nat.le_refl _) _).alloc (by simp) _
 have tK:Four W0 w.heap.size k1 k2 k3 k4:=by
  have h:=Four.new w k1 k2 k3 k4 32
  rw[hW0];exact h.alloc _
 have tR:Four W0 (w.heap.size+1) (.bool false) (.slice none 0 0) (.bool false) (.slice none 0 0):=by
  have h:=Four.new (w.alloc (.cells #[k1,k2,k3,k4] 32)) (.bool false) (.slice none 0 0) (.bool false) (.slice none 0 0) 32
  rw[World.size_alloc]at h
  rw[hW0];exact h
 have HA:=Hd (hA W0 hbw)
 have HW0:=Hd hW0
 have HB:=Hd hbw
 clear hA hW0 hbw tK
 go_enter Tryz.func103,Tryz.ntmps103
 go_wp2_with fail
 rw[<-HW0.out]
 refine HA.out.mono ?_
 rintro e V ⟨y1,y2,y3,y4,rfl,q,bb⟩
 replace tR:=tR.to bb
 replace HB:=Hxb HB bb
 clear bb HA HW0
 have RZ:=Hd q
 obtain ⟨V99,eV,u,kp⟩:=pack4 tR Fq.nil y1 y2 y3 y4
 obtain ⟨⟨n1,A1,c1,m1,rfl,rfl⟩,⟨n2,A2,c2,m2,rfl,rfl⟩⟩:=q.fq
 obtain ⟨v0,v1,v2,v3,v4,v5,v6,v7,_⟩:=tR
 have EV:=Hd eV
 have KP:=Hd kp
 have U:=Hd u
 clear eV kp u q
 go_wp2
 rw[EV.out]
 refine bodyPost_ret (v:=.agg #[.bool n1,.slice A1 c1 m1,.bool n2,.slice A2 c2 m2]) (by simp[results,Tryz.f103,go_sem,U.out.c0,U.out.c1,U.out.c2,U.out.c3]) rfl ?_
 exact ⟨_,_,_,_,rfl,RZ.out.k4 KP.out,KP.out.bel _ _ HB.out (by omega)⟩
theorem made_m {w:World}{kd:Int}{k1 k2 k3 k4:Value}{P Q:Option Addr}{N C M D R L:Nat}{g:Nat->Nat->Rat}(hP:∀V,Below w.heap.size w V->∀i j:Nat,i<R->j<L->Calls Tryz.prog 103 #[.int .u8 kd,.agg #[k1,k2,k3,k4],.slice P N C,.slice Q M D,.int .i64 (i:Int),.int .i64 (j:Int)] V (QR V (g i j)))(hR:R+1<=1000000)(hL:L+1<=1000000) :
  Calls Tryz.prog 64 #[.int .i64 (R:Int),.int .i64 (L:Int),.int .u8 kd,.agg #[k1,k2,k3,k4],.slice P N C,.slice Q M D] w (MR w R (fun i=>tab L (g i))):=by
 obtain ⟨rs,hrs⟩:∃rs:Nat->List Rat,rs=fun i=>tab L (g i):=⟨_,rfl⟩
 have HRS:Hid (∀i,rs i=tab L (g i)):=fun i=>by rw[hrs]
 have HRL:Hid (∀i,(rs i).length=L):=fun i=>by rw[hrs];exact tab_length _ _
 rw[<-hrs]
 obtain ⟨W0,hW0⟩:∃W0,W0=w.alloc (.cells #[k1,k2,k3,k4] 32):=⟨_,rfl⟩
 have hbw:Below w.heap.size w W0:=by rw[hW0];exact (Below.refl _ _).alloc (Nat.le_refl _) _
 have tK:Four W0 w.heap.size k1 k2 k3 k4:=by rw[hW0];exact Four.new w _ _ _ _ _
 have HP:=Hd hP
 have HR:=Hd hR
 have HLL:=Hd hL
 have HW0:=Hd hW0
 have HB:=Hd hbw
 have TK:=Hd tK
 clear hP hR hL hW0 hbw tK hrs
 go_enter Tryz.func64,Tryz.ntmps64
 go_wp2
 rw[<-HW0.out]
 clear HW0
 go_loopw [13,14] (fun v i wr=>∃(k:Nat) (A1:Option Addr) (c1:Nat),v=.slice A1 k c1/\i=.int .i64 k/\k<=R/\Hid (TotS (Vs rs) wr (.slice A1 k c1) k W0.heap.size)/\Below W0.heap.size W0 wr) (fun _ i _=>R-(intOf i).toNat)
 case atStart=>exact ⟨0,none,0,rfl,rfl,Nat.zero_le _,.inl ⟨rfl,rfl⟩,Below.refl _ _⟩
 case round =>
  obtain ⟨k,A1,c1,rfl,rfl,hk,hT,hb⟩:=hrel
  by_cases hlt:k<R
  .have hk1:(0:Int)<=(k:Int):=by omega
   have hk2:(k:Int)<(R:Int):=by omega
   have hk3:(k:Int)+1<=9223372036854775807:=by have:=HR.out;omega
   obtain ⟨W1,hW1⟩:∃W1:World,W1=wr:=⟨_,rfl⟩
   subst hW1
   have HBB:=Hd hb
   have HLT:=Hd hlt
   clear hb hlt hk
   go_wp2
   go_loopw [15,16] (fun v jv wi=>∃(j:Nat) (A2:Option Addr) (c2:Nat),v=.slice A2 j c2/\jv=.int .i64 j/\j<=L/\Hid (TotV wi (.slice A2 j c2) j (g k) W1.heap.size)/\Below W1.heap.size W1 wi) (fun _ jv _=>L-(intOf jv).toNat)
   case atStart=>exact ⟨0,none,0,rfl,rfl,Nat.zero_le _,.inl ⟨rfl,rfl⟩,Below.refl _ _⟩
   case round =>
    obtain ⟨j,A2,c2,rfl,rfl,hj,hV,hb⟩:=hrel
    by_cases hlj:j<L
    .have hj1:(0:Int)<=(j:Int):=by omega
     have hj2:(j:Int)<(L:Int):=by omega
     have hj3:(j:Int)+1<=9223372036854775807:=by have:=HLL.out;omega
     have hB0:=HBB.out.trans (hb.mono HBB.out.size)
     obtain ⟨v0,v1,v2,v3,v4,v5,v6,v7,_⟩:=TK.out.to hB0
     have HC:=Hd (HP.out _ (HB.out.trans (hB0.mono HB.out.size)) k j HLT.out hlj)
     have HBR:=Hd hb
     have HLJ:=Hd hlj
     clear hB0 hb hlj hj v4 v5 v6 v7
     go_wp2_with fail
     refine HC.out.mono ?_
     rintro e V ⟨x1,x2,x3,x4,rfl,q,bb⟩
     have bb2:Below V.heap.size V (V.alloc (.cells #[x1,x2,x3,x4] 32)):=(Below.refl _ _).alloc (Nat.le_refl _) _
     have c5:=(Hp.new V #[x1,x2,x3,x4] 32).four
     have hB1:=HBR.out.trans (bb.mono HBR.out.size)
     have hB2:=Bxb hB1 bb2
     obtain ⟨v',X,hrun,hT2,hbel⟩:=qapp ((hV.out.to bb).to bb2) hB2.size (by have:=HLL.out;have:=HLJ.out;omega) (e:=⟨x1,x2,x3,x4⟩) q.fq (q.to bb2) (a:=⟨V.heap.size,0,none⟩) (c:=1) c5.c0 c5.c1 c5.c2 c5.c3 38
     obtain ⟨A3,c3,rfl⟩:=hT2.sl
     have HRUN:=Hd hrun
     have HE:Hid (TotV X (.slice A3 (j+1) c3) (j+1) (g k) W1.heap.size/\Below W1.heap.size W1 X):=⟨hT2,hB2.trans hbel⟩
     clear bb2 c5 hbel hrun bb q hT2 hB1 hB2 HC v0 v1 v2 v3
     go_wp2_with (at_builtin;refine wpList_append_run rfl (.tmp 27) (.tmp 35) 38 rfl (by rfl) (by rfl) HRUN.out ?_;clear HRUN)
     go_roundw
     case rel=>exact ⟨j+1,A3,c3,rfl,by simp,HLJ.out,HE.out.1,HE.out.2⟩
     case measure=>have:=HLJ.out;simp[intOf];omega
    .obtain rfl:j=L:=by omega
     have hq:=hV.out.vtab (by have:=HLL.out;omega) hb
     rw[<-HRS.out k]at hq
     obtain ⟨A4,c4,fl4,e4,hv,_⟩:=hq
     cases e4
     have bb2:Below wr.heap.size wr (wr.alloc (.cells #[.slice A2 (rs k).length c2] 38)):=(Below.refl _ _).alloc (Nat.le_refl _) _
     have c5:=(Hp.new wr #[.slice A2 (rs k).length c2] 38).one
     have hB1:=HBB.out.trans (hb.mono HBB.out.size)
     have hB2:=Bxb hB1 bb2
     obtain ⟨v',X,hrun,hT2,hbel⟩:=sapp (Vs.kept rs) ((hT.out.mv (Vs.kept rs) hb).mv (Vs.kept rs) bb2) hB2.size (by have:=HR.out;have:=HLT.out;omega) ⟨_,_,_,rfl⟩ ⟨A2,c2,fl4,rfl,hv.to bb2⟩ (a:=⟨wr.heap.size,0,none⟩) (c:=1) c5 22
     obtain ⟨A3,c3,rfl⟩:=hT2.sl
     rw[HRL.out]at hrun
     have HRUN:=Hd hrun
     have HE:Hid (TotS (Vs rs) X (.slice A3 (k+1) c3) (k+1) W0.heap.size/\Below W0.heap.size W0 X):=⟨hT2,hB2.trans hbel⟩
     clear bb2 c5 hbel hrun hv hT2 hB1 hB2 hb hlj hj
     go_wp2_with (at_builtin;refine wpList_append_run rfl (.tmp 37) (.tmp 39) 22 rfl (by rfl) (by rfl) HRUN.out ?_;clear HRUN)
     go_roundw
     case rel=>exact ⟨k+1,A3,c3,rfl,by simp,HLT.out,HE.out.1,HE.out.2⟩
     case measure=>have:=HLT.out;simp[intOf];omega
  .obtain rfl:k=R:=by omega
   have HT:=hT
   have HE:=Hxb HB hb
   clear hT hb hlt hk
   go_wp2
   go_ret
   exact ⟨A1,c1,rfl,HT.out.mc,HE.out⟩
end Go.Proofs.YtglhdielkkhefaaGreat
