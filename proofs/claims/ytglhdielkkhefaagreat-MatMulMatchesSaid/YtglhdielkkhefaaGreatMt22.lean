/- Parts: 7. -/
import Derived.Test.YtglhdielkkhefaaGreatMt12
import Derived.Test.YtglhdielkkhefaaGreatMt15
import Derived.Test.YtglhdielkkhefaaGreatMt16
import Derived.Test.YtglhdielkkhefaaGreatMt18
import Derived.Test.YtglhdielkkhefaaGreatMt19
import Derived.Test.YtglhdielkkhefaaGreatMt20
import Derived.Test.YtglhdielkkhefaaGreatMt21
set_option linter.unusedVariables false
set_option linter.unusedSimpArgs false
set_option maxRecDepth 100000
set_option maxHeartbeats 40000000

namespace Go.Proofs.YtglhdielkkhefaaGreat
open Go.RowKit Go.Shelf
theorem wp_append_out {P:Program}{w w':World}{a:Act}{K:Act->World->Prop}{Q:Exit->Act->World->Prop}{v u v':Value}{d:Option Tmp}{s x:Operand}{t ty:TypeId}{pos:String}{after:Array Edge}
  (hs:a.eval s=v) (hx:a.eval x=u) (hrun:(Builtin.append_ #[t,t] ty #[v,u]).run P w=.ok v' w') (h:K (a.put d v') w') :
  Oper.wp P ⟨d,.call { callee:=.builtin .append,args:=#[s,x],argTypes:=#[t,t] },ty,pos,after,none⟩ a w K Q:=by
 have h1:=step_append_out (ops:=#[]) (E:=True) (Q:=Q) (o:=⟨d,.call { callee:=.builtin .append,args:=#[s,x],argTypes:=#[t,t] },ty,pos,after,none⟩) rfl s x t rfl hs hx hrun h
 rwa [if_pos (by simp[Region.wanted])]at h1
theorem append_copy {w:World}{A:Option Addr}{c:Nat}{xs:List Nat}(h:Rd .u32 w w.heap.size A xs)(hs:xs.length<=4294967295){i:TypeInfo}(hi:Tryz.prog.info? 89=some i)(hz0:i.zero=some (.int .u32 0))(hz1:i.size=1)(hz2:i.bytes=4) :
  ∃A2 c2 w1,(Builtin.append_ #[28,28] 28 #[.slice none 0 0,.slice A xs.length c]).run Tryz.prog w=.ok (.slice A2 xs.length c2) w1 /\
   Rd .u32 w1 w1.heap.size A2 xs/\xs.length<=c2/\c2<=9223372036854775807/\Below w.heap.size w w1:=by
 cases A with
 | none =>
  have hO:xs=[]:=by
   cases xs with
   | nil=>rfl
   | cons d r=>obtain ⟨b,o,e,_⟩:=h 0 (by simp);cases e
  subst hO;exact ⟨none,0,_,run_append_nothing _ 28 28 28 89 i Tryz.underlying28 hi _ 0 0 (Nat.le_refl _) _ (Src.ofNil _ Tryz.underlying28 c),Rd.nil,by simp,by decide,Below.refl _ _⟩
 | some a =>
  obtain ⟨v',w1,hrun,hown',hgrow,_,_⟩:=run_append_own_at (P:=Tryz.prog) w w.heap.size 28 28 89 i (.int .u32 0) 1 4
   Tryz.underlying28 hi hz0 hz1 hz2 rfl (by decide) _ 0 _ (World.ownsRow_nil w w.heap.size 89 1) a xs.length c (ints .u32 xs) (by simp[ints]) (Rd.news h (Below.refl _ _)) (by
    intro u hu;obtain ⟨d,_,rfl⟩:=List.mem_map.1 hu
    rfl) (by unfold maxLen;omega) (by omega) (by simp)
  obtain ⟨A2,c2,rfl⟩:=own_shape hown';rw[Nat.zero_add]at hrun hown';obtain ⟨hc1,hc2⟩:=own_caps hown';exact ⟨A2,c2,w1,hrun,Rd.of_own (by simpa [ints]using hown') (Nat.le_refl _),hc1,hc2,(Below.refl _ _).grown hgrow (Nat.le_refl _) (fun j e=>by simp[Value.ownBlock]at e)⟩
def Zx (W:World)(x y:Value)(n:Bool)(xs:List Nat):Prop:=∃A c,x=.bool n/\y=.slice A xs.length c/\Arg W A c xs
theorem Zx.to {W V:World}{x y:Value}{n:Bool}{xs:List Nat}(h:Zx W x y n xs)(hb:Below W.heap.size W V):Zx V x y n xs:=by
 obtain ⟨A,c,h1,h2,h3⟩:=h;exact ⟨A,c,h1,h2,h3.to hb⟩
theorem Zx.fs {W:World}{x y:Value}{n:Bool}{xs:List Nat}(h:Zx W x y n xs):Fs x y:=by
 obtain ⟨A,c,rfl,rfl,_⟩:=h;exact ⟨_,_,_,_,rfl,rfl⟩
theorem Zx.zl {W:World}{x y:Value}{n:Bool}{xs:List Nat}(h:Zx W x y n xs)(hl:xs.length<=10000):Zl W x y (zof n (val b32 xs)):=by
 obtain ⟨A,c,rfl,rfl,h3⟩:=h;exact ⟨n,A,c,xs,rfl,rfl,h3,hl,rfl⟩
theorem same_x {w:World}{x y x' y':Value}{n:Bool}{xs:List Nat}(h:Zx w x y n xs)(h':Zx w x' y' n xs):Calls Tryz.prog 52 #[.agg #[x,y],.agg #[x',y']] w fun e w'=>e=.returned (.bool true)/\Below w.heap.size w w':=by
 obtain ⟨A,c,rfl,rfl,r⟩:=h;obtain ⟨A',c',rfl,rfl,r'⟩:=h';have h:=same_any n n r.rd r'.rd r.le r.cap r'.le r'.cap;rw[decide_eq_true ⟨rfl,rfl⟩]at h;exact h
theorem val_inj {b:Nat}(hb:0<b):∀{xs ys:List Nat},Dg b xs->Dg b ys->xs.length=ys.length->val b xs=val b ys->xs=ys
 | [],[],_,_,_,_=>rfl
 | [],_::_,_,_,h,_=>by simp at h
 | _::_,[],_,_,h,_=>by simp at h
 | d::r,e::s,hx,hy,hl,hv=>by
  have h1:=hx d (by simp);have h2:=hy e (by simp);simp only[val]at hv
  have hd:d=e:=by
   have:=congrArg (· % b) hv
   simpa [Nat.add_mul_mod_self_left,Nat.mod_eq_of_lt h1,Nat.mod_eq_of_lt h2]using this
  subst hd;have hv2:b*val b r=b*val b s:=by omega
  rw[val_inj hb (fun q hq=>hx q (by simp[hq])) (fun q hq=>hy q (by simp[hq])) (by simpa using hl) (Nat.eq_of_mul_eq_mul_left hb hv2)]
theorem Kept.arg {g:Nat}{w V:World}(kp:Kept g w V){A:Option Addr}{c:Nat}{xs:List Nat}(h:Arg w A c xs):Arg V A c xs:=by
 obtain ⟨n,A',c',xs',e1,e2,h3,h4⟩:=kp.zi _ _ _ ⟨false,A,c,xs,rfl,rfl,h,rfl⟩
 injection e1 with e1
 injection e2 with e2 e3 e4
 subst e1 e2 e4;have:xs=xs':=val_inj (by decide) h.dg h3.dg e3 (by have h5:=h4.symm;simp only[zof,Bool.false_eq_true,if_false]at h5;omega);subst this;exact h3
theorem own_any (n:Bool){A:Option Addr}{c:Nat}{xs:List Nat}{w:World}(hx:Arg w A c xs)(sx:xs.length<=10000) :
  Calls Tryz.prog 118 #[.agg #[.bool n,.slice A xs.length c]] w fun e w'=>∃x y,e=.returned (.agg #[x,y])/\Zx w' x y n xs/\Below w.heap.size w w':=by
 obtain ⟨W0,hW0⟩:∃W0,W0=((w.alloc (.cells #[.bool n,.slice A xs.length c] 30)).alloc (.cells #[.bool false,.slice none 0 0] 30)):=⟨_,rfl⟩
 have hb:Below w.heap.size w W0:=by rw[hW0];exact bRR.alloc (by simp) _
 have tX:Two W0 (w.heap.size) (.bool n) (.slice A xs.length c):=by
  have h:=Two.new w (.bool n) (.slice A xs.length c) 30;rw[hW0];exact h.alloc _
 have tR:Two W0 (w.heap.size+1) (.bool false) (.slice none 0 0):=by
  have h:=Two.new (w.alloc (.cells #[.bool n,.slice A xs.length c] 30)) (.bool false) (.slice none 0 0) 30;rw[szA]at h;rw[hW0];exact h
 have HW0:=Hd hW0;have HB0:=Hd hb;have HX:=Hd hx;have hBW:w.heap.size+1<=W0.heap.size:=by rw[hW0];simp
 have Dsx:val b32 xs<b16 ^ (2*xs.length):=by rw[<-pow_2k];exact val_lt hx.dg
 clear hW0 hb hx;obtain ⟨i0,hi,hz0,hz1,hz2⟩:=info_parts infoWord
 go_enter Tryz.func118,Tryz.ntmps118
 go_wp2_with fail
 rw[<-HW0.out];refine wp_region_plan (S:=fun w'=>Below (w.heap.size+1) W0 w') [(0,true),(1,true),(2,true),(3,true),(4,false),(5,true),(6,false)] (by kernel_rfl) (by kernel_rfl) (Below.refl _ _).drew ?_;have HB:=(Below.refl W0.heap.size W0).drew
 repeat (refine plan_take (v:=?_) rfl (by rfl) ?_ ?_;rotate_left;(focus (intro w' hS;have k0:=(tX.toB hS (by omega)).c0;have k1:=(tX.toB hS (by omega)).c1;go_simp;try with_reducible rfl));simp only[Act.put,pqA,pqB,pqC])
 have AC:=append_copy (c:=c) (HX.out.to (HB0.out.trans (HB.mono HB0.out.size))).rd HX.out.small hi hz0 hz1 hz2;obtain ⟨A2,c2,w1,hrun,r1,l1,m1,bb⟩:=AC;refine plan_call rfl (by rfl) (fun K hK=>?_);refine wp_append_out (by rfl) (by rfl) hrun ?_;have hx1:Arg w1 A2 c2 xs:=⟨r1,HX.out.dg,l1,m1,HX.out.small⟩
 replace HB:=Bxb HB bb;refine hK.out _ _ (HB.mono hBW) ?_;clear hK K hrun r1 l1 m1 bb;simp only[Act.put,pqA,pqB,pqC]
 repeat (refine plan_take (v:=?_) rfl (by rfl) ?_ ?_;rotate_left;(focus (intro w' hS;have k0:=(tX.toB hS (by omega)).c0;have k1:=(tX.toB hS (by omega)).c1;go_simp;try with_reducible rfl));simp only[Act.put,pqA,pqB,pqC])
 refine plan_call rfl (by rfl) (fun K hK=>?_);refine wp_store_two (by rfl) (by rfl) (tR.to HB) Fs.nil ⟨_,_,_,_,rfl,rfl⟩ (fun V u kp=>?_);have HF:Arg V A2 c2 xs:=kp.arg hx1;have HE:=kp.bel _ _ (HB0.out.trans (HB.mono HB0.out.size)) (by omega);refine hK.out _ _ (kp.bel _ _ (HB.mono hBW) (Nat.le_refl _)) ?_;clear hK K kp;simp only[Act.put,pqA,pqB,pqC];refine plan_done ?_;have HF2:=Hd HF;have HE2:=Hd HE;clear HF HE;go_wp2
 exact bodyPost_ret (v:=.agg #[.bool n,.slice A2 xs.length c2]) (by simp[results,Tryz.f118,go_sem,u.c0,u.c1]) rfl ⟨_,_,rfl,⟨A2,c2,rfl,rfl,HF2.out⟩,HE2.out⟩
def Qx (W:World)(a b c d:Value)(n:Bool)(xs:List Nat)(m:Bool)(ys:List Nat):Prop:=Zx W a b n xs/\Zx W c d m ys
theorem Qx.to {W V:World}{a b c d:Value}{n m:Bool}{xs ys:List Nat}(h:Qx W a b c d n xs m ys)(hb:Below W.heap.size W V):Qx V a b c d n xs m ys:=⟨h.1.to hb,h.2.to hb⟩
theorem Qx.qi {W:World}{a b c d:Value}{n m:Bool}{xs ys:List Nat}{k:Nat}(h:Qx W a b c d n xs m ys)(h1:xs.length<=k)(h2:ys.length<=k)(hk:k<=10000):Qi W a b c d (rv (zof n (val b32 xs)) (zof m (val b32 ys))) k:=by
 have z1:=h.1.zl (by omega);have z2:=h.2.zl (by omega);obtain ⟨⟨A,c,_,_,r1⟩,⟨B,d,_,_,r2⟩⟩:=h;exact ⟨_,_,z1,z2,rfl,Sm.zof r1.dg h1,Sm.zof r2.dg h2⟩
theorem Qx.fq {W:World}{a b c d:Value}{n m:Bool}{xs ys:List Nat}(h:Qx W a b c d n xs m ys):Fq a b c d:=⟨h.1.fs,h.2.fs⟩
theorem own_x {w:World}{x y:Value}{n:Bool}{xs:List Nat}(h:Zx w x y n xs)(sx:xs.length<=10000):Calls Tryz.prog 118 #[.agg #[x,y]] w fun e w'=>∃x y,e=.returned (.agg #[x,y])/\Zx w' x y n xs/\Below w.heap.size w w':=by
 obtain ⟨A,c,rfl,rfl,hx⟩:=h;exact own_any n hx sx
theorem kpZx {g:Nat}{w V:World}(kp:KeptG g w V){x y:Value}{n:Bool}{xs:List Nat}(h:Zx w x y n xs):Zx V x y n xs:=by
 obtain ⟨A,c,rfl,rfl,⟨r1,r2,r3,r4,r5⟩⟩:=h;exact ⟨A,c,rfl,rfl,⟨kp.rd _ _ r1,r2,r3,r4,r5⟩⟩
theorem kpQx {g:Nat}{w V:World}(kp:KeptG g w V){a b c d:Value}{n m:Bool}{xs ys:List Nat}(h:Qx w a b c d n xs m ys):Qx V a b c d n xs m ys:=⟨kpZx kp h.1,kpZx kp h.2⟩
theorem own_q {w:World}{a1 a2 a3 a4:Value}{n m:Bool}{xs ys:List Nat}(h:Qx w a1 a2 a3 a4 n xs m ys)(l1:xs.length<=10000)(l2:ys.length<=10000) :
  Calls Tryz.prog 94 #[.agg #[a1,a2,a3,a4]] w (fun e w'=>∃a b c d,e=.returned (.agg #[a,b,c,d])/\Qx w' a b c d n xs m ys/\Below w.heap.size w w'):=by
 have h1:=h.1;have h2:=h.2;clear h;obtain ⟨W0,hW0⟩:∃W0,W0=(w.alloc (.cells #[a1,a2,a3,a4] 32)).alloc (.cells #[.bool false,.slice none 0 0,.bool false,.slice none 0 0] 32):=⟨_,rfl⟩
 have hbw:Below w.heap.size w W0:=by rw[hW0];exact (bRR.alloc (by simp) _)
 have tA:Four W0 (w.heap.size) a1 a2 a3 a4:=by
  have h:=Four.new w a1 a2 a3 a4 32;rw[hW0];exact (h.alloc _)
 have tR:Four W0 (w.heap.size+1) (.bool false) (.slice none 0 0) (.bool false) (.slice none 0 0):=by
  have h:=Four.new (w.alloc (.cells #[a1,a2,a3,a4] 32)) (.bool false) (.slice none 0 0) (.bool false) (.slice none 0 0) 32;rw[szA]at h;rw[hW0];exact h
 replace h1:=h1.to hbw;replace h2:=h2.to hbw;have HW0:=Hd hW0;have HB:=Hd hbw;clear hW0 hbw
 go_enter Tryz.func94,Tryz.ntmps94
 go_wp2_with fail
 rw[<-HW0.out];clear HW0;refine wp_region_plan (S:=fun w'=>Below w.heap.size w w'/\Four w' (w.heap.size) a1 a2 a3 a4) [(0,true),(1,true),(3,true),(4,true),(2,false),(5,false),(6,true),(7,false)] (by kernel_rfl) (by kernel_rfl) ⟨HB.out.drew,tA.to (Below.refl _ _).drew⟩ ?_;have hb:=HB.out.drew;replace tA:=tA.to (Below.refl _ _).drew;replace tR:=tR.to (Below.refl _ _).drew;replace h1:=h1.to (Below.refl _ _).drew;replace h2:=h2.to (Below.refl _ _).drew;clear HB;refine plan_take (v:=?_) rfl (by rfl) ?_ ?_;rotate_left;(focus (intro w' hS;go_simp;try with_reducible rfl));refine plan_take (v:=?_) rfl (by rfl) ?_ ?_;rotate_left;(focus (intro w' hS;have k00:=(hS.2).c0;have k01:=(hS.2).c1;have k02:=(hS.2).c2;have k03:=(hS.2).c3;go_simp;try with_reducible rfl));refine plan_take (v:=?_) rfl (by rfl) ?_ ?_;rotate_left;(focus (intro w' hS;go_simp;try with_reducible rfl));refine plan_take (v:=?_) rfl (by rfl) ?_ ?_;rotate_left;(focus (intro w' hS;have k00:=(hS.2).c0;have k01:=(hS.2).c1;have k02:=(hS.2).c2;have k03:=(hS.2).c3;go_simp;try with_reducible rfl));refine plan_call rfl (by rfl) (fun K hK=>?_);go_simp
 refine (own_x h1 l1).mono ?_;rintro e V1 ⟨x1,y1,rfl,z1,bb⟩;replace hb:=Bxb hb bb;replace tA:=tA.to bb;replace tR:=tR.to bb;replace h2:=h2.to bb;refine hK.out _ _ ⟨hb,tA⟩ ?_;clear hK K bb;refine plan_call rfl (by rfl) (fun K hK=>?_);go_simp
 refine (own_x h2 l2).mono ?_;rintro e V2 ⟨x2,y2,rfl,z2,bb⟩;replace hb:=Bxb hb bb;replace tA:=tA.to bb;replace tR:=tR.to bb;replace z1:=z1.to bb;refine hK.out _ _ ⟨hb,tA⟩ ?_;clear hK K bb;refine plan_take (v:=?_) rfl (by rfl) ?_ ?_;rotate_left;(focus (intro w' hS;go_simp;try with_reducible rfl));refine plan_call rfl (by rfl) (fun K hK=>?_);have rq:Qx _ _ _ _ _ n xs m ys:=⟨z1,z2⟩
 refine wp_store_q (by rfl) (by rfl) tR Fq.nil rq.fq (fun V u kp=>?_);replace tA:=kp.four (by omega) tA;replace hb:=kp.bel _ _ hb (by omega);replace rq:=kpQx kp rq;refine hK.out _ _ ⟨hb,tA⟩ ?_;clear hK K kp tR tA;refine plan_done ?_;have U0:=u.c0;have U1:=u.c1;have U2:=u.c2;have U3:=u.c3;have RZ:=Hd rq;have HE:=Hd hb;clear rq hb u;go_wp2
 refine bodyPost_ret (v:=.agg #[x1,y1,x2,y2]) (by simp[results,Tryz.f94,go_sem,U0,U1,U2,U3]) rfl ?_;exact ⟨_,_,_,_,rfl,RZ.out,HE.out⟩
theorem is_x {w:World}{a1 a2 a3 a4 b1 b2 b3 b4:Value}{n m:Bool}{xs ys:List Nat}(hA:Qx w a1 a2 a3 a4 n xs m ys)(hB:Qx w b1 b2 b3 b4 n xs m ys) :
  Calls Tryz.prog 15 #[.agg #[a1,a2,a3,a4],.agg #[b1,b2,b3,b4]] w (fun e w'=>e=.returned (.bool true)/\Below w.heap.size w w'):=by
 obtain ⟨W0,hW0⟩:∃W0,W0=(w.alloc (.cells #[a1,a2,a3,a4] 32)).alloc (.cells #[b1,b2,b3,b4] 32):=⟨_,rfl⟩
 have hbw:Below w.heap.size w W0:=by rw[hW0];exact (bRR.alloc (by simp) _)
 have tA:Four W0 (w.heap.size) a1 a2 a3 a4:=by
  have h:=Four.new w a1 a2 a3 a4 32;rw[hW0];exact (h.alloc _)
 have tB:Four W0 (w.heap.size+1) b1 b2 b3 b4:=by
  have h:=Four.new (w.alloc (.cells #[a1,a2,a3,a4] 32)) b1 b2 b3 b4 32;rw[szA]at h;rw[hW0];exact h
 replace hA:=hA.to hbw;replace hB:=hB.to hbw;have HW0:=Hd hW0;have HB:=Hd hbw;clear hW0 hbw
 go_enter Tryz.func15,Tryz.ntmps15
 go_wp2_with fail
 rw[<-HW0.out];clear HW0;have kktA0:=tA.c0;have kktA1:=tA.c1;have kktA2:=tA.c2;have kktA3:=tA.c3;have kktB0:=tB.c0;have kktB1:=tB.c1;have kktB2:=tB.c2;have kktB3:=tB.c3
 go_wp2_with fail
 refine (same_x hA.1 hB.1).mono ?_;rintro e V1 ⟨rfl,bb⟩;clear kktA0 kktA1 kktA2 kktA3 kktB0 kktB1 kktB2 kktB3;replace tA:=tA.to bb;replace tB:=tB.to bb;replace hA:=hA.to bb;replace hB:=hB.to bb;replace HB:=Hxb HB bb;clear bb;have kktA0:=tA.c0;have kktA1:=tA.c1;have kktA2:=tA.c2;have kktA3:=tA.c3;have kktB0:=tB.c0;have kktB1:=tB.c1;have kktB2:=tB.c2;have kktB3:=tB.c3
 go_wp2_with fail
 refine (same_x hA.2 hB.2).mono ?_;rintro e V2 ⟨rfl,bb⟩;clear kktA0 kktA1 kktA2 kktA3 kktB0 kktB1 kktB2 kktB3;replace tA:=tA.to bb;replace tB:=tB.to bb;replace HB:=Hxb HB bb;clear bb;clear tA tB;go_wp2
 go_ret
 exact ⟨rfl,HB.out⟩
def errD (s:Rat):Int:=if s=0 then 7 else 0
def QE (w:World)(r:Rat)(v:Int)(e:Ending)(w':World):Prop:=∃x1 x2 x3 x4,e=.returned (.tuple #[.agg #[x1,x2,x3,x4],.int .i64 v])/\Qc w' x1 x2 x3 x4 r/\Below w.heap.size w w'
structure W4 where
 n:Bool
 xs:List Nat
 m:Bool
 ys:List Nat
instance : Inhabited W4:=⟨⟨false,[],false,[]⟩⟩
def Ex (W:World)(e:E4)(u:W4):Prop:=Qx W e.a e.b e.c e.d u.n u.xs u.m u.ys
theorem Kw.zx {W V:World}(k:Kw W V){x y:Value}{n:Bool}{xs:List Nat}(h:Zx W x y n xs):Zx V x y n xs:=by
 obtain ⟨A,c,h1,h2,⟨r1,r2,r3,r4,r5⟩⟩:=h;exact ⟨A,c,h1,h2,⟨k.rd r1,r2,r3,r4,r5⟩⟩
theorem Kw.ex {W V:World}(k:Kw W V){e:E4}{u:W4}(h:Ex W e u):Ex V e u:=⟨k.zx h.1,k.zx h.2⟩
structure Vx (W:World)(A:Option Addr)(c:Nat)(es:List E4)(u:Nat->W4):Prop where
 row:Rq W W.heap.size A es
 el:∀i,i<es.length->Ex W (es.getD i E4.z) (u i)/\(u i).xs.length<=6/\(u i).ys.length<=6
 fq:∀e∈es,e.fq
 cap:es.length<=c
 c63:c<=9223372036854775807
 le:es.length<=20
theorem Vx.to {W V:World}{A:Option Addr}{c:Nat}{es:List E4}{u:Nat->W4}(h:Vx W A c es u)(hb:Below W.heap.size W V):Vx V A c es u :=
 ⟨h.row.to hb,fun i hi=>⟨(h.el i hi).1.to hb,(h.el i hi).2⟩,h.fq,h.cap,h.c63,h.le⟩
def W4.q (u:W4):Rat:=rv (zof u.n (val b32 u.xs)) (zof u.m (val b32 u.ys))
def ratsW (u:Nat->W4)(N:Nat):List Rat:=(List.range N).map fun i=>(u i).q
theorem ratsW_length (u:Nat->W4)(N:Nat):(ratsW u N).length=N:=by simp[ratsW]
theorem Vx.vi {W:World}{A:Option Addr}{c:Nat}{es:List E4}{u:Nat->W4}(h:Vx W A c es u):Vi W A c es (ratsW u es.length) 6:=by
 refine ⟨h.row,(ratsW_length _ _).symm,fun i=>?_,h.fq,h.cap,h.c63⟩
 by_cases hi:i<es.length
 .obtain ⟨h1,h2,h3⟩:=h.el i hi;rw[show (ratsW u es.length).getD i 0=(u i).q from by simp[ratsW,List.getD,hi]];exact Qx.qi h1 h2 h3 (by decide)
 .rw[getD_ge (l:=ratsW u es.length) (by rw[ratsW_length];omega),getD_ge (l:=es) (by omega)];exact Qi.zero W
theorem VIn.vx {w:World}{v:VA}(h:VIn w v)(hl:lngV v.es=false):∃u,Vx w v.A v.c v.es u:=by
 obtain ⟨A,c,es⟩:=v;obtain ⟨hrow,hel,hcap,hc63⟩:=h;dsimp only at hrow hel hcap hc63 hl ⊢;unfold lngV at hl;simp only[Bool.or_eq_false_iff,decide_eq_false_iff_not,List.any_eq_false]at hl
 have key:∀i,i<es.length->∃u:W4,Ex w (es.getD i E4.z) u/\u.xs.length<=6/\u.ys.length<=6:=fun i hi=>by
  rw[getD_at' hi];have he:=List.getElem_mem hi;have h1:=hl.2 _ he;obtain ⟨⟨n,A1,d1,xs,f1,f2,r1,g1,l1,m1⟩,⟨m,A2,d2,ys,f3,f4,r2,g2,l2,m2⟩⟩:=hel _ he;unfold lngE at h1;simp only[f2,f4,vlen,Bool.or_eq_true,decide_eq_true_eq,not_or]at h1;have a1:Arg w A1 d1 xs:=⟨r1,g1,l1,m1,by omega⟩
  have a2:Arg w A2 d2 ys:=⟨r2,g2,l2,m2,by omega⟩
  exact ⟨⟨n,xs,m,ys⟩,⟨⟨A1,d1,f1,f2,a1⟩,⟨A2,d2,f3,f4,a2⟩⟩,by show xs.length<=6;omega,by show ys.length<=6;omega⟩
 obtain ⟨u,hu⟩:=Go.Deep.choose_lt key;exact ⟨u,hrow,hu,fun e he=>(hel e he).fq,hcap,hc63,by omega⟩
theorem vis_x {w:World}{A A':Option Addr}{c c':Nat}{es fs:List E4}{u:Nat->W4}(hA:Vx w A c es u)(hB:Vx w A' c' fs u)(hl:es.length=fs.length) :
  Calls Tryz.prog 37 #[.slice A es.length c,.slice A' fs.length c'] w fun e w'=>e=.returned (.bool true)/\Below w.heap.size w w':=by
 rw[<-hl];exact is3_f (b:=fun _=>true) hA.row hB.row rfl hl.symm (by have:=hA.le;omega) (fun V hV i hi=>is_x ((hA.el i hi).1.to hV) ((hB.el i (by omega)).1.to hV)) (by simp)
theorem own3_x {w:World}{A:Option Addr}{c:Nat}{es:List E4}{u:Nat->W4}(h:Vx w A c es u) :
  Calls Tryz.prog 51 #[.slice A es.length c] w fun e w'=>∃A' c' fs,e=.returned (.slice A' es.length c')/\fs.length=es.length/\Vx w' A' c' fs u/\Below w.heap.size w w':=by
 have H:=Hd h;have HO:=Hd (fun (V:World) (hV:Below w.heap.size w V) i hi=>own_q ((h.el i hi).1.to hV) (by have:=(h.el i hi).2.1;omega) (by have:=(h.el i hi).2.2;omega));obtain ⟨N,hN⟩:∃N,es.length=N:=⟨_,rfl⟩
 have HNN:=Hd hN;have hN2:=h.le;rw[hN]at hN2 HO ⊢;have HL:=Hd hN2;clear h hN hN2
 go_enter Tryz.func51,Tryz.ntmps51
 go_wp2
 go_loopw [3,4] (fun v i wr=>∃(k:Nat) (A1:Option Addr) (c1:Nat),v=.slice A1 k c1/\i=.int .i64 k/\k<=N/\Hid (TotP (fun W i e=>Ex W e (u i)) wr (.slice A1 k c1) k w.heap.size)/\Below w.heap.size w wr) (fun _ i _=>N-(intOf i).toNat)
 case atStart=>exact ⟨0,none,0,rfl,rfl,Nat.zero_le _,.inl ⟨rfl,rfl⟩,Below.refl _ _⟩
 case round =>
  obtain ⟨k,A1,c1,rfl,rfl,hk,hT,hb⟩:=hrel
  by_cases hlt:k<N
  .have hk1:(0:Int)<=(k:Int):=by omega
   have hk2:(k:Int)<(N:Int):=by omega
   have hk3:(k:Int)+1<=9223372036854775807:=by have:=HL.out;omega
   have hkn:k<es.length:=by have:=HNN.out;omega
   have HC:=Hd (HO.out wr hb k hlt);obtain ⟨b,o,ha,hb1,f0,f1,f2,f3⟩:=H.out.row k hkn;rw[getD_at' hkn]at HC;replace f0:=(hb.cell (p:=⟨b,_,none⟩) hb1).trans f0;replace f1:=(hb.cell (p:=⟨b,_,none⟩) hb1).trans f1;replace f2:=(hb.cell (p:=⟨b,_,none⟩) hb1).trans f2;replace f3:=(hb.cell (p:=⟨b,_,none⟩) hb1).trans f3;generalize es[k]=X at HC f0 f1 f2 f3;obtain ⟨x1,x2,x3,x4⟩:=X;dsimp only at f0 f1 f2 f3 HC;have HB:=Hd hb;have HLT:=Hd hlt;clear hb hkn hlt hb1 HO H HNN;subst ha
   go_wp2_with fail
   refine HC.out.mono ?_;rintro e V ⟨y1,y2,y3,y4,rfl,q,bb⟩;have bb2:Below V.heap.size V (V.alloc (.cells #[y1,y2,y3,y4] 32)):=bRR;have c5:=(Hp.new V #[y1,y2,y3,y4] 32).four;have hB1:=HB.out.trans (bb.mono HB.out.size);have hB2:=Bxb hB1 bb2
   have hT1:TotP (fun W i e=>Ex W e (u i)) (V.alloc (.cells #[y1,y2,y3,y4] 32)) (.slice A1 k c1) k w.heap.size:=by
    have h1:=TotP.mv (P:=fun W i e=>Ex W e (u i)) (fun k h=>k.ex h) hT.out bb;exact TotP.mv (P:=fun W i e=>Ex W e (u i)) (fun k h=>k.ex h) h1 bb2
   obtain ⟨v',X,hrun,hT2,hbel⟩:=papp (P:=fun W i e=>Ex W e (u i)) (fun k h=>k.ex h) hT1 hB2.size (by have:=HL.out;have:=HLT.out;omega) (e:=⟨y1,y2,y3,y4⟩) q.fq (q.to bb2) (a:=⟨V.heap.size,0,none⟩) (c:=1) c5.c0 c5.c1 c5.c2 c5.c3 38;obtain ⟨A2,c2,rfl⟩:=hT2.sl;have HRUN:=Hd hrun;have HE:Hid (TotP (fun W i e=>Ex W e (u i)) X (.slice A2 (k+1) c2) (k+1) w.heap.size/\Below w.heap.size w X):=⟨hT2,hB2.trans hbel⟩
   clear bb2 c5 hbel hrun bb q hT1 hT2 hB1 hB2 HC
   go_wp2_with (at_builtin;refine wpList_append_run rfl (.tmp 11) (.tmp 17) 38 rfl (by rfl) (by rfl) HRUN.out ?_;clear HRUN)
   go_roundw
   case rel=>exact ⟨k+1,A2,c2,rfl,by simp,HLT.out,HE.out.1,HE.out.2⟩
   case measure=>have:=HLT.out;simp[intOf];omega
  .obtain rfl:k=N:=by omega
   have HB:=Hd hb;have HQ:Hid (∀i,i<k->(u i).xs.length<=6/\(u i).ys.length<=6):=fun i hi=>(H.out.el i (by have:=HNN.out;omega)).2
   clear hb hlt H HO;go_wp2
   go_ret
   rcases hT.out with ⟨h0,h1⟩|⟨g,cap,fl,h1,hg,h2,h3,h4,h5,h6,h7⟩
   .cases h1;exact ⟨none,0,[],rfl,rfl,⟨Rq.nil,(fun i hi=>by cases hi),(fun e he=>by cases he),by decide,by decide,by decide⟩,HB.out⟩
   .cases h1;have hlen:(fl.take k).length=k:=by rw[List.length_take];omega
    refine ⟨_,_,fl.take k,rfl,hlen,⟨h2.rq _,fun i hi=>?_,fun e he=>h2.fq e (List.mem_of_mem_take he),by rw[hlen];exact h4,h5,by rw[hlen];exact HL.out⟩,HB.out⟩;rw[hlen]at hi;rw[show (fl.take k).getD i E4.z=fl.getD i E4.z from by simp[List.getD,List.getElem?_take,hi]];exact ⟨h6 i hi,HQ.out i hi⟩
structure Mw (W:World)(P:Option Addr)(N C:Nat)(n:Nat->Nat)(U:Nat->Nat->W4):Prop where
 row:∀k,k<N->∃b o A c es,P=some ⟨b,o,none⟩/\b<W.heap.size/\W.cell? ⟨b,o+k,none⟩=some (.slice A (n k) c)/\es.length=n k/\Vx W A c es (U k)
 n63:N<=9223372036854775807
theorem Mw.to {W V:World}{P:Option Addr}{N C:Nat}{n:Nat->Nat}{U:Nat->Nat->W4}(h:Mw W P N C n U)(hb:Below W.heap.size W V):Mw V P N C n U :=
 ⟨fun k hk=>by
  obtain ⟨b,o,A,c,es,e,h1,h2,h3,h4⟩:=h.row k hk
  exact ⟨b,o,A,c,es,e,Nat.lt_of_lt_of_le h1 hb.size,(hb.cell (p:=⟨b,_,none⟩) h1).trans h2,h3,h4.to hb⟩,h.n63⟩
def ratsU (n:Nat->Nat)(U:Nat->Nat->W4)(k:Nat):List Rat:=ratsW (U k) (n k)
theorem ratsU_length (n:Nat->Nat)(U:Nat->Nat->W4)(k:Nat):(ratsU n U k).length=n k:=ratsW_length _ _
theorem Mw.mi {W:World}{P:Option Addr}{N C:Nat}{n:Nat->Nat}{U:Nat->Nat->W4}(h:Mw W P N C n U):Mi W P N C (ratsU n U) 6 :=
 ⟨fun k hk=>by
  obtain ⟨b,o,A,c,es,e,h1,h2,h3,h4⟩:=h.row k hk;have h5:=h4.vi;rw[h3]at h5
  exact ⟨b,o,A,c,es,e,h1,by rw[h2,ratsU_length],h5⟩,h.n63⟩
def Vw (n:Nat->Nat)(U:Nat->Nat->W4)(W:World)(i:Nat)(v:Value):Prop:=∃A c es,v=.slice A (n i) c/\es.length=n i/\Vx W A c es (U i)
theorem RowS.vx {W:World}{g:Nat}{fl:List Value}(h:RowS W g fl){cs:Array Value}{A:Option Addr}{c:Nat}{es:List E4}{u:Nat->W4}(hv:Vx W A c es u):Vx (W.setRow g cs) A c es u :=
 ⟨by rw[setRow_size];exact h.rq hv.row hv.fq,fun i hi=>⟨h.kw.ex (hv.el i hi).1,(hv.el i hi).2⟩,hv.fq,hv.cap,hv.c63,hv.le⟩
theorem Vw.kept (n:Nat->Nat)(U:Nat->Nat->W4):KeptS (Vw n U) where
 to:=fun hb h=>by
  obtain ⟨A,c,es,e,h1,h⟩:=h;exact ⟨A,c,es,e,h1,h.to hb⟩
 set:=fun hr h=>by
  obtain ⟨A,c,es,e,h1,h⟩:=h;exact ⟨A,c,es,e,h1,hr.vx h⟩
theorem TotS.mw {n:Nat->Nat}{U:Nat->Nat->W4}{W:World}{P:Option Addr}{N c B:Nat}(h:TotS (Vw n U) W (.slice P N c) N B):Mw W P N c n U:=by
 rcases h with ⟨rfl,h⟩|⟨g,cap,fl,h1,h2,h3,h4,h5,h6,h7⟩
 .cases h;exact ⟨fun k hk=>absurd hk (Nat.not_lt_zero _),by decide⟩
 .cases h1;refine ⟨fun k hk=>?_,Nat.le_trans h5 h6⟩;obtain ⟨A,d,es,e,h8,h9⟩:=h7 k hk;refine ⟨g,0,A,d,es,rfl,h3.lt,?_,h8,h9⟩;rw[<-e];have hk2:k<fl.length:=by omega
  simp[World.cell?,h3.heap,List.getD,hk2]
theorem MIn.mw {w:World}{M:MA}(h:MIn w M)(hl:lngM M=false):∃n U,Mw w M.P M.N M.C n U/\M.N<=8/\∀k,k<M.N->n k<=8:=by
 unfold lngM at hl;simp only[Bool.or_eq_false_iff,decide_eq_false_iff_not]at hl;obtain ⟨⟨h1,h2⟩,h3⟩:=hl
 have each:∀i,i<M.N->∃u:Nat->W4,Vx w (M.vs i).A (M.vs i).c (M.vs i).es u:=fun i hi=>by
  have h4:=List.any_eq_false.1 h3 (M.vs i) (List.mem_map.2 ⟨i,List.mem_range.2 hi,rfl⟩);exact (h.vin i hi).vx (by simpa using h4)
 obtain ⟨U,hU⟩:=Go.Deep.choose_lt each;refine ⟨fun k=>(M.vs k).es.length,U,⟨fun k hk=>?_,h.n63⟩,by omega,fun k hk=>?_⟩
 .obtain ⟨b,o,e,h5,h6⟩:=h.row k hk;exact ⟨b,o,(M.vs k).A,(M.vs k).c,(M.vs k).es,e,h5,h6,rfl,hU k hk⟩
 .have h5:=colsN_ge (rsL M.vs) hk;simp only[rsL,List.length_replicate]at h5
  show (M.vs k).es.length<=8
  omega
theorem own4_x {w:World}{P:Option Addr}{N C:Nat}{n:Nat->Nat}{U:Nat->Nat->W4}(h:Mw w P N C n U)(hl:N+1<=1000000) :
  Calls Tryz.prog 12 #[.slice P N C] w (fun e w'=>∃P' C',e=.returned (.slice P' N C')/\Mw w' P' N C' n U/\Below w.heap.size w w'):=by
 have HL:=Hd hl;have HO:=Hd (fun (V:World) (hV:Below w.heap.size w V)=>(h.to hV).row);clear h hl
 go_enter Tryz.func12,Tryz.ntmps12
 go_wp2
 go_loopw [3,4] (fun v i wr=>∃(k:Nat) (A1:Option Addr) (c1:Nat),v=.slice A1 k c1/\i=.int .i64 k/\k<=N/\Hid (TotS (Vw n U) wr (.slice A1 k c1) k w.heap.size)/\Below w.heap.size w wr) (fun _ i _=>N-(intOf i).toNat)
 case atStart=>exact ⟨0,none,0,rfl,rfl,Nat.zero_le _,.inl ⟨rfl,rfl⟩,Below.refl _ _⟩
 case round =>
  obtain ⟨k,A1,c1,rfl,rfl,hk,hT,hb⟩:=hrel
  by_cases hlt:k<N
  .have hk1:(0:Int)<=(k:Int):=by omega
   have hk2:(k:Int)<(N:Int):=by omega
   have hk3:(k:Int)+1<=9223372036854775807:=by have:=HL.out;omega
   obtain ⟨b,o,A,c,es,rfl,hb1,cc,hn,hx⟩:=HO.out wr hb k hlt;have hc:=own3_x hx;rw[hn]at hc;have HC:=Hd hc;clear hc hx hb1 hn;have HB:=Hd hb;have HLT:=Hd hlt;clear hb hlt hk
   go_wp2_with fail
   refine (HC.out).mono ?_;rintro e V ⟨A2,c2,fl2,rfl,hfl,hv,bb⟩;have bb2:Below V.heap.size V (V.alloc (.cells #[.slice A2 (n k) c2] 38)):=bRR;have c5:=(Hp.new V #[.slice A2 (n k) c2] 38).one;have hB1:=HB.out.trans (bb.mono HB.out.size);have hB2:=Bxb hB1 bb2;obtain ⟨v',X,hrun,hT2,hbel⟩:=sapp (Vw.kept n U) ((hT.out.mv (Vw.kept n U) bb).mv (Vw.kept n U) bb2) hB2.size (by have:=HL.out;have:=HLT.out;omega) ⟨_,_,_,rfl⟩ ⟨A2,c2,fl2,rfl,hfl,hv.to bb2⟩ (a:=⟨V.heap.size,0,none⟩) (c:=1) c5 22;obtain ⟨A3,c3,rfl⟩:=hT2.sl;have HRUN:=Hd hrun;have HE:Hid (TotS (Vw n U) X (.slice A3 (k+1) c3) (k+1) w.heap.size/\Below w.heap.size w X):=⟨hT2,hB2.trans hbel⟩
   clear bb2 c5 hbel hrun bb hv hT2 hB1 hB2 hfl
   go_wp2_with (at_builtin;refine wpList_append_run rfl (.tmp 11) (.tmp 17) 22 rfl (by rfl) (by rfl) HRUN.out ?_;clear HRUN)
   go_roundw
   case rel=>exact ⟨k+1,A3,c3,rfl,by simp,HLT.out,HE.out.1,HE.out.2⟩
   case measure=>have:=HLT.out;simp[intOf];omega
  .obtain rfl:k=N:=by omega
   have HT:=hT;have HB:=Hd hb;clear hT hb hlt hk;go_wp2
   go_ret
   exact ⟨A1,c1,rfl,HT.out.mw,HB.out⟩
theorem is4_x {w:World}{P Q:Option Addr}{N C D:Nat}{n:Nat->Nat}{U:Nat->Nat->W4}(hx:Mw w P N C n U)(hy:Mw w Q N D n U) :
  Calls Tryz.prog 20 #[.slice P N C,.slice Q N D] w fun e w'=>e=.returned (.bool true)/\Below w.heap.size w w':=by
 have RX:=Hd hx.row;have RY:=Hd hy.row;have HN:=Hd (hx.n63);have hne:((N:Int) != (N:Int))=false:=by simp
 clear hx hy
 go_enter Tryz.func20,Tryz.ntmps20
 go_wp2
 go_loopw [5] (fun i wr=>∃k:Nat,i=.int .i64 k/\k<=N/\Below w.heap.size w wr) (fun i _=>N-(intOf i).toNat)
 case atStart=>exact ⟨0,rfl,Nat.zero_le _,Below.refl _ _⟩
 case round =>
  obtain ⟨k,rfl,hk,hb⟩:=hrel
  by_cases hlt:k<N
  .have hk1:(0:Int)<=(k:Int):=by omega
   have hk2:(k:Int)<(N:Int):=by omega
   have hk3:(k:Int)+1<=9223372036854775807:=by have:=HN.out;omega
   obtain ⟨b1,o1,A1,c1,es1,rfl,hb1,f1,n1,v1⟩:=RX.out k hlt;obtain ⟨b2,o2,A2,c2,es2,rfl,hb2,f2,n2,v2⟩:=RY.out k hlt;have hc:=fun (V:World) (hV:Below w.heap.size w V)=>vis_x (v1.to hV) (v2.to hV) (n1.trans n2.symm)
   rw[n1,n2]at hc;have HC:=Hd hc;have F1:Hid (∀V,Below w.heap.size w V->V.cell? ⟨b1,o1+k,none⟩=some (.slice A1 (n k) c1)):=fun V hV=>(hV.cell (p:=⟨b1,_,none⟩) hb1).trans f1
   have F2:Hid (∀V,Below w.heap.size w V->V.cell? ⟨b2,o2+k,none⟩=some (.slice A2 (n k) c2)):=fun V hV=>(hV.cell (p:=⟨b2,_,none⟩) hb2).trans f2
   have HB:=Hd hb;have HLT:=Hd hlt;clear v1 v2 hb1 hb2 hb hlt hk RX RY hc n1 n2 f1 f2
   go_wp2_with fail
   refine wp_region_plan (S:=fun w'=>Below w.heap.size w w') [(0,true),(1,true),(2,true),(3,true),(4,true),(5,true),(6,true),(7,true),(8,false),(9,true)] (by kernel_rfl) (by kernel_rfl) HB.out.drew ?_;have hb:=HB.out.drew
   iterate 3 (refine plan_take (v:=?_) rfl (by rfl) ?_ ?_;rotate_left;(focus (intro w' _;go_simp;try with_reducible rfl));simp only[Act.put,pqA,pqB,pqC])
   refine plan_take (v:=?_) rfl (by rfl) ?_ ?_;rotate_left;(focus (intro w' hS;have f1:=F1.out w' hS;go_simp;try with_reducible rfl));simp only[Act.put,pqA,pqB,pqC]
   iterate 3 (refine plan_take (v:=?_) rfl (by rfl) ?_ ?_;rotate_left;(focus (intro w' _;go_simp;try with_reducible rfl));simp only[Act.put,pqA,pqB,pqC])
   refine plan_take (v:=?_) rfl (by rfl) ?_ ?_;rotate_left;(focus (intro w' hS;have f2:=F2.out w' hS;go_simp;try with_reducible rfl));simp only[Act.put,pqA,pqB,pqC];refine plan_call rfl (by rfl) (fun K hK=>?_);go_simp
   refine (HC.out _ hb).mono ?_;rintro e V ⟨rfl,bb⟩;replace hb:=Bxb hb bb;refine hK.out _ _ hb ?_;clear hK K bb;refine plan_take (v:=?_) rfl (by rfl) ?_ ?_;rotate_left;(focus (intro w' _;go_simp;try with_reducible rfl));simp only[Act.put,pqA,pqB,pqC];refine plan_done ?_;have HB2:=Hd hb;clear hb HC F1 F2 HB;go_wp2
   go_roundw
   case rel=>exact ⟨k+1,by simp,HLT.out,HB2.out⟩
   case measure=>have:=HLT.out;simp[intOf];omega
  .obtain rfl:k=N:=by omega
   have HB:=Hd hb;clear hb hlt hk RX RY;go_wp2
   go_ret
   exact ⟨rfl,HB.out⟩
theorem rowAt_in {w:World}{b o N C i n c:Nat}{A:Option Addr}(hc:w.cell? ⟨b,o+i,none⟩=some (.slice A n c))(hi:i<N)(hN:N<=9223372036854775807) :
  Calls Tryz.prog 53 #[.slice (some ⟨b,o,none⟩) N C,.int .i64 (i:Int)] w fun e w'=>e=.returned (.slice A n c)/\Below w.heap.size w w':=by
 have h0:(0:Int)<=(i:Int):=by omega
 have h1:¬(i:Int)<0:=by omega
 have h2:¬(N:Int)<=(i:Int):=by omega
 have h3:(i:Int)<(N:Int):=by omega
 clear hi
 go_enter Tryz.func53,Tryz.ntmps53
 go_wp2
 go_ret
 exact ⟨rfl,Below.refl _ _⟩
theorem at_m {w:World}{P:Option Addr}{N C m i j:Nat}{rs:Nat->List Rat}(hM:Mi w P N C rs m)(hm:m<=10000)(hi:i<N)(hl:(rs i).length<=4398046511104) :
  Calls Tryz.prog 16 #[.slice P N C,.int .i64 (i:Int),.int .i64 (j:Int)] w (QR w ((rs i).getD j 0)):=by
 have hN:=hM.n63;obtain ⟨r,hr⟩:∃r,(rs i).getD j 0=r:=⟨_,rfl⟩
 have HRR:=Hd hr;rw[hr];obtain ⟨b,o,A,c,es,rfl,hb1,hc,hv⟩:=hM.row i hi;obtain ⟨W0,hW0⟩:∃W0,W0=w.alloc (.cells #[.bool false,.slice none 0 0,.bool false,.slice none 0 0] 32):=⟨_,rfl⟩
 have hbw:Below w.heap.size w W0:=by rw[hW0];exact bRR
 have tR:Four W0 w.heap.size (.bool false) (.slice none 0 0) (.bool false) (.slice none 0 0):=by rw[hW0];exact Four.new w _ _ _ _ _
 have HR:=Hd (rowAt_in (w:=W0) (C:=C) ((hbw.cell (p:=⟨b,_,none⟩) hb1).trans hc) hi hN);replace hv:=hv.to hbw;have HW0:=Hd hW0;have HB:=Hd hbw;have hj0:¬(j:Int)<0:=by omega
 clear hM hi hc hb1 hW0 hbw hr
 go_enter Tryz.func16,Tryz.ntmps16
 go_wp2_with fail
 rw[<-HW0.out];refine HR.out.mono ?_;rintro e V ⟨rfl,bb⟩;replace tR:=tR.to bb;replace hv:=hv.to bb;replace HB:=Hxb HB bb;clear bb HR HW0
 by_cases hj:j<(rs i).length
 .have hj1:¬((rs i).length:Int)<=(j:Int):=by omega
  have hj2:(j:Int)<((rs i).length:Int):=by omega
  have hj3:(0:Int)<=(j:Int):=by omega
  have hje:j<es.length:=by rw[hv.len];exact hj
  obtain ⟨b',o',rfl,hbo,f0,f1,f2,f3⟩:=hv.row j hje;have hq:=hv.el j;rw[getD_at' hje,HRR.out]at hq;have HC:=Hd (canonical_q hq hm);generalize es[j]=X at f0 f1 f2 f3 HC;obtain ⟨x1,x2,x3,x4⟩:=X;dsimp only at f0 f1 f2 f3 HC;clear hq hje hj hv hbo
  go_wp2_with fail
  refine HC.out.mono ?_;rintro e V2 ⟨y1,y2,y3,y4,rfl,q,bb⟩;replace tR:=tR.to bb;replace HB:=Hxb HB bb;clear bb HC f0 f1 f2 f3;have RZ:=Hd q;obtain ⟨V99,eV,u,kp⟩:=pack4 tR Fq.nil y1 y2 y3 y4;obtain ⟨⟨n1,A1,k1,m1,rfl,rfl⟩,⟨n2,A2,k2,m2,rfl,rfl⟩⟩:=q.fq;obtain ⟨v0,v1,v2,v3,v4,v5,v6,v7,_⟩:=tR;have EV:=Hd eV;have KP:=Hd kp;have U:=Hd u;clear eV kp u q;go_wp2
  rw[EV.out];refine bodyPost_ret (v:=.agg #[.bool n1,.slice A1 k1 m1,.bool n2,.slice A2 k2 m2]) (by simp[results,Tryz.f16,go_sem,U.out.c0,U.out.c1,U.out.c2,U.out.c3]) rfl ?_;exact ⟨_,_,_,_,rfl,RZ.out.k4 KP.out,KP.out.bel _ _ HB.out (by omega)⟩
 .have hj1:((rs i).length:Int)<=(j:Int):=by omega
  obtain rfl:r=0:=by rw[<-HRR.out,getD_ge (l:=rs i) (by omega)]
  obtain ⟨V99,eV,u,kp⟩:=pack4 tR Fq.nil (.bool false) (.slice none 0 0) (.bool false) (.slice none 0 0);obtain ⟨v0,v1,v2,v3,v4,v5,v6,v7,_⟩:=tR;have EV:=Hd eV;have KP:=Hd kp;have U:=Hd u;clear eV kp u hv hj;go_wp2
  rw[EV.out];refine bodyPost_ret (v:=.agg #[.bool false,.slice none 0 0,.bool false,.slice none 0 0]) (by simp[results,Tryz.f16,go_sem,U.out.c0,U.out.c1,U.out.c2,U.out.c3]) rfl ?_;exact ⟨_,_,_,_,rfl,⟨Zc.zero _,Zc.zero _⟩,KP.out.bel _ _ HB.out (by omega)⟩
theorem column_m {w:World}{P:Option Addr}{N C m j:Nat}{rs:Nat->List Rat}(hM:Mi w P N C rs m)(hm:m<=10000)(hl:N+1<=1000000)(hr:∀i,i<N->(rs i).length<=4398046511104) :
  Calls Tryz.prog 68 #[.slice P N C,.int .i64 (j:Int)] w (VR w (tab N (fun i=>(rs i).getD j 0))):=by
 have HL:=Hd hl;obtain ⟨g,hg⟩:∃g:Nat->Rat,g=fun i=>(rs i).getD j 0:=⟨_,rfl⟩
 have HA:=Hd (fun (V:World) (hV:Below w.heap.size w V) k (hk:k<N)=>at_m (j:=j) (hM.to hV) hm hk (hr k hk));have hgk:∀i,(rs i).getD j 0=g i:=fun i=>by rw[hg]
 simp only[hgk]at HA;rw[<-hg];clear hM hm hr hg hgk
 go_enter Tryz.func68,Tryz.ntmps68
 go_wp2_with (at_make;refine wpList_makeq _ rfl _ _ rfl 0 N rfl rfl (by omega) (by omega) (Nat.zero_le _) (by have:=HL.out;omega) ?_)
 have hacc:Hid (TotV (w.alloc (.cells (flat (List.replicate N E4.z)).toArray 32)) (.slice (some ⟨w.heap.size,0,none⟩) 0 N) 0 g w.heap.size):=TotV.new (Nat.le_refl _) (by have:=HL.out;omega);have hbw:Below w.heap.size w (w.alloc (.cells (flat (List.replicate N E4.z)).toArray 32)):=bRR;generalize w.alloc (.cells (flat (List.replicate N E4.z)).toArray 32)=w1 at hacc hbw ⊢
 go_loopw [5,12] (fun v i wr=>∃(k:Nat) (A1:Option Addr) (c1:Nat),v=.slice A1 k c1/\i=.int .i64 k/\k<=N/\Hid (TotV wr (.slice A1 k c1) k g w.heap.size)/\Below w.heap.size w wr) (fun _ i _=>N-(intOf i).toNat)
 case atStart=>exact ⟨0,_,_,rfl,rfl,Nat.zero_le _,hacc,hbw⟩
 case round =>
  obtain ⟨k,A1,c1,rfl,rfl,hk,hT,hb⟩:=hrel;clear hacc hbw
  by_cases hlt:k<N
  .have hk1:(0:Int)<=(k:Int):=by omega
   have hk2:(k:Int)<(N:Int):=by omega
   have hk3:(k:Int)+1<=9223372036854775807:=by have:=HL.out;omega
   have HC:=Hd (HA.out wr hb k hlt);have HB:=Hd hb;have HLT:=Hd hlt;clear hb hlt hk
   go_wp2_with fail
   refine (HC.out).mono ?_;rintro e V ⟨x1,x2,x3,x4,rfl,q,bb⟩;have bb2:Below V.heap.size V (V.alloc (.cells #[x1,x2,x3,x4] 32)):=bRR;have c5:=(Hp.new V #[x1,x2,x3,x4] 32).four;have hB1:=HB.out.trans (bb.mono HB.out.size);have hB2:=Bxb hB1 bb2;obtain ⟨v',X,hrun,hT2,hbel⟩:=qapp ((hT.out.to bb).to bb2) hB2.size (by have:=HL.out;have:=HLT.out;omega) (e:=⟨x1,x2,x3,x4⟩) q.fq (q.to bb2) (a:=⟨V.heap.size,0,none⟩) (c:=1) c5.c0 c5.c1 c5.c2 c5.c3 38;obtain ⟨A3,c3,rfl⟩:=hT2.sl;have HRUN:=Hd hrun;have HE:Hid (TotV X (.slice A3 (k+1) c3) (k+1) g w.heap.size/\Below w.heap.size w X):=⟨hT2,hB2.trans hbel⟩
   clear bb2 c5 hbel hrun bb q hT2 hB1 hB2
   go_wp2_with (at_builtin;refine wpList_append_run rfl (.tmp 15) (.tmp 20) 38 rfl (by rfl) (by rfl) HRUN.out ?_;clear HRUN)
   go_roundw
   case rel=>exact ⟨k+1,A3,c3,rfl,by simp,HLT.out,HE.out.1,HE.out.2⟩
   case measure=>have:=HLT.out;simp[intOf];omega
  .obtain rfl:k=N:=by omega
   have HT:=hT;have HB:=Hd hb;clear hT hb hlt hk;go_wp2
   go_ret
   exact HT.out.vtab (by have:=HL.out;omega) HB.out
theorem mulVec_m {w:World}{P A':Option Addr}{N C m c' l:Nat}{rs:Nat->List Rat}{fs:List E4}{ss:List Rat}(hM:Mi w P N C rs m)(hX:Vi w A' c' fs ss l)(hm:0<m)(hl0:0<l)(hl:N+1<=1000000)(hr:∀i,i<N->(rs i).length<=4398046511104)(hs:ss.length<=4398046511104)(hb0:∀i,i<N->(max (rs i).length ss.length)*(m+l+1)+1+(m+l)+1<=10000) :
  Calls Tryz.prog 38 #[.slice P N C,.slice A' ss.length c'] w (VR w (tab N (fun i=>dotQ (rs i) ss))):=by
 have HL:=Hd hl;obtain ⟨g,hg⟩:∃g:Nat->Rat,g=fun i=>dotQ (rs i) ss:=⟨_,rfl⟩
 have HD:=Hd (fun (V:World) (hV:Below w.heap.size w V) k (hk:k<N) {A:Option Addr} {c:Nat} {es:List E4} (h:Vi V A c es (rs k) m)=>vdot_v (c:=c) (c':=c') h (hX.to hV) hm hl0 (hr k hk) hs (hb0 k hk));have HR:=Hd (fun (V:World) (hV:Below w.heap.size w V)=>(hM.to hV).row);have hgk:∀i,dotQ (rs i) ss=g i:=fun i=>by rw[hg]
 simp only[hgk]at HD;rw[<-hg];clear hM hX hm hl0 hr hs hb0 hg hgk
 go_enter Tryz.func38,Tryz.ntmps38
 go_wp2_with (at_make;refine wpList_makeq _ rfl _ _ rfl 0 N rfl rfl (by omega) (by omega) (Nat.zero_le _) (by have:=HL.out;omega) ?_)
 have hacc:Hid (TotV (w.alloc (.cells (flat (List.replicate N E4.z)).toArray 32)) (.slice (some ⟨w.heap.size,0,none⟩) 0 N) 0 g w.heap.size):=TotV.new (Nat.le_refl _) (by have:=HL.out;omega);have hbw:Below w.heap.size w (w.alloc (.cells (flat (List.replicate N E4.z)).toArray 32)):=bRR;generalize w.alloc (.cells (flat (List.replicate N E4.z)).toArray 32)=w1 at hacc hbw ⊢
 go_loopw [5,13] (fun v i wr=>∃(k:Nat) (A1:Option Addr) (c1:Nat),v=.slice A1 k c1/\i=.int .i64 k/\k<=N/\Hid (TotV wr (.slice A1 k c1) k g w.heap.size)/\Below w.heap.size w wr) (fun _ i _=>N-(intOf i).toNat)
 case atStart=>exact ⟨0,_,_,rfl,rfl,Nat.zero_le _,hacc,hbw⟩
 case round =>
  obtain ⟨k,A1,c1,rfl,rfl,hk,hT,hb⟩:=hrel;clear hacc hbw
  by_cases hlt:k<N
  .have hk1:(0:Int)<=(k:Int):=by omega
   have hk2:(k:Int)<(N:Int):=by omega
   have hk3:(k:Int)+1<=9223372036854775807:=by have:=HL.out;omega
   obtain ⟨b,o,A,c,es,rfl,hb1,cc,hv⟩:=HR.out wr hb k hlt;have HC:=Hd (HD.out wr hb k hlt hv);clear hb1 hv;have HB:=Hd hb;have HLT:=Hd hlt;clear hb hlt hk
   go_wp2_with fail
   refine (HC.out).mono ?_;rintro e V ⟨x1,x2,x3,x4,rfl,q,bb⟩;have bb2:Below V.heap.size V (V.alloc (.cells #[x1,x2,x3,x4] 32)):=bRR;have c5:=(Hp.new V #[x1,x2,x3,x4] 32).four;have hB1:=HB.out.trans (bb.mono HB.out.size);have hB2:=Bxb hB1 bb2;obtain ⟨v',X,hrun,hT2,hbel⟩:=qapp ((hT.out.to bb).to bb2) hB2.size (by have:=HL.out;have:=HLT.out;omega) (e:=⟨x1,x2,x3,x4⟩) q.fq (q.to bb2) (a:=⟨V.heap.size,0,none⟩) (c:=1) c5.c0 c5.c1 c5.c2 c5.c3 38;obtain ⟨A3,c3,rfl⟩:=hT2.sl;have HRUN:=Hd hrun;have HE:Hid (TotV X (.slice A3 (k+1) c3) (k+1) g w.heap.size/\Below w.heap.size w X):=⟨hT2,hB2.trans hbel⟩
   clear bb2 c5 hbel hrun bb q hT2 hB1 hB2 cc HC
   go_wp2_with (at_builtin;refine wpList_append_run rfl (.tmp 17) (.tmp 21) 38 rfl (by rfl) (by rfl) HRUN.out ?_;clear HRUN)
   go_roundw
   case rel=>exact ⟨k+1,A3,c3,rfl,by simp,HLT.out,HE.out.1,HE.out.2⟩
   case measure=>have:=HLT.out;simp[intOf];omega
  .obtain rfl:k=N:=by omega
   have HT:=hT;have HB:=Hd hb;clear hT hb hlt hk;go_wp2
   go_ret
   exact HT.out.vtab (by have:=HL.out;omega) HB.out
theorem Hp.cellAt {W:World}{g:Nat}{cs:Array Value}{t:TypeId}(h:Hp W g (.cells cs t (0,0)))(j:Nat):W.cell? ⟨g,j,none⟩=cs[j]?:=by simp[World.cell?,show W.heap[g]?=_ from h]
theorem sm2_of {z:Int}(h:z.natAbs<18446744073709551616):Sm 2 z:=h
theorem rats_qm {ns:List Int}(h:ns.all (fun n=>decide (n.natAbs<18446744073709551616))=true)(i:Nat):Qm 2 ((ratsOf ns).getD i 0):=by
 by_cases hi:i<ns.length
 .rw[ratsOf_getD hi,getD_lt hi];exact Qm.int (sm2_of (by simpa using (List.all_eq_true.1 h) _ (List.getElem_mem hi))) (by decide)
 .rw[getD_ge (by rw[ratsOf_length];omega)];exact Qm.zero (by decide)
theorem fill_m {w:World}{N F:Nat}{caps:Array Value}{rs:Nat->List Rat}(hl:N+1<=1000000)(ec:∀args V,(callFunc F args).run Tryz.prog V=.ok (.enter F args) V)
  (hC:∀(V:World),Below w.heap.size w V->∀i:Nat,i<N->Calls Tryz.prog F (#[.int .i64 (i:Int)]++caps) V (VR V (rs i))) :
  Calls Tryz.prog 63 #[.agg #[.int .i64 (N:Int),.func (.func F) #[] caps]] w (MR w N rs):=by
 have HL:=Hd hl;have EC:=Hd ec;have HC:=Hd hC;obtain ⟨W0,hW0⟩:∃W0,W0=w.alloc (.cells #[.int .i64 (N:Int),.func (.func F) #[] caps] 74):=⟨_,rfl⟩
 have hbw:Below w.heap.size w W0:=by rw[hW0];exact bRR
 have hp:Hp W0 w.heap.size (.cells #[.int .i64 (N:Int),.func (.func F) #[] caps] 74 (0,0)):=by rw[hW0];exact Hp.new _ _ _
 have q0:W0.cell? ⟨w.heap.size,0,none⟩=some (.int .i64 (N:Int)):=(hp.cellAt 0).trans rfl;have q1:W0.cell? ⟨w.heap.size,1,none⟩=some (.func (.func F) #[] caps):=(hp.cellAt 1).trans rfl;have hlt0:=hp.lt;have HP:Hid (∀V,Below W0.heap.size W0 V->V.cell? ⟨w.heap.size,0,none⟩=some (.int .i64 (N:Int))/\V.cell? ⟨w.heap.size,1,none⟩=some (.func (.func F) #[] caps)):=fun V hV=>⟨(hV.cell (p:=⟨_,_,none⟩) hlt0).trans q0,(hV.cell (p:=⟨_,_,none⟩) hlt0).trans q1⟩
 have HW:=Hd hbw;have HW0:=Hd hW0;rw[hW0]at q0;have q2:=(HP.out (W0.alloc (.cells (zrow N) 38)) bRR).1;clear hl ec hC hW0 hp hbw q1 hlt0
 go_enter Tryz.func63,Tryz.ntmps63
 go_wp2_with (at_make;rw[<-HW0.out];refine wpList_makes W0 rfl _ _ rfl 0 N rfl rfl (by omega) (by omega) (Nat.zero_le _) (by have:=HL.out;omega) ?_)
 have hacc:Hid (TotS (Vs rs) (W0.alloc (.cells (zrow N) 38)) (.slice (some ⟨W0.heap.size,0,none⟩) 0 N) 0 W0.heap.size):=TotS.new (Nat.le_refl _) (by have:=HL.out;omega);have hb1:Below W0.heap.size W0 (W0.alloc (.cells (zrow N) 38)):=bRR;generalize W0.alloc (.cells (zrow N) 38)=w1 at hacc hb1 q2 ⊢;clear HW0 q2 q0
 go_loopw [3,10] (fun v i wr=>∃(k:Nat) (A1:Option Addr) (c1:Nat),v=.slice A1 k c1/\i=.int .i64 k/\k<=N/\Hid (TotS (Vs rs) wr (.slice A1 k c1) k W0.heap.size)/\Below W0.heap.size W0 wr) (fun _ i _=>N-(intOf i).toNat)
 case atStart=>exact ⟨0,_,_,rfl,rfl,Nat.zero_le _,hacc,hb1⟩
 case round =>
  obtain ⟨k,A1,c1,rfl,rfl,hk,hT,hb⟩:=hrel;clear hacc hb1
  by_cases hlt:k<N
  .have hk1:(0:Int)<=(k:Int):=by omega
   have hk2:(k:Int)<(N:Int):=by omega
   have hk3:(k:Int)+1<=9223372036854775807:=by have:=HL.out;omega
   obtain ⟨q0,q1⟩:=HP.out wr hb;have HCK:=Hd (HC.out wr (HW.out.trans (hb.mono HW.out.size)) k hlt);have HB:=Hd hb;have HLT:=Hd hlt;clear hb hlt hk
   go_wp2_with fail
   rw[EC.out];go_simp
   refine HCK.out.mono ?_;rintro e V ⟨A2,c2,fl2,rfl,hv,bb⟩;have bb2:Below V.heap.size V (V.alloc (.cells #[.slice A2 (rs k).length c2] 38)):=bRR;have c5:=(Hp.new V #[.slice A2 (rs k).length c2] 38).one;have hB1:=HB.out.trans (bb.mono HB.out.size);have hB2:=Bxb hB1 bb2;obtain ⟨v',X,hrun,hT2,hbel⟩:=sapp (Vs.kept rs) ((hT.out.mv (Vs.kept rs) bb).mv (Vs.kept rs) bb2) hB2.size (by have:=HL.out;have:=HLT.out;omega) ⟨_,_,_,rfl⟩ ⟨A2,c2,fl2,rfl,hv.to bb2⟩ (a:=⟨V.heap.size,0,none⟩) (c:=1) c5 22;obtain ⟨A3,c3,rfl⟩:=hT2.sl;have HRUN:=Hd hrun;have HE:Hid (TotS (Vs rs) X (.slice A3 (k+1) c3) (k+1) W0.heap.size/\Below W0.heap.size W0 X):=⟨hT2,hB2.trans hbel⟩
   clear bb2 c5 hbel hrun bb hv hT2 hB1 hB2 q0 q1 HCK
   go_wp2_with (at_builtin;refine wpList_append_run rfl (.tmp 13) (.tmp 18) 22 rfl (by rfl) (by rfl) HRUN.out ?_;clear HRUN)
   go_roundw
   case rel=>exact ⟨k+1,A3,c3,rfl,by simp,HLT.out,HE.out.1,HE.out.2⟩
   case measure=>have:=HLT.out;simp[intOf];omega
  .obtain rfl:k=N:=by omega
   have HB:=Hd hb;clear hb hlt hk;go_wp2
   go_ret
   exact ⟨A1,c1,rfl,hT.out.mc,HW.out.trans (HB.out.mono HW.out.size)⟩
end Go.Proofs.YtglhdielkkhefaaGreat
