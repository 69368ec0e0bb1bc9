/- Parts: 7. -/
import Derived.Test.YtiifpobhmnplaaaGreatVs5
import Derived.Test.YtiifpobhmnplaaaGreatVs15
import Derived.Test.YtiifpobhmnplaaaGreatVs17
import Derived.Test.YtiifpobhmnplaaaGreatVs20
import Derived.Test.YtiifpobhmnplaaaGreatVs21
import Derived.Test.YtiifpobhmnplaaaGreatVs22
import Derived.Below
import Derived.ChangeOld
import Derived.Lib.SmallJoins
import Derived.OpenShut
import Derived.ProofKit
import Derived.ShutString
import Derived.WalkKit
set_option linter.unusedVariables false
set_option linter.unusedSimpArgs false
set_option maxRecDepth 100000
set_option maxHeartbeats 40000000

namespace Go.Proofs.YtiifpobhmnplaaaGreat
open Go.RowKit Go.Shelf
theorem rint_q (n:Int)(n1:-9223372036854775808<=n)(n2:n<=9223372036854775807)(w:World) :
  Calls Tryz.prog 41 #[.int .i64 n] w (QR w (n:Rat)):=by
 have HN:=Hd fun W=>rfrom_z n n1 n2 W
 clear n1 n2
 obtain ⟨W0,hW0⟩:∃W0,W0=w.alloc (.cells #[.bool false,.slice none 0 0,.bool false,.slice none 0 0] 26):=⟨_,rfl⟩
 have hbw:Below w.heap.size w W0:=by rw[hW0];exact ((Below.refl _ _).alloc (Nat.le_refl _) _)
 have tR:Four W0 (w.heap.size) (.bool false) (.slice none 0 0) (.bool false) (.slice none 0 0):=by
  have h:=Four.new w (.bool false) (.slice none 0 0) (.bool false) (.slice none 0 0) 26
  rw[hW0];exact h
 have HW0:=Hd hW0
 have HB:=Hd hbw
 clear hW0 hbw
 go_enter Tryz.func41,Tryz.ntmps41
 go_wp2_with fail
 rw[<-HW0.out]
 clear HW0
 go_wp2_with fail
 refine (HN.out _).mono ?_
 rintro e V1 ⟨x1,y1,rfl,z1,bb⟩
 replace tR:=tR.to bb
 replace HB:=Hxb HB bb
 clear bb
 have rq:Qc _ x1 y1 (.bool false) (.slice none 0 0) (n:Rat):=⟨z1,zc_nil _⟩
 have RZ:=Hd rq
 obtain ⟨V99,eV,u,kp⟩:=pack4 tR Fq.nil x1 y1 (.bool false) (.slice none 0 0)
 obtain ⟨n1,A1,j1,m1,rfl,rfl⟩:=rq.fq.1
 obtain ⟨v0,v1,v2,v3,v4,v5,v6,v7,_⟩:=tR
 have EV:=Hd eV
 have KP:=Hd kp
 have U:=Hd u
 clear eV kp u rq
 go_wp2
 rw[EV.out]
 refine bodyPost_ret (v:=.agg #[.bool n1,.slice A1 j1 m1,.bool false,.slice none 0 0]) (by simp[results,Tryz.f41,go_sem,U.out.c0,U.out.c1,U.out.c2,U.out.c3]) rfl ?_
 exact ⟨_,_,_,_,rfl,RZ.out.k4 KP.out,KP.out.bel _ _ HB.out (by omega)⟩
theorem rof_q (n d:Int)(n1:-9223372036854775808<=n)(n2:n<=9223372036854775807)(d1:-9223372036854775808<=d)(d2:d<=9223372036854775807)(w:World) :
  Calls Tryz.prog 48 #[.int .i64 n,.int .i64 d] w (QR w (rv n d)):=by
 have HN:=Hd fun W=>rfrom_z n n1 n2 W
 have HD:=Hd fun W=>rfrom_z d d1 d2 W
 have s2:∀v:Int,-9223372036854775808<=v->v<=9223372036854775807->Sm 2 v:=fun v h1 h2=>by
  unfold Sm
  rw[show b32 ^ 2=18446744073709551616 from by decide]
  omega
 have mn:Hid (Sm 2 n):=s2 n n1 n2
 have md:Hid (Sm 2 d):=s2 d d1 d2
 clear n1 n2 d1 d2 s2
 obtain ⟨W0,hW0⟩:∃W0,W0=w.alloc (.cells #[.bool false,.slice none 0 0,.bool false,.slice none 0 0] 26):=⟨_,rfl⟩
 have hbw:Below w.heap.size w W0:=by rw[hW0];exact ((Below.refl _ _).alloc (Nat.le_refl _) _)
 have tR:Four W0 (w.heap.size) (.bool false) (.slice none 0 0) (.bool false) (.slice none 0 0):=by
  have h:=Four.new w (.bool false) (.slice none 0 0) (.bool false) (.slice none 0 0) 26
  rw[hW0];exact h
 have HW0:=Hd hW0
 have HB:=Hd hbw
 clear hW0 hbw
 go_enter Tryz.func48,Tryz.ntmps48
 go_wp2_with fail
 rw[<-HW0.out]
 clear HW0
 go_wp2_with fail
 refine (HN.out _).mono ?_
 rintro e V1 ⟨x1,y1,rfl,z1,bb⟩
 replace tR:=tR.to bb
 replace HB:=Hxb HB bb
 clear bb
 go_wp2_with fail
 refine (HD.out _).mono ?_
 rintro e V2 ⟨x2,y2,rfl,z2,bb⟩
 replace tR:=tR.to bb
 replace z1:=z1.to bb
 replace HB:=Hxb HB bb
 clear bb
 go_wp2_with fail
 refine (rleast_q (k:=2) ⟨_,_,z1.zl mn.out (by decide),z2.zl md.out (by decide),rfl,mn.out,md.out⟩ (by decide) (by decide)).mono ?_
 rintro e V3 ⟨x3,y3,u3,v3,rfl,q3,bb⟩
 replace tR:=tR.to bb
 replace HB:=Hxb HB bb
 clear bb
 have RZ:=Hd q3
 obtain ⟨V99,eV,u,kp⟩:=pack4 tR Fq.nil x3 y3 u3 v3
 obtain ⟨⟨n1,A1,j1,m1,rfl,rfl⟩,⟨n2,A2,j2,m2,rfl,rfl⟩⟩:=q3.fq
 obtain ⟨v0,v1,v2,v3,v4,v5,v6,v7,_⟩:=tR
 have EV:=Hd eV
 have KP:=Hd kp
 have U:=Hd u
 clear eV kp u q3
 go_wp2
 rw[EV.out]
 refine bodyPost_ret (v:=.agg #[.bool n1,.slice A1 j1 m1,.bool n2,.slice A2 j2 m2]) (by simp[results,Tryz.f48,go_sem,U.out.c0,U.out.c1,U.out.c2,U.out.c3]) rfl ?_
 exact ⟨_,_,_,_,rfl,RZ.out.k4 KP.out,KP.out.bel _ _ HB.out (by omega)⟩
theorem Zc.same {w:World}{x y x' y':Value}{a b:Int}(ha:Zc w x y a)(hb:Zc w x' y' b){v:Bool}(hv:decide (a=b)=v):Calls Tryz.prog 59 #[.agg #[x,y],.agg #[x',y']] w fun e w'=>e=.returned (.bool v)/\Below w.heap.size w w':=by
 subst hv;exact same_c ha hb
theorem den_cell {r s:Rat}(h:r≠s)(hn:r.num=s.num):(if r.den=1 then 0 else (r.den:Int))≠(if s.den=1 then 0 else (s.den:Int)):=by
 intro h2
 apply h
 refine Rat.ext hn ?_
 have h3:=r.den_pos
 have h4:=s.den_pos
 split at h2<;>split at h2<;>omega
theorem is_t {w:World}{a1 a2 a3 a4 b1 b2 b3 b4:Value}{r s:Rat}(hA:Qc w a1 a2 a3 a4 r)(hB:Qc w b1 b2 b3 b4 s)(h:r=s) :
  Calls Tryz.prog 24 #[.agg #[a1,a2,a3,a4],.agg #[b1,b2,b3,b4]] w (fun e w'=>e=.returned (.bool true)/\Below w.heap.size w w'):=by
 have e1:Hid (decide (r.num=s.num)=true):=decide_eq_true (by rw[h])
 have e2:Hid (decide ((if r.den=1 then 0 else (r.den:Int))=(if s.den=1 then 0 else (s.den:Int)))=true):=decide_eq_true (by rw[h])
 clear h
 obtain ⟨W0,hW0⟩:∃W0,W0=(w.alloc (.cells #[a1,a2,a3,a4] 26)).alloc (.cells #[b1,b2,b3,b4] 26):=⟨_,rfl⟩
 have hbw:Below w.heap.size w W0:=by rw[hW0];exact (((Below.refl _ _).alloc (Nat.le_refl _) _).alloc (by simp) _)
 have tA:Four W0 (w.heap.size) a1 a2 a3 a4:=by
  have h:=Four.new w a1 a2 a3 a4 26
  rw[hW0];exact (h.alloc _)
 have tB:Four W0 (w.heap.size+1) b1 b2 b3 b4:=by
  have h:=Four.new (w.alloc (.cells #[a1,a2,a3,a4] 26)) b1 b2 b3 b4 26
  rw[World.size_alloc]at h
  rw[hW0];exact h
 replace hA:=hA.to hbw
 replace hB:=hB.to hbw
 have HW0:=Hd hW0
 have HB:=Hd hbw
 clear hW0 hbw
 go_enter Tryz.func24,Tryz.ntmps24
 go_wp2_with fail
 rw[<-HW0.out]
 clear HW0
 have kktA0:=tA.c0
 have kktA1:=tA.c1
 have kktA2:=tA.c2
 have kktA3:=tA.c3
 have kktB0:=tB.c0
 have kktB1:=tB.c1
 have kktB2:=tB.c2
 have kktB3:=tB.c3
 go_wp2_with fail
 refine (hA.1.same hB.1 e1.out).mono ?_
 rintro e V1 ⟨rfl,bb⟩
 clear kktA0 kktA1 kktA2 kktA3 kktB0 kktB1 kktB2 kktB3
 replace tA:=tA.to bb
 replace tB:=tB.to bb
 replace hA:=hA.to bb
 replace hB:=hB.to bb
 replace HB:=Hxb HB bb
 clear bb
 have kktA0:=tA.c0
 have kktA1:=tA.c1
 have kktA2:=tA.c2
 have kktA3:=tA.c3
 have kktB0:=tB.c0
 have kktB1:=tB.c1
 have kktB2:=tB.c2
 have kktB3:=tB.c3
 go_wp2_with fail
 refine (hA.2.same hB.2 e2.out).mono ?_
 rintro e V2 ⟨rfl,bb⟩
 clear kktA0 kktA1 kktA2 kktA3 kktB0 kktB1 kktB2 kktB3
 replace tA:=tA.to bb
 replace tB:=tB.to bb
 replace HB:=Hxb HB bb
 clear bb
 clear tA tB
 go_wp2
 go_ret
 exact ⟨rfl,HB.out⟩
theorem is_n {w:World}{a1 a2 a3 a4 b1 b2 b3 b4:Value}{r s:Rat}(hA:Qc w a1 a2 a3 a4 r)(hB:Qc w b1 b2 b3 b4 s)(h:r.num≠s.num) :
  Calls Tryz.prog 24 #[.agg #[a1,a2,a3,a4],.agg #[b1,b2,b3,b4]] w (fun e w'=>e=.returned (.bool false)/\Below w.heap.size w w'):=by
 have e1:Hid (decide (r.num=s.num)=false):=decide_eq_false h
 clear h
 obtain ⟨W0,hW0⟩:∃W0,W0=(w.alloc (.cells #[a1,a2,a3,a4] 26)).alloc (.cells #[b1,b2,b3,b4] 26):=⟨_,rfl⟩
 have hbw:Below w.heap.size w W0:=by rw[hW0];exact (((Below.refl _ _).alloc (Nat.le_refl _) _).alloc (by simp) _)
 have tA:Four W0 (w.heap.size) a1 a2 a3 a4:=by
  have h:=Four.new w a1 a2 a3 a4 26
  rw[hW0];exact (h.alloc _)
 have tB:Four W0 (w.heap.size+1) b1 b2 b3 b4:=by
  have h:=Four.new (w.alloc (.cells #[a1,a2,a3,a4] 26)) b1 b2 b3 b4 26
  rw[World.size_alloc]at h
  rw[hW0];exact h
 replace hA:=hA.to hbw
 replace hB:=hB.to hbw
 have HW0:=Hd hW0
 have HB:=Hd hbw
 clear hW0 hbw
 go_enter Tryz.func24,Tryz.ntmps24
 go_wp2_with fail
 rw[<-HW0.out]
 clear HW0
 have kktA0:=tA.c0
 have kktA1:=tA.c1
 have kktA2:=tA.c2
 have kktA3:=tA.c3
 have kktB0:=tB.c0
 have kktB1:=tB.c1
 have kktB2:=tB.c2
 have kktB3:=tB.c3
 go_wp2_with fail
 refine (hA.1.same hB.1 e1.out).mono ?_
 rintro e V1 ⟨rfl,bb⟩
 clear kktA0 kktA1 kktA2 kktA3 kktB0 kktB1 kktB2 kktB3
 replace tA:=tA.to bb
 replace tB:=tB.to bb
 replace hA:=hA.to bb
 replace hB:=hB.to bb
 replace HB:=Hxb HB bb
 clear bb
 clear tA tB
 go_wp2
 go_ret
 exact ⟨rfl,HB.out⟩
theorem is_d {w:World}{a1 a2 a3 a4 b1 b2 b3 b4:Value}{r s:Rat}(hA:Qc w a1 a2 a3 a4 r)(hB:Qc w b1 b2 b3 b4 s)(h:r≠s)(hn:r.num=s.num) :
  Calls Tryz.prog 24 #[.agg #[a1,a2,a3,a4],.agg #[b1,b2,b3,b4]] w (fun e w'=>e=.returned (.bool false)/\Below w.heap.size w w'):=by
 have e1:Hid (decide (r.num=s.num)=true):=decide_eq_true hn
 have e2:Hid (decide ((if r.den=1 then 0 else (r.den:Int))=(if s.den=1 then 0 else (s.den:Int)))=false):=decide_eq_false (den_cell h hn)
 clear h hn
 obtain ⟨W0,hW0⟩:∃W0,W0=(w.alloc (.cells #[a1,a2,a3,a4] 26)).alloc (.cells #[b1,b2,b3,b4] 26):=⟨_,rfl⟩
 have hbw:Below w.heap.size w W0:=by rw[hW0];exact (((Below.refl _ _).alloc (Nat.le_refl _) _).alloc (by simp) _)
 have tA:Four W0 (w.heap.size) a1 a2 a3 a4:=by
  have h:=Four.new w a1 a2 a3 a4 26
  rw[hW0];exact (h.alloc _)
 have tB:Four W0 (w.heap.size+1) b1 b2 b3 b4:=by
  have h:=Four.new (w.alloc (.cells #[a1,a2,a3,a4] 26)) b1 b2 b3 b4 26
  rw[World.size_alloc]at h
  rw[hW0];exact h
 replace hA:=hA.to hbw
 replace hB:=hB.to hbw
 have HW0:=Hd hW0
 have HB:=Hd hbw
 clear hW0 hbw
 go_enter Tryz.func24,Tryz.ntmps24
 go_wp2_with fail
 rw[<-HW0.out]
 clear HW0
 have kktA0:=tA.c0
 have kktA1:=tA.c1
 have kktA2:=tA.c2
 have kktA3:=tA.c3
 have kktB0:=tB.c0
 have kktB1:=tB.c1
 have kktB2:=tB.c2
 have kktB3:=tB.c3
 go_wp2_with fail
 refine (hA.1.same hB.1 e1.out).mono ?_
 rintro e V1 ⟨rfl,bb⟩
 clear kktA0 kktA1 kktA2 kktA3 kktB0 kktB1 kktB2 kktB3
 replace tA:=tA.to bb
 replace tB:=tB.to bb
 replace hA:=hA.to bb
 replace hB:=hB.to bb
 replace HB:=Hxb HB bb
 clear bb
 have kktA0:=tA.c0
 have kktA1:=tA.c1
 have kktA2:=tA.c2
 have kktA3:=tA.c3
 have kktB0:=tB.c0
 have kktB1:=tB.c1
 have kktB2:=tB.c2
 have kktB3:=tB.c3
 go_wp2_with fail
 refine (hA.2.same hB.2 e2.out).mono ?_
 rintro e V2 ⟨rfl,bb⟩
 clear kktA0 kktA1 kktA2 kktA3 kktB0 kktB1 kktB2 kktB3
 replace tA:=tA.to bb
 replace tB:=tB.to bb
 replace HB:=Hxb HB bb
 clear bb
 clear tA tB
 go_wp2
 go_ret
 exact ⟨rfl,HB.out⟩
theorem is_q {w:World}{a1 a2 a3 a4 b1 b2 b3 b4:Value}{r s:Rat}(hA:Qc w a1 a2 a3 a4 r)(hB:Qc w b1 b2 b3 b4 s){v:Bool}(hv:decide (r=s)=v):Calls Tryz.prog 24 #[.agg #[a1,a2,a3,a4],.agg #[b1,b2,b3,b4]] w fun e w'=>e=.returned (.bool v)/\Below w.heap.size w w':=by
 subst hv
 by_cases h:r=s
 .rw[decide_eq_true h];exact is_t hA hB h
 .rw[decide_eq_false h]
  by_cases hn:r.num=s.num
  .exact is_d hA hB h hn
  .exact is_n hA hB hn
theorem is3_len {w:World}{A A':Option Addr}{l l' c c':Nat}(hl:l≠l') :
  Calls Tryz.prog 15 #[.slice A l c,.slice A' l' c'] w fun e w'=>e=.returned (.bool false)/\Below w.heap.size w w':=by
 have h1:((l:Int) != (l':Int))=true:=by rw[bne_iff_ne];omega
 clear hl
 go_enter Tryz.func15,Tryz.ntmps15
 go_wp2
 go_ret
 exact ⟨rfl,Below.refl _ _⟩
theorem is3_f {b:Nat->Bool}{w:World}{A A':Option Addr}{c c' L:Nat}{es fs:List E4}(hx:Rq w w.heap.size A es)(hy:Rq w w.heap.size A' fs)(h1:es.length=L)(h2:fs.length=L)(hL:L<=4398046511104)
  (hF:∀(V:World),Below w.heap.size w V->∀i,i<L->Calls Tryz.prog 24 #[(es.getD i E4.z).v,(fs.getD i E4.z).v] V fun e w'=>e=.returned (.bool (b i))/\Below V.heap.size V w') {r:Bool} (hr:(List.range L).all b=r) :
  Calls Tryz.prog 15 #[.slice A L c,.slice A' L c'] w fun e w'=>e=.returned (.bool r)/\Below w.heap.size w w':=by
 have RX:=Hd hx
 have RY:=Hd hy
 have H1:=Hd h1
 have H2:=Hd h2
 have HF:=Hd hF
 have HR:=Hd hr
 have hne:((L:Int) != (L:Int))=false:=by simp
 clear hx hy h1 h2 hF hr
 go_enter Tryz.func15,Tryz.ntmps15
 go_wp2
 go_loopw [5] (fun i wr=>∃k:Nat,i=.int .i64 k/\k<=L/\(∀j,j<k->b j=true)/\Below w.heap.size w wr) (fun i _=>L-(intOf i).toNat)
 case atStart=>exact ⟨0,rfl,Nat.zero_le _,(fun j hj=>by omega),Below.refl _ _⟩
 case round =>
  obtain ⟨k,rfl,hk,ht,hb⟩:=hrel
  have HT:=Hd ht
  have HB:=Hd hb
  clear ht hb
  by_cases hlt:k<L
  .have hki:(0:Int)<=(k:Int):=by omega
   have hki':(k:Int)<(L:Int):=by omega
   have hkx:k<es.length:=by have:=H1.out;omega
   have hky:k<fs.length:=by have:=H2.out;omega
   have HC:=Hd (fun (V:World) (hV:Below w.heap.size w V)=>HF.out V hV k hlt)
   obtain ⟨b1,o1,rfl,hb1,f0,f1,f2,f3⟩:=RX.out k hkx
   obtain ⟨b2,o2,rfl,hb2,g0,g1,g2,g3⟩:=RY.out k hky
   rw[getD_at' hkx,getD_at' hky]at HC
   have FX:Hid (∀w',Below w.heap.size w w'->w'.cell? ⟨b1,o1+k*4,none⟩=some es[k].a/\w'.cell? ⟨b1,o1+k*4+1,none⟩=some es[k].b/\w'.cell? ⟨b1,o1+k*4+2,none⟩=some es[k].c/\w'.cell? ⟨b1,o1+k*4+3,none⟩=some es[k].d):=fun w' hS =>
    ⟨(hS.cell (p:=⟨b1,_,none⟩) hb1).trans f0,(hS.cell (p:=⟨b1,_,none⟩) hb1).trans f1,(hS.cell (p:=⟨b1,_,none⟩) hb1).trans f2,(hS.cell (p:=⟨b1,_,none⟩) hb1).trans f3⟩
   have FY:Hid (∀w',Below w.heap.size w w'->w'.cell? ⟨b2,o2+k*4,none⟩=some fs[k].a/\w'.cell? ⟨b2,o2+k*4+1,none⟩=some fs[k].b/\w'.cell? ⟨b2,o2+k*4+2,none⟩=some fs[k].c/\w'.cell? ⟨b2,o2+k*4+3,none⟩=some fs[k].d):=fun w' hS =>
    ⟨(hS.cell (p:=⟨b2,_,none⟩) hb2).trans g0,(hS.cell (p:=⟨b2,_,none⟩) hb2).trans g1,(hS.cell (p:=⟨b2,_,none⟩) hb2).trans g2,(hS.cell (p:=⟨b2,_,none⟩) hb2).trans g3⟩
   generalize es[k]=X at FX HC
   generalize fs[k]=Y at FY HC
   obtain ⟨x1,x2,x3,x4⟩:=X
   obtain ⟨y1,y2,y3,y4⟩:=Y
   simp only[E4.v]at HC
   dsimp only at FX FY
   have HLT:=Hd hlt
   clear f0 f1 f2 f3 g0 g1 g2 g3 hb1 hb2 hkx hky HF RX RY hlt
   obtain ⟨v,hv⟩:∃v,b k=v:=⟨_,rfl⟩
   rw[hv]at HC
   have HV:=Hd hv
   clear hv
   cases v with
   | true =>
    go_wp2_with fail
    refine wp_region_plan (S:=fun w'=>Below w.heap.size w w') [(0,true),(1,true),(2,true),(3,true),(4,true),(5,true),(6,true),(7,true),(8,false),(9,true)] (by kernel_rfl) (by kernel_rfl) HB.out.drew ?_
    have hb:=HB.out.drew
    iterate 8 (refine plan_take (v:=?_) rfl (by rfl) ?_ ?_;rotate_left;(focus (intro w' hS;obtain ⟨f0,f1,f2,f3⟩:=FX.out w' hS;obtain ⟨g0,g1,g2,g3⟩:=FY.out w' hS;go_simp;try with_reducible rfl)))
    refine plan_call rfl (by rfl) (fun K hK=>?_)
    go_simp
    refine (HC.out _ hb).mono ?_
    rintro e V ⟨rfl,bb⟩
    replace hb:=Bxb hb bb
    refine hK.out _ _ hb ?_
    clear hK K bb
    refine plan_take (v:=?_) rfl (by rfl) ?_ ?_;rotate_left;(focus (intro w' hS;obtain ⟨f0,f1,f2,f3⟩:=FX.out w' hS;obtain ⟨g0,g1,g2,g3⟩:=FY.out w' hS;go_simp;try with_reducible rfl))
    refine plan_done ?_
    have HE:=Hd hb
    clear hb HB
    go_wp2
    go_roundw
    case rel =>
     refine ⟨k+1,by simp,HLT.out,fun j hj=>?_,HE.out⟩
     by_cases hjk:j=k
     .subst hjk;exact HV.out
     .exact HT.out j (by omega)
    case measure=>have:=HLT.out;simp[intOf];omega
   | false =>
    go_wp2_with fail
    refine wp_region_plan (S:=fun w'=>Below w.heap.size w w') [(0,true),(1,true),(2,true),(3,true),(4,true),(5,true),(6,true),(7,true),(8,false),(9,true)] (by kernel_rfl) (by kernel_rfl) HB.out.drew ?_
    have hb:=HB.out.drew
    iterate 8 (refine plan_take (v:=?_) rfl (by rfl) ?_ ?_;rotate_left;(focus (intro w' hS;obtain ⟨f0,f1,f2,f3⟩:=FX.out w' hS;obtain ⟨g0,g1,g2,g3⟩:=FY.out w' hS;go_simp;try with_reducible rfl)))
    refine plan_call rfl (by rfl) (fun K hK=>?_)
    go_simp
    refine (HC.out _ hb).mono ?_
    rintro e V ⟨rfl,bb⟩
    replace hb:=Bxb hb bb
    refine hK.out _ _ hb ?_
    clear hK K bb
    refine plan_take (v:=?_) rfl (by rfl) ?_ ?_;rotate_left;(focus (intro w' hS;obtain ⟨f0,f1,f2,f3⟩:=FX.out w' hS;obtain ⟨g0,g1,g2,g3⟩:=FY.out w' hS;go_simp;try with_reducible rfl))
    refine plan_done ?_
    have HE:=Hd hb
    clear hb HB
    go_wp2
    go_ret
    refine ⟨?_,HE.out⟩
    rw[<-HR.out,show (List.range L).all b=false from by
     rw[List.all_eq_false]
     exact ⟨k,by simpa using HLT.out,by rw[HV.out];decide⟩]
    rfl
  .obtain rfl:k=L:=by omega
   go_wp2
   go_ret
   refine ⟨?_,HB.out⟩
   rw[<-HR.out,show (List.range k).all b=true from by
    rw[List.all_eq_true]
    intro x hx
    exact HT.out x (by simpa using hx)]
   rfl
theorem all_same {rs ss:List Rat}{L:Nat}(h1:rs.length=L)(h2:ss.length=L):(List.range L).all (fun i=>decide (rs.getD i 0=ss.getD i 0))=decide (rs=ss):=by
 rw[Bool.eq_iff_iff,List.all_eq_true,decide_eq_true_eq]
 constructor
 .intro h
  refine List.ext_getElem (by omega) fun i hi hj=>?_
  have:=h i (by simp;omega)
  rw[decide_eq_true_eq,getD_lt hi,getD_lt hj]at this
  exact this
 .rintro rfl x _
  simp
theorem vis_v {w:World}{A A':Option Addr}{c c':Nat}{es fs:List E4}{rs ss:List Rat}(hA:Vc w A c es rs)(hB:Vc w A' c' fs ss)(hL:rs.length<=4398046511104){v:Bool}(hv:decide (rs=ss)=v) :
  Calls Tryz.prog 15 #[.slice A rs.length c,.slice A' ss.length c'] w fun e w'=>e=.returned (.bool v)/\Below w.heap.size w w':=by
 by_cases h:rs.length=ss.length
 .rw[<-h]
  exact is3_f (b:=fun i=>decide (rs.getD i 0=ss.getD i 0)) hA.row hB.row hA.len (by rw[hB.len,h]) hL (fun V hV i _=>is_q ((hA.el i).to hV) ((hB.el i).to hV) rfl) (by rw[all_same rfl h.symm];exact hv)
 .rw[<-hv,decide_eq_false (fun e=>h (by rw[e]))]
  exact is3_len h
theorem op_storeq {W:World}{d:Option Tmp}{ty:TypeId}{pos:String}{after:Array Edge}{guard:Option (Nat×Bool)}{a:Act}{K:Act->World->Prop}{Q:Exit->Act->World->Prop}{g k:Nat}{fl:List E4}{e:E4}{p v:Operand}
  (hp:a.eval p=.pointer (some ⟨g,k*4,none⟩)) (hv:a.eval v=e.v) (h:Row W g fl) (hk:k<fl.length) (he:e.fq) (hK:K (a.put d undef) (W.setRow g (flat (fl.set k e)).toArray)) :
  Oper.wp Tryz.prog ⟨d,.store 26 p v,ty,pos,after,guard⟩ a W K Q:=by
 have hrun:=run_storeq h hk he
 unfold Oper.wp
 simp[execOp,hp,hv,hrun,Result.andThen]
 exact hK
theorem wpListIn_storeq {F:Fence}{n:Nat}{W:World}{ops:Array Oper}{rest:List Oper}{o:Oper}{a:Act}{Q:Exit->Act->World->Prop}{g k:Nat}{fl:List E4}{e:E4}
  (hg:o.guard=none) (p v:Operand) (hop:o.op=Op.store 26 p v) (hp:a.eval p=.pointer (some ⟨g,k*4,none⟩)) (hv:a.eval v=e.v) (h:Row W g fl) (hk:k<fl.length) (he:e.fq)
  (hK:wpListIn F n Tryz.prog ops Q rest (a.put o.dst undef) (W.setRow g (flat (fl.set k e)).toArray)):wpListIn F n Tryz.prog ops Q (o::rest) a W:=by
 refine wpListIn_plain hg fun K hK'=>?_
 have hrun:=run_storeq h hk he
 unfold Oper.wpIn
 refine ⟨?_,?_⟩
 .simp[Oper.about,hop]
 .rw[Oper.semAt_plain F _ _ (by rw[hop];intro c hc';cases hc')]
  simp[execOp,hop,hp,hv,hrun,Result.andThen]
  exact hK' _ _ hK
theorem Row.four {W:World}{g:Nat}{e:E4}(h:Row W g [e]):Four W g e.a e.b e.c e.d:=Four.of h.heap
theorem Row.one {W:World}{g:Nat}{a b c d:Value}(h:Hp W g (.cells #[a,b,c,d] 26 (0,0)))(hf:Fq a b c d):Row W g [⟨a,b,c,d⟩]:=⟨h,fun e he=>by rw[List.mem_singleton.1 he];exact hf⟩
def DotR (w:World)(tot:Nat)(T:Rat)(e:Ending)(w':World):Prop :=
 (∃v,e=.returned v)/\∃E,Row w' tot [E]/\Qc w' E.a E.b E.c E.d T/\w.heap.size<=w'.heap.size/\(∀j,j<w.heap.size->j≠tot->w'.heap[j]?=w.heap[j]?)/\∀B,B<=tot->Below B w w'
theorem DotR.of {w V:World}{tot:Nat}{T:Rat}{v:Value}{E:E4}(hE:Row w tot [E])(qE:Qc w E.a E.b E.c E.d T)(h:Below w.heap.size w V):DotR w tot T (.returned v) V :=
 ⟨⟨_,rfl⟩,E,hE.to h,qE.to h,h.size,fun j hj _=>h.block j hj,fun B hB=>h.mono (by have:=hE.lt;omega)⟩
theorem dot1_z {w:World}{a1 a2 a3 a4 b1 b2 b3 b4:Value}{r s t:Rat}{k l m tot:Nat}{E:E4}(hT:Row w tot [E])(qT:Qc w E.a E.b E.c E.d t)(hA:Qi w a1 a2 a3 a4 r k)(hB:Qi w b1 b2 b3 b4 s l)(h0:r=0∨s=0) :
  Calls Tryz.prog 60 #[.agg #[a1,a2,a3,a4],.agg #[b1,b2,b3,b4],.pointer (some ⟨tot,0,none⟩)] w (DotR w tot (t+r*s)):=by
 have hz:Hid (decide (r=0∨s=0)=true):=decide_eq_true h0
 have he:t+r*s=t:=by rcases h0 with h0|h0<;>rw[h0]<;>simp[Rat.zero_mul,Rat.mul_zero,Rat.add_zero]
 rw[he]
 have HT:=Hd hT
 have QT:=Hd qT
 clear h0 he hT qT
 obtain ⟨W0,hW0⟩:∃W0,W0=(w.alloc (.cells #[a1,a2,a3,a4] 26)).alloc (.cells #[b1,b2,b3,b4] 26):=⟨_,rfl⟩
 have hbw:Below w.heap.size w W0:=by rw[hW0];exact (((Below.refl _ _).alloc (Nat.le_refl _) _).alloc (by simp) _)
 have tA:Four W0 (w.heap.size) a1 a2 a3 a4:=by
  have h:=Four.new w a1 a2 a3 a4 26
  rw[hW0];exact (h.alloc _)
 have tB:Four W0 (w.heap.size+1) b1 b2 b3 b4:=by
  have h:=Four.new (w.alloc (.cells #[a1,a2,a3,a4] 26)) b1 b2 b3 b4 26
  rw[World.size_alloc]at h
  rw[hW0];exact h
 replace hA:=hA.to hbw
 replace hB:=hB.to hbw
 have HW0:=Hd hW0
 have HB:=Hd hbw
 clear hW0 hbw
 go_enter Tryz.func60,Tryz.ntmps60
 go_wp2_with fail
 rw[<-HW0.out]
 clear HW0
 have kktA0:=tA.c0
 have kktA1:=tA.c1
 have kktA2:=tA.c2
 have kktA3:=tA.c3
 have kktB0:=tB.c0
 have kktB1:=tB.c1
 have kktB2:=tB.c2
 have kktB3:=tB.c3
 go_wp2_with fail
 refine (zp_v hA hB hz.out).mono ?_
 rintro e V1 ⟨rfl,bb⟩
 clear kktA0 kktA1 kktA2 kktA3 kktB0 kktB1 kktB2 kktB3
 replace tA:=tA.to bb
 replace tB:=tB.to bb
 replace HB:=Hxb HB bb
 clear bb
 clear tA tB
 go_wp2
 refine bodyPost_ret (results_none rfl _ _ _) rfl ?_
 exact DotR.of HT.out QT.out HB.out
theorem dot1_n {w:World}{a1 a2 a3 a4 b1 b2 b3 b4:Value}{r s t:Rat}{k l m tot:Nat}{E:E4}(hT:Row w tot [E])(qT:Qc w E.a E.b E.c E.d t)(hA:Qi w a1 a2 a3 a4 r k)(hB:Qi w b1 b2 b3 b4 s l)(h0:¬(r=0∨s=0))(mT:Qm m t)(hk:0<k)(hl:0<l)(hkl:k+l+1<=10000)(hm:m+(k+l)+1<=10000) :
  Calls Tryz.prog 60 #[.agg #[a1,a2,a3,a4],.agg #[b1,b2,b3,b4],.pointer (some ⟨tot,0,none⟩)] w (DotR w tot (t+r*s)):=by
 have hz:Hid (decide (r=0∨s=0)=false):=decide_eq_false h0
 have mP:Qm (k+l) (r*s):=(hA.qm hk).mul (hB.qm hl)
 have hm0:=mT.pos
 have hM:Hid (∀(V:World),Qi V a1 a2 a3 a4 r k->Qi V b1 b2 b3 b4 s l->Calls Tryz.prog 42 #[.agg #[a1,a2,a3,a4],.agg #[b1,b2,b3,b4]] V (QR V (r*s))):=fun V h h'=>mul_q h h' hk hl hkl
 have hS:Hid (∀(V:World) (x1 x2 x3 x4 y1 y2 y3 y4:Value),Qc V x1 x2 x3 x4 t->Qc V y1 y2 y3 y4 (r*s)->Calls Tryz.prog 43 #[.agg #[x1,x2,x3,x4],.agg #[y1,y2,y3,y4]] V (QR V (t+r*s))):=fun V x1 x2 x3 x4 y1 y2 y3 y4 h h'=>add_q (h.qi mT (by omega)) (h'.qi mP (by omega)) (by omega) (by omega) hm
 have hlt:tot<w.heap.size:=hT.lt
 have hT0:=Hd hT
 clear h0 mP mT hm0
 obtain ⟨W0,hW0⟩:∃W0,W0=(w.alloc (.cells #[a1,a2,a3,a4] 26)).alloc (.cells #[b1,b2,b3,b4] 26):=⟨_,rfl⟩
 have hbw:Below w.heap.size w W0:=by rw[hW0];exact (((Below.refl _ _).alloc (Nat.le_refl _) _).alloc (by simp) _)
 have tA:Four W0 (w.heap.size) a1 a2 a3 a4:=by
  have h:=Four.new w a1 a2 a3 a4 26
  rw[hW0];exact (h.alloc _)
 have tB:Four W0 (w.heap.size+1) b1 b2 b3 b4:=by
  have h:=Four.new (w.alloc (.cells #[a1,a2,a3,a4] 26)) b1 b2 b3 b4 26
  rw[World.size_alloc]at h
  rw[hW0];exact h
 replace hA:=hA.to hbw
 replace hB:=hB.to hbw
 replace hT:=hT.to hbw
 replace qT:=qT.to hbw
 have HW0:=Hd hW0
 have HB:=Hd hbw
 clear hW0 hbw
 go_enter Tryz.func60,Tryz.ntmps60
 go_wp2_with fail
 rw[<-HW0.out]
 clear HW0
 have kktA0:=tA.c0
 have kktA1:=tA.c1
 have kktA2:=tA.c2
 have kktA3:=tA.c3
 have kktB0:=tB.c0
 have kktB1:=tB.c1
 have kktB2:=tB.c2
 have kktB3:=tB.c3
 go_wp2_with fail
 refine (zp_v hA hB hz.out).mono ?_
 rintro e V1 ⟨rfl,bb⟩
 clear kktA0 kktA1 kktA2 kktA3 kktB0 kktB1 kktB2 kktB3
 replace tA:=tA.to bb
 replace tB:=tB.to bb
 replace hA:=hA.to bb
 replace hB:=hB.to bb
 replace hT:=hT.to bb
 replace qT:=qT.to bb
 replace HB:=Hxb HB bb
 clear bb
 obtain ⟨e1,e2,e3,e4⟩:=E
 clear hz
 go_wp2_with fail
 have hbw:=HB.out
 obtain ⟨W1,hW1⟩:∃W1,W1=V1:=⟨_,rfl⟩
 rw[<-hW1]at hbw hA hB hT qT tA tB ⊢
 clear hW1 HB
 refine wp_region_planTo (S:=fun _=>True) [] #[false,false,false,false,false,false] 6 (by kernel_rfl) (by kernel_rfl) trivial ?_
 intro _
 refine dag (fun G up dn=>?_)
 have D01234:∀(V:World) (hV:Below W1.heap.size W1 V) (m1 m2 m3 m4 s1 s2 s3 s4:Value) (hQ:Qc V s1 s2 s3 s4 (t+r*s)),G 1 #[true,true,true,true,true,false] ⟨#[.agg #[a1,a2,a3,a4],.agg #[b1,b2,b3,b4],.pointer (some ⟨tot,0,none⟩),.pointer (some ⟨w.heap.size,0,none⟩),.pointer (some ⟨w.heap.size+1,0,none⟩),.agg #[a1,a2,a3,a4],.agg #[b1,b2,b3,b4],.bool false,.bool true,.agg #[e1,e2,e3,e4],.agg #[a1,a2,a3,a4],.agg #[b1,b2,b3,b4],.agg #[m1,m2,m3,m4],.agg #[s1,s2,s3,s4]],[]⟩ V:=by
  intro V hV m1 m2 m3 m4 s1 s2 s3 s4 hQ
  refine up ?_
  refine rdy1 (i:=5) (by kernel_rfl) rfl (by rfl) (fun K hK=>?_)
  have hr:=hT.to hV
  refine op_storeq (k:=0) (e:=⟨s1,s2,s3,s4⟩) (by rfl) (by rfl) hr (by simp) hQ.fq ?_
  refine hK.out _ _ trivial ?_
  clear hK K
  have FIN:Hid (∀v,DotR w tot (t+r*s) (.returned v) (V.setRow tot (flat ([⟨e1,e2,e3,e4⟩].set 0 ⟨s1,s2,s3,s4⟩)).toArray)):=fun v=>by
   have h1:=hr.app (n:=0) (e:=⟨s1,s2,s3,s4⟩) hQ.fq
   have kw:Kw V (V.setRow tot (flat ([⟨e1,e2,e3,e4⟩].set 0 ⟨s1,s2,s3,s4⟩)).toArray):=hr.kw
   have h2:=Bxb hbw hV
   exact ⟨⟨_,rfl⟩,⟨s1,s2,s3,s4⟩,h1,kw.qc hQ,by rw[setRow_size];exact h2.size,fun j hj hne=>(setRow_other _ _ _ _ hne).trans (h2.block j hj),fun B hB=>below_setRow (h2.mono (by omega)) hB _⟩
  clear hr hQ
  refine wpAnyH_done (by kernel_rfl) ?_ _
  show NoPanic _ _ _ _
  go_wp2
  refine bodyPost_ret (results_none rfl _ _ _) rfl ?_
  exact FIN.out _
 have D0123:∀(V:World) (hV:Below W1.heap.size W1 V) (m1 m2 m3 m4:Value) (hQ:Qc V m1 m2 m3 m4 (r*s)),G 2 #[true,true,true,true,false,false] ⟨#[.agg #[a1,a2,a3,a4],.agg #[b1,b2,b3,b4],.pointer (some ⟨tot,0,none⟩),.pointer (some ⟨w.heap.size,0,none⟩),.pointer (some ⟨w.heap.size+1,0,none⟩),.agg #[a1,a2,a3,a4],.agg #[b1,b2,b3,b4],.bool false,.bool true,.agg #[e1,e2,e3,e4],.agg #[a1,a2,a3,a4],.agg #[b1,b2,b3,b4],.agg #[m1,m2,m3,m4],undef],[]⟩ V:=by
  intro V hV m1 m2 m3 m4 hQ
  refine up ?_
  refine rdy1 (i:=4) (by kernel_rfl) rfl (by rfl) (fun K hK=>?_)
  go_simp
  refine (hS.out V _ _ _ _ _ _ _ _ (qT.to hV) hQ).mono ?_
  rintro e U ⟨s1,s2,s3,s4,rfl,hQ2,bb⟩
  refine hK.out _ _ trivial ?_
  exact dn (D01234 U (Bxb hV bb) m1 m2 m3 m4 s1 s2 s3 s4 hQ2)
 have D012:∀(V:World) (hV:Below W1.heap.size W1 V),G 3 #[true,true,true,false,false,false] ⟨#[.agg #[a1,a2,a3,a4],.agg #[b1,b2,b3,b4],.pointer (some ⟨tot,0,none⟩),.pointer (some ⟨w.heap.size,0,none⟩),.pointer (some ⟨w.heap.size+1,0,none⟩),.agg #[a1,a2,a3,a4],.agg #[b1,b2,b3,b4],.bool false,.bool true,.agg #[e1,e2,e3,e4],.agg #[a1,a2,a3,a4],.agg #[b1,b2,b3,b4],undef,undef],[]⟩ V:=by
  intro V hV
  refine up ?_
  refine rdy1 (i:=3) (by kernel_rfl) rfl (by rfl) (fun K hK=>?_)
  go_simp
  refine (hM.out V (hA.to hV) (hB.to hV)).mono ?_
  rintro e U ⟨m1,m2,m3,m4,rfl,hQ,bb⟩
  refine hK.out _ _ trivial ?_
  exact dn (D0123 U (Bxb hV bb) m1 m2 m3 m4 hQ)
 have D123:∀(V:World) (hV:Below W1.heap.size W1 V) (m1 m2 m3 m4:Value) (hQ:Qc V m1 m2 m3 m4 (r*s)),G 3 #[false,true,true,true,false,false] ⟨#[.agg #[a1,a2,a3,a4],.agg #[b1,b2,b3,b4],.pointer (some ⟨tot,0,none⟩),.pointer (some ⟨w.heap.size,0,none⟩),.pointer (some ⟨w.heap.size+1,0,none⟩),.agg #[a1,a2,a3,a4],.agg #[b1,b2,b3,b4],.bool false,.bool true,undef,.agg #[a1,a2,a3,a4],.agg #[b1,b2,b3,b4],.agg #[m1,m2,m3,m4],undef],[]⟩ V:=by
  intro V hV m1 m2 m3 m4 hQ
  refine up ?_
  refine rdy1 (i:=0) (by kernel_rfl) rfl (by rfl) (fun K hK=>?_)
  have cc:=(hT.to hV).four
  have c0:=cc.c0
  have c1:=cc.c1
  have c2:=cc.c2
  have c3:=cc.c3
  go_simp
  refine hK.out _ _ trivial ?_
  exact dn (D0123 V hV m1 m2 m3 m4 hQ)
 have D01:∀(V:World) (hV:Below W1.heap.size W1 V),G 4 #[true,true,false,false,false,false] ⟨#[.agg #[a1,a2,a3,a4],.agg #[b1,b2,b3,b4],.pointer (some ⟨tot,0,none⟩),.pointer (some ⟨w.heap.size,0,none⟩),.pointer (some ⟨w.heap.size+1,0,none⟩),.agg #[a1,a2,a3,a4],.agg #[b1,b2,b3,b4],.bool false,.bool true,.agg #[e1,e2,e3,e4],.agg #[a1,a2,a3,a4],undef,undef,undef],[]⟩ V:=by
  intro V hV
  refine up ?_
  refine rdy1 (i:=2) (by kernel_rfl) rfl (by rfl) (fun K hK=>?_)
  have cc:=tB.to hV
  have c0:=cc.c0
  have c1:=cc.c1
  have c2:=cc.c2
  have c3:=cc.c3
  go_simp
  refine hK.out _ _ trivial ?_
  exact dn (D012 V hV)
 have D02:∀(V:World) (hV:Below W1.heap.size W1 V),G 4 #[true,false,true,false,false,false] ⟨#[.agg #[a1,a2,a3,a4],.agg #[b1,b2,b3,b4],.pointer (some ⟨tot,0,none⟩),.pointer (some ⟨w.heap.size,0,none⟩),.pointer (some ⟨w.heap.size+1,0,none⟩),.agg #[a1,a2,a3,a4],.agg #[b1,b2,b3,b4],.bool false,.bool true,.agg #[e1,e2,e3,e4],undef,.agg #[b1,b2,b3,b4],undef,undef],[]⟩ V:=by
  intro V hV
  refine up ?_
  refine rdy1 (i:=1) (by kernel_rfl) rfl (by rfl) (fun K hK=>?_)
  have cc:=tA.to hV
  have c0:=cc.c0
  have c1:=cc.c1
  have c2:=cc.c2
  have c3:=cc.c3
  go_simp
  refine hK.out _ _ trivial ?_
  exact dn (D012 V hV)
 have D12:∀(V:World) (hV:Below W1.heap.size W1 V),G 4 #[false,true,true,false,false,false] ⟨#[.agg #[a1,a2,a3,a4],.agg #[b1,b2,b3,b4],.pointer (some ⟨tot,0,none⟩),.pointer (some ⟨w.heap.size,0,none⟩),.pointer (some ⟨w.heap.size+1,0,none⟩),.agg #[a1,a2,a3,a4],.agg #[b1,b2,b3,b4],.bool false,.bool true,undef,.agg #[a1,a2,a3,a4],.agg #[b1,b2,b3,b4],undef,undef],[]⟩ V:=by
  intro V hV
  refine up ?_
  refine wpAnyH_ready (rs:=[0,3]) (by kernel_rfl) (by simp) (ready_cons rfl (by rfl) (fun K hK=>?_) (ready_cons rfl (by rfl) (fun K hK=>?_) AllReadyH.nil))
  .have cc:=(hT.to hV).four
   have c0:=cc.c0
   have c1:=cc.c1
   have c2:=cc.c2
   have c3:=cc.c3
   go_simp
   refine hK.out _ _ trivial ?_
   exact dn (D012 V hV)
  .go_simp
   refine (hM.out V (hA.to hV) (hB.to hV)).mono ?_
   rintro e U ⟨m1,m2,m3,m4,rfl,hQ,bb⟩
   refine hK.out _ _ trivial ?_
   exact dn (D123 U (Bxb hV bb) m1 m2 m3 m4 hQ)
 have D0:∀(V:World) (hV:Below W1.heap.size W1 V),G 5 #[true,false,false,false,false,false] ⟨#[.agg #[a1,a2,a3,a4],.agg #[b1,b2,b3,b4],.pointer (some ⟨tot,0,none⟩),.pointer (some ⟨w.heap.size,0,none⟩),.pointer (some ⟨w.heap.size+1,0,none⟩),.agg #[a1,a2,a3,a4],.agg #[b1,b2,b3,b4],.bool false,.bool true,.agg #[e1,e2,e3,e4],undef,undef,undef,undef],[]⟩ V:=by
  intro V hV
  refine up ?_
  refine wpAnyH_ready (rs:=[1,2]) (by kernel_rfl) (by simp) (ready_cons rfl (by rfl) (fun K hK=>?_) (ready_cons rfl (by rfl) (fun K hK=>?_) AllReadyH.nil))
  .have cc:=tA.to hV
   have c0:=cc.c0
   have c1:=cc.c1
   have c2:=cc.c2
   have c3:=cc.c3
   go_simp
   refine hK.out _ _ trivial ?_
   exact dn (D01 V hV)
  .have cc:=tB.to hV
   have c0:=cc.c0
   have c1:=cc.c1
   have c2:=cc.c2
   have c3:=cc.c3
   go_simp
   refine hK.out _ _ trivial ?_
   exact dn (D02 V hV)
 have D1:∀(V:World) (hV:Below W1.heap.size W1 V),G 5 #[false,true,false,false,false,false] ⟨#[.agg #[a1,a2,a3,a4],.agg #[b1,b2,b3,b4],.pointer (some ⟨tot,0,none⟩),.pointer (some ⟨w.heap.size,0,none⟩),.pointer (some ⟨w.heap.size+1,0,none⟩),.agg #[a1,a2,a3,a4],.agg #[b1,b2,b3,b4],.bool false,.bool true,undef,.agg #[a1,a2,a3,a4],undef,undef,undef],[]⟩ V:=by
  intro V hV
  refine up ?_
  refine wpAnyH_ready (rs:=[0,2]) (by kernel_rfl) (by simp) (ready_cons rfl (by rfl) (fun K hK=>?_) (ready_cons rfl (by rfl) (fun K hK=>?_) AllReadyH.nil))
  .have cc:=(hT.to hV).four
   have c0:=cc.c0
   have c1:=cc.c1
   have c2:=cc.c2
   have c3:=cc.c3
   go_simp
   refine hK.out _ _ trivial ?_
   exact dn (D01 V hV)
  .have cc:=tB.to hV
   have c0:=cc.c0
   have c1:=cc.c1
   have c2:=cc.c2
   have c3:=cc.c3
   go_simp
   refine hK.out _ _ trivial ?_
   exact dn (D12 V hV)
 have D2:∀(V:World) (hV:Below W1.heap.size W1 V),G 5 #[false,false,true,false,false,false] ⟨#[.agg #[a1,a2,a3,a4],.agg #[b1,b2,b3,b4],.pointer (some ⟨tot,0,none⟩),.pointer (some ⟨w.heap.size,0,none⟩),.pointer (some ⟨w.heap.size+1,0,none⟩),.agg #[a1,a2,a3,a4],.agg #[b1,b2,b3,b4],.bool false,.bool true,undef,undef,.agg #[b1,b2,b3,b4],undef,undef],[]⟩ V:=by
  intro V hV
  refine up ?_
  refine wpAnyH_ready (rs:=[0,1]) (by kernel_rfl) (by simp) (ready_cons rfl (by rfl) (fun K hK=>?_) (ready_cons rfl (by rfl) (fun K hK=>?_) AllReadyH.nil))
  .have cc:=(hT.to hV).four
   have c0:=cc.c0
   have c1:=cc.c1
   have c2:=cc.c2
   have c3:=cc.c3
   go_simp
   refine hK.out _ _ trivial ?_
   exact dn (D02 V hV)
  .have cc:=tA.to hV
   have c0:=cc.c0
   have c1:=cc.c1
   have c2:=cc.c2
   have c3:=cc.c3
   go_simp
   refine hK.out _ _ trivial ?_
   exact dn (D12 V hV)
 have D:∀(V:World) (hV:Below W1.heap.size W1 V),G 6 #[false,false,false,false,false,false] ⟨#[.agg #[a1,a2,a3,a4],.agg #[b1,b2,b3,b4],.pointer (some ⟨tot,0,none⟩),.pointer (some ⟨w.heap.size,0,none⟩),.pointer (some ⟨w.heap.size+1,0,none⟩),.agg #[a1,a2,a3,a4],.agg #[b1,b2,b3,b4],.bool false,.bool true,undef,undef,undef,undef,undef],[]⟩ V:=by
  intro V hV
  refine up ?_
  refine wpAnyH_ready (rs:=[0,1,2]) (by kernel_rfl) (by simp) (ready_cons rfl (by rfl) (fun K hK=>?_) (ready_cons rfl (by rfl) (fun K hK=>?_) (ready_cons rfl (by rfl) (fun K hK=>?_) AllReadyH.nil)))
  .have cc:=(hT.to hV).four
   have c0:=cc.c0
   have c1:=cc.c1
   have c2:=cc.c2
   have c3:=cc.c3
   go_simp
   refine hK.out _ _ trivial ?_
   exact dn (D0 V hV)
  .have cc:=tA.to hV
   have c0:=cc.c0
   have c1:=cc.c1
   have c2:=cc.c2
   have c3:=cc.c3
   go_simp
   refine hK.out _ _ trivial ?_
   exact dn (D1 V hV)
  .have cc:=tB.to hV
   have c0:=cc.c0
   have c1:=cc.c1
   have c2:=cc.c2
   have c3:=cc.c3
   go_simp
   refine hK.out _ _ trivial ?_
   exact dn (D2 V hV)
 exact D _ (Below.refl _ _).drew
theorem dot1_v {w:World}{a1 a2 a3 a4 b1 b2 b3 b4:Value}{r s t:Rat}{k l m tot:Nat}{E:E4}(hT:Row w tot [E])(qT:Qc w E.a E.b E.c E.d t)(hA:Qi w a1 a2 a3 a4 r k)(hB:Qi w b1 b2 b3 b4 s l)(mT:Qm m t)(hk:0<k)(hl:0<l)(hkl:k+l+1<=10000)(hm:m+(k+l)+1<=10000) :
  Calls Tryz.prog 60 #[.agg #[a1,a2,a3,a4],.agg #[b1,b2,b3,b4],.pointer (some ⟨tot,0,none⟩)] w (DotR w tot (t+r*s)):=by
 by_cases h0:r=0∨s=0
 .exact dot1_z (m:=m) hT qT hA hB h0
 .exact dot1_n hT qT hA hB h0 mT hk hl hkl hm
attribute [local go_sem] Oper.semAt_some
def sumF (f:Nat->Rat):Nat->Rat
 | 0=>0
 | k+1=>sumF f k+f k
theorem Qm.zero {k:Nat}(hk:0<k):Qm k 0:=⟨Nat.pow_pos (by decide),Sm.one hk⟩
theorem Qm.sumF {f:Nat->Rat}{P:Nat}(hf:∀i,Qm P (f i)):∀k,Qm (k*(P+1)+1) (sumF f k)
 | 0=>Qm.zero (by omega)
 | k+1=>by
  have h:=(Qm.sumF hf k).add (hf k)
  exact h.mono (by rw[Nat.add_mul];omega)
def TotI (W:World)(g:Nat)(t:Rat):Prop:=∃E,Row W g [E]/\Qc W E.a E.b E.c E.d t
theorem TotI.to {W V:World}{g:Nat}{t:Rat}(h:TotI W g t)(hb:Below W.heap.size W V):TotI V g t:=by
 obtain ⟨E,h1,h2⟩:=h
 exact ⟨E,h1.to hb,h2.to hb⟩
theorem TotI.grown {W V:World}{g:Nat}{t:Rat}{row:Option Nat}(h:TotI W g t)(hg:W.grownBy V row)(hr:∀r,row=some r->∃o:Obj,W.heap[r]?=some o/\o.isCells=false):TotI V g t:=by
 obtain ⟨E,h1,h2⟩:=h
 exact ⟨E,h1.grown hg hr,(Kw.grown hg hr).qc h2⟩
theorem dot_f {f:Nat->Rat}{A A':Option Addr}{c c':Nat}{es fs:List E4}{w:World}(hx:Rq w w.heap.size A es)(hy:Rq w w.heap.size A' fs)(qx:∀e∈es,e.fq)(qy:∀e∈fs,e.fq)
  (hx63:es.length<=4398046511104) (hy63:fs.length<=4398046511104)
  (hF:∀(V:World) (E:E4),Below w.heap.size w V->Row V (w.heap.size+1) [E]->∀i,i<max es.length fs.length->Qc V E.a E.b E.c E.d (sumF f i)->Calls Tryz.prog 60 #[(es.getD i E4.z).v,(fs.getD i E4.z).v,.pointer (some ⟨w.heap.size+1,0,none⟩)] V (DotR V (w.heap.size+1) (sumF f (i+1)))) :
  Calls Tryz.prog 25 #[.slice A es.length c,.slice A' fs.length c'] w (QR w (sumF f (max es.length fs.length))):=by
 have HF:=Hd hF
 have HX63:=Hd hx63
 have HY63:=Hd hy63
 have RX:=Hd hx
 have RY:=Hd hy
 have QX:=Hd qx
 have QY:=Hd qy
 clear hF hx hy qx qy
 refine (callsIn_wide (n:=3)).1 ?_
 refine callsIn_of_wp_marks Tryz.func25 rfl trivial ?_ rfl
 simp only[Tryz.ntmps25,List.size_toArray,List.length_cons,List.length_nil,Nat.reduceAdd,Nat.reduceSub,Array.replicate_succ,Array.replicate_zero,List.push_toArray,List.append_toArray,List.nil_append,List.cons_append]
 gi_wp2_with (first
  | (refine ⟨trivial,?_⟩;gi_at_call 61;refine (callsIn_wide.2 (vpairs_any _ _ _ _ _ _ _)).mono ?_;rintro e w' ⟨rfl,rfl⟩))
 obtain ⟨W0,hW0⟩:∃W0,W0=((((w.alloc (.cells #[.bool false,.slice none 0 0,.bool false,.slice none 0 0] 26)).alloc (.cells #[.bool false,.slice none 0 0,.bool false,.slice none 0 0] 26)).alloc (.cells #[.func (.func 60) #[] #[.pointer (some ⟨w.heap.size+1,0,none⟩)]] 67)).alloc (.cells #[.slice A es.length c] 27)).alloc (.cells #[.slice A' fs.length c'] 27):=⟨_,rfl⟩
 have hb0:Below w.heap.size w W0:=by rw[hW0];exact (((((Below.refl _ _).alloc (Nat.le_refl _) _).alloc (by simp) _).alloc (by simp;omega) _).alloc (by simp;omega) _).alloc (by simp;omega) _
 have hR0:Hp W0 (w.heap.size) (.cells #[.bool false,.slice none 0 0,.bool false,.slice none 0 0] 26 (0,0)):=by
  have h:=Hp.new w #[.bool false,.slice none 0 0,.bool false,.slice none 0 0] 26
  rw[hW0];exact ((((h.alloc _).alloc _).alloc _).alloc _)
 have hT0:Hp W0 (w.heap.size+1) (.cells #[.bool false,.slice none 0 0,.bool false,.slice none 0 0] 26 (0,0)):=by
  have h:=Hp.new (w.alloc (.cells #[.bool false,.slice none 0 0,.bool false,.slice none 0 0] 26)) #[.bool false,.slice none 0 0,.bool false,.slice none 0 0] 26
  rw[World.size_alloc]at h
  rw[hW0];exact (((h.alloc _).alloc _).alloc _)
 have hC0:Hp W0 (w.heap.size+1+1) (.cells #[.func (.func 60) #[] #[.pointer (some ⟨w.heap.size+1,0,none⟩)]] 67 (0,0)):=by
  have h:=Hp.new ((w.alloc (.cells #[.bool false,.slice none 0 0,.bool false,.slice none 0 0] 26)).alloc (.cells #[.bool false,.slice none 0 0,.bool false,.slice none 0 0] 26)) #[.func (.func 60) #[] #[.pointer (some ⟨w.heap.size+1,0,none⟩)]] 67
  rw[World.size_alloc,World.size_alloc]at h
  rw[hW0];exact ((h.alloc _).alloc _)
 have hx0:Hp W0 (w.heap.size+1+1+1) (.cells #[.slice A es.length c] 27 (0,0)):=by
  have h:=Hp.new (((w.alloc (.cells #[.bool false,.slice none 0 0,.bool false,.slice none 0 0] 26)).alloc (.cells #[.bool false,.slice none 0 0,.bool false,.slice none 0 0] 26)).alloc (.cells #[.func (.func 60) #[] #[.pointer (some ⟨w.heap.size+1,0,none⟩)]] 67)) #[.slice A es.length c] 27
  rw[World.size_alloc,World.size_alloc,World.size_alloc]at h
  rw[hW0];exact (h.alloc _)
 have hy0:Hp W0 (w.heap.size+1+1+1+1) (.cells #[.slice A' fs.length c'] 27 (0,0)):=by
  have h:=Hp.new ((((w.alloc (.cells #[.bool false,.slice none 0 0,.bool false,.slice none 0 0] 26)).alloc (.cells #[.bool false,.slice none 0 0,.bool false,.slice none 0 0] 26)).alloc (.cells #[.func (.func 60) #[] #[.pointer (some ⟨w.heap.size+1,0,none⟩)]] 67)).alloc (.cells #[.slice A es.length c] 27)) #[.slice A' fs.length c'] 27
  rw[World.size_alloc,World.size_alloc,World.size_alloc,World.size_alloc]at h
  rw[hW0];exact h
 have hP0:PairI w (w.heap.size+1+1+1) (.slice A es.length c) (.slice A' fs.length c') W0:=⟨hx0,hy0,hb0⟩
 have hT0:TotI W0 (w.heap.size+1) (sumF f 0):=⟨E4.z,Row.one hT0 Fq.nil,Zc.zero _,Zc.zero _⟩
 have hs0:W0.heap.size=w.heap.size+1+1+1+1+1:=by rw[hW0];simp
 rw[<-hW0]
 clear hW0 hx0 hy0
 refine wp_roundsB (gf:=78) (lb:=#[.pointer (some ⟨w.heap.size+1+1+1,0,none⟩),.pointer (some ⟨w.heap.size+1+1+1+1,0,none⟩)]) ?hg (enters_of Tryz.func78 (by kernel_rfl) rfl)
  (N:=max es.length fs.length) (enc:=vpairE es fs) (S:=pairS (w.heap.size+1+1+1) (w.heap.size+1+1+1+1) w.heap.size) (pairS_lt (by omega) (by omega) (by omega))
  (fun W hW=>by
   have h:=hP0.to hW
   exact vpairs_gives (w.heap.size+1+1+1) (w.heap.size+1+1+1+1) w.heap.size c c' A A' es fs (by have:=HX63.out;omega) (by have:=HY63.out;omega) W h.bx.one h.by'.one (RX.out.below h.bel) (RY.out.below h.bel) QX.out QY.out)
  ?hps
  (fun k W=>Hp W w.heap.size (.cells #[.bool false,.slice none 0 0,.bool false,.slice none 0 0] 26 (0,0))/\TotI W (w.heap.size+1) (sumF f k)/\Hp W (w.heap.size+1+1) (.cells #[.func (.func 60) #[] #[.pointer (some ⟨w.heap.size+1,0,none⟩)]] 67 (0,0))/\PairI w (w.heap.size+1+1+1) (.slice A es.length c) (.slice A' fs.length c') W)
  (fun k a1 W=>∃p q,a1=⟨#[.slice A es.length c,.slice A' fs.length c',undef,undef,.pointer (some ⟨w.heap.size,0,none⟩),.pointer (some ⟨w.heap.size+1,0,none⟩),.pointer (some ⟨w.heap.size+1+1,0,none⟩),.pointer (some ⟨p,0,none⟩),.pointer (some ⟨q,0,none⟩),.func (.func 60) #[] #[.pointer (some ⟨w.heap.size+1,0,none⟩)],.slice A es.length c,.slice A' fs.length c',.func (.func 78) #[] #[.pointer (some ⟨w.heap.size+1+1+1,0,none⟩),.pointer (some ⟨w.heap.size+1+1+1+1,0,none⟩)],(es.getD k E4.z).v,(fs.getD k E4.z).v,undef,undef,undef,undef,undef],[]⟩/\(Hp W w.heap.size (.cells #[.bool false,.slice none 0 0,.bool false,.slice none 0 0] 26 (0,0))/\TotI W (w.heap.size+1) (sumF f k)/\Hp W (w.heap.size+1+1) (.cells #[.func (.func 60) #[] #[.pointer (some ⟨w.heap.size+1,0,none⟩)]] 67 (0,0))/\PairI w (w.heap.size+1+1+1) (.slice A es.length c) (.slice A' fs.length c') W)/\EHp W p (es.getD k E4.z)/\EHp W q (fs.getD k E4.z))
  (fun _ _ _=>False) ?hI ?hI1 ?hIb ?hIx ⟨hR0,hT0,hC0,hP0⟩ ?assign ?body ?done ?stop
 case hg=>rfl
 case hps=>exact fun _=>rfl
 case hI=>exact fun k W V row h hg hr=>⟨h.1.grown hg (fun r e=>(hr r e).2) rfl,h.2.1.grown hg (fun r e=>(hr r e).2),h.2.2.1.grown hg (fun r e=>(hr r e).2) rfl,h.2.2.2.grown (by omega) hg hr⟩
 case hI1 =>
  rintro ⟨k,a1⟩ W V row ⟨p,q,h1,h2,h3,h4⟩ hg hr
  exact ⟨p,q,h1,⟨h2.1.grown hg (fun r e=>(hr r e).2) rfl,h2.2.1.grown hg (fun r e=>(hr r e).2),h2.2.2.1.grown hg (fun r e=>(hr r e).2) rfl,h2.2.2.2.grown (by omega) hg hr⟩,Hp.grown h3 hg (fun r e=>(hr r e).2) rfl,Hp.grown h4 hg (fun r e=>(hr r e).2) rfl⟩
 case hIb=>exact fun k W V h hb=>⟨h.1.to hb,h.2.1.to hb,h.2.2.1.to hb,h.2.2.2.to hb⟩
 case hIx=>exact fun _ _ _ _ _ h _ _=>h
 case assign =>
  intro l k W K hlt hI hk hK
  have fx:=fq_getD QX.out k
  have fy:=fq_getD QY.out k
  have HK:=Hd hK
  clear hK
  unfold vpairE
  generalize es.getD k E4.z=X at HK fx ⊢
  generalize fs.getD k E4.z=Y at HK fy ⊢
  obtain ⟨x1,x2,x3,x4⟩:=X
  obtain ⟨y1,y2,y3,y4⟩:=Y
  obtain ⟨⟨n1,A1,j1,m1,e1,e2⟩,⟨n2,A2,j2,m2,e3,e4⟩⟩:=fx
  obtain ⟨⟨n3,A3,j3,m3,e5,e6⟩,⟨n4,A4,j4,m4,e7,e8⟩⟩:=fy
  dsimp only at e1 e2 e3 e4 e5 e6 e7 e8
  subst e1 e2 e3 e4 e5 e6 e7 e8
  simp only[E4.v]
  simp only[E4.v]at HK
  gi_wp2
  have hbb:Below W.heap.size W ((W.alloc (.cells #[.bool n1,.slice A1 j1 m1,.bool n2,.slice A2 j2 m2] 26)).alloc (.cells #[.bool n3,.slice A3 j3 m3,.bool n4,.slice A4 j4 m4] 26)):=((Below.refl _ _).alloc (Nat.le_refl _) _).alloc (by simp) _
  refine HK.out _ _ hbb ⟨_,_,rfl,⟨hI.1.to hbb,hI.2.1.to hbb,hI.2.2.1.to hbb,hI.2.2.2.to hbb⟩,(Hp.new _ _ _).alloc _,?_⟩
  have h:=Hp.new (W.alloc (.cells #[.bool n1,.slice A1 j1 m1,.bool n2,.slice A2 j2 m2] 26)) #[.bool n3,.slice A3 j3 m3,.bool n4,.slice A4 j4 m4] 26
  rw[World.size_alloc]at h
  exact h
 case body =>
  rintro l k a1 W hlt ⟨p,q,rfl,⟨hR,hT,hC,hP⟩,hp,hq⟩ hk
  have hbW:=hP.bel
  have HFK0:=Hd fun (V:World) (hV:Below w.heap.size w V) (E:E4) (hE:Row V (w.heap.size+1) [E]) (qE:Qc V E.a E.b E.c E.d (sumF f k))=>HF.out V E hV hE k hk qE
  obtain ⟨E,hE,qE⟩:=hT
  have HFK:=Hd (HFK0.out W hbW E hE qE)
  clear HFK0
  obtain ⟨X,hX⟩:∃X,es.getD k E4.z=X:=⟨_,rfl⟩
  obtain ⟨Y,hY⟩:∃Y,fs.getD k E4.z=Y:=⟨_,rfl⟩
  rw[hX]at hp HFK ⊢
  rw[hY]at hq HFK ⊢
  clear hX hY
  obtain ⟨x1,x2,x3,x4⟩:=X
  obtain ⟨y1,y2,y3,y4⟩:=Y
  simp only[E4.v]at HFK ⊢
  have c0:=(Hp.four hp).c0
  have c1:=(Hp.four hp).c1
  have c2:=(Hp.four hp).c2
  have c3:=(Hp.four hp).c3
  have d0:=(Hp.four hq).c0
  have d1:=(Hp.four hq).c1
  have d2:=(Hp.four hq).c2
  have d3:=(Hp.four hq).c3
  dsimp only at c0 c1 c2 c3 d0 d1 d2 d3
  have HR:=Hd hR
  have HC:=Hd hC
  have HP:=Hd hP
  have cC:=hC.one
  have HS:Hid (w.heap.size+1+1+1+1+1<W.heap.size):=by show _<_;omega
  clear hp hq hR hC hP HF hP0 hR0 hT0 hC0 RX RY QX QY hk hE qE
  gi_wp2_with (refine ⟨trivial,?_⟩;gi_at_call 60;refine (CallsIn.inRound l (callsIn_wide.2 HFK.out)).mono ?_;rintro e V ⟨⟨v,rfl⟩,E2,hE2,qE2,hsz,hoth,hbel⟩)
  have hS:=HS.out
  refine ⟨⟨hsz,fun j o hB hj _=>(hoth j (Array.getElem?_eq_some_iff.1 hj).1 (by omega)).trans hj⟩,KeepAt.of fun p hp=>hoth _ ?_ ?_,?_,⟨E2,hE2,qE2⟩,?_,?_,?_,?_⟩
  .exact pairS_lt (S:=W.heap.size) (by omega) (by omega) (by omega) p hp
  .rcases hp with rfl|rfl|hp
   .show w.heap.size+1+1+1≠w.heap.size+1;omega
   .show w.heap.size+1+1+1+1≠w.heap.size+1;omega
   .omega
  .exact (hoth _ (by omega) (by omega)).trans HR.out
  .exact (hoth _ (by omega) (by omega)).trans HC.out
  .exact (hoth _ (by omega) (by omega)).trans HP.out.bx
  .exact (hoth _ (by omega) (by omega)).trans HP.out.by'
  .exact HP.out.bel.trans (hbel _ (by omega))
 case done =>
  rintro W ⟨hR,⟨E,hE,qE⟩,hC,hP⟩ hK
  rw[hs0]at hK
  have r1:=Row.one hR Fq.nil
  have hf:E.fq:=hE.fq E (by simp)
  have hne:(w.heap.size+1+1+1+1+1)≠w.heap.size:=by omega
  have h4:=hE.four
  obtain ⟨e1,e2,e3,e4⟩:=E
  have c0:=h4.c0
  have c1:=h4.c1
  have c2:=h4.c2
  have c3:=h4.c3
  dsimp only at c0 c1 c2 c3
  have R1:=Hd r1
  have QF:=Hd hf
  have hK':=(setRow_other W w.heap.size _ (flat ([⟨e1,e2,e3,e4⟩]:List E4)).toArray hne).trans hK
  have h5:Row (W.setRow w.heap.size (flat ([⟨e1,e2,e3,e4⟩]:List E4)).toArray) w.heap.size [⟨e1,e2,e3,e4⟩]:=r1.app (n:=0) (e:=⟨e1,e2,e3,e4⟩) hf
  have kw:Kw W (W.setRow w.heap.size (flat ([⟨e1,e2,e3,e4⟩]:List E4)).toArray):=r1.kw
  have hgp:=grownBy_putObj' (W.setRow w.heap.size (flat ([⟨e1,e2,e3,e4⟩]:List E4)).toArray) (w.heap.size+1+1+1+1+1) (.deferred none)
  have hgr:∀r,some (w.heap.size+1+1+1+1+1)=some r->∃o:Obj,(W.setRow w.heap.size (flat ([⟨e1,e2,e3,e4⟩]:List E4)).toArray).heap[r]?=some o/\o.isCells=false:=fun r e=>by cases e;exact ⟨_,hK',rfl⟩
  have H6:=Hd (h5.grown hgp hgr).four
  have HE:Hid (QR w (sumF f (max es.length fs.length)) (.returned (.agg #[e1,e2,e3,e4])) ((W.setRow w.heap.size (flat ([⟨e1,e2,e3,e4⟩]:List E4)).toArray).putObj (w.heap.size+1+1+1+1+1) (.deferred none))) :=
   ⟨e1,e2,e3,e4,rfl,(Kw.grown hgp hgr).qc (kw.qc qE),(below_setRow hP.bel (Nat.le_refl _) _).grown hgp (by rw[setRow_size];exact hP.bel.size) (fun k e=>by cases e;omega)⟩
  have HK':=Hd hK'
  clear hE hC hP hb0 hP0 hR0 hT0 hC0 qE h4 hK hgp hgr kw h5 hR r1 hK' hf
  gi_wp2_with (refine wpListIn_storeq (k:=0) (e:=⟨e1,e2,e3,e4⟩) rfl (.tmp 4) (.tmp 19) rfl (by rfl) (by rfl) R1.out (by simp) QF.out ?_;clear R1)
  refine ⟨by simp,.inl ⟨_,_,rfl,run_takeDeferred HK'.out,?_⟩⟩
  refine ⟨.agg #[e1,e2,e3,e4],?_,HE.out⟩
  have u0:=H6.out.c0
  have u1:=H6.out.c1
  have u2:=H6.out.c2
  have u3:=H6.out.c3
  simp[results,Tryz.f25,go_sem,u0,u1,u2,u3]
 case stop=>exact fun _ _ _ _ h _=>h.elim
def dotQ (rs ss:List Rat):Rat:=sumF (fun i=>rs.getD i 0*ss.getD i 0) (max rs.length ss.length)
theorem vdot_v {w:World}{A A':Option Addr}{c c':Nat}{es fs:List E4}{rs ss:List Rat}{k l:Nat}(hA:Vi w A c es rs k)(hB:Vi w A' c' fs ss l)(hk:0<k)(hl:0<l)(h1:rs.length<=4398046511104)(h2:ss.length<=4398046511104)
  (hN:(max rs.length ss.length)*(k+l+1)+1+(k+l)+1<=10000) :
  Calls Tryz.prog 25 #[.slice A rs.length c,.slice A' ss.length c'] w (QR w (dotQ rs ss)):=by
 have hm:∀i,Qm (k+l) (rs.getD i 0*ss.getD i 0):=fun i=>((hA.el i).qm hk).mul ((hB.el i).qm hl)
 have h:=dot_f (f:=fun i=>rs.getD i 0*ss.getD i 0) (c:=c) (c':=c') hA.row hB.row hA.fq hB.fq (by rw[hA.len];exact h1) (by rw[hB.len];exact h2) (fun V E hV hE i hi qE=>by
  rw[hA.len,hB.len]at hi
  have hi2:i*(k+l+1)<=(max rs.length ss.length)*(k+l+1):=Nat.mul_le_mul_right _ (by omega)
  exact dot1_v hE qE ((hA.el i).to hV) ((hB.el i).to hV) (Qm.sumF hm i) hk hl (by omega) (by omega))
 rw[hA.len,hB.len]at h
 exact h
end Go.Proofs.YtiifpobhmnplaaaGreat

namespace Go.Proofs.YtiifpobhmnplaaaGreat
open Go.RowKit Go.Shelf
theorem Hp.cellAt {W:World}{g:Nat}{cs:Array Value}{t:TypeId}(h:Hp W g (.cells cs t (0,0)))(j:Nat):W.cell? ⟨g,j,none⟩=cs[j]?:=by simp[World.cell?,show W.heap[g]?=_ from h]
theorem half_q {w:World} :
  Calls Tryz.prog 47 #[] w (QR w (rv 1 2)):=by
 obtain ⟨W0,hW0⟩:∃W0,W0=w.alloc (.cells #[.bool false,.slice none 0 0,.bool false,.slice none 0 0] 26):=⟨_,rfl⟩
 have hbw:Below w.heap.size w W0:=by rw[hW0];exact ((Below.refl _ _).alloc (Nat.le_refl _) _)
 have tR:Four W0 (w.heap.size) (.bool false) (.slice none 0 0) (.bool false) (.slice none 0 0):=by
  have h:=Four.new w (.bool false) (.slice none 0 0) (.bool false) (.slice none 0 0) 26
  rw[hW0];exact h
 have HW0:=Hd hW0
 have HB:=Hd hbw
 clear hW0 hbw
 go_enter Tryz.func47,Tryz.ntmps47
 go_wp2_with fail
 rw[<-HW0.out]
 clear HW0
 go_wp2_with fail
 refine (rof_q 1 2 (by decide) (by decide) (by decide) (by decide) _).mono ?_
 rintro e V1 ⟨x1,y1,u1,v1,rfl,q1,bb⟩
 replace tR:=tR.to bb
 replace HB:=Hxb HB bb
 clear bb
 have RZ:=Hd q1
 obtain ⟨V99,eV,u,kp⟩:=pack4 tR Fq.nil x1 y1 u1 v1
 obtain ⟨⟨n1,A1,j1,m1,rfl,rfl⟩,⟨n2,A2,j2,m2,rfl,rfl⟩⟩:=q1.fq
 obtain ⟨v0,v1,v2,v3,v4,v5,v6,v7,_⟩:=tR
 have EV:=Hd eV
 have KP:=Hd kp
 have U:=Hd u
 clear eV kp u q1
 go_wp2
 rw[EV.out]
 refine bodyPost_ret (v:=.agg #[.bool n1,.slice A1 j1 m1,.bool n2,.slice A2 j2 m2]) (by simp[results,Tryz.f47,go_sem,U.out.c0,U.out.c1,U.out.c2,U.out.c3]) rfl ?_
 exact ⟨_,_,_,_,rfl,RZ.out.k4 KP.out,KP.out.bel _ _ HB.out (by omega)⟩
theorem lits1 {w:World}(a0:Int)(ha0:-9223372036854775808<=a0/\a0<=9223372036854775807) :
  Calls Tryz.prog 37 #[.slice (some ⟨w.heap.size,0,none⟩) 1 1] (w.alloc (.cells #[.int .i64 a0] 2)) fun e w'=>∃A c es,e=.returned (.slice A 1 c)/\Vc w' A c es (ratsOf [a0])/\Below w.heap.size w w':=by
 have hb:Below w.heap.size w (w.alloc (.cells #[.int .i64 a0] 2)):=(Below.refl _ _).alloc (Nat.le_refl _) _
 have h1:=Hp.new w #[.int .i64 a0] 2
 refine (ints_v (ns:=[a0]) (c:=1) (A:=some ⟨w.heap.size,0,none⟩) (fun k hk=>⟨w.heap.size,0,rfl,?_⟩) (fun n hn=>?_) (by simp)).mono ?_
 .match k,hk with
  | 0,_=>exact (h1.cellAt _).trans rfl
 .simp only[List.mem_cons,List.not_mem_nil,or_false]at hn
  subst hn
  assumption
 .rintro e w' ⟨A,c,es,rfl,hv,bb⟩
  exact ⟨A,c,es,rfl,hv,Bxb hb bb⟩
theorem lits2 {w:World}(a0 a1:Int)(ha0:-9223372036854775808<=a0/\a0<=9223372036854775807)(ha1:-9223372036854775808<=a1/\a1<=9223372036854775807) :
  Calls Tryz.prog 37 #[.slice (some ⟨w.heap.size,0,none⟩) 2 2] (w.alloc (.cells #[.int .i64 a0,.int .i64 a1] 2)) fun e w'=>∃A c es,e=.returned (.slice A 2 c)/\Vc w' A c es (ratsOf [a0,a1])/\Below w.heap.size w w':=by
 have hb:Below w.heap.size w (w.alloc (.cells #[.int .i64 a0,.int .i64 a1] 2)):=(Below.refl _ _).alloc (Nat.le_refl _) _
 have h1:=Hp.new w #[.int .i64 a0,.int .i64 a1] 2
 refine (ints_v (ns:=[a0,a1]) (c:=2) (A:=some ⟨w.heap.size,0,none⟩) (fun k hk=>⟨w.heap.size,0,rfl,?_⟩) (fun n hn=>?_) (by simp)).mono ?_
 .match k,hk with
  | 0,_=>exact (h1.cellAt _).trans rfl
  | 1,_=>exact (h1.cellAt _).trans rfl
 .simp only[List.mem_cons,List.not_mem_nil,or_false]at hn
  rcases hn with rfl|rfl
  all_goals assumption
 .rintro e w' ⟨A,c,es,rfl,hv,bb⟩
  exact ⟨A,c,es,rfl,hv,Bxb hb bb⟩
theorem lits3 {w:World}(a0 a1 a2:Int)(ha0:-9223372036854775808<=a0/\a0<=9223372036854775807)(ha1:-9223372036854775808<=a1/\a1<=9223372036854775807)(ha2:-9223372036854775808<=a2/\a2<=9223372036854775807) :
  Calls Tryz.prog 37 #[.slice (some ⟨w.heap.size,0,none⟩) 3 3] (w.alloc (.cells #[.int .i64 a0,.int .i64 a1,.int .i64 a2] 2)) fun e w'=>∃A c es,e=.returned (.slice A 3 c)/\Vc w' A c es (ratsOf [a0,a1,a2])/\Below w.heap.size w w':=by
 have hb:Below w.heap.size w (w.alloc (.cells #[.int .i64 a0,.int .i64 a1,.int .i64 a2] 2)):=(Below.refl _ _).alloc (Nat.le_refl _) _
 have h1:=Hp.new w #[.int .i64 a0,.int .i64 a1,.int .i64 a2] 2
 refine (ints_v (ns:=[a0,a1,a2]) (c:=3) (A:=some ⟨w.heap.size,0,none⟩) (fun k hk=>⟨w.heap.size,0,rfl,?_⟩) (fun n hn=>?_) (by simp)).mono ?_
 .match k,hk with
  | 0,_=>exact (h1.cellAt _).trans rfl
  | 1,_=>exact (h1.cellAt _).trans rfl
  | 2,_=>exact (h1.cellAt _).trans rfl
 .simp only[List.mem_cons,List.not_mem_nil,or_false]at hn
  rcases hn with rfl|rfl|rfl
  all_goals assumption
 .rintro e w' ⟨A,c,es,rfl,hv,bb⟩
  exact ⟨A,c,es,rfl,hv,Bxb hb bb⟩
theorem sm2_of {z:Int}(h:z.natAbs<18446744073709551616):Sm 2 z:=h
theorem rats_qm {ns:List Int}(h:ns.all (fun n=>decide (n.natAbs<18446744073709551616))=true)(i:Nat):Qm 2 ((ratsOf ns).getD i 0):=by
 by_cases hi:i<ns.length
 .rw[ratsOf_getD hi,getD_lt hi]
  exact Qm.int (sm2_of (by simpa using (List.all_eq_true.1 h) _ (List.getElem_mem hi))) (by decide)
 .rw[getD_ge (by rw[ratsOf_length];omega)]
  exact Qm.zero (by decide)
theorem format_q {w:World}{x1 y1 x2 y2:Value}{r:Rat}{k:Nat}(h:Qc w x1 y1 x2 y2 r)(hm:Qm k r)(hk:k<=10000)(hd:r.den=1){s:ByteArray}(hs:decZ r.num=s) :
  Calls Tryz.prog 49 #[.agg #[x1,y1,x2,y2]] w fun e w'=>e=.returned (.string s)/\Below w.heap.size w w':=by
 subst hs
 have s1:=hm.1.sg hk
 have s2:=hm.2.sg hk
 obtain ⟨p,q,z1,z2,rfl,h1,h2⟩:=h.qi hm hk
 exact format_int z1 z2 (h1.sg hk) (h2.sg hk) s1 s2 hd
theorem Vc.one {W:World}{x1 x2 x3 x4:Value}{r:Rat}(q:Qc W x1 x2 x3 x4 r):Vc (W.alloc (.cells #[x1,x2,x3,x4] 26)) (some ⟨W.heap.size,0,none⟩) 1 [⟨x1,x2,x3,x4⟩] [r]:=by
 have h:=Row.one (Hp.new W #[x1,x2,x3,x4] 26) q.fq
 exact h.vc rfl rfl (by decide) fun i hi=>by
  obtain rfl:i=0:=by omega
  exact q.to ((Below.refl _ _).alloc (Nat.le_refl _) _)
theorem Vc.two {W:World}{x1 x2 x3 x4 y1 y2 y3 y4:Value}{r s:Rat}(q:Qc W x1 x2 x3 x4 r)(q':Qc W y1 y2 y3 y4 s):Vc (W.alloc (.cells #[x1,x2,x3,x4,y1,y2,y3,y4] 26)) (some ⟨W.heap.size,0,none⟩) 2 [⟨x1,x2,x3,x4⟩,⟨y1,y2,y3,y4⟩] [r,s]:=by
 have hp:Row (W.alloc (.cells #[x1,x2,x3,x4,y1,y2,y3,y4] 26)) W.heap.size [⟨x1,x2,x3,x4⟩,⟨y1,y2,y3,y4⟩]:=⟨Hp.new W #[x1,x2,x3,x4,y1,y2,y3,y4] 26,fun e he=>by
  simp only[List.mem_cons,List.not_mem_nil,or_false]at he
  rcases he with rfl|rfl
  .exact q.fq
  .exact q'.fq⟩
 have bb:Below W.heap.size W (W.alloc (.cells #[x1,x2,x3,x4,y1,y2,y3,y4] 26)):=(Below.refl _ _).alloc (Nat.le_refl _) _
 exact hp.vc rfl rfl (by decide) fun i hi=>by
  match i,hi with
  | 0,_=>exact q.to bb
  | 1,_=>exact q'.to bb
theorem half_qm : Qm 2 (rv 1 2):=⟨sm2_of (by decide +kernel),sm2_of (by decide +kernel)⟩
theorem valive_any (w:World):Calls Tryz.prog 13 #[] w fun e w'=>e=.returned (.bool true)/\Below w.heap.size w w':=by
 have HB:=Hd (Below.refl w.heap.size w)
 have S1:((({ data:=#[49,52] } : ByteArray)).toList==[49,52])=true:=by decide +kernel
 go_enter Tryz.func13,Tryz.ntmps13
 go_wp2_with fail
 refine (lits2 1 5 (by decide) (by decide)).mono ?_
 rintro e V1 ⟨A1,c1,es1,rfl,v1,bb⟩
 replace HB:=Hxb HB bb
 clear bb
 go_wp2_with fail
 refine (lits2 2 4 (by decide) (by decide)).mono ?_
 rintro e V2 ⟨A2,c2,es2,rfl,v2,bb⟩
 replace v1:=v1.to bb
 replace HB:=Hxb HB bb
 clear bb
 go_wp2_with fail
 refine (vfirst_v (v1.vi (rats_qm (ns:=[1,5]) (by decide +kernel)) (by decide)) (v2.vi (rats_qm (ns:=[2,4]) (by decide +kernel)) (by decide)) (by decide) (by decide) (by decide) (by decide) (by decide) (o:=some 1) (by decide +kernel)).mono ?_
 rintro e V3 ⟨rfl,bb⟩
 replace HB:=Hxb HB bb
 clear bb v1 v2
 go_wp2_with fail
 refine (lits3 1 0 5 (by decide) (by decide) (by decide)).mono ?_
 rintro e V4 ⟨A4,c4,es4,rfl,v4,bb⟩
 replace HB:=Hxb HB bb
 clear bb
 go_wp2_with fail
 refine (lits1 1 (by decide)).mono ?_
 rintro e V5 ⟨A5,c5,es5,rfl,v5,bb⟩
 replace v4:=v4.to bb
 replace HB:=Hxb HB bb
 clear bb
 go_wp2_with fail
 refine (vcompare_v (v4.vi (rats_qm (ns:=[1,0,5]) (by decide +kernel)) (by decide)) (v5.vi (rats_qm (ns:=[1]) (by decide +kernel)) (by decide)) (by decide) (by decide) (by decide) (by decide) (by decide) (v:=1) (by decide +kernel)).mono ?_
 rintro e V6 ⟨rfl,bb⟩
 replace HB:=Hxb HB bb
 clear bb v4 v5
 go_wp2_with fail
 refine (lits2 0 (-1) (by decide) (by decide)).mono ?_
 rintro e V7 ⟨A7,c7,es7,rfl,v7,bb⟩
 replace HB:=Hxb HB bb
 clear bb
 go_wp2_with fail
 refine (lits1 0 (by decide)).mono ?_
 rintro e V8 ⟨A8,c8,es8,rfl,v8,bb⟩
 replace v7:=v7.to bb
 replace HB:=Hxb HB bb
 clear bb
 go_wp2_with fail
 refine (vcompare_v (v7.vi (rats_qm (ns:=[0,-1]) (by decide +kernel)) (by decide)) (v8.vi (rats_qm (ns:=[0]) (by decide +kernel)) (by decide)) (by decide) (by decide) (by decide) (by decide) (by decide) (v:=-1) (by decide +kernel)).mono ?_
 rintro e V9 ⟨rfl,bb⟩
 replace HB:=Hxb HB bb
 clear bb v7 v8
 go_wp2_with fail
 refine (lits2 1 2 (by decide) (by decide)).mono ?_
 rintro e V10 ⟨A10,c10,es10,rfl,v10,bb⟩
 replace HB:=Hxb HB bb
 clear bb
 go_wp2_with fail
 refine (half_q).mono ?_
 rintro e V11 ⟨x11,y11,u11,t11,rfl,q11,bb⟩
 replace v10:=v10.to bb
 replace HB:=Hxb HB bb
 clear bb
 have o11:=Vc.one q11
 have bb:=(Below.refl V11.heap.size V11).alloc (Nat.le_refl _) (.cells #[x11,y11,u11,t11] 26)
 replace v10:=v10.to bb
 replace HB:=Hxb HB bb
 clear bb q11
 go_wp2_with fail
 refine (vadd_v (v10.vi (rats_qm (ns:=[1,2]) (by decide +kernel)) (by decide)) (o11.vi (k:=2) (fun i=>by match i with|0=>exact half_qm|i+1=>exact Qm.zero (by decide)) (by decide)) (by decide) (by decide) (by decide) (by decide) (by decide)).mono ?_
 rintro e V12 ⟨A12,c12,es12,rfl,s12,bb⟩
 replace HB:=Hxb HB bb
 clear bb v10 o11
 go_wp2_with fail
 refine (rof_q 3 2 (by decide) (by decide) (by decide) (by decide) _).mono ?_
 rintro e V13 ⟨x13,y13,u13,t13,rfl,q13,bb⟩
 replace s12:=s12.to bb
 replace HB:=Hxb HB bb
 clear bb
 go_wp2_with fail
 refine (rint_q 2 (by decide) (by decide) _).mono ?_
 rintro e V14 ⟨x14,y14,u14,t14,rfl,q14,bb⟩
 replace s12:=s12.to bb
 replace q13:=q13.to bb
 replace HB:=Hxb HB bb
 clear bb
 have o14:=Vc.two q13 q14
 have bb:=(Below.refl V14.heap.size V14).alloc (Nat.le_refl _) (.cells #[x13,y13,u13,t13,x14,y14,u14,t14] 26)
 replace s12:=s12.to bb
 replace HB:=Hxb HB bb
 clear bb q13 q14
 go_wp2_with fail
 refine (vis_v s12 o14 (by decide) (v:=true) (by decide +kernel)).mono ?_
 rintro e V15 ⟨rfl,bb⟩
 replace HB:=Hxb HB bb
 clear bb s12 o14
 go_wp2_with fail
 refine (lits3 1 2 3 (by decide) (by decide) (by decide)).mono ?_
 rintro e V16 ⟨A16,c16,es16,rfl,v16,bb⟩
 replace HB:=Hxb HB bb
 clear bb
 go_wp2_with fail
 refine (lits2 4 5 (by decide) (by decide)).mono ?_
 rintro e V17 ⟨A17,c17,es17,rfl,v17,bb⟩
 replace v16:=v16.to bb
 replace HB:=Hxb HB bb
 clear bb
 go_wp2_with fail
 refine (vdot_v (v16.vi (rats_qm (ns:=[1,2,3]) (by decide +kernel)) (by decide)) (v17.vi (rats_qm (ns:=[4,5]) (by decide +kernel)) (by decide)) (by decide) (by decide) (by decide) (by decide) (by decide)).mono ?_
 rintro e V18 ⟨x18,y18,u18,t18,rfl,q18,bb⟩
 replace HB:=Hxb HB bb
 clear bb v16 v17
 go_wp2_with fail
 refine (format_q q18 (k:=2) ⟨sm2_of (by decide +kernel),sm2_of (by decide +kernel)⟩ (by decide) (by decide +kernel) (s:=⟨#[49,52]⟩) (by decide +kernel)).mono ?_
 rintro e V19 ⟨rfl,bb⟩
 replace HB:=Hxb HB bb
 clear bb q18
 go_wp2_with fail
 refine (lits3 1 2 3 (by decide) (by decide) (by decide)).mono ?_
 rintro e V20 ⟨A20,c20,es20,rfl,v20,bb⟩
 replace HB:=Hxb HB bb
 clear bb
 go_wp2_with fail
 refine (vresize_v (v20.vi (rats_qm (ns:=[1,2,3]) (by decide +kernel)) (by decide)) (by decide) (by decide) (n:=2) (by decide)).mono ?_
 rintro e V21 ⟨A21,c21,es21,rfl,s21,bb⟩
 replace HB:=Hxb HB bb
 clear bb v20
 go_wp2_with fail
 refine (lits2 1 2 (by decide) (by decide)).mono ?_
 rintro e V22 ⟨A22,c22,es22,rfl,v22,bb⟩
 replace s21:=s21.to bb
 replace HB:=Hxb HB bb
 clear bb
 go_wp2_with fail
 refine (vis_v s21 v22 (by decide) (v:=true) (by decide +kernel)).mono ?_
 rintro e V23 ⟨rfl,bb⟩
 replace HB:=Hxb HB bb
 clear bb s21 v22
 go_wp2_with fail
 refine (vunit_v (n:=3) (k:=1) (by decide)).mono ?_
 rintro e V24 ⟨A24,c24,es24,rfl,s24,bb⟩
 replace HB:=Hxb HB bb
 clear bb
 go_wp2_with fail
 refine (lits3 0 1 0 (by decide) (by decide) (by decide)).mono ?_
 rintro e V25 ⟨A25,c25,es25,rfl,v25,bb⟩
 replace s24:=s24.to bb
 replace HB:=Hxb HB bb
 clear bb
 go_wp2_with fail
 refine (vis_v s24 v25 (by decide) (v:=true) (by decide +kernel)).mono ?_
 rintro e V26 ⟨rfl,bb⟩
 replace HB:=Hxb HB bb
 clear bb s24 v25
 go_wp2
 go_ret
 exact ⟨rfl,HB.out⟩
end Go.Proofs.YtiifpobhmnplaaaGreat

namespace Go.Proofs.YtiifpobhmnplaaaGreat
open Go.ChangeShapes Go.WideShapes Go.ChangeAt Go.RowKit Go.Joins
theorem cellsZ : Tryz.prog.cellsOf 24=2:=by kernel_rfl
theorem cellsU : Tryz.prog.cellsOf 82=1:=by kernel_rfl
theorem laidOut : laidOutB Tryz.prog=true:=by kernel_rfl
theorem own : ownKnob Tryz.prog.godebug=none:=by kernel_rfl
theorem nats_of {zs:List Int}(h:∀n∈zs,(Lit.int .u32 n).wf=true):∃xs:List Nat,zs=xs.map (fun n:Nat=>(n:Int))/\Dg b32 xs:=by
 induction zs with
 | nil=>exact ⟨[],rfl,fun d hd=>by cases hd⟩
 | cons z zs ih =>
  obtain ⟨xs,rfl,hx⟩:=ih (fun n hn=>h n (List.mem_cons_of_mem _ hn))
  have hz:=h z List.mem_cons_self
  have hz':=bounds_u32 hz
  exact ⟨z.toNat::xs,by simp;omega,Dg.cons (by unfold b32;omega) hx⟩
theorem cellsB : Tryz.prog.cellsOf 4=1:=by kernel_rfl
theorem cellsS : Tryz.prog.cellsOf 22=1:=by kernel_rfl
theorem cellsQ : Tryz.prog.cellsOf 26=4:=by kernel_rfl
def Zx2 (W:World)(x y:Value):Prop:=∃n A c xs,x=.bool n/\y=.slice A xs.length c/\Rd .u32 W W.heap.size A xs/\Dg b32 xs/\xs.length<=c/\c<=9223372036854775807
theorem trod_z {H:Type}{enc:TypeId×Value->H}{W:World}{base:Nat}{spare:Nat->Bool}{held:Bool}{fuel:Nat}{c0 c1:Value}{x:DataW H×List MemPlace}
  (hs:∀b,spare b=true) (h:DataW.trod enc Tryz.prog W base spare held fuel 24 [c0,c1]=some x):Zx2 W c0 c1:=by
 obtain ⟨y0,y1,m,hx,_,h0,h1⟩:=trod_struct2 (f0:=_) (f1:=_) (show Tryz.prog.underlying 24=_ from Tryz.underlying24) h
 replace h0:DataW.trod enc Tryz.prog W base spare held m 4 [c0]=some y0:=by
  rw[show Tryz.prog.cellsOf _=1 from cellsB]at h0
  simpa using h0
 replace h1:DataW.trod enc Tryz.prog W base spare held m 22 [c1]=some y1:=by
  rw[show Tryz.prog.cellsOf _=1 from cellsS]at h1
  simpa using h1
 obtain ⟨n,hc0,_⟩:=DataW.trod_bool Tryz.underlying4 h0
 obtain rfl:c0=.bool n:=by simpa using hc0
 rcases open_ints Tryz.underlying22 Tryz.underlying82 cellsU h1 with ⟨hcs,_⟩|⟨x,l,c,zs,hcs,_,hl,hm,hz,_,hcell,hwz⟩
 .obtain rfl:c1=.slice none 0 0:=by simpa using hcs
  exact ⟨n,none,0,[],rfl,rfl,Rd.nil,Dg.nil,Nat.le_refl _,by decide⟩
 .obtain rfl:c1=.slice (some x) l c:=by simpa using hcs
  rw[hs,if_pos rfl]at hz
  obtain ⟨xs,rfl,hx⟩:=nats_of hwz
  rw[List.length_map]at hz
  have hlen:(xs.take l).length=l:=by rw[List.length_take];omega
  refine ⟨n,some x,c,xs.take l,rfl,by rw[hlen],?_,hx.take l,by rw[hlen];exact hl,Nat.le_trans hm (by decide)⟩
  intro k hk
  rw[hlen]at hk
  obtain ⟨b,off,rfl,hc⟩:=Go.ints_at hcell (by rw[List.length_map];omega)
  have hck:=hc k (by rw[List.length_map];omega)
  refine ⟨b,off,rfl,World.block_lt_of_cell? W _ hck,?_⟩
  rw[hck]
  have hk':k<xs.length:=by omega
  simp[hk']
theorem array4 {α:Type}{cs:Array α}(h:cs.size=4):∃c0 c1 c2 c3,cs=#[c0,c1,c2,c3]:=by
 obtain ⟨l⟩:=cs
 match l,h with
 | [c0,c1,c2,c3],_=>exact ⟨c0,c1,c2,c3,rfl⟩
theorem trod_q {H:Type}{enc:TypeId×Value->H}{W:World}{base:Nat}{spare:Nat->Bool}{held:Bool}{fuel:Nat}{c0 c1 c2 c3:Value}{x:DataW H×List MemPlace}
  (hs:∀b,spare b=true) (h:DataW.trod enc Tryz.prog W base spare held fuel 26 [c0,c1,c2,c3]=some x):Zx2 W c0 c1/\Zx2 W c2 c3:=by
 obtain ⟨y0,y1,m,hx,_,h0,h1⟩:=trod_struct2 (f0:=_) (f1:=_) (show Tryz.prog.underlying 26=_ from Tryz.underlying26) h
 replace h0:DataW.trod enc Tryz.prog W base spare held m 24 [c0,c1]=some y0:=by
  rw[show Tryz.prog.cellsOf _=2 from cellsZ]at h0
  simpa using h0
 replace h1:DataW.trod enc Tryz.prog W base spare held m 24 [c2,c3]=some y1:=by
  rw[show Tryz.prog.cellsOf _=2 from cellsZ]at h1
  simpa using h1
 exact ⟨trod_z hs h0,trod_z hs h1⟩
theorem open_q {H:Type}{enc:TypeId×Value->H}{W:World}{base:Nat}{spare:Nat->Bool}{held:Bool}{r:Reach}{b0:Nat}{v:Value}{d:DataW H}{p:List MemPlace}
  (hs:∀b,spare b=true) (hv:Value.okWide Tryz.prog W r b0 26 v) (h:DataW.Trod enc Tryz.prog W base spare held 26 v d p) :
  ∃c0 c1 c2 c3,v=.agg #[c0,c1,c2,c3]/\Zx2 W c0 c1/\Zx2 W c2 c3:=by
 obtain ⟨cs,rfl,hsz⟩:=okWide_struct Tryz.underlying26 hv
 obtain ⟨c0,c1,c2,c3,rfl⟩:=array4 (hsz.trans cellsQ)
 obtain ⟨fuel,hf⟩:=h
 exact ⟨c0,c1,c2,c3,rfl,trod_q hs hf⟩
end Go.Proofs.YtiifpobhmnplaaaGreat
