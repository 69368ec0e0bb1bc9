/- Parts: 9. -/
import Derived.Test.YtglhdielkkhefaaGreatMl1
import Derived.Test.YtglhdielkkhefaaGreatMl3
import Derived.Deep.RegionHeld3
import Derived.Laws.EntriesVeiled
set_option linter.unusedVariables false
set_option linter.unusedSimpArgs false
set_option maxRecDepth 100000
set_option maxHeartbeats 40000000

namespace Go.Proofs.YtglhdielkkhefaaGreat
open Go.RowKit Go.Shelf
theorem trim_q {A:Option Addr}{c:Nat}{xs:List Nat}{w:World}(h:Arg w A c xs) :
  Calls Tryz.prog 119 #[.slice A xs.length c] w fun e w'=>e=.returned (.slice A (trimL xs).length c)/\w'=w:=(trim_l h).mono fun _ _ ⟨h1,h2⟩=>⟨h1,h2.symm⟩
theorem clone_l {A:Option Addr}{c:Nat}{xs:List Nat}{w:World}(h:Arg w A c xs) :
  Calls Tryz.prog 156 #[.slice A xs.length c] w fun e w'=>∃A1 c1,e=.returned (.slice A1 xs.length c1)/\Rd .u32 w' w'.heap.size A1 xs/\xs.length<=c1/\c1<=9223372036854775807/\Below w.heap.size w w':=by
 refine (clone_any c h.rd (by have:=h.small;omega)).mono ?_;rintro e w' ⟨v,rfl,hown,hb⟩;obtain ⟨A1,c1,rfl,h1,h2,h3⟩:=Sl.of_own hown;exact ⟨A1,c1,rfl,h1,h2,h3,hb⟩
theorem two_lt {xs:List Nat}(hd:Dg b32 xs)(h:(trimL xs).length<=2):val b32 (trimL xs)<18446744073709551616:=by
 have h1:=val_lt (hd.take (trimN xs));have h2:b32 ^ (trimL xs).length<=b32 ^ 2:=Nat.pow_le_pow_right (by decide) h;have h3:b32 ^ 2=18446744073709551616:=by decide
 unfold trimL at h2 ⊢;omega
theorem gcd_lt {a b:Nat}(ha:a<18446744073709551616)(hb:b<18446744073709551616):Nat.gcd a b<18446744073709551616:=by
 rcases Nat.eq_zero_or_pos a with h|h
 .subst h;rw[Nat.gcd_zero_left];exact hb
 .exact Nat.lt_of_le_of_lt (Nat.gcd_le_left b h) ha
theorem gcd_a (na nb:Bool){A A':Option Addr}{c c':Nat}{xs ys:List Nat}{w:World}(hx:Arg w A c xs)(hy:Arg w A' c' ys)(hxl:(trimL xs).length<=2)(hyl:(trimL ys).length<=2)(hlt:val b32 ys<=val b32 xs)(hz:0<val b32 ys) :
  Calls Tryz.prog 122 #[.agg #[.bool na,.slice A xs.length c],.agg #[.bool nb,.slice A' ys.length c']] w (ZRet w (Nat.gcd (val b32 xs) (val b32 ys):Nat)):=by
 have HX:=Hd hx;have HY:=Hd hy;have HLT:=Hd hlt;have HZ:=Hd hz
 have hlen:((trimL ys).length=0)↔val b32 ys=0:=by
  rw[trimL_dig b32_one hy.dg];exact ⟨fun h=>(dig_nil b32_one).1 (List.eq_nil_of_length_eq_zero h),fun h=>by rw[h];rfl⟩
 have hq:((((trimL ys).length:Nat):Int)==0)=false:=by
  have:(trimL ys).length≠0:=fun h=>by have:=hlen.1 h;omega
  rw[beq_eq_false_iff_ne];omega
 clear hx hy hlt hz hlen;obtain ⟨W0,hW0⟩:∃W0,W0=((w.alloc (.cells #[.bool na,.slice A xs.length c] 30)).alloc (.cells #[.bool nb,.slice A' ys.length c'] 30)).alloc (.cells #[.bool false,.slice none 0 0] 30):=⟨_,rfl⟩
 have hb:Below w.heap.size w W0:=by rw[hW0];exact (bRR.alloc (by simp) _).alloc (by simp;omega) _
 have tX:Zat W0 w.heap.size (.bool na) (.slice A xs.length c):=by rw[hW0];exact ((Zat.new w _ _).alloc _).alloc _
 have tY:Zat W0 (w.heap.size+1) (.bool nb) (.slice A' ys.length c'):=by
  have h:=Zat.new (w.alloc (.cells #[.bool na,.slice A xs.length c] 30)) (.bool nb) (.slice A' ys.length c');rw[szA]at h;rw[hW0];exact h.alloc _
 have tR:Zat W0 (w.heap.size+1+1) (.bool false) (.slice none 0 0):=by
  have h:=Zat.new ((w.alloc (.cells #[.bool na,.slice A xs.length c] 30)).alloc (.cells #[.bool nb,.slice A' ys.length c'] 30)) (.bool false) (.slice none 0 0);rw[szA,szA]at h;rw[hW0];exact h
 have q1:=tX.two.c1;have q2:=tY.two.c1;have HW0:=Hd hW0;clear hW0
 go_enter Tryz.func122,Tryz.ntmps122
 go_wp2_with fail
 rw[<-HW0.out]
 go_quiet ((first|(go_at_call 119;with_reducible exact Calls.quiet_of_same (trim_q (HX.out.to (hb.trans (bel_drewN (Below.refl _ _) _)))))|(go_at_call 119;with_reducible exact Calls.quiet_of_same (trim_q (HY.out.to (hb.trans (bel_drewN (Below.refl _ _) _)))))))
 rename_i nq
 have hb1:Below w.heap.size w (W0.drewN nq):=bel_drewN hb _;have tR1:Zat (W0.drewN nq) (w.heap.size+1+1) (.bool false) (.slice none 0 0):=tR;generalize W0.drewN nq=W1 at hb1 tR1 ⊢;clear q1 q2 tX tY tR hb HW0
 go_wp2_with fail
 refine (compare_l (HX.out.to hb1) (HY.out.to hb1)).mono ?_;obtain ⟨cv,hcv,hcv0⟩:∃cv,cmpN (val b32 xs) (val b32 ys)=cv/\0<=cv:=⟨_,rfl,by have:=HLT.out;unfold cmpN;split<;>(try split)<;>omega⟩
 rw[hcv];clear hcv;rintro e w1 ⟨rfl,hb2⟩;have hb3:=Bxb hb1 hb2;have tR3:Two w1 (w.heap.size+1+1) _ _:=tR1.two.to hb2;clear hb1 tR1 hb2
 have HG1:Hid (Nat.gcd (val b32 (trimL xs)) (val b32 (trimL ys))=Nat.gcd (val b32 xs) (val b32 ys)):=by
  show _=_
  rw[val_trimL,val_trimL]
 have lx:=two_lt HX.out.dg (by assumption);have ly:=two_lt HY.out.dg (by assumption);have U1:=Hd (toUint64_any (c:=c) (HX.out.to hb3).trim.rd HX.out.trim.dg (by assumption));have U2:=Hd (toUint64_any (c:=c') (HY.out.to hb3).trim.rd HY.out.trim.dg (by assumption));have HG0:=gcd_lt lx ly;have S1:=Hd (smallGCD_any _ _ w1 lx ly);rw[HG1.out]at S1 HG0;obtain ⟨g,eg⟩:∃g:Nat,Hid (Nat.gcd (val b32 xs) (val b32 ys)=g):=⟨_,rfl⟩
 rw[eg.out]at S1 HG0 ⊢;clear HG1 lx ly
 go_wp2_with fail
 refine U1.out.mono ?_;rintro e w' ⟨rfl,rfl⟩
 go_wp2_with fail
 refine U2.out.mono ?_;rintro e w' ⟨rfl,rfl⟩
 go_wp2_with fail
 refine S1.out.mono ?_;rintro e w' ⟨rfl,dn,rfl⟩
 go_wp2_with fail
 refine (toWords_l g HG0 _).mono ?_;rintro e w2 ⟨A1,c1,rfl,r1,r2,r3,hb4⟩;have HI:=Hd (integer_l false r1 (Dg_dig b32_one g) r2 r3);rw[val_dig b32_one,show zof false g=((g:Nat):Int) from rfl]at HI;have tR4:=(tR3.to (bel_drewN (Below.refl _ _) dn)).to hb4;have HB:=Hd ((bel_drewN hb3 dn).trans (hb4.mono hb3.size));clear r1 hb4 hb3 tR3;obtain ⟨z,ez⟩:∃z:Int,Hid (((g:Nat):Int)=z):=⟨_,rfl⟩
 rw[ez.out]at HI ⊢
 go_wp2_with fail
 refine HI.out.mono ?_;rintro e w3 ⟨A3,c3,rfl,s1,s2,s3,hb5⟩;obtain ⟨q1,q2,q3,q4,q5⟩:=tR4.to hb5;have S2:=Hd s1;have HB3:=Hxb HB hb5;clear s1 hb5 tR4;go_wp2
 have tF:=(⟨q1,q2,q3,q4,q5⟩:Two w3 (w.heap.size+1+1) _ _).set (.bool (decide (z<0))) (.slice A3 (dig b32 z.natAbs).length c3);refine bodyPost_ret (v:=.agg #[.bool (decide (z<0)),.slice A3 (dig b32 z.natAbs).length c3]) (by simp[results,Tryz.f122,go_sem,tF.c0,tF.c1]) rfl ?_;rw[eg.out,ez.out];exact zret_stored ⟨q1,q2,q3,q4,q5⟩ (by omega) S2.out s2 s3 HB3.out
theorem gcd_b (na nb:Bool){A A':Option Addr}{c c':Nat}{xs ys:List Nat}{w:World}(hx:Arg w A c xs)(hy:Arg w A' c' ys)(hxl:(trimL xs).length<=2)(hyl:(trimL ys).length<=2)(hlt:val b32 ys<=val b32 xs)(hz:val b32 ys=0) :
  Calls Tryz.prog 122 #[.agg #[.bool na,.slice A xs.length c],.agg #[.bool nb,.slice A' ys.length c']] w (ZRet w (Nat.gcd (val b32 xs) (val b32 ys):Nat)):=by
 have HX:=Hd hx;have HY:=Hd hy;have HLT:=Hd hlt;have HZ:=Hd hz
 have hlen:((trimL ys).length=0)↔val b32 ys=0:=by
  rw[trimL_dig b32_one hy.dg];exact ⟨fun h=>(dig_nil b32_one).1 (List.eq_nil_of_length_eq_zero h),fun h=>by rw[h];rfl⟩
 have hq:((((trimL ys).length:Nat):Int)==0)=true:=by
  rw[hlen.2 hz];rfl
 clear hx hy hlt hz hlen;obtain ⟨W0,hW0⟩:∃W0,W0=((w.alloc (.cells #[.bool na,.slice A xs.length c] 30)).alloc (.cells #[.bool nb,.slice A' ys.length c'] 30)).alloc (.cells #[.bool false,.slice none 0 0] 30):=⟨_,rfl⟩
 have hb:Below w.heap.size w W0:=by rw[hW0];exact (bRR.alloc (by simp) _).alloc (by simp;omega) _
 have tX:Zat W0 w.heap.size (.bool na) (.slice A xs.length c):=by rw[hW0];exact ((Zat.new w _ _).alloc _).alloc _
 have tY:Zat W0 (w.heap.size+1) (.bool nb) (.slice A' ys.length c'):=by
  have h:=Zat.new (w.alloc (.cells #[.bool na,.slice A xs.length c] 30)) (.bool nb) (.slice A' ys.length c');rw[szA]at h;rw[hW0];exact h.alloc _
 have tR:Zat W0 (w.heap.size+1+1) (.bool false) (.slice none 0 0):=by
  have h:=Zat.new ((w.alloc (.cells #[.bool na,.slice A xs.length c] 30)).alloc (.cells #[.bool nb,.slice A' ys.length c'] 30)) (.bool false) (.slice none 0 0);rw[szA,szA]at h;rw[hW0];exact h
 have q1:=tX.two.c1;have q2:=tY.two.c1;have HW0:=Hd hW0;clear hW0
 go_enter Tryz.func122,Tryz.ntmps122
 go_wp2_with fail
 rw[<-HW0.out]
 go_quiet ((first|(go_at_call 119;with_reducible exact Calls.quiet_of_same (trim_q (HX.out.to (hb.trans (bel_drewN (Below.refl _ _) _)))))|(go_at_call 119;with_reducible exact Calls.quiet_of_same (trim_q (HY.out.to (hb.trans (bel_drewN (Below.refl _ _) _)))))))
 rename_i nq
 have hb1:Below w.heap.size w (W0.drewN nq):=bel_drewN hb _;have tR1:Zat (W0.drewN nq) (w.heap.size+1+1) (.bool false) (.slice none 0 0):=tR;generalize W0.drewN nq=W1 at hb1 tR1 ⊢;clear q1 q2 tX tY tR hb HW0
 go_wp2_with fail
 refine (compare_l (HX.out.to hb1) (HY.out.to hb1)).mono ?_;obtain ⟨cv,hcv,hcv0⟩:∃cv,cmpN (val b32 xs) (val b32 ys)=cv/\0<=cv:=⟨_,rfl,by have:=HLT.out;unfold cmpN;split<;>(try split)<;>omega⟩
 rw[hcv];clear hcv;rintro e w1 ⟨rfl,hb2⟩;have hb3:=Bxb hb1 hb2;have tR3:Two w1 (w.heap.size+1+1) _ _:=tR1.two.to hb2;clear hb1 tR1 hb2
 have HG:Hid (zof false (val b32 (trimL xs))=((Nat.gcd (val b32 xs) (val b32 ys):Nat):Int)):=by
  have h:=HZ.out
  show _=_
  rw[val_trimL,h];simp[zof]
 go_wp2_with fail
 refine (clone_l (HX.out.to hb3).trim).mono ?_;rintro e w2 ⟨A1,c1,rfl,r1,r2,r3,hb4⟩;have HI:=Hd (integer_l false r1 HX.out.trim.dg r2 r3);rw[HG.out]at HI;have tR4:=tR3.to hb4;have HB:=Hd (Bxb hb3 hb4);clear r1 hb4 hb3 tR3;obtain ⟨z,ez⟩:∃z:Int,Hid (((Nat.gcd (val b32 xs) (val b32 ys):Nat):Int)=z):=⟨_,rfl⟩
 rw[ez.out]at HI ⊢
 go_wp2_with fail
 refine HI.out.mono ?_;rintro e w3 ⟨A3,c3,rfl,s1,s2,s3,hb5⟩;obtain ⟨q1,q2,q3,q4,q5⟩:=tR4.to hb5;have S2:=Hd s1;have HB3:=Hxb HB hb5;clear s1 hb5 tR4;go_wp2
 have tF:=(⟨q1,q2,q3,q4,q5⟩:Two w3 (w.heap.size+1+1) _ _).set (.bool (decide (z<0))) (.slice A3 (dig b32 z.natAbs).length c3);refine bodyPost_ret (v:=.agg #[.bool (decide (z<0)),.slice A3 (dig b32 z.natAbs).length c3]) (by simp[results,Tryz.f122,go_sem,tF.c0,tF.c1]) rfl ?_;rw[ez.out];exact zret_stored ⟨q1,q2,q3,q4,q5⟩ (by omega) S2.out s2 s3 HB3.out
theorem gcd_c (na nb:Bool){A A':Option Addr}{c c':Nat}{xs ys:List Nat}{w:World}(hx:Arg w A c xs)(hy:Arg w A' c' ys)(hxl:(trimL xs).length<=2)(hyl:(trimL ys).length<=2)(hlt:val b32 xs<val b32 ys)(hz:0<val b32 xs) :
  Calls Tryz.prog 122 #[.agg #[.bool na,.slice A xs.length c],.agg #[.bool nb,.slice A' ys.length c']] w (ZRet w (Nat.gcd (val b32 xs) (val b32 ys):Nat)):=by
 have HX:=Hd hx;have HY:=Hd hy;have HLT:=Hd hlt;have HZ:=Hd hz
 have hlen:((trimL xs).length=0)↔val b32 xs=0:=by
  rw[trimL_dig b32_one hx.dg];exact ⟨fun h=>(dig_nil b32_one).1 (List.eq_nil_of_length_eq_zero h),fun h=>by rw[h];rfl⟩
 have hq:((((trimL xs).length:Nat):Int)==0)=false:=by
  have:(trimL xs).length≠0:=fun h=>by have:=hlen.1 h;omega
  rw[beq_eq_false_iff_ne];omega
 clear hx hy hlt hz hlen;obtain ⟨W0,hW0⟩:∃W0,W0=((w.alloc (.cells #[.bool na,.slice A xs.length c] 30)).alloc (.cells #[.bool nb,.slice A' ys.length c'] 30)).alloc (.cells #[.bool false,.slice none 0 0] 30):=⟨_,rfl⟩
 have hb:Below w.heap.size w W0:=by rw[hW0];exact (bRR.alloc (by simp) _).alloc (by simp;omega) _
 have tX:Zat W0 w.heap.size (.bool na) (.slice A xs.length c):=by rw[hW0];exact ((Zat.new w _ _).alloc _).alloc _
 have tY:Zat W0 (w.heap.size+1) (.bool nb) (.slice A' ys.length c'):=by
  have h:=Zat.new (w.alloc (.cells #[.bool na,.slice A xs.length c] 30)) (.bool nb) (.slice A' ys.length c');rw[szA]at h;rw[hW0];exact h.alloc _
 have tR:Zat W0 (w.heap.size+1+1) (.bool false) (.slice none 0 0):=by
  have h:=Zat.new ((w.alloc (.cells #[.bool na,.slice A xs.length c] 30)).alloc (.cells #[.bool nb,.slice A' ys.length c'] 30)) (.bool false) (.slice none 0 0);rw[szA,szA]at h;rw[hW0];exact h
 have q1:=tX.two.c1;have q2:=tY.two.c1;have HW0:=Hd hW0;clear hW0
 go_enter Tryz.func122,Tryz.ntmps122
 go_wp2_with fail
 rw[<-HW0.out]
 go_quiet ((first|(go_at_call 119;with_reducible exact Calls.quiet_of_same (trim_q (HX.out.to (hb.trans (bel_drewN (Below.refl _ _) _)))))|(go_at_call 119;with_reducible exact Calls.quiet_of_same (trim_q (HY.out.to (hb.trans (bel_drewN (Below.refl _ _) _)))))))
 rename_i nq
 have hb1:Below w.heap.size w (W0.drewN nq):=bel_drewN hb _;have tR1:Zat (W0.drewN nq) (w.heap.size+1+1) (.bool false) (.slice none 0 0):=tR;generalize W0.drewN nq=W1 at hb1 tR1 ⊢;clear q1 q2 tX tY tR hb HW0
 go_wp2_with fail
 refine (compare_l (HX.out.to hb1) (HY.out.to hb1)).mono ?_;rw[cmpN_lt HLT.out];rintro e w1 ⟨rfl,hb2⟩;have hb3:=Bxb hb1 hb2;have tR3:Two w1 (w.heap.size+1+1) _ _:=tR1.two.to hb2;clear hb1 tR1 hb2
 have HG1:Hid (Nat.gcd (val b32 (trimL ys)) (val b32 (trimL xs))=Nat.gcd (val b32 xs) (val b32 ys)):=by
  show _=_
  rw[val_trimL,val_trimL];exact Nat.gcd_comm _ _
 have lx:=two_lt HY.out.dg (by assumption);have ly:=two_lt HX.out.dg (by assumption);have U1:=Hd (toUint64_any (c:=c') (HY.out.to hb3).trim.rd HY.out.trim.dg (by assumption));have U2:=Hd (toUint64_any (c:=c) (HX.out.to hb3).trim.rd HX.out.trim.dg (by assumption));have HG0:=gcd_lt lx ly;have S1:=Hd (smallGCD_any _ _ w1 lx ly);rw[HG1.out]at S1 HG0;obtain ⟨g,eg⟩:∃g:Nat,Hid (Nat.gcd (val b32 xs) (val b32 ys)=g):=⟨_,rfl⟩
 rw[eg.out]at S1 HG0 ⊢;clear HG1 lx ly
 go_wp2_with fail
 refine U1.out.mono ?_;rintro e w' ⟨rfl,rfl⟩
 go_wp2_with fail
 refine U2.out.mono ?_;rintro e w' ⟨rfl,rfl⟩
 go_wp2_with fail
 refine S1.out.mono ?_;rintro e w' ⟨rfl,dn,rfl⟩
 go_wp2_with fail
 refine (toWords_l g HG0 _).mono ?_;rintro e w2 ⟨A1,c1,rfl,r1,r2,r3,hb4⟩;have HI:=Hd (integer_l false r1 (Dg_dig b32_one g) r2 r3);rw[val_dig b32_one,show zof false g=((g:Nat):Int) from rfl]at HI;have tR4:=(tR3.to (bel_drewN (Below.refl _ _) dn)).to hb4;have HB:=Hd ((bel_drewN hb3 dn).trans (hb4.mono hb3.size));clear r1 hb4 hb3 tR3;obtain ⟨z,ez⟩:∃z:Int,Hid (((g:Nat):Int)=z):=⟨_,rfl⟩
 rw[ez.out]at HI ⊢
 go_wp2_with fail
 refine HI.out.mono ?_;rintro e w3 ⟨A3,c3,rfl,s1,s2,s3,hb5⟩;obtain ⟨q1,q2,q3,q4,q5⟩:=tR4.to hb5;have S2:=Hd s1;have HB3:=Hxb HB hb5;clear s1 hb5 tR4;go_wp2
 have tF:=(⟨q1,q2,q3,q4,q5⟩:Two w3 (w.heap.size+1+1) _ _).set (.bool (decide (z<0))) (.slice A3 (dig b32 z.natAbs).length c3);refine bodyPost_ret (v:=.agg #[.bool (decide (z<0)),.slice A3 (dig b32 z.natAbs).length c3]) (by simp[results,Tryz.f122,go_sem,tF.c0,tF.c1]) rfl ?_;rw[eg.out,ez.out];exact zret_stored ⟨q1,q2,q3,q4,q5⟩ (by omega) S2.out s2 s3 HB3.out
theorem gcd_d (na nb:Bool){A A':Option Addr}{c c':Nat}{xs ys:List Nat}{w:World}(hx:Arg w A c xs)(hy:Arg w A' c' ys)(hxl:(trimL xs).length<=2)(hyl:(trimL ys).length<=2)(hlt:val b32 xs<val b32 ys)(hz:val b32 xs=0) :
  Calls Tryz.prog 122 #[.agg #[.bool na,.slice A xs.length c],.agg #[.bool nb,.slice A' ys.length c']] w (ZRet w (Nat.gcd (val b32 xs) (val b32 ys):Nat)):=by
 have HX:=Hd hx;have HY:=Hd hy;have HLT:=Hd hlt;have HZ:=Hd hz
 have hlen:((trimL xs).length=0)↔val b32 xs=0:=by
  rw[trimL_dig b32_one hx.dg];exact ⟨fun h=>(dig_nil b32_one).1 (List.eq_nil_of_length_eq_zero h),fun h=>by rw[h];rfl⟩
 have hq:((((trimL xs).length:Nat):Int)==0)=true:=by
  rw[hlen.2 hz];rfl
 clear hx hy hlt hz hlen;obtain ⟨W0,hW0⟩:∃W0,W0=((w.alloc (.cells #[.bool na,.slice A xs.length c] 30)).alloc (.cells #[.bool nb,.slice A' ys.length c'] 30)).alloc (.cells #[.bool false,.slice none 0 0] 30):=⟨_,rfl⟩
 have hb:Below w.heap.size w W0:=by rw[hW0];exact (bRR.alloc (by simp) _).alloc (by simp;omega) _
 have tX:Zat W0 w.heap.size (.bool na) (.slice A xs.length c):=by rw[hW0];exact ((Zat.new w _ _).alloc _).alloc _
 have tY:Zat W0 (w.heap.size+1) (.bool nb) (.slice A' ys.length c'):=by
  have h:=Zat.new (w.alloc (.cells #[.bool na,.slice A xs.length c] 30)) (.bool nb) (.slice A' ys.length c');rw[szA]at h;rw[hW0];exact h.alloc _
 have tR:Zat W0 (w.heap.size+1+1) (.bool false) (.slice none 0 0):=by
  have h:=Zat.new ((w.alloc (.cells #[.bool na,.slice A xs.length c] 30)).alloc (.cells #[.bool nb,.slice A' ys.length c'] 30)) (.bool false) (.slice none 0 0);rw[szA,szA]at h;rw[hW0];exact h
 have q1:=tX.two.c1;have q2:=tY.two.c1;have HW0:=Hd hW0;clear hW0
 go_enter Tryz.func122,Tryz.ntmps122
 go_wp2_with fail
 rw[<-HW0.out]
 go_quiet ((first|(go_at_call 119;with_reducible exact Calls.quiet_of_same (trim_q (HX.out.to (hb.trans (bel_drewN (Below.refl _ _) _)))))|(go_at_call 119;with_reducible exact Calls.quiet_of_same (trim_q (HY.out.to (hb.trans (bel_drewN (Below.refl _ _) _)))))))
 rename_i nq
 have hb1:Below w.heap.size w (W0.drewN nq):=bel_drewN hb _;have tR1:Zat (W0.drewN nq) (w.heap.size+1+1) (.bool false) (.slice none 0 0):=tR;generalize W0.drewN nq=W1 at hb1 tR1 ⊢;clear q1 q2 tX tY tR hb HW0
 go_wp2_with fail
 refine (compare_l (HX.out.to hb1) (HY.out.to hb1)).mono ?_;rw[cmpN_lt HLT.out];rintro e w1 ⟨rfl,hb2⟩;have hb3:=Bxb hb1 hb2;have tR3:Two w1 (w.heap.size+1+1) _ _:=tR1.two.to hb2;clear hb1 tR1 hb2
 have HG:Hid (zof false (val b32 (trimL ys))=((Nat.gcd (val b32 xs) (val b32 ys):Nat):Int)):=by
  have h:=HZ.out
  show _=_
  rw[val_trimL,h];simp[zof]
 go_wp2_with fail
 refine (clone_l (HY.out.to hb3).trim).mono ?_;rintro e w2 ⟨A1,c1,rfl,r1,r2,r3,hb4⟩;have HI:=Hd (integer_l false r1 HY.out.trim.dg r2 r3);rw[HG.out]at HI;have tR4:=tR3.to hb4;have HB:=Hd (Bxb hb3 hb4);clear r1 hb4 hb3 tR3;obtain ⟨z,ez⟩:∃z:Int,Hid (((Nat.gcd (val b32 xs) (val b32 ys):Nat):Int)=z):=⟨_,rfl⟩
 rw[ez.out]at HI ⊢
 go_wp2_with fail
 refine HI.out.mono ?_;rintro e w3 ⟨A3,c3,rfl,s1,s2,s3,hb5⟩;obtain ⟨q1,q2,q3,q4,q5⟩:=tR4.to hb5;have S2:=Hd s1;have HB3:=Hxb HB hb5;clear s1 hb5 tR4;go_wp2
 have tF:=(⟨q1,q2,q3,q4,q5⟩:Two w3 (w.heap.size+1+1) _ _).set (.bool (decide (z<0))) (.slice A3 (dig b32 z.natAbs).length c3);refine bodyPost_ret (v:=.agg #[.bool (decide (z<0)),.slice A3 (dig b32 z.natAbs).length c3]) (by simp[results,Tryz.f122,go_sem,tF.c0,tF.c1]) rfl ?_;rw[ez.out];exact zret_stored ⟨q1,q2,q3,q4,q5⟩ (by omega) S2.out s2 s3 HB3.out
theorem gcd_small (na nb:Bool){A A':Option Addr}{c c':Nat}{xs ys:List Nat}{w:World}(hx:Arg w A c xs)(hy:Arg w A' c' ys)(hxl:(trimL xs).length<=2)(hyl:(trimL ys).length<=2) :
  Calls Tryz.prog 122 #[.agg #[.bool na,.slice A xs.length c],.agg #[.bool nb,.slice A' ys.length c']] w (ZRet w (Nat.gcd (val b32 xs) (val b32 ys):Nat)):=by
 rcases Nat.lt_or_ge (val b32 xs) (val b32 ys) with h|h
 .rcases Nat.eq_zero_or_pos (val b32 xs) with h0|h0
  .exact gcd_d na nb hx hy hxl hyl h h0
  .exact gcd_c na nb hx hy hxl hyl h h0
 .rcases Nat.eq_zero_or_pos (val b32 ys) with h0|h0
  .exact gcd_b na nb hx hy hxl hyl h h0
  .exact gcd_a na nb hx hy hxl hyl h h0
def DivRet (w:World)(q m:Nat)(e:Ending)(w':World):Prop:=∃A1 c1 rs A2 c2,e=.returned (.tuple #[.slice A1 (dig b32 q).length c1,.slice A2 rs.length c2])/\Rd .u32 w' w'.heap.size A1 (dig b32 q)/\Rd .u32 w' w'.heap.size A2 rs /\
 Dg b32 rs/\val b32 rs=m/\(dig b32 q).length<=c1/\c1<=9223372036854775807/\rs.length<=c2/\c2<=9223372036854775807/\rs.length<=4294967295/\Below w.heap.size w w'
theorem div_res {w w':World}{q m Q M:Nat}{A1 A2:Option Addr}{c1 c2:Nat}(s1:(dig b32 q).length<=c1)(t1:c1<=9223372036854775807)(s2:(dig b32 m).length<=c2)(t2:c2<=9223372036854775807)(h1:Rd .u32 w' w'.heap.size A1 (dig b32 q))(h2:Rd .u32 w' w'.heap.size A2 (dig b32 m))
  (hb:Below w.heap.size w w') (hQ:q=Q/\q<18446744073709551616) (hM:m=M/\m<18446744073709551616):DivRet w Q M (.returned (.tuple #[.slice A1 (dig b32 q).length c1,.slice A2 (dig b32 m).length c2])) w':=by
 obtain ⟨rfl,_⟩:=hQ;obtain ⟨rfl,hm⟩:=hM;have h3:b32 ^ 2=18446744073709551616:=by decide
 have hl:(dig b32 m).length<=2:=dig_length_le b32_one (by rw[h3];exact hm);exact ⟨A1,c1,_,A2,c2,rfl,h1,h2,Dg_dig b32_one m,val_dig b32_one m,s1,t1,s2,t2,by omega,hb⟩
theorem divide_less {A A':Option Addr}{c c':Nat}{xs ys:List Nat}{w:World}(hx:Arg w A c xs)(hy:Arg w A' c' ys)(tx:trimL xs=xs)(ty:trimL ys=ys)(hlt:val b32 xs<val b32 ys) :
  Calls Tryz.prog 157 #[.slice A xs.length c,.slice A' ys.length c'] w (DivRet w (val b32 xs / val b32 ys) (val b32 xs % val b32 ys)):=by
 have HC:=Hd (compare_l hx hy);rw[tx,ty,cmpN_lt hlt]at HC;have HQ:Hid (val b32 xs / val b32 ys=0):=Nat.div_eq_of_lt hlt;have HM:Hid (val b32 xs % val b32 ys=val b32 xs):=Nat.mod_eq_of_lt hlt;have HX:=Hd hx;clear hx hy tx ty hlt
 go_enter Tryz.func157,Tryz.ntmps157
 go_wp2_with fail
 refine HC.out.mono ?_;rintro e w1 ⟨rfl,hb1⟩
 go_wp2_with fail
 refine (clone_l (HX.out.to hb1)).mono ?_;rintro e w2 ⟨A1,c1,rfl,r1,r2,r3,hb2⟩
 have HR:Hid (DivRet w (val b32 xs / val b32 ys) (val b32 xs % val b32 ys) (.returned (.tuple #[.slice none 0 0,.slice A1 xs.length c1])) w2):=by
  show DivRet _ _ _ _ _
  rw[HQ.out,HM.out];exact ⟨none,0,xs,A1,c1,rfl,Rd.nil,r1,HX.out.dg,rfl,by simp[dig_zero],by omega,r2,r3,HX.out.small,Bxb hb1 hb2⟩
 clear r1 hb1 hb2;go_wp2
 go_ret2
 exact HR.out
theorem divide_two {A A':Option Addr}{c c':Nat}{xs ys:List Nat}{w:World}(hx:Arg w A c xs)(hy:Arg w A' c' ys)(tx:trimL xs=xs)(ty:trimL ys=ys)(hlt:val b32 ys<=val b32 xs)(h0:0<val b32 ys)(hl:xs.length<=2)(hl':ys.length<=2) :
  Calls Tryz.prog 157 #[.slice A xs.length c,.slice A' ys.length c'] w (DivRet w (val b32 xs / val b32 ys) (val b32 xs % val b32 ys)):=by
 have HC:=Hd (compare_l hx hy);rw[tx,ty]at HC;obtain ⟨cv,hcv,hcv0⟩:∃cv,cmpN (val b32 xs) (val b32 ys)=cv/\0<=cv:=⟨_,rfl,by unfold cmpN;split<;>(try split)<;>omega⟩
 rw[hcv]at HC;clear hcv;have lx:=two_lt hx.dg (by rw[tx];exact hl);have ly:=two_lt hy.dg (by rw[ty];exact hl');rw[tx]at lx;rw[ty]at ly;have HX:=Hd hx;have HY:=Hd hy;obtain ⟨u,eu⟩:∃u:Nat,Hid (val b32 xs=u):=⟨_,rfl⟩
 obtain ⟨v,ev⟩:∃v:Nat,Hid (val b32 ys=v):=⟨_,rfl⟩
 rw[eu.out]at lx;rw[ev.out]at ly h0;obtain ⟨q,eq⟩:∃q:Nat,Hid (u / v=q):=⟨_,rfl⟩
 obtain ⟨m,em⟩:∃m:Nat,Hid (u % v=m):=⟨_,rfl⟩
 have hq64:q<18446744073709551616:=by rw[<-eq.out];exact Nat.lt_of_le_of_lt (Nat.div_le_self u v) lx
 have hm64:m<18446744073709551616:=by rw[<-em.out];exact Nat.lt_of_le_of_lt (Nat.mod_le u v) lx
 have HQ:Hid (q=val b32 xs / val b32 ys/\q<18446744073709551616):=⟨by rw[eu.out,ev.out,eq.out],hq64⟩
 have HM:Hid (m=val b32 xs % val b32 ys/\m<18446744073709551616):=⟨by rw[eu.out,ev.out,em.out],hm64⟩
 have G1:Hid ((u:Int).tdiv (v:Int)=(q:Nat)):=by show _=_;rw[Int.tdiv_eq_ediv_of_nonneg (by omega),<-eq.out];simp
 have G2:Hid ((u:Int).tmod (v:Int)=(m:Nat)):=by show _=_;rw[Int.tmod_eq_emod_of_nonneg (by omega),<-em.out];simp
 have G3:Hid (IntKind.u64.wrap (q:Int)=(q:Nat)):=by show _=_;rw[IntKind.wrap_u64];omega
 have hv1:(1:Int)<=(v:Int):=by omega
 have hv2:((v:Int)==0)=false:=by rw[beq_eq_false_iff_ne];omega
 have hv3:¬v=0:=by omega
 clear hx hy tx ty hlt
 go_enter Tryz.func157,Tryz.ntmps157
 go_wp2_with fail
 refine HC.out.mono ?_;rintro e w0 ⟨rfl,hb0⟩;have U1:=Hd (toUint64_any (c:=c) (HX.out.to hb0).rd HX.out.dg hl);have U2:=Hd (toUint64_any (c:=c') (HY.out.to hb0).rd HY.out.dg hl');rw[eu.out]at U1;rw[ev.out]at U2
 go_wp2_with fail
 refine U1.out.mono ?_;rintro e w' ⟨rfl,rfl⟩
 go_wp2_with fail
 refine U2.out.mono ?_;rintro e w' ⟨rfl,rfl⟩;have hb:Below w.heap.size w w0.drew:=hb0.drew;clear hb0
 go_wp2_with fail
 have g1:=G1.out;have g2:=G2.out;have g3:=G3.out;have g4:=hv2;refine wp_region_any (by kernel_rfl) ?_;refine (show wpAny _ _ _ _ _ _ _ (World.drew _) from ?_);refine wpAny_take (i:=0) (v:=.int .u64 (u:Nat)) rfl (by kernel_rfl) (by kernel_rfl) (by kernel_rfl) (fun _ _ _ h=>h) (Or.inl ⟨by rfl,fun _=>by go_simp⟩) ?_;refine wpAny_take (i:=1) (v:=.int .u64 (v:Nat)) rfl (by kernel_rfl) (by kernel_rfl) (by kernel_rfl) (fun _ _ _ h=>h) (Or.inl ⟨by rfl,fun _=>by go_simp⟩) ?_;refine wpAny_take (i:=4) (v:=.int .u64 (u:Nat)) rfl (by kernel_rfl) (by kernel_rfl) (by kernel_rfl) (fun _ _ _ h=>h) (Or.inl ⟨by rfl,fun _=>by go_simp⟩) ?_;refine wpAny_take (i:=5) (v:=.int .u64 (v:Nat)) rfl (by kernel_rfl) (by kernel_rfl) (by kernel_rfl) (fun _ _ _ h=>h) (Or.inl ⟨by rfl,fun _=>by go_simp⟩) ?_;refine wpAny_take (i:=2) (v:=.int .u64 (q:Nat)) rfl (by kernel_rfl) (by kernel_rfl) (by kernel_rfl) (fun _ _ _ h=>h) (Or.inl ⟨by rfl,fun _=>by go_simp⟩) ?_;refine wpAny_take (i:=6) (v:=.int .u64 (m:Nat)) rfl (by kernel_rfl) (by kernel_rfl) (by kernel_rfl) (fun _ _ _ h=>h) (Or.inl ⟨by rfl,fun _=>by go_simp⟩) ?_;refine wpAny_ready (rs:=[3]) (by kernel_rfl) (by simp) (AllReady.cons rfl (fun K hK=>?_) AllReady.nil);go_simp
 refine (toWords_l q hq64 _).mono ?_;rintro e w1 ⟨A1,c1,rfl,r1,s1,t1,hb1⟩;refine hK _ _ ?_;clear hK K;refine wpAny_ready (rs:=[7]) (by kernel_rfl) (by simp) (AllReady.cons rfl (fun K hK=>?_) AllReady.nil);go_simp
 refine (toWords_l m hm64 _).mono ?_;rintro e w2 ⟨A2,c2,rfl,r2,s2,t2,hb2⟩;refine hK _ _ ?_;clear hK K;have RQ:Rd .u32 w2 w2.heap.size A1 (dig b32 q):=r1.to hb2;have RM:Rd .u32 w2 w2.heap.size A2 (dig b32 m):=r2;have HB:Below w.heap.size w w2:=(Bxb hb hb1).trans (hb2.mono (Bxb hb hb1).size);have HRES:=Hd (div_res s1 t1 s2 t2 RQ RM HB HQ.out HM.out);clear RQ RM HB hb1 hb2 r1 r2 g1 g2 g3 g4;refine wpAny_ready (rs:=[8]) (by kernel_rfl) (by simp) (AllReady.cons rfl (fun K hK=>?_) AllReady.nil)
 go_simp;refine hK _ _ ?_;clear hK K
 refine wpAny_ready (rs:=[9]) (by kernel_rfl) (by simp) (AllReady.cons rfl (fun K hK=>?_) AllReady.nil)
 go_simp;refine hK _ _ ?_;clear hK K
 refine wpAny_done (by kernel_rfl) ?_ _;go_wp2
 go_ret2
 exact HRES.out
def DRet (w:World)(q r:Int)(e:Ending)(w':World):Prop:=∃A1 c1 A2 c2,e=.returned (.tuple #[.agg #[.bool (decide (q<0)),.slice A1 (dig b32 q.natAbs).length c1],.agg #[.bool (decide (r<0)),.slice A2 (dig b32 r.natAbs).length c2],.int .i64 0]) /\
 Rd .u32 w' w'.heap.size A1 (dig b32 q.natAbs)/\Rd .u32 w' w'.heap.size A2 (dig b32 r.natAbs)/\(dig b32 q.natAbs).length<=c1/\c1<=9223372036854775807/\(dig b32 r.natAbs).length<=c2/\c2<=9223372036854775807/\Below w.heap.size w w'
theorem Rd.set2 {kd:IntKind}{w:World}{B g:Nat}{A:Option Addr}{xs:List Nat}{x:Bool}{A0:Option Addr}{n0 c0:Nat}(t:Two w g (.bool x) (.slice A0 n0 c0))(h:Rd kd w B A xs)(a b:Value):Rd kd ((w.setCell ⟨g,0,none⟩ a).setCell ⟨g,1,none⟩ b) B A xs:=by
 have h1:(w.setCell ⟨g,0,none⟩ a).cell? ⟨g,1,none⟩=some (.slice A0 n0 c0):=(World.cell?_setCell_other _ _ _ _ (by simp)).trans t.c1;exact (h.set t.c0 (fun n e=>by cases e) a).set h1 (fun n e=>by cases e) b
theorem Two.far {w:World}{g g':Nat}{a b:Value}(t:Two w g a b)(hne:g≠g')(u v:Value):Two ((w.setCell ⟨g',0,none⟩ u).setCell ⟨g',1,none⟩ v) g a b:=by
 refine ⟨?_,?_,?_,?_,by simpa [World.setCell]using t.lt⟩
 .rw[World.cell?_setCell_other _ _ _ _ (by simp),World.cell?_setCell_other _ _ _ _ (by simp)];exact t.c0
 .rw[World.cell?_setCell_other _ _ _ _ (by simp),World.cell?_setCell_other _ _ _ _ (by simp)];exact t.c1
 .rw[World.frozen?_setCell,World.frozen?_setCell];exact t.f0
 .rw[World.frozen?_setCell,World.frozen?_setCell];exact t.f1
theorem dret_stored {w w3:World}{g g':Nat}{x x':Bool}{A0 A0':Option Addr}{n0 c0 n0' c0':Nat}{q r:Int}{A1 A2:Option Addr}{c1 c2:Nat}(t:Two w3 g (.bool x) (.slice A0 n0 c0))(t':Two w3 g' (.bool x') (.slice A0' n0' c0'))(hne:g≠g')
  (hg:w.heap.size<=g) (hg':w.heap.size<=g') (h1:Rd .u32 w3 w3.heap.size A1 (dig b32 q.natAbs)) (h2:Rd .u32 w3 w3.heap.size A2 (dig b32 r.natAbs)) (l1:(dig b32 q.natAbs).length<=c1) (m1:c1<=9223372036854775807) (l2:(dig b32 r.natAbs).length<=c2) (m2:c2<=9223372036854775807) (hb:Below w.heap.size w w3) :
  DRet w q r (.returned (.tuple #[.agg #[.bool (decide (q<0)),.slice A1 (dig b32 q.natAbs).length c1],.agg #[.bool (decide (r<0)),.slice A2 (dig b32 r.natAbs).length c2],.int .i64 0]))
   ((((w3.setCell ⟨g,0,none⟩ (.bool (decide (q<0)))).setCell ⟨g,1,none⟩ (.slice A1 (dig b32 q.natAbs).length c1)).setCell ⟨g',0,none⟩ (.bool (decide (r<0)))).setCell ⟨g',1,none⟩ (.slice A2 (dig b32 r.natAbs).length c2)):=by
 have t2:=t'.far hne.symm (.bool (decide (q<0))) (.slice A1 (dig b32 q.natAbs).length c1);refine ⟨A1,c1,A2,c2,rfl,?_,?_,l1,m1,l2,m2,(((hb.setCell (p:=⟨g,0,none⟩) hg _).setCell (p:=⟨g,1,none⟩) hg _).setCell (p:=⟨g',0,none⟩) hg' _).setCell (p:=⟨g',1,none⟩) hg' _⟩
 .exact (Rd.set2 t2 (Rd.set2 t h1 _ _) _ _).more (by simp[World.setCell])
 .exact (Rd.set2 t2 (Rd.set2 t h2 _ _) _ _).more (by simp[World.setCell])
theorem neg_any (n:Bool){A:Option Addr}{c:Nat}{xs:List Nat}{w:World}(hx:Arg w A c xs) :
  Calls Tryz.prog 123 #[.agg #[.bool n,.slice A xs.length c]] w (ZRet w (zof (!n) (val b32 xs))):=by
 have HX:=Hd hx;clear hx;obtain ⟨W0,hW0⟩:∃W0,W0=(w.alloc (.cells #[.bool n,.slice A xs.length c] 30)).alloc (.cells #[.bool false,.slice none 0 0] 30):=⟨_,rfl⟩
 have hb:Below w.heap.size w W0:=by rw[hW0];exact bRR.alloc (by simp) _
 have tX:Two W0 w.heap.size (.bool n) (.slice A xs.length c):=by rw[hW0];exact (Two.new w _ _ _).alloc _
 have tR:Two W0 (w.heap.size+1) (.bool false) (.slice none 0 0):=by
  have h:=Two.new (w.alloc (.cells #[.bool n,.slice A xs.length c] 30)) (.bool false) (.slice none 0 0) 30;rw[szA]at h;rw[hW0];exact h
 have HW0:=Hd hW0;clear hW0
 go_enter Tryz.func123,Tryz.ntmps123
 go_wp2_with fail
 rw[<-HW0.out];have q1:=tX.c0;have q2:=tX.c1;have tXd:=tX.to ((Below.refl _ W0).drew);have tRd:=tR.to ((Below.refl _ W0).drew);obtain ⟨z,ez⟩:∃z,Hid (zof (!n) (val b32 xs)=z):=⟨_,rfl⟩
 go_region_held3 (fun w'=>w'.cell? ⟨w.heap.size,0,none⟩=some (.bool n)/\w'.cell? ⟨w.heap.size,1,none⟩=some (.slice A xs.length c))
  (first|exact ⟨q1,q2⟩|exact ⟨(tXd.to hb2).c0,(tXd.to hb2).c1⟩|exact ⟨t3.c0,t3.c1⟩|exact ⟨(t3.far (by omega) _ _).c0,(t3.far (by omega) _ _).c1⟩)
  (first|(go_at_call 156;refine (clone_l (HX.out.to hb.drew)).mono ?_;rintro e w2 ⟨A1,c1,rfl,r1,r2,r3,hb2⟩)|(go_at_call 151;refine (integer_l (!n) r1 HX.out.dg r2 r3).mono ?_;rw[ez.out];rintro e w3 ⟨A3,c3,rfl,s1,s2,s3,hb3⟩;have t3:=(tXd.to hb2).to hb3;have t4:=(tRd.to hb2).to hb3;have u0:=t4.c0;have u1:=t4.c1;have u2:=t4.f0;have u3:=t4.f1))
 have HB3:Below w.heap.size w w3:=(hb.drew.trans (hb2.mono hb.size)).trans (hb3.mono (hb.drew.trans (hb2.mono hb.size)).size);go_wp2
 have tF:=t4.set (.bool (decide (z<0))) (.slice A3 (dig b32 z.natAbs).length c3);refine bodyPost_ret (v:=.agg #[.bool (decide (z<0)),.slice A3 (dig b32 z.natAbs).length c3]) (by simp[results,Tryz.f123,go_sem,tF.c0,tF.c1]) rfl ?_;rw[ez.out];exact zret_stored t4 (by omega) s1 s2 s3 HB3
theorem zof_not (n:Bool)(v:Nat):zof (!n) v=-zof n v:=by cases n<;>simp[zof]
theorem sum_any (n m:Bool){A A':Option Addr}{c c':Nat}{xs ys:List Nat}{w:World}(hx:Arg w A c xs)(hy:Arg w A' c' ys) :
  Calls Tryz.prog 153 #[.agg #[.bool n,.slice A xs.length c],.bool m,.slice A' ys.length c'] w (ZRet w (zof n (val b32 xs)+zof m (val b32 ys))):=by
 by_cases h:m=n
 .subst h;have h:=sum_same m hx hy;rw[show zof m (val b32 xs+val b32 ys)=zof m (val b32 xs)+zof m (val b32 ys) from by cases m<;>simp[zof]<;>omega]at h;exact h
 .obtain rfl:m=!n:=by cases n<;>cases m<;>simp_all
  rcases Nat.lt_or_ge (val b32 xs) (val b32 ys) with hlt|hge
  .have h:=sum_less n hx hy hlt;rw[show zof (!n) (val b32 ys-val b32 xs)=zof n (val b32 xs)+zof (!n) (val b32 ys) from by cases n<;>simp[zof]<;>omega]at h;exact h
  .have h:=sum_more n hx hy hge;rw[show zof n (val b32 xs-val b32 ys)=zof n (val b32 xs)+zof (!n) (val b32 ys) from by cases n<;>simp[zof]<;>omega]at h;exact h
theorem add_any (na nb:Bool){A A':Option Addr}{c c':Nat}{xs ys:List Nat}{w:World}(hx:Arg w A c xs)(hy:Arg w A' c' ys) :
  Calls Tryz.prog 120 #[.agg #[.bool na,.slice A xs.length c],.agg #[.bool nb,.slice A' ys.length c']] w (ZRet w (zof na (val b32 xs)+zof nb (val b32 ys))):=by
 have HX:=Hd hx;have HY:=Hd hy;clear hx hy;obtain ⟨W0,hW0⟩:∃W0,W0=((w.alloc (.cells #[.bool na,.slice A xs.length c] 30)).alloc (.cells #[.bool nb,.slice A' ys.length c'] 30)).alloc (.cells #[.bool false,.slice none 0 0] 30):=⟨_,rfl⟩
 have hb:Below w.heap.size w W0:=by rw[hW0];exact (bRR.alloc (by simp) _).alloc (by simp;omega) _
 have tX:Two W0 w.heap.size (.bool na) (.slice A xs.length c):=by rw[hW0];exact ((Two.new w _ _ _).alloc _).alloc _
 have tY:Two W0 (w.heap.size+1) (.bool nb) (.slice A' ys.length c'):=by
  have h:=Two.new (w.alloc (.cells #[.bool na,.slice A xs.length c] 30)) (.bool nb) (.slice A' ys.length c') 30;rw[szA]at h;rw[hW0];exact h.alloc _
 have tR:Two W0 (w.heap.size+1+1) (.bool false) (.slice none 0 0):=by
  have h:=Two.new ((w.alloc (.cells #[.bool na,.slice A xs.length c] 30)).alloc (.cells #[.bool nb,.slice A' ys.length c'] 30)) (.bool false) (.slice none 0 0) 30;rw[szA,szA]at h;rw[hW0];exact h
 have HW0:=Hd hW0;clear hW0
 go_enter Tryz.func120,Tryz.ntmps120
 go_wp2_with fail
 rw[<-HW0.out];have q1:=tX.c0;have q2:=tX.c1;have q3:=tY.c0;have q4:=tY.c1;obtain ⟨z,ez⟩:∃z,Hid (zof na (val b32 xs)+zof nb (val b32 ys)=z):=⟨_,rfl⟩
 have HI:=Hd (sum_any na (nb) (HX.out.to hb) (HY.out.to hb));rw[show zof na (val b32 xs)+zof (nb) (val b32 ys)=zof na (val b32 xs)+zof nb (val b32 ys) from rfl,ez.out]at HI
 go_wp2_with fail
 refine HI.out.mono ?_;rintro e w3 ⟨A3,c3,rfl,s1,s2,s3,hb3⟩;have t4:=tR.to hb3;have u0:=t4.c0;have u1:=t4.c1;have u2:=t4.f0;have u3:=t4.f1;have S1:=Hd s1;have HB3:=Hd (Bxb hb hb3);clear s1 hb3 tX tY tR q1 q2 q3 q4;go_wp2
 have tF:=t4.set (.bool (decide (z<0))) (.slice A3 (dig b32 z.natAbs).length c3);refine bodyPost_ret (v:=.agg #[.bool (decide (z<0)),.slice A3 (dig b32 z.natAbs).length c3]) (by simp[results,Tryz.f120,go_sem,tF.c0,tF.c1]) rfl ?_;rw[ez.out];exact zret_stored t4 (by omega) S1.out s2 s3 HB3.out
end Go.Proofs.YtglhdielkkhefaaGreat

namespace Go.Proofs.YtglhdielkkhefaaGreat
theorem val_set {b:Nat} : ∀(P:List Nat) (j v:Nat),j<P.length->val b (P.set j v)+b ^ j*P.getD j 0=val b P+b ^ j*v
 | [],j,v,h=>by simp at h
 | x::r,0,v,_=>by simp[val];omega
 | x::r,j+1,v,h=>by
  have ih:=val_set (b:=b) r j v (by simpa using h);have h1:=congrArg (b*·) ih;simp only[Nat.mul_add]at h1;simp only[List.set_cons_succ,val,List.getD_cons_succ,Nat.pow_succ'];rw[Nat.mul_assoc,Nat.mul_assoc];omega
theorem getD_set_other (P:List Nat){j i:Nat}(v:Nat)(h:j≠i):(P.set j v).getD i 0=P.getD i 0:=by
 simp[List.getD,h]
theorem Dg.set {b:Nat}{P:List Nat}(h:Dg b P)(j:Nat){v:Nat}(hv:v<b):Dg b (P.set j v):=by
 intro d hd
 rcases List.mem_or_eq_of_mem_set hd with h1|h1
 .exact h d h1
 .rw[h1];exact hv
theorem mul_step {b i k f u v r S T:Nat}{P:List Nat}(hP:i+k<P.length)(hv:P.getD (i+k) 0=v)(h:val b P+b ^ (i+k)*r=S+b ^ i*(f*T)) :
  val b (P.set (i+k) ((f*u+v+r) % b))+b ^ (i+(k+1))*((f*u+v+r) / b)=S+b ^ i*(f*(T+b ^ k*u)):=by
 have h1:=val_set (b:=b) P (i+k) ((f*u+v+r) % b) hP;rw[hv]at h1;have h2:=Nat.div_add_mod (f*u+v+r) b
 have h3:b ^ (i+(k+1))*((f*u+v+r) / b)=b ^ (i+k)*(b*((f*u+v+r) / b)):=by
  rw[<-Nat.add_assoc,Nat.pow_succ,Nat.mul_assoc]
 have h4:b ^ i*(f*(T+b ^ k*u))=b ^ i*(f*T)+b ^ (i+k)*(f*u):=by
  rw[Nat.mul_add,Nat.mul_add,Nat.pow_add,Nat.mul_assoc (b ^ i) (b ^ k),<-Nat.mul_assoc f (b ^ k) u,Nat.mul_comm f (b ^ k),Nat.mul_assoc (b ^ k) f u]
 have h5:b ^ (i+k)*(b*((f*u+v+r) / b))+b ^ (i+k)*((f*u+v+r) % b)=b ^ (i+k)*(f*u)+b ^ (i+k)*v+b ^ (i+k)*r:=by
  rw[<-Nat.mul_add,h2,Nat.mul_add,Nat.mul_add]
 rw[h3,h4];omega
theorem mul_last {b i m f r S T:Nat}{P:List Nat}(hP:i+m<P.length)(hv:P.getD (i+m) 0=0)(h:val b P+b ^ (i+m)*r=S+b ^ i*(f*T)) :
  val b (P.set (i+m) r)=S+b ^ i*(f*T):=by
 have h1:=val_set (b:=b) P (i+m) r hP;rw[hv]at h1;omega
theorem carry_lt {b f u v r:Nat}(hf:f<b)(hu:u<b)(hv:v<b)(hr:r<b):f*u+v+r<b*b:=by
 have h1:f*u<=(b-1)*(b-1):=Nat.mul_le_mul (by omega) (by omega)
 have h2:(b-1)*(b-1)+2*(b-1)+1=b*b:=by
  obtain ⟨c,rfl⟩:∃c,b=c+1:=⟨b-1,by omega⟩
  simp only[Nat.add_sub_cancel];rw[Nat.add_mul,Nat.mul_add];omega
 omega
open Go.RowKit
def Buf (kd:IntKind)(ty:TypeId)(g sz:Nat)(xs:List Nat)(w:World):Prop:=∃cur,w.heap[g]?=some (.cells cur ty (0,0))/\cur.size=sz/\cur.toList.take xs.length=ints kd xs
section
variable {kd : IntKind} {ty : TypeId} {g sz : Nat} {xs : List Nat} {w w' : World}
theorem Buf.lt (h:Buf kd ty g sz xs w):g<w.heap.size:=by
 obtain ⟨cur,h1,_⟩:=h;exact (Array.getElem?_eq_some_iff.1 h1).1
theorem Buf.le (h:Buf kd ty g sz xs w):xs.length<=sz:=by
 obtain ⟨cur,_,h2,h3⟩:=h;have:=congrArg List.length h3;simp[ints]at this;omega
theorem Buf.cell (h:Buf kd ty g sz xs w){j:Nat}(hj:j<xs.length):w.cell? ⟨g,j,none⟩=some (.int kd (xs[j]:Nat)):=by
 obtain ⟨cur,h1,h2,h3⟩:=h;have h4:(ints kd xs)[j]?=some (.int kd (xs[j]:Nat)):=by simp[ints,hj]
 rw[<-h3,List.getElem?_take,if_pos hj]at h4
 simpa [World.cell?,h1]using h4
theorem Buf.frozen (h:Buf kd ty g sz xs w)(j:Nat):w.frozen? ⟨g,j,none⟩=false:=by
 obtain ⟨cur,h1,_⟩:=h;simp[World.frozen?,h1]
theorem Buf.kept {row:Option Nat}(h:Buf kd ty g sz xs w)(hg:w.grownBy w' row)(hne:some g≠row):Buf kd ty g sz xs w':=by
 have hl:=h.lt;obtain ⟨cur,h1,h2,h3⟩:=h;exact ⟨cur,(hg.block g hl hne).trans h1,h2,h3⟩
theorem Buf.rd (h:Buf kd ty g sz xs w){B:Nat}(hB:g<B):Rd kd w B (some ⟨g,0,none⟩) xs:=fun k hk=>⟨g,0,rfl,hB,by rw[Nat.zero_add];exact h.cell hk⟩
theorem Buf.set (h:Buf kd ty g sz xs w)(m v:Nat):Buf kd ty g sz (xs.set m v) (w.setCell ⟨g,m,none⟩ (.int kd (v:Nat))):=by
 obtain ⟨cur,h1,h2,h3⟩:=h;obtain ⟨hlt,hk⟩:=Array.getElem?_eq_some_iff.1 h1;refine ⟨cur.setIfInBounds m (.int kd (v:Nat)),?_,by simp[h2],?_⟩
 .show (w.heap.modify g _)[g]?=_
  rw[Array.getElem?_eq_getElem (by rw[Array.size_modify];exact hlt),Array.getElem_modify_self,hk];rfl
 .rw[Array.toList_setIfInBounds,List.length_set,List.take_set,h3];simp[ints,List.map_set]
theorem buf_own {β:Type}(kd:IntKind)(ty:TypeId)(g sz:Nat)(f:β->List Nat):Own (fun s W=>Buf kd ty g sz (f s) W):=fun s X Y row hs hg hrow =>
 hs.kept hg (fun e'=>by obtain ⟨o,ho,hc⟩:=hrow g e'.symm;obtain ⟨cur,h1,_⟩:=hs;rw[h1]at ho;cases ho;cases hc)
theorem grownBy_at (W:World)(b o:Nat)(v:Value):W.grownBy (W.setCell ⟨b,o,none⟩ v) (some b) :=
 ⟨rfl,rfl,rfl,(KeepsWalks.setCell W _ v).size,fun k _ hk=>Below.heap_setCell _ _ _ k (fun e=>hk (by rw[e]))⟩
theorem Grown.trans {a b c:World}{row:Option Nat}(h:a.grownBy b row)(k:b.grownBy c row):a.grownBy c row :=
 ⟨k.os.trans h.os,k.tape.trans h.tape,k.output.trans h.output,Nat.le_trans h.size k.size,fun i hi hne=>(k.block i (Nat.lt_of_lt_of_le hi h.size) hne).trans (h.block i hi hne)⟩
theorem Grown.later {a b c:World}{row row':Option Nat}(h:a.grownBy b row)(k:b.grownBy c row')(hr:∀r,row'=some r->a.heap.size<=r):a.grownBy c row :=
 ⟨k.os.trans h.os,k.tape.trans h.tape,k.output.trans h.output,Nat.le_trans h.size k.size,fun i hi hne=>(k.block i (Nat.lt_of_lt_of_le hi h.size) (fun e=>absurd (hr i e.symm) (by omega))).trans (h.block i hi hne)⟩
theorem ownFrom_grown {β:Type}{B:Nat}{w₀:World}{row:Option Nat}(hB:w₀.heap.size<=B):OwnFrom B (fun (_:β) W=>w₀.grownBy W row) :=
 fun _ _ _ _ hs hg hr=>Grown.later hs hg fun r e=>Nat.le_trans hB (hr r e).1
theorem Grown.below {a b:World}{g B:Nat}(h:a.grownBy b (some g))(hB:B<=g)(ha:B<=a.heap.size):Below B a b :=
 ⟨h.os,h.tape,h.output,h.size,fun i hi=>h.block i (by omega) (by simp;omega)⟩
theorem Grown.drew {a b:World}{row:Option Nat}(h:a.grownBy b row):a.grownBy b.drew row:=⟨h.os,h.tape,h.output,h.size,h.block⟩
end
end Go.Proofs.YtglhdielkkhefaaGreat

namespace Go.Proofs.YtglhdielkkhefaaGreat
open Go.RowKit Go.Shelf
theorem multiplier_any (f:Nat)(w:World) :
  Calls Tryz.prog 181 #[.int .u32 (f:Nat),.int .u32 0] w fun e w'=>e=.returned (.func (.func 191) #[] #[.pointer (some ⟨w.heap.size,0,none⟩),.pointer (some ⟨w.heap.size+1,0,none⟩)]) /\
   w'=(w.alloc (.cells #[.int .u32 (f:Nat)] 89)).alloc (.cells #[.int .u64 0] 111):=by
 go_enter Tryz.func181,Tryz.ntmps181
 go_wp2
 go_ret
 exact ⟨rfl,rfl⟩
theorem multiplier1_any (f u v r Bf Br:Nat)(w:World)(hf:f<4294967296)(hu:u<4294967296)(hv:v<4294967296)(hr:r<4294967296)
  (cf:w.cell? ⟨Bf,0,none⟩=some (.int .u32 (f:Nat))) (cr:w.cell? ⟨Br,0,none⟩=some (.int .u64 (r:Nat))) (fr:w.frozen? ⟨Br,0,none⟩=false) :
  Calls Tryz.prog 191 #[.int .u32 (u:Nat),.int .u32 (v:Nat),.pointer (some ⟨Bf,0,none⟩),.pointer (some ⟨Br,0,none⟩)] w fun e w' =>
   e=.returned (.int .u32 ((f*u+v+r) % 4294967296:Nat))/\w'=w.setCell ⟨Br,0,none⟩ (.int .u64 ((f*u+v+r) / 4294967296:Nat)):=by
 have hlt:=carry_lt hf hu hv hr;have hp:(f:Int)*(u:Int)=((f*u:Nat):Int):=by simp
 obtain ⟨p,ep⟩:∃p,f*u=p:=⟨_,rfl⟩
 rw[ep]at hlt hp ⊢;have E1:Hid (((p+v+r) % 4294967296:Nat)=((p:Int)+(v:Int)+(r:Int)) % 4294967296):=by show _=_;omega
 have E2:Hid (((p+v+r) / 4294967296:Nat)=((p:Int)+(v:Int)+(r:Int)) / 4294967296):=by show _=_;omega
 have W1:IntKind.u64.wrap (f:Int)=(f:Int):=by rw[IntKind.wrap_u64];omega
 have W2:IntKind.u64.wrap (u:Int)=(u:Int):=by rw[IntKind.wrap_u64];omega
 have W3:IntKind.u64.wrap (v:Int)=(v:Int):=by rw[IntKind.wrap_u64];omega
 have W4:IntKind.u64.wrap (p:Int)=(p:Int):=by rw[IntKind.wrap_u64];omega
 have W5:IntKind.u64.wrap ((p:Int)+(v:Int))=(p:Int)+(v:Int):=by rw[IntKind.wrap_u64];omega
 have W6:IntKind.u64.wrap ((p:Int)+(v:Int)+(r:Int))=(p:Int)+(v:Int)+(r:Int):=by rw[IntKind.wrap_u64];omega
 have W7:IntKind.u64.wrap (((p:Int)+(v:Int)+(r:Int)) / 4294967296)=((p:Int)+(v:Int)+(r:Int)) / 4294967296:=by rw[IntKind.wrap_u64];omega
 have W8:IntKind.u32.wrap ((p:Int)+(v:Int)+(r:Int))=((p:Int)+(v:Int)+(r:Int)) % 4294967296:=by simp[IntKind.wrap,IntKind.bits,IntKind.signed]
 have HEP:=Hd ep;clear ep hlt;rw[E1.out,E2.out]
 go_enter Tryz.func191,Tryz.ntmps191
 go_wp2
 go_ret
 exact ⟨rfl,rfl⟩
theorem Buf.from_own {kd:IntKind}{w:World}{base:Nat}{e:TypeId}{g n cap:Nat}{xs:List Nat}(hn:xs.length=n)(h:w.ownsRow base e 1 (.slice (some ⟨g,0,none⟩) n cap) n (ints kd xs)):Buf kd e g cap xs w:=by
 rcases h.2 with ⟨e,_⟩|⟨g',cap',cur,e,_,hg,h1,h2,h3,h4⟩
 .cases e
 .injection e with e1 e2 e3
  injection e1 with e1
  injection e1 with e1
  subst e1 e3 hn;exact ⟨cur,hg,by omega,by rw[<-h4,Nat.mul_one]⟩
def Zf (P:List Nat)(n:Nat):Prop:=∀j,n<=j->P.getD j 0=0
theorem Zf.set {P:List Nat}{n j:Nat}(h:Zf P n)(hj:j<n)(v:Nat):Zf (P.set j v) n:=fun i hi=>by rw[getD_set_other P v (by omega)];exact h i hi
theorem multiply_any {A A':Option Addr}{c c':Nat}{xs ys:List Nat}{w:World}(hx:Arg w A c xs)(hy:Arg w A' c' ys) :
  Calls Tryz.prog 171 #[.slice A xs.length c,.slice A' ys.length c'] w fun e w'=>∃A1 c1 ps,e=.returned (.slice A1 ps.length c1)/\Rd .u32 w' w'.heap.size A1 ps/\Dg b32 ps/\val b32 ps=val b32 xs*val b32 ys /\
   ps.length=xs.length+ys.length/\ps.length<=c1/\c1<=9223372036854775807/\Below w.heap.size w w':=by
 obtain ⟨i0,hi',hz0,hz1,hz2⟩:=info_parts infoWord;have HX:=Hd hx;have HY:=Hd hy;have hxl:=hx.small;have hyl:=hy.small;clear hx hy;obtain ⟨N,hN⟩:∃N,xs.length+ys.length=N:=⟨_,rfl⟩
 have HN:=Hd hN
 go_enter Tryz.func171,Tryz.ntmps171
 go_wp2_with (at_make;refine wpList_make_full _ rfl _ _ 28 rfl w.heap.size 89 i0 (.int .u32 0) 1 Tryz.underlying28 hi' hz0 hz1 .i64 .i64 _ _ N rfl rfl (by omega) (by omega) (by rw[hz2];omega) (by unfold maxLen;omega) (Nat.le_refl _) ?_;intro w4 hown4 hgrow4)
 have hb4:Below w.heap.size w w4:=(Below.refl _ _).grown hgrow4 (Nat.le_refl _) (fun k e=>by cases e)
 have hbuf4:Buf .u32 89 w.heap.size N (List.replicate N 0) w4:=by
  refine Buf.from_own (base:=w.heap.size) (xs:=List.replicate N 0) (List.length_replicate ..) ?_;have h:=hown4;rw[Nat.mul_one,show (Value.int .u32 0).cells=#[.int .u32 0] from rfl,toList_madeCells_one]at h
  simpa [ints]using h
 clear hown4 hgrow4
 go_loopw [19] (fun iv wr=>∃(i:Nat) (P:List Nat),iv=.int .i64 i/\i<=xs.length/\P.length=N/\Dg b32 P/\Zf P (i+ys.length)/\Hid (val b32 P=val b32 (xs.take i)*val b32 ys)/\Buf .u32 89 w.heap.size N P wr/\Below w.heap.size w wr)
  (fun iv _=>xs.length-(intOf iv).toNat)
 case atStart =>
  refine ⟨0,List.replicate N 0,rfl,Nat.zero_le _,by simp,?_,?_,?_,hbuf4,hb4⟩
  .intro d hd;rw[List.eq_of_mem_replicate hd];decide
  .intro j _;simp[List.getD,List.getElem?_replicate]
   split<;>rfl
  .show _=_
   rw[val_zeros];simp[val]
 case round =>
  obtain ⟨i,P,rfl,hi,hPl,hPd,hPz,HV,hbf,hb⟩:=hrel
  by_cases hlt:i<xs.length
  .obtain ⟨bx,ox,rfl,_,hcx⟩:=(HX.out.to hb).rd.at_ hlt;have ex:=hcx i hlt;rw[<-getD_at hlt]at ex;have hf:=getD_dg (by decide) HX.out.dg i;have HTK:=Hd (val_take_succ (b:=b32) xs i);obtain ⟨f,ef⟩:∃f,Hid (xs.getD i 0=f):=⟨_,rfl⟩
   rw[ef.out]at ex hf HTK;have hs:=hb.size;have hPzH:=Hd hPz;clear hcx hPz
   go_wp2_with fail
   refine (multiplier_any f _).mono ?_;rintro e w5 ⟨rfl,ew5⟩;have b1:Boxed w5 wr.heap.size 89 (.int .u32 (f:Nat)):=by rw[ew5];exact (Boxed.new wr _ _).alloc _
   have b2:Boxed w5 (wr.heap.size+1) 111 (.int .u64 (0:Nat)):=by
    have h:=Boxed.new (wr.alloc (.cells #[.int .u32 (f:Nat)] 89)) 111 (.int .u64 (0:Nat));rw[szA]at h;rw[ew5];exact h
   have hbf5:Buf .u32 89 w.heap.size N P w5:=by rw[ew5];exact (hbf.kept (World.grownBy_alloc _ _ none) (by simp)).kept (World.grownBy_alloc _ _ none) (by simp)
   have hb5:Below w.heap.size w w5:=by rw[ew5];exact (hb.alloc hs _).alloc (by simp;omega) _
   have hgl:=hbf.lt;obtain ⟨B,eB⟩:∃B,wr.heap.size=B:=⟨_,rfl⟩
   rw[eB]at b1 b2 hgl ⊢;have h0:Hid (val b32 P+b32 ^ (i+0)*0=val b32 (xs.take i)*val b32 ys+b32 ^ i*(f*val b32 (ys.take 0))):=by show _=_;rw[HV.out];simp[val]
   clear ew5 hbf hb hs eB HV ex;go_wp2
   go_loopw [28] (fun kv wi=>∃(k:Nat) (Q:List Nat) (r:Nat),kv=.int .i64 k/\k<=ys.length/\Q.length=N/\Dg b32 Q/\Hid (Zf Q (i+ys.length))/\r<b32/\Hid (val b32 Q+b32 ^ (i+k)*r=val b32 (xs.take i)*val b32 ys+b32 ^ i*(f*val b32 (ys.take k))) /\
     Buf .u32 89 w.heap.size N Q wi/\Boxed wi B 89 (.int .u32 (f:Nat))/\Boxed wi (B+1) 111 (.int .u64 (r:Nat))/\Below w.heap.size w wi)
    (fun kv _=>ys.length-(intOf kv).toNat)
   case atStart=>exact ⟨0,P,0,rfl,Nat.zero_le _,hPl,hPd,hPzH,by decide,h0,hbf5,b1,b2,hb5⟩
   case round =>
    obtain ⟨k,Q,r,rfl,hk,hQl,hQd,HZ,hr,HV,hbf,c1,c2,hb⟩:=hrel;have hN2:=HN.out
    by_cases hkl:k<ys.length
    .obtain ⟨by_,oy,rfl,_,hcy⟩:=(HY.out.to hb).rd.at_ hkl;have ey:=hcy k hkl;rw[<-getD_at hkl]at ey;have hu:=getD_dg (by decide) HY.out.dg k;have hik:i+k<Q.length:=by omega
     have ev:=hbf.cell hik;rw[<-getD_at hik]at ev;have fv:=hbf.frozen (i+k);have hv:=getD_dg (by decide) hQd (i+k);have HTY:=Hd (val_take_succ (b:=b32) ys k);obtain ⟨u,eu⟩:∃u,Hid (ys.getD k 0=u):=⟨_,rfl⟩
     obtain ⟨v,hvv⟩:∃v,Hid (Q.getD (i+k) 0=v):=⟨_,rfl⟩
     rw[eu.out]at ey hu HTY;rw[hvv.out]at ev hv;have HM:=Hd (mul_step (u:=u) hik hvv.out HV.out);rw[<-HTY.out]at HM;have hclt:=carry_lt hf hu hv hr;have hcar:(f*u+v+r) / b32<b32:=by rw[Nat.div_lt_iff_lt_mul (by decide)];exact hclt
     have hdig:(f*u+v+r) % b32<b32:=Nat.mod_lt _ (by decide);have STEP:=multiplier1_any f u v r B (B+1) wr hf hu hv hr c1.cell c2.cell c2.frozen;rw[show (4294967296:Nat)=b32 from rfl]at STEP;obtain ⟨t,et⟩:∃t,(f*u+v+r) % b32=t:=⟨_,rfl⟩
     obtain ⟨r',er⟩:∃r',(f*u+v+r) / b32=r':=⟨_,rfl⟩
     rw[et]at STEP HM hdig;rw[er]at STEP HM hcar;have d1:=hbf.kept (grownBy_setCell' wr (B+1) (.int .u64 (r':Nat))) (by simp;omega);have d2:=c1.other (B':=B+1) (by omega) (.int .u64 (r':Nat));have d3:=c2.set (.int .u64 (r':Nat));have hs:=hb.size;have d4:=hb.setCell (p:=⟨B+1,0,none⟩) (by show w.heap.size<=B+1;omega) (.int .u64 (r':Nat));have ev2:=d1.cell hik;have fv2:=d1.frozen (i+k);have gs:=grownBy_at (wr.setCell ⟨B+1,0,none⟩ (.int .u64 (r':Nat))) w.heap.size (i+k) (.int .u32 (t:Nat))
     have FIN:Buf .u32 89 w.heap.size N (Q.set (i+k) t) ((wr.setCell ⟨B+1,0,none⟩ (.int .u64 (r':Nat))).setCell ⟨w.heap.size,i+k,none⟩ (.int .u32 (t:Nat))) /\
       Boxed ((wr.setCell ⟨B+1,0,none⟩ (.int .u64 (r':Nat))).setCell ⟨w.heap.size,i+k,none⟩ (.int .u32 (t:Nat))) B 89 (.int .u32 (f:Nat)) /\
       Boxed ((wr.setCell ⟨B+1,0,none⟩ (.int .u64 (r':Nat))).setCell ⟨w.heap.size,i+k,none⟩ (.int .u32 (t:Nat))) (B+1) 111 (.int .u64 (r':Nat)) /\
       Below w.heap.size w ((wr.setCell ⟨B+1,0,none⟩ (.int .u64 (r':Nat))).setCell ⟨w.heap.size,i+k,none⟩ (.int .u32 (t:Nat))) :=
      ⟨d1.set _ _,d2.kept gs (by simp;omega),d3.kept gs (by simp;omega),d4.setCell (p:=⟨w.heap.size,i+k,none⟩) (Nat.le_refl _) _⟩
     have FINH:=Hd FIN;have STEPH:=Hd STEP;have hi0:(0:Int)<=(i:Int)+(k:Int):=by omega
     have hi1:(i:Int)+(k:Int)<(N:Int):=by omega
     obtain ⟨o,HO⟩:∃o,Q[i+k]=o:=⟨_,rfl⟩
     rw[HO]at ev2;clear FIN STEP d1 d2 d3 d4 gs et er hcy hclt HO hbf c1 c2 hb hN2
     go_wp2_with fail
     refine STEPH.out.mono ?_;rintro e w' ⟨rfl,rfl⟩;clear STEPH;go_wp2
     go_roundw
     case rel=>exact ⟨k+1,Q.set (i+k) t,r',by simp,by omega,by rw[List.length_set];exact hQl,hQd.set _ hdig,HZ.out.set (by omega) _,hcar,HM,FINH.out.1,FINH.out.2.1,FINH.out.2.2.1,FINH.out.2.2.2⟩
     case measure=>simp[intOf];omega
    .obtain rfl:k=ys.length:=by omega
     have hik:i+ys.length<Q.length:=by omega
     have ev:=hbf.cell hik;have hz0:Q.getD (i+ys.length) 0=0:=HZ.out _ (Nat.le_refl _);have HL:=Hd (mul_last hik hz0 HV.out);rw[List.take_of_length_le (Nat.le_refl _)]at HL;have STEP:=multiplier1_any f 0 0 r B (B+1) wr hf (by decide) (by decide) hr c1.cell c2.cell c2.frozen
     have e1:(f*0+0+r) % 4294967296=r:=by
      rw[Nat.mul_zero,Nat.add_zero,Nat.zero_add];exact Nat.mod_eq_of_lt hr
     rw[e1]at STEP;obtain ⟨r',er⟩:∃r',(f*0+0+r) / 4294967296=r':=⟨_,rfl⟩
     rw[er]at STEP;have d1:=hbf.kept (grownBy_setCell' wr (B+1) (.int .u64 (r':Nat))) (by simp;omega);have d4:=hb.setCell (p:=⟨B+1,0,none⟩) (by show w.heap.size<=B+1;omega) (.int .u64 (r':Nat));have ev2:=d1.cell hik;have fv2:=d1.frozen (i+ys.length)
     have FIN:Buf .u32 89 w.heap.size N (Q.set (i+ys.length) r) ((wr.setCell ⟨B+1,0,none⟩ (.int .u64 (r':Nat))).setCell ⟨w.heap.size,i+ys.length,none⟩ (.int .u32 (r:Nat))) /\
       Below w.heap.size w ((wr.setCell ⟨B+1,0,none⟩ (.int .u64 (r':Nat))).setCell ⟨w.heap.size,i+ys.length,none⟩ (.int .u32 (r:Nat))) :=
      ⟨d1.set _ _,d4.setCell (p:=⟨w.heap.size,i+ys.length,none⟩) (Nat.le_refl _) _⟩
     have HZ2:Hid (Zf (Q.set (i+ys.length) r) (i+1+ys.length)):=fun j hj=>by rw[getD_set_other Q r (by omega)];exact HZ.out j (by omega)
     have HVN:Hid (val b32 (Q.set (i+ys.length) r)=val b32 (xs.take (i+1))*val b32 ys):=by
      show _=_
      rw[HL.out,HTK.out,Nat.add_mul,Nat.mul_assoc]
     have FINH:=Hd FIN;have STEPH:=Hd STEP;have hi0:(0:Int)<=(i:Int)+(ys.length:Int):=by omega
     have hi1:(i:Int)+(ys.length:Int)<(N:Int):=by omega
     obtain ⟨o,HO⟩:∃o,Q[i+ys.length]=o:=⟨_,rfl⟩
     rw[HO]at ev2 ev;clear FIN STEP d1 d4 er HO hbf c1 c2 hb hN2 e1 hz0
     go_wp2_with fail
     refine STEPH.out.mono ?_;rintro e w' ⟨rfl,rfl⟩;clear STEPH;go_wp2
     go_roundw
     case rel=>exact ⟨i+1,Q.set (i+ys.length) r,by simp,by omega,by rw[List.length_set];exact hQl,hQd.set _ hr,HZ2.out,HVN,FINH.out.1,FINH.out.2⟩
     case measure=>simp[intOf];omega
  .obtain rfl:i=xs.length:=by omega
   rw[List.take_of_length_le (Nat.le_refl _)]at HV;have HR:Hid (Rd .u32 wr wr.heap.size (some ⟨w.heap.size,0,none⟩) P):=hbf.rd hbf.lt;have HB:=Hd hb;rw[<-hPl];have hN2:=HN.out;clear hbf hb hPz;go_wp2
   go_ret
   exact ⟨_,_,P,rfl,HR.out,hPd,HV.out,by omega,Nat.le_refl _,by omega,HB.out⟩
end Go.Proofs.YtglhdielkkhefaaGreat

namespace Go.Proofs.YtglhdielkkhefaaGreat
open Go
section
variable {P : Program} {ops : Array Oper} {Q : Exit -> Act -> World -> Prop} {md : Region.Mode} {S : World -> Prop} {R : Act -> World -> Prop}
def planOk (md:Region.Mode)(ops:Array Oper):List (Nat×Bool)->Array Bool->Bool
 | [],listed=>(Region.ready md ops listed).isEmpty
 | (i,true)::rest,listed=>(Region.ready md ops listed).contains i&&(Region.free md ops listed i&&planOk md ops rest (listed.setIfInBounds i true))
 | (i,false)::rest,listed=>(Region.ready md ops listed==[i])&&planOk md ops rest (listed.setIfInBounds i true)
def wpPlan (P:Program)(ops:Array Oper)(Q:Exit->Act->World->Prop)(S:World->Prop)(R:Act->World->Prop):List (Nat×Bool)->Act->World->Prop
 | [],a,w=>R a w
 | (i,true)::rest,a,w=>∃o v,ops[i]?=some o/\YieldsIf P ops S o v a/\wpPlan P ops Q S R rest (a.put o.dst v) w
 | (i,false)::rest,a,w=>wpOp P ops Q i (fun a' w'=>S w'/\wpPlan P ops Q S R rest a' w') a w
theorem wpAnyH_plan (hs:Region.noSelect ops=true)(hQ:∀c a d v w,Q (.panic c) (Act.put a d v) w->Q (.panic c) a w) :
  ∀(plan:List (Nat×Bool)) (listed:Array Bool) (a:Act) (w:World),planOk md ops plan listed=true->S w->wpPlan P ops Q S (Q .normal) plan a w ->
   ∀fuel,plan.length<=fuel->wpAnyH P md ops Q S fuel listed a w
 | [],listed,a,w,hk,_,h,fuel,_=>wpAnyH_done (by simpa [planOk]using hk) h fuel
 | (i,true)::rest,listed,a,w,hk,hS,h,fuel,hf=>by
  obtain ⟨o,v,ho,hy,h⟩:=h;simp only[planOk,Bool.and_eq_true]at hk;obtain ⟨f,rfl⟩:∃f,fuel=f+1:=⟨fuel-1,by simp only[List.length_cons]at hf;omega⟩
  exact wpAnyH_take ho hs hk.2.1 hk.1 (fun c a w=>hQ c a o.dst v w) hy hS (wpAnyH_plan hs hQ rest _ _ _ hk.2.2 hS h f (by simp only[List.length_cons]at hf;omega))
 | (i,false)::rest,listed,a,w,hk,_,h,fuel,hf=>by
  simp only[planOk,Bool.and_eq_true,beq_iff_eq]at hk;obtain ⟨f,rfl⟩:∃f,fuel=f+1:=⟨fuel-1,by simp only[List.length_cons]at hf;omega⟩
  refine wpAnyH_all hk.1 (by simp) fun j hj=>?_
  obtain rfl:j=i:=by simpa using hj
  exact wpOp_mono (fun a' w' h'=>⟨h'.1,wpAnyH_plan hs hQ rest _ _ _ hk.2 h'.1 h'.2 f (by simp only[List.length_cons]at hf;omega)⟩) h
theorem wp_region_plan (plan:List (Nat×Bool)){id:Nat}{a:Act}{w:World}(hm:P.follows .mixedOrders=true)
  (hk:(Region.noSelect ops&&(decide (plan.length<=ops.size)&&planOk .any ops plan (Array.replicate ops.size false)))=true)
  (hS:S w.drew) (h:wpPlan P ops (NoPanic Q) S (NoPanic Q .normal) plan a w.drew):(Code.region id ops true).wp P Q a w:=by
 simp only[Bool.and_eq_true,decide_eq_true_eq]at hk;exact wp_region_noPanic (wp_region_held hm (wpAnyH_plan hk.1 (fun _ _ _ _ _ h=>h) plan _ a _ hk.2.2 hS h _ hk.2.1))
theorem plan_take {i:Nat}{rest:List (Nat×Bool)}{d:Option Tmp}{op:Op}{ty:TypeId}{pos:String}{after:Array Edge}{guard:Option (Nat×Bool)}{v:Value}{a:Act}{w:World}
  (ho:ops[i]?=some ⟨d,op,ty,pos,after,guard⟩) (hw:Region.wanted ⟨d,op,ty,pos,after,guard⟩ (yielded ops a.tmps)=true)
  (hy:∀w,S w->(execOp a.eval ⟨d,op,ty,pos,after,guard⟩).run P w=.ok (.value v) w) (h:wpPlan P ops Q S R rest (a.put d v) w):wpPlan P ops Q S R ((i,true)::rest) a w :=
 ⟨_,v,ho,.inl ⟨hw,hy⟩,h⟩
theorem plan_call {i:Nat}{rest:List (Nat×Bool)}{d:Option Tmp}{op:Op}{ty:TypeId}{pos:String}{after:Array Edge}{guard:Option (Nat×Bool)}{a:Act}{w:World}
  (ho:ops[i]?=some ⟨d,op,ty,pos,after,guard⟩) (hw:Region.wanted ⟨d,op,ty,pos,after,guard⟩ (yielded ops a.tmps)=true)
  (h:∀K:Act->World->Prop,Shut (∀a w,S w->wpPlan P ops Q S R rest a w->K a w)->Oper.wp P ⟨d,op,ty,pos,after,guard⟩ a w K Q) :
  wpPlan P ops Q S R ((i,false)::rest) a w :=
 wpOp_step ho (fun K hK=>by
  rw[if_pos hw]
  exact h K (fun a w hS hW=>hK a w ⟨hS,hW⟩))
theorem plan_done {a:Act}{w:World}(h:Q .normal a w):wpPlan P ops (NoPanic Q) S (NoPanic Q .normal) [] a w:=h
def planTo (md:Region.Mode)(ops:Array Oper)(l:Array Bool):List (Nat×Bool)->Array Bool->Bool
 | [],listed=>listed==l
 | (i,true)::rest,listed=>(Region.ready md ops listed).contains i&&(Region.free md ops listed i&&planTo md ops l rest (listed.setIfInBounds i true))
 | (i,false)::rest,listed=>(Region.ready md ops listed==[i])&&planTo md ops l rest (listed.setIfInBounds i true)
theorem wpAnyH_planTo {l:Array Bool}{k:Nat}(hs:Region.noSelect ops=true)(hQ:∀c a d v w,Q (.panic c) (Act.put a d v) w->Q (.panic c) a w) :
  ∀(plan:List (Nat×Bool)) (listed:Array Bool) (a:Act) (w:World),planTo md ops l plan listed=true->S w->wpPlan P ops Q S (fun a w=>S w->wpAnyH P md ops Q S k l a w) plan a w ->
   wpAnyH P md ops Q S (plan.length+k) listed a w
 | [],listed,a,w,hk,hS,h=>by
  rw[show listed=l from by simpa [planTo]using hk,List.length_nil,Nat.zero_add];exact h hS
 | (i,true)::rest,listed,a,w,hk,hS,h=>by
  obtain ⟨o,v,ho,hy,h⟩:=h;simp only[planTo,Bool.and_eq_true]at hk;rw[List.length_cons,show rest.length+1+k=(rest.length+k)+1 from by omega];exact wpAnyH_take ho hs hk.2.1 hk.1 (fun c a w=>hQ c a o.dst v w) hy hS (wpAnyH_planTo hs hQ rest _ _ _ hk.2.2 hS h)
 | (i,false)::rest,listed,a,w,hk,_,h=>by
  simp only[planTo,Bool.and_eq_true,beq_iff_eq]at hk;rw[List.length_cons,show rest.length+1+k=(rest.length+k)+1 from by omega];refine wpAnyH_all hk.1 (by simp) fun j hj=>?_
  obtain rfl:j=i:=by simpa using hj
  exact wpOp_mono (fun a' w' h'=>⟨h'.1,wpAnyH_planTo hs hQ rest _ _ _ hk.2 h'.1 h'.2⟩) h
theorem wp_region_planTo (plan:List (Nat×Bool))(l:Array Bool)(k:Nat){id:Nat}{a:Act}{w:World}(hm:P.follows .mixedOrders=true)
  (hk:(Region.noSelect ops&&(decide (plan.length+k=ops.size)&&planTo .any ops l plan (Array.replicate ops.size false)))=true)
  (hS:S w.drew) (h:wpPlan P ops (NoPanic Q) S (fun a w=>S w->wpAnyH P .any ops (NoPanic Q) S k l a w) plan a w.drew):(Code.region id ops true).wp P Q a w:=by
 simp only[Bool.and_eq_true,decide_eq_true_eq]at hk;have h1:=wpAnyH_planTo (k:=k) hk.1 (fun _ _ _ _ _ h=>h) plan _ a _ hk.2.2 hS h;rw[hk.2.1]at h1;exact wp_region_noPanic (wp_region_held hm h1)
theorem ready_cons {fuel:Nat}{listed:Array Bool}{i:Nat}{rs:List Nat}{d:Option Tmp}{op:Op}{ty:TypeId}{pos:String}{after:Array Edge}{guard:Option (Nat×Bool)}{a:Act}{w:World}
  (ho:ops[i]?=some ⟨d,op,ty,pos,after,guard⟩) (hw:Region.wanted ⟨d,op,ty,pos,after,guard⟩ (yielded ops a.tmps)=true)
  (h:∀K:Act->World->Prop,Shut (∀a w,S w->wpAnyH P md ops Q S fuel (listed.setIfInBounds i true) a w->K a w)->Oper.wp P ⟨d,op,ty,pos,after,guard⟩ a w K Q)
  (hs:AllReadyH P md ops Q S fuel listed a w rs):AllReadyH P md ops Q S fuel listed a w (i::rs):=fun j hj=>by
 rcases List.mem_cons.1 hj with rfl|hj
 .refine wpOp_step ho (fun K hK=>?_);rw[if_pos hw];exact h K (fun a w hS hW=>hK a w ⟨hS,hW⟩)
 .exact hs j hj
theorem rdy1 {fuel:Nat}{listed:Array Bool}{i:Nat}{d:Option Tmp}{op:Op}{ty:TypeId}{pos:String}{after:Array Edge}{guard:Option (Nat×Bool)}{a:Act}{w:World}
  (hr:Region.ready md ops listed=[i]) (ho:ops[i]?=some ⟨d,op,ty,pos,after,guard⟩) (hw:Region.wanted ⟨d,op,ty,pos,after,guard⟩ (yielded ops a.tmps)=true)
  (h:∀K:Act->World->Prop,Shut (∀a w,S w->wpAnyH P md ops Q S fuel (listed.setIfInBounds i true) a w->K a w)->Oper.wp P ⟨d,op,ty,pos,after,guard⟩ a w K Q):wpAnyH P md ops Q S (fuel+1) listed a w :=
 wpAnyH_ready (rs:=[i]) hr (by simp) (ready_cons ho hw h fun _ hj=>by cases hj)
theorem dag {k:Nat}{l:Array Bool}{a:Act}{w:World}(h:∀G:Nat->Array Bool->Act->World->Prop,(∀{k l a w},wpAnyH P md ops Q S k l a w->G k l a w)->(∀{k l a w},G k l a w->wpAnyH P md ops Q S k l a w)->G k l a w):wpAnyH P md ops Q S k l a w :=
 h _ (fun h=>h) (fun h=>h)
theorem wp_cut (R:Act->Act->World->Prop){c:Code}{a:Act}{w:World}(h:c.wp P (fun e a' w'=>e=.normal/\R a a' w') a w)(hR:∀a' w',R a a' w'->Q .normal a' w'):c.wp P Q a w :=
 Code.wp_mono (fun _ a' w' h=>by obtain ⟨rfl,h⟩:=h;exact hR a' w' h) h
end
end Go.Proofs.YtglhdielkkhefaaGreat

namespace Go.Proofs.YtglhdielkkhefaaGreat
open Go.RowKit Go.Shelf
theorem mul_any (na nb:Bool){A A':Option Addr}{c c':Nat}{xs ys:List Nat}{w:World}(hx:Arg w A c xs)(hy:Arg w A' c' ys) :
  Calls Tryz.prog 144 #[.agg #[.bool na,.slice A xs.length c],.agg #[.bool nb,.slice A' ys.length c']] w (ZRet w (zof (!(na==nb)) (val b32 xs*val b32 ys))):=by
 have HX:=Hd hx;have HY:=Hd hy;clear hx hy;obtain ⟨s,hs⟩:∃s,(!(na==nb))=s:=⟨_,rfl⟩
 rw[hs];obtain ⟨W0,hW0⟩:∃W0,W0=((w.alloc (.cells #[.bool na,.slice A xs.length c] 30)).alloc (.cells #[.bool nb,.slice A' ys.length c'] 30)).alloc (.cells #[.bool false,.slice none 0 0] 30):=⟨_,rfl⟩
 have hb:Below w.heap.size w W0:=by rw[hW0];exact (bRR.alloc (by simp) _).alloc (by simp;omega) _
 have tX:Two W0 w.heap.size (.bool na) (.slice A xs.length c):=by rw[hW0];exact ((Two.new w _ _ _).alloc _).alloc _
 have tY:Two W0 (w.heap.size+1) (.bool nb) (.slice A' ys.length c'):=by
  have h:=Two.new (w.alloc (.cells #[.bool na,.slice A xs.length c] 30)) (.bool nb) (.slice A' ys.length c') 30;rw[szA]at h;rw[hW0];exact h.alloc _
 have tR:Two W0 (w.heap.size+1+1) (.bool false) (.slice none 0 0):=by
  have h:=Two.new ((w.alloc (.cells #[.bool na,.slice A xs.length c] 30)).alloc (.cells #[.bool nb,.slice A' ys.length c'] 30)) (.bool false) (.slice none 0 0) 30;rw[szA,szA]at h;rw[hW0];exact h
 have HW0:=Hd hW0;clear hW0
 go_enter Tryz.func144,Tryz.ntmps144
 go_wp2_with fail
 rw[<-HW0.out];have q1:=tX.c0;have q2:=tX.c1;have q3:=tY.c0;have q4:=tY.c1;have tXd:=tX.to ((Below.refl _ W0).drew);have tYd:=tY.to ((Below.refl _ W0).drew);have tRd:=tR.to ((Below.refl _ W0).drew);obtain ⟨z,ez⟩:∃z,Hid (zof s (val b32 xs*val b32 ys)=z):=⟨_,rfl⟩
 have HM:=Hd (multiply_any (HX.out.to hb.drew).trim (HY.out.to hb.drew).trim);rw[val_trimL,val_trimL]at HM;have q5:W0.drew.cell? ⟨w.heap.size,0,none⟩=some (.bool na):=q1;refine wp_region_plan (S:=fun w'=>w'.cell? ⟨w.heap.size,0,none⟩=some (.bool na)/\w'.cell? ⟨w.heap.size,1,none⟩=some (.slice A xs.length c)/\w'.cell? ⟨w.heap.size+1,0,none⟩=some (.bool nb)/\w'.cell? ⟨w.heap.size+1,1,none⟩=some (.slice A' ys.length c')) [(0,true),(1,true),(2,true),(3,true),(4,true),(5,true),(6,true),(8,true),(9,true),(7,false),(10,false),(11,false),(12,false),(13,false)] (by kernel_rfl) (by kernel_rfl) ⟨q1,q2,q3,q4⟩ ?_
 repeat (refine plan_take (v:=?_) rfl (by rfl) ?_ ?_;rotate_left;(focus (intro w' hS;obtain ⟨k1,k2,k3,k4⟩:=hS;go_simp;try with_reducible rfl));simp only[Act.put,pqA,pqB,pqC])
 refine plan_call rfl (by rfl) (fun K hK=>?_);go_simp
 refine (trim_q (HX.out.to hb.drew)).mono ?_;rintro e w' ⟨rfl,rfl⟩;refine hK.out _ _ ⟨q1,q2,q3,q4⟩ ?_;clear hK K;refine plan_call rfl (by rfl) (fun K hK=>?_);go_simp
 refine (trim_q (HY.out.to hb.drew)).mono ?_;rintro e w' ⟨rfl,rfl⟩;refine hK.out _ _ ⟨q1,q2,q3,q4⟩ ?_;clear hK K;refine plan_call rfl (by rfl) (fun K hK=>?_);go_simp
 refine HM.out.mono ?_;rintro e w2 ⟨A1,c1,ps,rfl,r1,rd,rv,rl,r2,r3,hb2⟩;refine hK.out _ _ ⟨(tXd.to hb2).c0,(tXd.to hb2).c1,(tYd.to hb2).c0,(tYd.to hb2).c1⟩ ?_;clear hK K;have HI:=Hd (integer_l s r1 rd r2 r3);rw[rv,ez.out]at HI;clear rl rv;refine plan_call rfl (by rfl) (fun K hK=>?_);go_simp
 refine HI.out.mono ?_;rintro e w3 ⟨A3,c3,rfl,s1,s2,s3,hb3⟩;have t3:=(tXd.to hb2).to hb3;have t5:=(tYd.to hb2).to hb3;have t4:=(tRd.to hb2).to hb3;refine hK.out _ _ ⟨t3.c0,t3.c1,t5.c0,t5.c1⟩ ?_;clear hK K q1 q2 q3 q4 q5;have u0:=t4.c0;have u1:=t4.c1;have u2:=t4.f0;have u3:=t4.f1;refine plan_call rfl (by rfl) (fun K hK=>?_);go_simp
 refine hK.out _ _ ⟨(t3.far (by omega) _ _).c0,(t3.far (by omega) _ _).c1,(t5.far (by omega) _ _).c0,(t5.far (by omega) _ _).c1⟩ ?_;clear hK K;refine plan_done ?_;have HB3:Below w.heap.size w w3:=(hb.drew.trans (hb2.mono hb.size)).trans (hb3.mono (hb.drew.trans (hb2.mono hb.size)).size);go_wp2
 have tF:=t4.set (.bool (decide (z<0))) (.slice A3 (dig b32 z.natAbs).length c3);refine bodyPost_ret (v:=.agg #[.bool (decide (z<0)),.slice A3 (dig b32 z.natAbs).length c3]) (by simp[results,Tryz.f144,go_sem,tF.c0,tF.c1]) rfl ?_;rw[ez.out];exact zret_stored t4 (by omega) s1 s2 s3 HB3
end Go.Proofs.YtglhdielkkhefaaGreat
