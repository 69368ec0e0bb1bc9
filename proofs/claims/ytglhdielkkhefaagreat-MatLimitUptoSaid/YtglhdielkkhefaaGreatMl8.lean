/- Parts: 3. -/
import Derived.Test.YtglhdielkkhefaaGreatMl4
import Derived.Test.YtglhdielkkhefaaGreatMl5
import Derived.Test.YtglhdielkkhefaaGreatMl7
set_option linter.unusedVariables false
set_option linter.unusedSimpArgs false
set_option maxRecDepth 100000
set_option maxHeartbeats 40000000

namespace Go.Proofs.YtglhdielkkhefaaGreat
open Go.RowKit Go.Shelf
theorem dx_ff {A A':Option Addr}{c c':Nat}{xs ys:List Nat}{w:World}(hx:Arg w A c xs)(hy:Arg w A' c' ys)(hxl:xs.length<=4294967293)(h0:0<val b32 ys) :
  Calls Tryz.prog 124 #[.agg #[.bool false,.slice A xs.length c],.agg #[.bool false,.slice A' ys.length c']] w (DRet w (zof false (val b32 xs / val b32 ys)) ((val b32 xs % val b32 ys:Nat):Int)):=by
 have HX:=Hd hx;have HY:=Hd hy;have H0:=Hd h0
 have hlen:((trimL ys).length=0)↔val b32 ys=0:=by
  rw[trimL_dig b32_one hy.dg];exact ⟨fun h=>(dig_nil b32_one).1 (List.eq_nil_of_length_eq_zero h),fun h=>by rw[h];rfl⟩
 have hq:((((trimL ys).length:Nat):Int)==0)=false:=by
  have:(trimL ys).length≠0:=fun h=>by have:=hlen.1 h;omega
  rw[beq_eq_false_iff_ne];omega
 clear hx hy h0 hlen;obtain ⟨W0,hW0⟩:∃W0,W0=(((w.alloc (.cells #[.bool false,.slice A xs.length c] 30)).alloc (.cells #[.bool false,.slice A' ys.length c'] 30)).alloc (.cells #[.bool false,.slice none 0 0] 30)).alloc (.cells #[.bool false,.slice none 0 0] 30):=⟨_,rfl⟩
 have hb:Below w.heap.size w W0:=by rw[hW0];exact ((bRR.alloc (by simp) _).alloc (by simp;omega) _).alloc (by simp;omega) _
 have tX:Zat W0 w.heap.size (.bool false) (.slice A xs.length c):=by rw[hW0];exact (((Zat.new w _ _).alloc _).alloc _).alloc _
 have tY:Zat W0 (w.heap.size+1) (.bool false) (.slice A' ys.length c'):=by
  have h:=Zat.new (w.alloc (.cells #[.bool false,.slice A xs.length c] 30)) (.bool false) (.slice A' ys.length c');rw[szA]at h;rw[hW0];exact (h.alloc _).alloc _
 have tQ:Zat W0 (w.heap.size+1+1) (.bool false) (.slice none 0 0):=by
  have h:=Zat.new ((w.alloc (.cells #[.bool false,.slice A xs.length c] 30)).alloc (.cells #[.bool false,.slice A' ys.length c'] 30)) (.bool false) (.slice none 0 0);rw[szA,szA]at h;rw[hW0];exact h.alloc _
 have tR:Zat W0 (w.heap.size+1+1+1) (.bool false) (.slice none 0 0):=by
  have h:=Zat.new (((w.alloc (.cells #[.bool false,.slice A xs.length c] 30)).alloc (.cells #[.bool false,.slice A' ys.length c'] 30)).alloc (.cells #[.bool false,.slice none 0 0] 30)) (.bool false) (.slice none 0 0);rw[szA,szA,szA]at h;rw[hW0];exact h
 have q1:=tX.two.c1;have q2:=tY.two.c1;have HW0:=Hd hW0;clear hW0
 go_enter Tryz.func124,Tryz.ntmps124
 go_wp2_with fail
 rw[<-HW0.out]
 go_quiet ((first|(go_at_call 119;with_reducible exact Calls.quiet_of_same (trim_q (HX.out.to (hb.trans (bel_drewN (Below.refl _ _) _)))))|(go_at_call 119;with_reducible exact Calls.quiet_of_same (trim_q (HY.out.to (hb.trans (bel_drewN (Below.refl _ _) _)))))))
 rename_i nq
 have hb1:Below w.heap.size w (W0.drewN nq):=bel_drewN hb _;have tX1:Two (W0.drewN nq) w.heap.size _ _:=tX.two.to (bel_drewN (Below.refl _ _) _);have tY1:Two (W0.drewN nq) (w.heap.size+1) _ _:=tY.two.to (bel_drewN (Below.refl _ _) _);have tQ1:Two (W0.drewN nq) (w.heap.size+1+1) _ _:=tQ.two.to (bel_drewN (Below.refl _ _) _);have tR1:Two (W0.drewN nq) (w.heap.size+1+1+1) _ _:=tR.two.to (bel_drewN (Below.refl _ _) _);generalize W0.drewN nq=W1 at hb1 tX1 tY1 tQ1 tR1 ⊢;clear q1 q2 tX tY tQ tR hb HW0
 go_wp2_with fail
 refine (divide_all (HX.out.to hb1) (HY.out.to hb1) H0.out (by omega)).mono ?_;rintro e w2 ⟨A1,c1,qs,A2,c2,rs,rfl,AQ',AR',vq,r4,hb2⟩;have VQ:=Hd vq;have r1:=AQ'.rd;have r2:=AR'.rd;have r3:=AR'.dg;have r5:=AQ'.le;have r6:=AQ'.cap;have r7:=AR'.le;have r8:=AR'.cap;have r9:=AR'.small;have dq:=AQ'.dg;have hb3:=Bxb hb1 hb2;have tX2:=tX1.to hb2;have tY2:=tY1.to hb2;have tQ2:=tQ1.to hb2;have tR2:=tR1.to hb2;have R4:=Hd r4;have AR:=Hd (⟨r2,r3,r7,r8,r9⟩:Arg w2 A2 c2 rs);have R1:=Hd r1;have AQ:=Hd AQ';clear AQ' AR' vq r1 r2 r4 hb1 hb2 tX1 tY1 tQ1 tR1;have p1:=tX2.c0;have p2:=tY2.c0;have I1:=Hd (integer_l false R1.out dq r5 r6);rw[VQ.out]at I1;obtain ⟨q,eq⟩:∃q:Int,Hid (zof false (val b32 xs / val b32 ys)=q):=⟨_,rfl⟩
 rw[eq.out]at I1
 go_wp2_with fail
 refine I1.out.mono ?_;rintro e w5 ⟨A5,c5,rfl,s1,s2,s3,hb10⟩;have hb11:=Bxb hb3 hb10;have tQ5:=tQ2.to hb10;have tR5:=tR2.to hb10;have I2:=Hd (integer_l false (AR.out.rd.to hb10) r3 r7 r8);rw[R4.out]at I2;obtain ⟨r,er⟩:∃r:Int,Hid (zof false (val b32 xs % val b32 ys)=r):=⟨_,rfl⟩
 rw[er.out]at I2;have S1:=Hd s1;clear s1 hb10 hb3 tQ2 tR2
 go_wp2_with fail
 refine I2.out.mono ?_;rintro e w6 ⟨A6,c6,rfl,v1,v2,v3,hb12⟩;have HB:=Hd (Bxb hb11 hb12);have TQ:=Hd (tQ5.to hb12);have TR:=Hd (tR5.to hb12);obtain ⟨g1,g2,g3,g4,g5⟩:=tQ5.to hb12;obtain ⟨k1,k2,k3,k4,k5⟩:=tR5.to hb12;have S3:=Hd (S1.out.to hb12);have V3:=Hd v1;clear v1 hb12 hb11 tQ5 tR5 p1 p2;go_wp2
 have tF:=TQ.out.set (.bool (decide (q<0))) (.slice A5 (dig b32 q.natAbs).length c5);have tG:=(TR.out.far (g':=w.heap.size+1+1) (by omega) (.bool (decide (q<0))) (.slice A5 (dig b32 q.natAbs).length c5)).set (.bool (decide (r<0))) (.slice A6 (dig b32 r.natAbs).length c6);have tH:=tF.far (g':=w.heap.size+1+1+1) (by omega) (.bool (decide (r<0))) (.slice A6 (dig b32 r.natAbs).length c6)
 refine bodyPost_ret (v:=.tuple #[.agg #[.bool (decide (q<0)),.slice A5 (dig b32 q.natAbs).length c5],.agg #[.bool (decide (r<0)),.slice A6 (dig b32 r.natAbs).length c6],.int .i64 0])
  (by simp[results,Tryz.f124,go_sem,tH.c0,tH.c1,tG.c0,tG.c1]) rfl ?_
 rw[eq.out,show (((val b32 xs % val b32 ys:Nat):Int))=r from er.out];exact dret_stored TQ.out TR.out (by omega) (by omega) (by omega) S3.out V3.out s2 s3 v2 v3 HB.out
theorem dx_ft {A A':Option Addr}{c c':Nat}{xs ys:List Nat}{w:World}(hx:Arg w A c xs)(hy:Arg w A' c' ys)(hxl:xs.length<=4294967293)(h0:0<val b32 ys) :
  Calls Tryz.prog 124 #[.agg #[.bool false,.slice A xs.length c],.agg #[.bool true,.slice A' ys.length c']] w (DRet w (zof true (val b32 xs / val b32 ys)) ((val b32 xs % val b32 ys:Nat):Int)):=by
 have HX:=Hd hx;have HY:=Hd hy;have H0:=Hd h0
 have hlen:((trimL ys).length=0)↔val b32 ys=0:=by
  rw[trimL_dig b32_one hy.dg];exact ⟨fun h=>(dig_nil b32_one).1 (List.eq_nil_of_length_eq_zero h),fun h=>by rw[h];rfl⟩
 have hq:((((trimL ys).length:Nat):Int)==0)=false:=by
  have:(trimL ys).length≠0:=fun h=>by have:=hlen.1 h;omega
  rw[beq_eq_false_iff_ne];omega
 clear hx hy h0 hlen;obtain ⟨W0,hW0⟩:∃W0,W0=(((w.alloc (.cells #[.bool false,.slice A xs.length c] 30)).alloc (.cells #[.bool true,.slice A' ys.length c'] 30)).alloc (.cells #[.bool false,.slice none 0 0] 30)).alloc (.cells #[.bool false,.slice none 0 0] 30):=⟨_,rfl⟩
 have hb:Below w.heap.size w W0:=by rw[hW0];exact ((bRR.alloc (by simp) _).alloc (by simp;omega) _).alloc (by simp;omega) _
 have tX:Zat W0 w.heap.size (.bool false) (.slice A xs.length c):=by rw[hW0];exact (((Zat.new w _ _).alloc _).alloc _).alloc _
 have tY:Zat W0 (w.heap.size+1) (.bool true) (.slice A' ys.length c'):=by
  have h:=Zat.new (w.alloc (.cells #[.bool false,.slice A xs.length c] 30)) (.bool true) (.slice A' ys.length c');rw[szA]at h;rw[hW0];exact (h.alloc _).alloc _
 have tQ:Zat W0 (w.heap.size+1+1) (.bool false) (.slice none 0 0):=by
  have h:=Zat.new ((w.alloc (.cells #[.bool false,.slice A xs.length c] 30)).alloc (.cells #[.bool true,.slice A' ys.length c'] 30)) (.bool false) (.slice none 0 0);rw[szA,szA]at h;rw[hW0];exact h.alloc _
 have tR:Zat W0 (w.heap.size+1+1+1) (.bool false) (.slice none 0 0):=by
  have h:=Zat.new (((w.alloc (.cells #[.bool false,.slice A xs.length c] 30)).alloc (.cells #[.bool true,.slice A' ys.length c'] 30)).alloc (.cells #[.bool false,.slice none 0 0] 30)) (.bool false) (.slice none 0 0);rw[szA,szA,szA]at h;rw[hW0];exact h
 have q1:=tX.two.c1;have q2:=tY.two.c1;have HW0:=Hd hW0;clear hW0
 go_enter Tryz.func124,Tryz.ntmps124
 go_wp2_with fail
 rw[<-HW0.out]
 go_quiet ((first|(go_at_call 119;with_reducible exact Calls.quiet_of_same (trim_q (HX.out.to (hb.trans (bel_drewN (Below.refl _ _) _)))))|(go_at_call 119;with_reducible exact Calls.quiet_of_same (trim_q (HY.out.to (hb.trans (bel_drewN (Below.refl _ _) _)))))))
 rename_i nq
 have hb1:Below w.heap.size w (W0.drewN nq):=bel_drewN hb _;have tX1:Two (W0.drewN nq) w.heap.size _ _:=tX.two.to (bel_drewN (Below.refl _ _) _);have tY1:Two (W0.drewN nq) (w.heap.size+1) _ _:=tY.two.to (bel_drewN (Below.refl _ _) _);have tQ1:Two (W0.drewN nq) (w.heap.size+1+1) _ _:=tQ.two.to (bel_drewN (Below.refl _ _) _);have tR1:Two (W0.drewN nq) (w.heap.size+1+1+1) _ _:=tR.two.to (bel_drewN (Below.refl _ _) _);generalize W0.drewN nq=W1 at hb1 tX1 tY1 tQ1 tR1 ⊢;clear q1 q2 tX tY tQ tR hb HW0
 go_wp2_with fail
 refine (divide_all (HX.out.to hb1) (HY.out.to hb1) H0.out (by omega)).mono ?_;rintro e w2 ⟨A1,c1,qs,A2,c2,rs,rfl,AQ',AR',vq,r4,hb2⟩;have VQ:=Hd vq;have r1:=AQ'.rd;have r2:=AR'.rd;have r3:=AR'.dg;have r5:=AQ'.le;have r6:=AQ'.cap;have r7:=AR'.le;have r8:=AR'.cap;have r9:=AR'.small;have dq:=AQ'.dg;have hb3:=Bxb hb1 hb2;have tX2:=tX1.to hb2;have tY2:=tY1.to hb2;have tQ2:=tQ1.to hb2;have tR2:=tR1.to hb2;have R4:=Hd r4;have AR:=Hd (⟨r2,r3,r7,r8,r9⟩:Arg w2 A2 c2 rs);have R1:=Hd r1;have AQ:=Hd AQ';clear AQ' AR' vq r1 r2 r4 hb1 hb2 tX1 tY1 tQ1 tR1;have p1:=tX2.c0;have p2:=tY2.c0;have I1:=Hd (integer_l true R1.out dq r5 r6);rw[VQ.out]at I1;obtain ⟨q,eq⟩:∃q:Int,Hid (zof true (val b32 xs / val b32 ys)=q):=⟨_,rfl⟩
 rw[eq.out]at I1
 go_wp2_with fail
 refine I1.out.mono ?_;rintro e w5 ⟨A5,c5,rfl,s1,s2,s3,hb10⟩;have hb11:=Bxb hb3 hb10;have tQ5:=tQ2.to hb10;have tR5:=tR2.to hb10;have I2:=Hd (integer_l false (AR.out.rd.to hb10) r3 r7 r8);rw[R4.out]at I2;obtain ⟨r,er⟩:∃r:Int,Hid (zof false (val b32 xs % val b32 ys)=r):=⟨_,rfl⟩
 rw[er.out]at I2;have S1:=Hd s1;clear s1 hb10 hb3 tQ2 tR2
 go_wp2_with fail
 refine I2.out.mono ?_;rintro e w6 ⟨A6,c6,rfl,v1,v2,v3,hb12⟩;have HB:=Hd (Bxb hb11 hb12);have TQ:=Hd (tQ5.to hb12);have TR:=Hd (tR5.to hb12);obtain ⟨g1,g2,g3,g4,g5⟩:=tQ5.to hb12;obtain ⟨k1,k2,k3,k4,k5⟩:=tR5.to hb12;have S3:=Hd (S1.out.to hb12);have V3:=Hd v1;clear v1 hb12 hb11 tQ5 tR5 p1 p2;go_wp2
 have tF:=TQ.out.set (.bool (decide (q<0))) (.slice A5 (dig b32 q.natAbs).length c5);have tG:=(TR.out.far (g':=w.heap.size+1+1) (by omega) (.bool (decide (q<0))) (.slice A5 (dig b32 q.natAbs).length c5)).set (.bool (decide (r<0))) (.slice A6 (dig b32 r.natAbs).length c6);have tH:=tF.far (g':=w.heap.size+1+1+1) (by omega) (.bool (decide (r<0))) (.slice A6 (dig b32 r.natAbs).length c6)
 refine bodyPost_ret (v:=.tuple #[.agg #[.bool (decide (q<0)),.slice A5 (dig b32 q.natAbs).length c5],.agg #[.bool (decide (r<0)),.slice A6 (dig b32 r.natAbs).length c6],.int .i64 0])
  (by simp[results,Tryz.f124,go_sem,tH.c0,tH.c1,tG.c0,tG.c1]) rfl ?_
 rw[eq.out,show (((val b32 xs % val b32 ys:Nat):Int))=r from er.out];exact dret_stored TQ.out TR.out (by omega) (by omega) (by omega) S3.out V3.out s2 s3 v2 v3 HB.out
theorem dx_tfz {A A':Option Addr}{c c':Nat}{xs ys:List Nat}{w:World}(hx:Arg w A c xs)(hy:Arg w A' c' ys)(hxl:xs.length<=4294967293)(h0:0<val b32 ys)(hm:val b32 xs % val b32 ys=0) :
  Calls Tryz.prog 124 #[.agg #[.bool true,.slice A xs.length c],.agg #[.bool false,.slice A' ys.length c']] w (DRet w (zof true (val b32 xs / val b32 ys)) ((val b32 xs % val b32 ys:Nat):Int)):=by
 have HX:=Hd hx;have HY:=Hd hy;have H0:=Hd h0;have HM:=Hd hm
 have hlen:((trimL ys).length=0)↔val b32 ys=0:=by
  rw[trimL_dig b32_one hy.dg];exact ⟨fun h=>(dig_nil b32_one).1 (List.eq_nil_of_length_eq_zero h),fun h=>by rw[h];rfl⟩
 have hq:((((trimL ys).length:Nat):Int)==0)=false:=by
  have:(trimL ys).length≠0:=fun h=>by have:=hlen.1 h;omega
  rw[beq_eq_false_iff_ne];omega
 clear hx hy h0 hlen hm;obtain ⟨W0,hW0⟩:∃W0,W0=(((w.alloc (.cells #[.bool true,.slice A xs.length c] 30)).alloc (.cells #[.bool false,.slice A' ys.length c'] 30)).alloc (.cells #[.bool false,.slice none 0 0] 30)).alloc (.cells #[.bool false,.slice none 0 0] 30):=⟨_,rfl⟩
 have hb:Below w.heap.size w W0:=by rw[hW0];exact ((bRR.alloc (by simp) _).alloc (by simp;omega) _).alloc (by simp;omega) _
 have tX:Zat W0 w.heap.size (.bool true) (.slice A xs.length c):=by rw[hW0];exact (((Zat.new w _ _).alloc _).alloc _).alloc _
 have tY:Zat W0 (w.heap.size+1) (.bool false) (.slice A' ys.length c'):=by
  have h:=Zat.new (w.alloc (.cells #[.bool true,.slice A xs.length c] 30)) (.bool false) (.slice A' ys.length c');rw[szA]at h;rw[hW0];exact (h.alloc _).alloc _
 have tQ:Zat W0 (w.heap.size+1+1) (.bool false) (.slice none 0 0):=by
  have h:=Zat.new ((w.alloc (.cells #[.bool true,.slice A xs.length c] 30)).alloc (.cells #[.bool false,.slice A' ys.length c'] 30)) (.bool false) (.slice none 0 0);rw[szA,szA]at h;rw[hW0];exact h.alloc _
 have tR:Zat W0 (w.heap.size+1+1+1) (.bool false) (.slice none 0 0):=by
  have h:=Zat.new (((w.alloc (.cells #[.bool true,.slice A xs.length c] 30)).alloc (.cells #[.bool false,.slice A' ys.length c'] 30)).alloc (.cells #[.bool false,.slice none 0 0] 30)) (.bool false) (.slice none 0 0);rw[szA,szA,szA]at h;rw[hW0];exact h
 have q1:=tX.two.c1;have q2:=tY.two.c1;have HW0:=Hd hW0;clear hW0
 go_enter Tryz.func124,Tryz.ntmps124
 go_wp2_with fail
 rw[<-HW0.out]
 go_quiet ((first|(go_at_call 119;with_reducible exact Calls.quiet_of_same (trim_q (HX.out.to (hb.trans (bel_drewN (Below.refl _ _) _)))))|(go_at_call 119;with_reducible exact Calls.quiet_of_same (trim_q (HY.out.to (hb.trans (bel_drewN (Below.refl _ _) _)))))))
 rename_i nq
 have hb1:Below w.heap.size w (W0.drewN nq):=bel_drewN hb _;have tX1:Two (W0.drewN nq) w.heap.size _ _:=tX.two.to (bel_drewN (Below.refl _ _) _);have tY1:Two (W0.drewN nq) (w.heap.size+1) _ _:=tY.two.to (bel_drewN (Below.refl _ _) _);have tQ1:Two (W0.drewN nq) (w.heap.size+1+1) _ _:=tQ.two.to (bel_drewN (Below.refl _ _) _);have tR1:Two (W0.drewN nq) (w.heap.size+1+1+1) _ _:=tR.two.to (bel_drewN (Below.refl _ _) _);generalize W0.drewN nq=W1 at hb1 tX1 tY1 tQ1 tR1 ⊢;clear q1 q2 tX tY tQ tR hb HW0
 go_wp2_with fail
 refine (divide_all (HX.out.to hb1) (HY.out.to hb1) H0.out (by omega)).mono ?_;rintro e w2 ⟨A1,c1,qs,A2,c2,rs,rfl,AQ',AR',vq,r4,hb2⟩;have VQ:=Hd vq;have r1:=AQ'.rd;have r2:=AR'.rd;have r3:=AR'.dg;have r5:=AQ'.le;have r6:=AQ'.cap;have r7:=AR'.le;have r8:=AR'.cap;have r9:=AR'.small;have dq:=AQ'.dg;have hb3:=Bxb hb1 hb2;have tX2:=tX1.to hb2;have tY2:=tY1.to hb2;have tQ2:=tQ1.to hb2;have tR2:=tR1.to hb2;have R4:=Hd r4;have AR:=Hd (⟨r2,r3,r7,r8,r9⟩:Arg w2 A2 c2 rs);have R1:=Hd r1;have AQ:=Hd AQ';clear AQ' AR' vq r1 r2 r4 hb1 hb2 tX1 tY1 tQ1 tR1;have p1:=tX2.c0;have p2:=tY2.c0
 have hrl:(trimL rs).length=0:=by
  rw[trimL_dig b32_one AR.out.dg,R4.out,HM.out];rfl
 have HT:=Hd (trim_l AR.out);rw[hrl]at HT;clear hrl
 go_wp2_with fail
 refine HT.out.mono ?_;rintro e w' ⟨rfl,rfl⟩;have I1:=Hd (integer_l true R1.out dq r5 r6);rw[VQ.out]at I1;obtain ⟨q,eq⟩:∃q:Int,Hid (zof true (val b32 xs / val b32 ys)=q):=⟨_,rfl⟩
 rw[eq.out]at I1
 go_wp2_with fail
 refine I1.out.mono ?_;rintro e w5 ⟨A5,c5,rfl,s1,s2,s3,hb10⟩;have hb11:=Bxb hb3 hb10;have tQ5:=tQ2.to hb10;have tR5:=tR2.to hb10;have I2:=Hd (integer_l false (AR.out.rd.to hb10) r3 r7 r8);rw[R4.out]at I2;obtain ⟨r,er⟩:∃r:Int,Hid (zof false (val b32 xs % val b32 ys)=r):=⟨_,rfl⟩
 rw[er.out]at I2;have S1:=Hd s1;clear s1 hb10 hb3 tQ2 tR2
 go_wp2_with fail
 refine I2.out.mono ?_;rintro e w6 ⟨A6,c6,rfl,v1,v2,v3,hb12⟩;have HB:=Hd (Bxb hb11 hb12);have TQ:=Hd (tQ5.to hb12);have TR:=Hd (tR5.to hb12);obtain ⟨g1,g2,g3,g4,g5⟩:=tQ5.to hb12;obtain ⟨k1,k2,k3,k4,k5⟩:=tR5.to hb12;have S3:=Hd (S1.out.to hb12);have V3:=Hd v1;clear v1 hb12 hb11 tQ5 tR5 p1 p2;go_wp2
 have tF:=TQ.out.set (.bool (decide (q<0))) (.slice A5 (dig b32 q.natAbs).length c5);have tG:=(TR.out.far (g':=w.heap.size+1+1) (by omega) (.bool (decide (q<0))) (.slice A5 (dig b32 q.natAbs).length c5)).set (.bool (decide (r<0))) (.slice A6 (dig b32 r.natAbs).length c6);have tH:=tF.far (g':=w.heap.size+1+1+1) (by omega) (.bool (decide (r<0))) (.slice A6 (dig b32 r.natAbs).length c6)
 refine bodyPost_ret (v:=.tuple #[.agg #[.bool (decide (q<0)),.slice A5 (dig b32 q.natAbs).length c5],.agg #[.bool (decide (r<0)),.slice A6 (dig b32 r.natAbs).length c6],.int .i64 0])
  (by simp[results,Tryz.f124,go_sem,tH.c0,tH.c1,tG.c0,tG.c1]) rfl ?_
 rw[eq.out,show (((val b32 xs % val b32 ys:Nat):Int))=r from er.out];exact dret_stored TQ.out TR.out (by omega) (by omega) (by omega) S3.out V3.out s2 s3 v2 v3 HB.out
theorem dx_ttz {A A':Option Addr}{c c':Nat}{xs ys:List Nat}{w:World}(hx:Arg w A c xs)(hy:Arg w A' c' ys)(hxl:xs.length<=4294967293)(h0:0<val b32 ys)(hm:val b32 xs % val b32 ys=0) :
  Calls Tryz.prog 124 #[.agg #[.bool true,.slice A xs.length c],.agg #[.bool true,.slice A' ys.length c']] w (DRet w (zof false (val b32 xs / val b32 ys)) ((val b32 xs % val b32 ys:Nat):Int)):=by
 have HX:=Hd hx;have HY:=Hd hy;have H0:=Hd h0;have HM:=Hd hm
 have hlen:((trimL ys).length=0)↔val b32 ys=0:=by
  rw[trimL_dig b32_one hy.dg];exact ⟨fun h=>(dig_nil b32_one).1 (List.eq_nil_of_length_eq_zero h),fun h=>by rw[h];rfl⟩
 have hq:((((trimL ys).length:Nat):Int)==0)=false:=by
  have:(trimL ys).length≠0:=fun h=>by have:=hlen.1 h;omega
  rw[beq_eq_false_iff_ne];omega
 clear hx hy h0 hlen hm;obtain ⟨W0,hW0⟩:∃W0,W0=(((w.alloc (.cells #[.bool true,.slice A xs.length c] 30)).alloc (.cells #[.bool true,.slice A' ys.length c'] 30)).alloc (.cells #[.bool false,.slice none 0 0] 30)).alloc (.cells #[.bool false,.slice none 0 0] 30):=⟨_,rfl⟩
 have hb:Below w.heap.size w W0:=by rw[hW0];exact ((bRR.alloc (by simp) _).alloc (by simp;omega) _).alloc (by simp;omega) _
 have tX:Zat W0 w.heap.size (.bool true) (.slice A xs.length c):=by rw[hW0];exact (((Zat.new w _ _).alloc _).alloc _).alloc _
 have tY:Zat W0 (w.heap.size+1) (.bool true) (.slice A' ys.length c'):=by
  have h:=Zat.new (w.alloc (.cells #[.bool true,.slice A xs.length c] 30)) (.bool true) (.slice A' ys.length c');rw[szA]at h;rw[hW0];exact (h.alloc _).alloc _
 have tQ:Zat W0 (w.heap.size+1+1) (.bool false) (.slice none 0 0):=by
  have h:=Zat.new ((w.alloc (.cells #[.bool true,.slice A xs.length c] 30)).alloc (.cells #[.bool true,.slice A' ys.length c'] 30)) (.bool false) (.slice none 0 0);rw[szA,szA]at h;rw[hW0];exact h.alloc _
 have tR:Zat W0 (w.heap.size+1+1+1) (.bool false) (.slice none 0 0):=by
  have h:=Zat.new (((w.alloc (.cells #[.bool true,.slice A xs.length c] 30)).alloc (.cells #[.bool true,.slice A' ys.length c'] 30)).alloc (.cells #[.bool false,.slice none 0 0] 30)) (.bool false) (.slice none 0 0);rw[szA,szA,szA]at h;rw[hW0];exact h
 have q1:=tX.two.c1;have q2:=tY.two.c1;have HW0:=Hd hW0;clear hW0
 go_enter Tryz.func124,Tryz.ntmps124
 go_wp2_with fail
 rw[<-HW0.out]
 go_quiet ((first|(go_at_call 119;with_reducible exact Calls.quiet_of_same (trim_q (HX.out.to (hb.trans (bel_drewN (Below.refl _ _) _)))))|(go_at_call 119;with_reducible exact Calls.quiet_of_same (trim_q (HY.out.to (hb.trans (bel_drewN (Below.refl _ _) _)))))))
 rename_i nq
 have hb1:Below w.heap.size w (W0.drewN nq):=bel_drewN hb _;have tX1:Two (W0.drewN nq) w.heap.size _ _:=tX.two.to (bel_drewN (Below.refl _ _) _);have tY1:Two (W0.drewN nq) (w.heap.size+1) _ _:=tY.two.to (bel_drewN (Below.refl _ _) _);have tQ1:Two (W0.drewN nq) (w.heap.size+1+1) _ _:=tQ.two.to (bel_drewN (Below.refl _ _) _);have tR1:Two (W0.drewN nq) (w.heap.size+1+1+1) _ _:=tR.two.to (bel_drewN (Below.refl _ _) _);generalize W0.drewN nq=W1 at hb1 tX1 tY1 tQ1 tR1 ⊢;clear q1 q2 tX tY tQ tR hb HW0
 go_wp2_with fail
 refine (divide_all (HX.out.to hb1) (HY.out.to hb1) H0.out (by omega)).mono ?_;rintro e w2 ⟨A1,c1,qs,A2,c2,rs,rfl,AQ',AR',vq,r4,hb2⟩;have VQ:=Hd vq;have r1:=AQ'.rd;have r2:=AR'.rd;have r3:=AR'.dg;have r5:=AQ'.le;have r6:=AQ'.cap;have r7:=AR'.le;have r8:=AR'.cap;have r9:=AR'.small;have dq:=AQ'.dg;have hb3:=Bxb hb1 hb2;have tX2:=tX1.to hb2;have tY2:=tY1.to hb2;have tQ2:=tQ1.to hb2;have tR2:=tR1.to hb2;have R4:=Hd r4;have AR:=Hd (⟨r2,r3,r7,r8,r9⟩:Arg w2 A2 c2 rs);have R1:=Hd r1;have AQ:=Hd AQ';clear AQ' AR' vq r1 r2 r4 hb1 hb2 tX1 tY1 tQ1 tR1;have p1:=tX2.c0;have p2:=tY2.c0
 have hrl:(trimL rs).length=0:=by
  rw[trimL_dig b32_one AR.out.dg,R4.out,HM.out];rfl
 have HT:=Hd (trim_l AR.out);rw[hrl]at HT;clear hrl
 go_wp2_with fail
 refine HT.out.mono ?_;rintro e w' ⟨rfl,rfl⟩;have I1:=Hd (integer_l false R1.out dq r5 r6);rw[VQ.out]at I1;obtain ⟨q,eq⟩:∃q:Int,Hid (zof false (val b32 xs / val b32 ys)=q):=⟨_,rfl⟩
 rw[eq.out]at I1
 go_wp2_with fail
 refine I1.out.mono ?_;rintro e w5 ⟨A5,c5,rfl,s1,s2,s3,hb10⟩;have hb11:=Bxb hb3 hb10;have tQ5:=tQ2.to hb10;have tR5:=tR2.to hb10;have I2:=Hd (integer_l false (AR.out.rd.to hb10) r3 r7 r8);rw[R4.out]at I2;obtain ⟨r,er⟩:∃r:Int,Hid (zof false (val b32 xs % val b32 ys)=r):=⟨_,rfl⟩
 rw[er.out]at I2;have S1:=Hd s1;clear s1 hb10 hb3 tQ2 tR2
 go_wp2_with fail
 refine I2.out.mono ?_;rintro e w6 ⟨A6,c6,rfl,v1,v2,v3,hb12⟩;have HB:=Hd (Bxb hb11 hb12);have TQ:=Hd (tQ5.to hb12);have TR:=Hd (tR5.to hb12);obtain ⟨g1,g2,g3,g4,g5⟩:=tQ5.to hb12;obtain ⟨k1,k2,k3,k4,k5⟩:=tR5.to hb12;have S3:=Hd (S1.out.to hb12);have V3:=Hd v1;clear v1 hb12 hb11 tQ5 tR5 p1 p2;go_wp2
 have tF:=TQ.out.set (.bool (decide (q<0))) (.slice A5 (dig b32 q.natAbs).length c5);have tG:=(TR.out.far (g':=w.heap.size+1+1) (by omega) (.bool (decide (q<0))) (.slice A5 (dig b32 q.natAbs).length c5)).set (.bool (decide (r<0))) (.slice A6 (dig b32 r.natAbs).length c6);have tH:=tF.far (g':=w.heap.size+1+1+1) (by omega) (.bool (decide (r<0))) (.slice A6 (dig b32 r.natAbs).length c6)
 refine bodyPost_ret (v:=.tuple #[.agg #[.bool (decide (q<0)),.slice A5 (dig b32 q.natAbs).length c5],.agg #[.bool (decide (r<0)),.slice A6 (dig b32 r.natAbs).length c6],.int .i64 0])
  (by simp[results,Tryz.f124,go_sem,tH.c0,tH.c1,tG.c0,tG.c1]) rfl ?_
 rw[eq.out,show (((val b32 xs % val b32 ys:Nat):Int))=r from er.out];exact dret_stored TQ.out TR.out (by omega) (by omega) (by omega) S3.out V3.out s2 s3 v2 v3 HB.out
theorem dx_tfn {A A':Option Addr}{c c':Nat}{xs ys:List Nat}{w:World}(hx:Arg w A c xs)(hy:Arg w A' c' ys)(hxl:xs.length<=4294967293)(h0:0<val b32 ys)(hm:0<val b32 xs % val b32 ys) :
  Calls Tryz.prog 124 #[.agg #[.bool true,.slice A xs.length c],.agg #[.bool false,.slice A' ys.length c']] w (DRet w (zof true (val b32 xs / val b32 ys+1)) ((val b32 ys-val b32 xs % val b32 ys:Nat):Int)):=by
 have HX:=Hd hx;have HY:=Hd hy;have H0:=Hd h0;have HM:=Hd hm
 have hlen:((trimL ys).length=0)↔val b32 ys=0:=by
  rw[trimL_dig b32_one hy.dg];exact ⟨fun h=>(dig_nil b32_one).1 (List.eq_nil_of_length_eq_zero h),fun h=>by rw[h];rfl⟩
 have hq:((((trimL ys).length:Nat):Int)==0)=false:=by
  have:(trimL ys).length≠0:=fun h=>by have:=hlen.1 h;omega
  rw[beq_eq_false_iff_ne];omega
 clear hx hy h0 hlen hm;obtain ⟨W0,hW0⟩:∃W0,W0=(((w.alloc (.cells #[.bool true,.slice A xs.length c] 30)).alloc (.cells #[.bool false,.slice A' ys.length c'] 30)).alloc (.cells #[.bool false,.slice none 0 0] 30)).alloc (.cells #[.bool false,.slice none 0 0] 30):=⟨_,rfl⟩
 have hb:Below w.heap.size w W0:=by rw[hW0];exact ((bRR.alloc (by simp) _).alloc (by simp;omega) _).alloc (by simp;omega) _
 have tX:Zat W0 w.heap.size (.bool true) (.slice A xs.length c):=by rw[hW0];exact (((Zat.new w _ _).alloc _).alloc _).alloc _
 have tY:Zat W0 (w.heap.size+1) (.bool false) (.slice A' ys.length c'):=by
  have h:=Zat.new (w.alloc (.cells #[.bool true,.slice A xs.length c] 30)) (.bool false) (.slice A' ys.length c');rw[szA]at h;rw[hW0];exact (h.alloc _).alloc _
 have tQ:Zat W0 (w.heap.size+1+1) (.bool false) (.slice none 0 0):=by
  have h:=Zat.new ((w.alloc (.cells #[.bool true,.slice A xs.length c] 30)).alloc (.cells #[.bool false,.slice A' ys.length c'] 30)) (.bool false) (.slice none 0 0);rw[szA,szA]at h;rw[hW0];exact h.alloc _
 have tR:Zat W0 (w.heap.size+1+1+1) (.bool false) (.slice none 0 0):=by
  have h:=Zat.new (((w.alloc (.cells #[.bool true,.slice A xs.length c] 30)).alloc (.cells #[.bool false,.slice A' ys.length c'] 30)).alloc (.cells #[.bool false,.slice none 0 0] 30)) (.bool false) (.slice none 0 0);rw[szA,szA,szA]at h;rw[hW0];exact h
 have q1:=tX.two.c1;have q2:=tY.two.c1;have HW0:=Hd hW0;clear hW0
 go_enter Tryz.func124,Tryz.ntmps124
 go_wp2_with fail
 rw[<-HW0.out]
 go_quiet ((first|(go_at_call 119;with_reducible exact Calls.quiet_of_same (trim_q (HX.out.to (hb.trans (bel_drewN (Below.refl _ _) _)))))|(go_at_call 119;with_reducible exact Calls.quiet_of_same (trim_q (HY.out.to (hb.trans (bel_drewN (Below.refl _ _) _)))))))
 rename_i nq
 have hb1:Below w.heap.size w (W0.drewN nq):=bel_drewN hb _;have tX1:Two (W0.drewN nq) w.heap.size _ _:=tX.two.to (bel_drewN (Below.refl _ _) _);have tY1:Two (W0.drewN nq) (w.heap.size+1) _ _:=tY.two.to (bel_drewN (Below.refl _ _) _);have tQ1:Two (W0.drewN nq) (w.heap.size+1+1) _ _:=tQ.two.to (bel_drewN (Below.refl _ _) _);have tR1:Two (W0.drewN nq) (w.heap.size+1+1+1) _ _:=tR.two.to (bel_drewN (Below.refl _ _) _);generalize W0.drewN nq=W1 at hb1 tX1 tY1 tQ1 tR1 ⊢;clear q1 q2 tX tY tQ tR hb HW0
 go_wp2_with fail
 refine (divide_all (HX.out.to hb1) (HY.out.to hb1) H0.out (by omega)).mono ?_;rintro e w2 ⟨A1,c1,qs,A2,c2,rs,rfl,AQ',AR',vq,r4,hb2⟩;have VQ:=Hd vq;have r1:=AQ'.rd;have r2:=AR'.rd;have r3:=AR'.dg;have r5:=AQ'.le;have r6:=AQ'.cap;have r7:=AR'.le;have r8:=AR'.cap;have r9:=AR'.small;have dq:=AQ'.dg;have hb3:=Bxb hb1 hb2;have tX2:=tX1.to hb2;have tY2:=tY1.to hb2;have tQ2:=tQ1.to hb2;have tR2:=tR1.to hb2;have R4:=Hd r4;have AR:=Hd (⟨r2,r3,r7,r8,r9⟩:Arg w2 A2 c2 rs);have R1:=Hd r1;have AQ:=Hd AQ';clear AQ' AR' vq r1 r2 r4 hb1 hb2 tX1 tY1 tQ1 tR1;have p1:=tX2.c0;have p2:=tY2.c0
 have hrl:(0:Int)<((trimL rs).length:Nat):=by
  rcases Nat.eq_zero_or_pos (trimL rs).length with h|h
  .exfalso
   rw[trimL_dig b32_one AR.out.dg,R4.out]at h;have h1:=(dig_nil b32_one).1 (List.eq_nil_of_length_eq_zero h);have h2:=HM.out;omega
  .omega
 have HT:=Hd (trim_l AR.out)
 go_wp2_with fail
 refine HT.out.mono ?_;rintro e w' ⟨rfl,rfl⟩;clear HT
 have ho:Arg (w2.alloc (.cells #[.int .u32 1] 89)) (some ⟨w2.heap.size,0,none⟩) 1 [1]:=by
  have h:=Rd.new .u32 w2 89 [1];exact ⟨by simpa [ints]using h,Dg.one (by decide),by simp,by omega,by simp⟩
 have hb4:Below w2.heap.size w2 (w2.alloc (.cells #[.int .u32 1] 89)):=bRR;have C1:=Hd (combine_l (q:=1) (.inl rfl) (AQ.out.to hb4) ho (by omega));have HB4:=Hd hb4;clear ho hb4
 go_wp2_with fail
 refine C1.out.mono ?_;rintro e w3 ⟨A3,c3,zs,rfl,u1,u2,u3,u4,u5,u6,hb5⟩;rw[VQ.out]at u6;have hb6:=HB4.out.trans (hb5.mono HB4.out.size);have hb7:=Bxb hb3 hb6;have tX3:=tX2.to hb6;have tY3:=tY2.to hb6;have tQ3:=tQ2.to hb6;have tR3:=tR2.to hb6;have hmod:=Nat.mod_lt (val b32 xs) H0.out;have C2:=Hd (combine_l (q:=-1) (.inr rfl) (HY.out.to hb7).trim (AR.out.to hb6) (by rw[val_trimL,R4.out];omega))
 have V1:Hid (val b32 zs=val b32 xs / val b32 ys+1):=by
  show _=_
  have h1:val b32 [1]=1:=rfl;rw[h1]at u6;omega
 have U1:=Hd u1;clear u1 u6 hb5 hb6 hb3 tX2 tY2 tQ2 tR2 p1 p2 hmod
 go_wp2_with fail
 refine C2.out.mono ?_;rintro e w4 ⟨A4,c4,ms,rfl,m1,m2,m3,m4,m5,m6,hb8⟩
 have V2:Hid (val b32 ms=val b32 ys-val b32 xs % val b32 ys):=by
  show _=_
  rw[val_trimL,R4.out]at m6;have:=Nat.mod_lt (val b32 xs) H0.out;omega
 have hb9:=Bxb hb7 hb8;have tX4:=tX3.to hb8;have tY4:=tY3.to hb8;have tQ4:=tQ3.to hb8;have tR4:=tR3.to hb8;have p1:=tX4.c0;have p2:=tY4.c0;have I1:=Hd (integer_l true (U1.out.to hb8) u4 u2 u3);rw[V1.out]at I1;have M1:=Hd m1;clear m1 m6 hb7 hb8 tX3 tY3 tQ3 tR3;obtain ⟨q,eq⟩:∃q:Int,Hid (zof true (val b32 xs / val b32 ys+1)=q):=⟨_,rfl⟩
 rw[eq.out]at I1
 go_wp2_with fail
 refine I1.out.mono ?_;rintro e w5 ⟨A5,c5,rfl,s1,s2,s3,hb10⟩;have hb11:=Bxb hb9 hb10;have tQ5:=tQ4.to hb10;have tR5:=tR4.to hb10;have I2:=Hd (integer_l false (M1.out.to hb10) m4 m2 m3);rw[V2.out]at I2;obtain ⟨r,er⟩:∃r:Int,Hid (zof false (val b32 ys-val b32 xs % val b32 ys)=r):=⟨_,rfl⟩
 rw[er.out]at I2;have S1:=Hd s1;clear s1 hb10 hb9 tQ4 tR4
 go_wp2_with fail
 refine I2.out.mono ?_;rintro e w6 ⟨A6,c6,rfl,v1,v2,v3,hb12⟩;have HB:=Hd (Bxb hb11 hb12);have TQ:=Hd (tQ5.to hb12);have TR:=Hd (tR5.to hb12);obtain ⟨g1,g2,g3,g4,g5⟩:=tQ5.to hb12;obtain ⟨k1,k2,k3,k4,k5⟩:=tR5.to hb12;have S3:=Hd (S1.out.to hb12);have V3:=Hd v1;clear v1 hb12 hb11 tQ5 tR5 p1 p2;go_wp2
 have tF:=TQ.out.set (.bool (decide (q<0))) (.slice A5 (dig b32 q.natAbs).length c5);have tG:=(TR.out.far (g':=w.heap.size+1+1) (by omega) (.bool (decide (q<0))) (.slice A5 (dig b32 q.natAbs).length c5)).set (.bool (decide (r<0))) (.slice A6 (dig b32 r.natAbs).length c6);have tH:=tF.far (g':=w.heap.size+1+1+1) (by omega) (.bool (decide (r<0))) (.slice A6 (dig b32 r.natAbs).length c6)
 refine bodyPost_ret (v:=.tuple #[.agg #[.bool (decide (q<0)),.slice A5 (dig b32 q.natAbs).length c5],.agg #[.bool (decide (r<0)),.slice A6 (dig b32 r.natAbs).length c6],.int .i64 0])
  (by simp[results,Tryz.f124,go_sem,tH.c0,tH.c1,tG.c0,tG.c1]) rfl ?_
 rw[eq.out,show (((val b32 ys-val b32 xs % val b32 ys:Nat):Int))=r from er.out];exact dret_stored TQ.out TR.out (by omega) (by omega) (by omega) S3.out V3.out s2 s3 v2 v3 HB.out
theorem dx_ttn {A A':Option Addr}{c c':Nat}{xs ys:List Nat}{w:World}(hx:Arg w A c xs)(hy:Arg w A' c' ys)(hxl:xs.length<=4294967293)(h0:0<val b32 ys)(hm:0<val b32 xs % val b32 ys) :
  Calls Tryz.prog 124 #[.agg #[.bool true,.slice A xs.length c],.agg #[.bool true,.slice A' ys.length c']] w (DRet w (zof false (val b32 xs / val b32 ys+1)) ((val b32 ys-val b32 xs % val b32 ys:Nat):Int)):=by
 have HX:=Hd hx;have HY:=Hd hy;have H0:=Hd h0;have HM:=Hd hm
 have hlen:((trimL ys).length=0)↔val b32 ys=0:=by
  rw[trimL_dig b32_one hy.dg];exact ⟨fun h=>(dig_nil b32_one).1 (List.eq_nil_of_length_eq_zero h),fun h=>by rw[h];rfl⟩
 have hq:((((trimL ys).length:Nat):Int)==0)=false:=by
  have:(trimL ys).length≠0:=fun h=>by have:=hlen.1 h;omega
  rw[beq_eq_false_iff_ne];omega
 clear hx hy h0 hlen hm;obtain ⟨W0,hW0⟩:∃W0,W0=(((w.alloc (.cells #[.bool true,.slice A xs.length c] 30)).alloc (.cells #[.bool true,.slice A' ys.length c'] 30)).alloc (.cells #[.bool false,.slice none 0 0] 30)).alloc (.cells #[.bool false,.slice none 0 0] 30):=⟨_,rfl⟩
 have hb:Below w.heap.size w W0:=by rw[hW0];exact ((bRR.alloc (by simp) _).alloc (by simp;omega) _).alloc (by simp;omega) _
 have tX:Zat W0 w.heap.size (.bool true) (.slice A xs.length c):=by rw[hW0];exact (((Zat.new w _ _).alloc _).alloc _).alloc _
 have tY:Zat W0 (w.heap.size+1) (.bool true) (.slice A' ys.length c'):=by
  have h:=Zat.new (w.alloc (.cells #[.bool true,.slice A xs.length c] 30)) (.bool true) (.slice A' ys.length c');rw[szA]at h;rw[hW0];exact (h.alloc _).alloc _
 have tQ:Zat W0 (w.heap.size+1+1) (.bool false) (.slice none 0 0):=by
  have h:=Zat.new ((w.alloc (.cells #[.bool true,.slice A xs.length c] 30)).alloc (.cells #[.bool true,.slice A' ys.length c'] 30)) (.bool false) (.slice none 0 0);rw[szA,szA]at h;rw[hW0];exact h.alloc _
 have tR:Zat W0 (w.heap.size+1+1+1) (.bool false) (.slice none 0 0):=by
  have h:=Zat.new (((w.alloc (.cells #[.bool true,.slice A xs.length c] 30)).alloc (.cells #[.bool true,.slice A' ys.length c'] 30)).alloc (.cells #[.bool false,.slice none 0 0] 30)) (.bool false) (.slice none 0 0);rw[szA,szA,szA]at h;rw[hW0];exact h
 have q1:=tX.two.c1;have q2:=tY.two.c1;have HW0:=Hd hW0;clear hW0
 go_enter Tryz.func124,Tryz.ntmps124
 go_wp2_with fail
 rw[<-HW0.out]
 go_quiet ((first|(go_at_call 119;with_reducible exact Calls.quiet_of_same (trim_q (HX.out.to (hb.trans (bel_drewN (Below.refl _ _) _)))))|(go_at_call 119;with_reducible exact Calls.quiet_of_same (trim_q (HY.out.to (hb.trans (bel_drewN (Below.refl _ _) _)))))))
 rename_i nq
 have hb1:Below w.heap.size w (W0.drewN nq):=bel_drewN hb _;have tX1:Two (W0.drewN nq) w.heap.size _ _:=tX.two.to (bel_drewN (Below.refl _ _) _);have tY1:Two (W0.drewN nq) (w.heap.size+1) _ _:=tY.two.to (bel_drewN (Below.refl _ _) _);have tQ1:Two (W0.drewN nq) (w.heap.size+1+1) _ _:=tQ.two.to (bel_drewN (Below.refl _ _) _);have tR1:Two (W0.drewN nq) (w.heap.size+1+1+1) _ _:=tR.two.to (bel_drewN (Below.refl _ _) _);generalize W0.drewN nq=W1 at hb1 tX1 tY1 tQ1 tR1 ⊢;clear q1 q2 tX tY tQ tR hb HW0
 go_wp2_with fail
 refine (divide_all (HX.out.to hb1) (HY.out.to hb1) H0.out (by omega)).mono ?_;rintro e w2 ⟨A1,c1,qs,A2,c2,rs,rfl,AQ',AR',vq,r4,hb2⟩;have VQ:=Hd vq;have r1:=AQ'.rd;have r2:=AR'.rd;have r3:=AR'.dg;have r5:=AQ'.le;have r6:=AQ'.cap;have r7:=AR'.le;have r8:=AR'.cap;have r9:=AR'.small;have dq:=AQ'.dg;have hb3:=Bxb hb1 hb2;have tX2:=tX1.to hb2;have tY2:=tY1.to hb2;have tQ2:=tQ1.to hb2;have tR2:=tR1.to hb2;have R4:=Hd r4;have AR:=Hd (⟨r2,r3,r7,r8,r9⟩:Arg w2 A2 c2 rs);have R1:=Hd r1;have AQ:=Hd AQ';clear AQ' AR' vq r1 r2 r4 hb1 hb2 tX1 tY1 tQ1 tR1;have p1:=tX2.c0;have p2:=tY2.c0
 have hrl:(0:Int)<((trimL rs).length:Nat):=by
  rcases Nat.eq_zero_or_pos (trimL rs).length with h|h
  .exfalso
   rw[trimL_dig b32_one AR.out.dg,R4.out]at h;have h1:=(dig_nil b32_one).1 (List.eq_nil_of_length_eq_zero h);have h2:=HM.out;omega
  .omega
 have HT:=Hd (trim_l AR.out)
 go_wp2_with fail
 refine HT.out.mono ?_;rintro e w' ⟨rfl,rfl⟩;clear HT
 have ho:Arg (w2.alloc (.cells #[.int .u32 1] 89)) (some ⟨w2.heap.size,0,none⟩) 1 [1]:=by
  have h:=Rd.new .u32 w2 89 [1];exact ⟨by simpa [ints]using h,Dg.one (by decide),by simp,by omega,by simp⟩
 have hb4:Below w2.heap.size w2 (w2.alloc (.cells #[.int .u32 1] 89)):=bRR;have C1:=Hd (combine_l (q:=1) (.inl rfl) (AQ.out.to hb4) ho (by omega));have HB4:=Hd hb4;clear ho hb4
 go_wp2_with fail
 refine C1.out.mono ?_;rintro e w3 ⟨A3,c3,zs,rfl,u1,u2,u3,u4,u5,u6,hb5⟩;rw[VQ.out]at u6;have hb6:=HB4.out.trans (hb5.mono HB4.out.size);have hb7:=Bxb hb3 hb6;have tX3:=tX2.to hb6;have tY3:=tY2.to hb6;have tQ3:=tQ2.to hb6;have tR3:=tR2.to hb6;have hmod:=Nat.mod_lt (val b32 xs) H0.out;have C2:=Hd (combine_l (q:=-1) (.inr rfl) (HY.out.to hb7).trim (AR.out.to hb6) (by rw[val_trimL,R4.out];omega))
 have V1:Hid (val b32 zs=val b32 xs / val b32 ys+1):=by
  show _=_
  have h1:val b32 [1]=1:=rfl;rw[h1]at u6;omega
 have U1:=Hd u1;clear u1 u6 hb5 hb6 hb3 tX2 tY2 tQ2 tR2 p1 p2 hmod
 go_wp2_with fail
 refine C2.out.mono ?_;rintro e w4 ⟨A4,c4,ms,rfl,m1,m2,m3,m4,m5,m6,hb8⟩
 have V2:Hid (val b32 ms=val b32 ys-val b32 xs % val b32 ys):=by
  show _=_
  rw[val_trimL,R4.out]at m6;have:=Nat.mod_lt (val b32 xs) H0.out;omega
 have hb9:=Bxb hb7 hb8;have tX4:=tX3.to hb8;have tY4:=tY3.to hb8;have tQ4:=tQ3.to hb8;have tR4:=tR3.to hb8;have p1:=tX4.c0;have p2:=tY4.c0;have I1:=Hd (integer_l false (U1.out.to hb8) u4 u2 u3);rw[V1.out]at I1;have M1:=Hd m1;clear m1 m6 hb7 hb8 tX3 tY3 tQ3 tR3;obtain ⟨q,eq⟩:∃q:Int,Hid (zof false (val b32 xs / val b32 ys+1)=q):=⟨_,rfl⟩
 rw[eq.out]at I1
 go_wp2_with fail
 refine I1.out.mono ?_;rintro e w5 ⟨A5,c5,rfl,s1,s2,s3,hb10⟩;have hb11:=Bxb hb9 hb10;have tQ5:=tQ4.to hb10;have tR5:=tR4.to hb10;have I2:=Hd (integer_l false (M1.out.to hb10) m4 m2 m3);rw[V2.out]at I2;obtain ⟨r,er⟩:∃r:Int,Hid (zof false (val b32 ys-val b32 xs % val b32 ys)=r):=⟨_,rfl⟩
 rw[er.out]at I2;have S1:=Hd s1;clear s1 hb10 hb9 tQ4 tR4
 go_wp2_with fail
 refine I2.out.mono ?_;rintro e w6 ⟨A6,c6,rfl,v1,v2,v3,hb12⟩;have HB:=Hd (Bxb hb11 hb12);have TQ:=Hd (tQ5.to hb12);have TR:=Hd (tR5.to hb12);obtain ⟨g1,g2,g3,g4,g5⟩:=tQ5.to hb12;obtain ⟨k1,k2,k3,k4,k5⟩:=tR5.to hb12;have S3:=Hd (S1.out.to hb12);have V3:=Hd v1;clear v1 hb12 hb11 tQ5 tR5 p1 p2;go_wp2
 have tF:=TQ.out.set (.bool (decide (q<0))) (.slice A5 (dig b32 q.natAbs).length c5);have tG:=(TR.out.far (g':=w.heap.size+1+1) (by omega) (.bool (decide (q<0))) (.slice A5 (dig b32 q.natAbs).length c5)).set (.bool (decide (r<0))) (.slice A6 (dig b32 r.natAbs).length c6);have tH:=tF.far (g':=w.heap.size+1+1+1) (by omega) (.bool (decide (r<0))) (.slice A6 (dig b32 r.natAbs).length c6)
 refine bodyPost_ret (v:=.tuple #[.agg #[.bool (decide (q<0)),.slice A5 (dig b32 q.natAbs).length c5],.agg #[.bool (decide (r<0)),.slice A6 (dig b32 r.natAbs).length c6],.int .i64 0])
  (by simp[results,Tryz.f124,go_sem,tH.c0,tH.c1,tG.c0,tG.c1]) rfl ?_
 rw[eq.out,show (((val b32 ys-val b32 xs % val b32 ys:Nat):Int))=r from er.out];exact dret_stored TQ.out TR.out (by omega) (by omega) (by omega) S3.out V3.out s2 s3 v2 v3 HB.out
end Go.Proofs.YtglhdielkkhefaaGreat

namespace Go.Proofs.YtglhdielkkhefaaGreat
structure Lm (a0 b0 P Q R S a b:Nat)(σ:Bool):Prop where
 ha:a0=S*a+Q*b
 hb:b0=R*a+P*b
 det:if σ then P*S=Q*R+1 else Q*R=P*S+1
 rs:R<=S
 qs:Q<=S
 s1:1<=S
 ba:b<=a
theorem Lm.start {a b:Nat}(h:b<=a):Lm a b 1 0 0 1 a b true:=⟨by omega,by omega,by simp,by omega,by omega,by omega,h⟩
theorem Lm.next {a0 b0 P Q R S a b:Nat}{σ:Bool}(h:Lm a0 b0 P Q R S a b σ)(hb:0<b)(hpq:P<=Q∨Q=0/\R=0/\P=1):Lm a0 b0 R S (P+a / b*R) (Q+a / b*S) b (a % b) (!σ)/\R<=S:=by
 have h1:=Nat.div_add_mod a b;have hn:1<=a / b:=by rw[Nat.le_div_iff_mul_le hb];have:=h.ba;omega
 have h2:=Nat.mod_lt a hb;obtain ⟨n,en⟩:∃n,a / b=n:=⟨_,rfl⟩
 obtain ⟨m,em⟩:∃m,a % b=m:=⟨_,rfl⟩
 rw[en]at h1 hn ⊢;rw[em]at h1 h2 ⊢;obtain ⟨ha,hb',det,rs,qs,s1,ba⟩:=h;refine ⟨⟨?_,?_,?_,?_,?_,?_,by omega⟩,rs⟩
 .rw[ha,<-h1];grind
 .rw[hb',<-h1];grind
 .cases σ
  .simp only[Bool.false_eq_true,if_false,Bool.not_false,if_true]at det ⊢
   grind
  .simp only[if_true,Bool.not_true,Bool.false_eq_true,if_false]at det ⊢
   grind
 .rcases hpq with h3|⟨rfl,rfl,rfl⟩
  .have:=Nat.mul_le_mul_left n rs;omega
  .have:=Nat.mul_le_mul hn s1;omega
 .have:=Nat.mul_le_mul hn (Nat.le_refl S);omega
 .have:=Nat.mul_le_mul hn s1;omega
theorem Lm.small {a0 b0 P Q R S a b:Nat}{σ:Bool}(h:Lm a0 b0 P Q R S a b σ)(ha:0<a)(h0:a0<9223372036854775808)(hb0:b0<=a0):S<9223372036854775808/\R<9223372036854775808:=by
 have h1:S*1<=S*a:=Nat.mul_le_mul_left _ ha;have h2:=h.ha;have h3:=h.rs
 constructor<;>omega
theorem Lm.sure {a0 b0 P Q R S a b:Nat}{σ:Bool}(h:Lm a0 b0 P Q R S a b σ)(h0:a0<9223372036854775808)(h1:S<=b)(h2:b+Q+S<=a):S<2147483648:=by
 rcases Nat.lt_or_ge S 2147483648 with h3|h3
 .exact h3
 .have h4:2147483648*4294967296<=S*a:=Nat.mul_le_mul h3 (by omega);have:=h.ha;omega
theorem steps_whole {X Y T P Q R S a b:Nat}{σ:Bool}(hT:0<T)(h:Lm (X / T) (Y / T) P Q R S a b σ)(hpq:P<=Q)(hQ:1<=Q)(h1:S<=b)(h2:b+Q+S<=a) :
  ∃X' Y':Nat,(if σ then P*X=X'+Q*Y/\S*Y=Y'+R*X else Q*Y=X'+P*X/\R*X=Y'+S*Y)/\Y'<X'/\X=S*X'+Q*Y'/\Y=R*X'+P*Y':=by
 obtain ⟨ha,hb,det,rs,qs,s1,ba⟩:=h;have hX:=Nat.div_add_mod X T;have hY:=Nat.div_add_mod Y T;have hx:=Nat.mod_lt X hT;have hy:=Nat.mod_lt Y hT;rw[ha]at hX;rw[hb]at hY;obtain ⟨x,ex⟩:∃x,X % T=x:=⟨_,rfl⟩
 obtain ⟨y,ey⟩:∃y,Y % T=y:=⟨_,rfl⟩
 rw[ex]at hX hx;rw[ey]at hY hy;obtain ⟨t,rfl⟩:∃t,T=t+1:=⟨T-1,by omega⟩
 have k1:b*(t+1)+Q*(t+1)+S*(t+1)<=a*(t+1):=by rw[<-Nat.add_mul,<-Nat.add_mul];exact Nat.mul_le_mul_right _ h2
 have k2:S*(t+1)<=b*(t+1):=Nat.mul_le_mul_right _ h1;have x1:x<=t:=by omega
 have y1:y<=t:=by omega
 have m1:=Nat.mul_le_mul_left Q y1;have m2:=Nat.mul_le_mul_left S y1;have m3:=Nat.mul_le_mul_left P x1;have m4:=Nat.mul_le_mul_left R x1;have m5:=Nat.mul_le_mul_right t hpq;have m6:=Nat.mul_le_mul_right t rs;cases σ
 .simp only[Bool.false_eq_true,if_false]at det ⊢
  have e1:Q*Y=P*X+(a*(t+1)+Q*y)-P*x:=by
   have:Q*Y+P*x=P*X+(a*(t+1)+Q*y):=by grind
   omega
  have e2:R*X=S*Y+(b*(t+1)+R*x)-S*y:=by
   have:R*X+S*y=S*Y+(b*(t+1)+R*x):=by grind
   omega
  simp only[Nat.mul_add,Nat.mul_one]at k1 k2 e1 e2;have f1:Q*Y=(a*(t+1)+Q*y-P*x)+P*X:=by simp only[Nat.mul_add,Nat.mul_one];omega
  have f2:R*X=(b*(t+1)+R*x-S*y)+S*Y:=by simp only[Nat.mul_add,Nat.mul_one];omega
  obtain ⟨X',eX'⟩:∃X',a*(t+1)+Q*y-P*x=X':=⟨_,rfl⟩
  obtain ⟨Y',eY'⟩:∃Y',b*(t+1)+R*x-S*y=Y':=⟨_,rfl⟩
  have hlt:Y'<X':=by
   rw[<-eX',<-eY'];simp only[Nat.mul_add,Nat.mul_one];omega
  rw[eX']at f1;rw[eY']at f2;refine ⟨X',Y',⟨f1,f2⟩,hlt,?_,?_⟩
  .grind
  .grind
 .simp only[if_true]at det ⊢
  have f1:P*X=(a*(t+1)+P*x-Q*y)+Q*Y:=by
   have h3:P*X+Q*y=Q*Y+(a*(t+1)+P*x):=by grind
   simp only[Nat.mul_add,Nat.mul_one]at k1 k2 h3 ⊢;omega
  have f2:S*Y=(b*(t+1)+S*y-R*x)+R*X:=by
   have h3:S*Y+R*x=R*X+(b*(t+1)+S*y):=by grind
   simp only[Nat.mul_add,Nat.mul_one]at k1 k2 h3 ⊢;omega
  obtain ⟨X',eX'⟩:∃X',a*(t+1)+P*x-Q*y=X':=⟨_,rfl⟩
  obtain ⟨Y',eY'⟩:∃Y',b*(t+1)+S*y-R*x=Y':=⟨_,rfl⟩
  have hlt:Y'<X':=by
   rw[<-eX',<-eY'];simp only[Nat.mul_add,Nat.mul_one]at k1 k2 ⊢;omega
  rw[eX']at f1;rw[eY']at f2;refine ⟨X',Y',⟨f1,f2⟩,hlt,?_,?_⟩
  .grind
  .grind
theorem steps_gcd {X Y X' Y' P Q R S:Nat}{σ:Bool}(h:if σ then P*X=X'+Q*Y/\S*Y=Y'+R*X else Q*Y=X'+P*X/\R*X=Y'+S*Y)(hX:X=S*X'+Q*Y')(hY:Y=R*X'+P*Y'):Nat.gcd X' Y'=Nat.gcd X Y:=by
 apply Nat.dvd_antisymm
 .have h1:=Nat.gcd_dvd_left X' Y';have h2:=Nat.gcd_dvd_right X' Y';apply Nat.dvd_gcd
  .rw[hX];exact Nat.dvd_add (Nat.dvd_mul_left_of_dvd h1 _) (Nat.dvd_mul_left_of_dvd h2 _)
  .rw[hY];exact Nat.dvd_add (Nat.dvd_mul_left_of_dvd h1 _) (Nat.dvd_mul_left_of_dvd h2 _)
 .have h1:=Nat.gcd_dvd_left X Y;have h2:=Nat.gcd_dvd_right X Y;have key:∀u v t:Nat,u=t+v->Nat.gcd X Y∣u->Nat.gcd X Y∣v->Nat.gcd X Y∣t:=fun u v t e hu hv=>(Nat.dvd_add_left hv).1 (e▸hu)
  cases σ
  .simp only[Bool.false_eq_true,if_false]at h;exact Nat.dvd_gcd (key _ _ _ h.1 (Nat.dvd_mul_left_of_dvd h2 _) (Nat.dvd_mul_left_of_dvd h1 _)) (key _ _ _ h.2 (Nat.dvd_mul_left_of_dvd h1 _) (Nat.dvd_mul_left_of_dvd h2 _))
  .simp only[if_true]at h;exact Nat.dvd_gcd (key _ _ _ h.1 (Nat.dvd_mul_left_of_dvd h1 _) (Nat.dvd_mul_left_of_dvd h2 _)) (key _ _ _ h.2 (Nat.dvd_mul_left_of_dvd h2 _) (Nat.dvd_mul_left_of_dvd h1 _))
def Sg4 (σ:Bool)(P Q R S:Nat)(p q r s:Int):Prop:=if σ then p=P/\q=-(Q:Int)/\r=-(R:Int)/\s=S else p=-(P:Int)/\q=Q/\r=R/\s=-(S:Int)
open Go.RowKit Go.Shelf
structure St4 (W:World)(g:Nat)(a b c d:Value):Prop where
  c0:W.cell? ⟨g,0,none⟩=some a
  c1:W.cell? ⟨g,1,none⟩=some b
  c2:W.cell? ⟨g,2,none⟩=some c
  c3:W.cell? ⟨g,3,none⟩=some d
  f0:W.frozen? ⟨g,0,none⟩=false
  f1:W.frozen? ⟨g,1,none⟩=false
  f2:W.frozen? ⟨g,2,none⟩=false
  f3:W.frozen? ⟨g,3,none⟩=false
  lt:g<W.heap.size
theorem St4.toB {W V:World}{g B:Nat}{a b c d:Value}(h:St4 W g a b c d)(hb:Below B W V)(hg:g<B):St4 V g a b c d :=
  ⟨(hb.cell (p:=⟨g,0,none⟩) hg).trans h.c0,(hb.cell (p:=⟨g,1,none⟩) hg).trans h.c1,(hb.cell (p:=⟨g,2,none⟩) hg).trans h.c2,(hb.cell (p:=⟨g,3,none⟩) hg).trans h.c3,
   (hb.frozen (p:=⟨g,0,none⟩) hg).trans h.f0,(hb.frozen (p:=⟨g,1,none⟩) hg).trans h.f1,(hb.frozen (p:=⟨g,2,none⟩) hg).trans h.f2,(hb.frozen (p:=⟨g,3,none⟩) hg).trans h.f3,Nat.lt_of_lt_of_le h.lt hb.size⟩
theorem St4.of {W:World}{g:Nat}{a b c d:Value}{t:TypeId}(h:W.heap[g]?=some (.cells #[a,b,c,d] t (0,0))):St4 W g a b c d :=
  ⟨by simp[World.cell?,h],by simp[World.cell?,h],by simp[World.cell?,h],by simp[World.cell?,h],by simp[World.frozen?,h],by simp[World.frozen?,h],by simp[World.frozen?,h],by simp[World.frozen?,h],(Array.getElem?_eq_some_iff.1 h).1⟩
theorem St4.new (W:World)(a b c d:Value)(t:TypeId):St4 (W.alloc (.cells #[a,b,c,d] t)) W.heap.size a b c d:=St4.of (World.alloc_heap_new W _)
theorem St4.alloc {W:World}{g:Nat}{a b c d:Value}(h:St4 W g a b c d)(o:Obj):St4 (W.alloc o) g a b c d:=h.toB bRR h.lt
def lay4 (W:World)(g:Nat)(a b c d:Value):World:=(((W.setCell ⟨g,0,none⟩ a).setCell ⟨g,1,none⟩ b).setCell ⟨g,2,none⟩ c).setCell ⟨g,3,none⟩ d
theorem lay4_st {W:World}{g:Nat}{a b c d:Value}(a' b' c' d':Value)(h:St4 W g a b c d):St4 (lay4 W g a' b' c' d') g a' b' c' d':=by
  have e0:(W.setCell ⟨g,0,none⟩ a').cell? ⟨g,0,none⟩=some a':=World.cell?_setCell_same' _ _ _ (by rw[h.c0];rfl);have o1:(W.setCell ⟨g,0,none⟩ a').cell? ⟨g,1,none⟩=some b:=(World.cell?_setCell_other _ _ _ _ (by simp)).trans h.c1;have e1:((W.setCell ⟨g,0,none⟩ a').setCell ⟨g,1,none⟩ b').cell? ⟨g,1,none⟩=some b':=World.cell?_setCell_same' _ _ _ (by rw[o1];rfl);have o2:((W.setCell ⟨g,0,none⟩ a').setCell ⟨g,1,none⟩ b').cell? ⟨g,2,none⟩=some c:=(World.cell?_setCell_other _ _ _ _ (by simp)).trans ((World.cell?_setCell_other _ _ _ _ (by simp)).trans h.c2);have e2:(((W.setCell ⟨g,0,none⟩ a').setCell ⟨g,1,none⟩ b').setCell ⟨g,2,none⟩ c').cell? ⟨g,2,none⟩=some c':=World.cell?_setCell_same' _ _ _ (by rw[o2];rfl);have o3:(((W.setCell ⟨g,0,none⟩ a').setCell ⟨g,1,none⟩ b').setCell ⟨g,2,none⟩ c').cell? ⟨g,3,none⟩=some d:=(World.cell?_setCell_other _ _ _ _ (by simp)).trans ((World.cell?_setCell_other _ _ _ _ (by simp)).trans ((World.cell?_setCell_other _ _ _ _ (by simp)).trans h.c3))
  have fz:∀i:Nat,(lay4 W g a' b' c' d').frozen? ⟨g,i,none⟩=W.frozen? ⟨g,i,none⟩:=fun i=>by
    unfold lay4;rw[World.frozen?_setCell,World.frozen?_setCell,World.frozen?_setCell,World.frozen?_setCell]
  refine ⟨?_,?_,?_,?_,(fz 0).trans h.f0,(fz 1).trans h.f1,(fz 2).trans h.f2,(fz 3).trans h.f3,by unfold lay4;simpa [World.setCell]using h.lt⟩
  . exact (World.cell?_setCell_other _ _ _ _ (by simp)).trans ((World.cell?_setCell_other _ _ _ _ (by simp)).trans ((World.cell?_setCell_other _ _ _ _ (by simp)).trans e0))
  . exact (World.cell?_setCell_other _ _ _ _ (by simp)).trans ((World.cell?_setCell_other _ _ _ _ (by simp)).trans e1)
  . exact (World.cell?_setCell_other _ _ _ _ (by simp)).trans e2
  . exact World.cell?_setCell_same' _ _ _ (by rw[o3];rfl)
theorem lay4_far {W:World}{g g':Nat}{a b c d:Value}(a' b' c' d':Value)(h:St4 W g a b c d)(hne:g≠g'):St4 (lay4 W g' a' b' c' d') g a b c d:=by
  have hc:∀i:Nat,(lay4 W g' a' b' c' d').cell? ⟨g,i,none⟩=W.cell? ⟨g,i,none⟩:=fun i=>by
    unfold lay4;rw[World.cell?_setCell_other _ _ _ _ (by simp[hne]),World.cell?_setCell_other _ _ _ _ (by simp[hne]),World.cell?_setCell_other _ _ _ _ (by simp[hne]),World.cell?_setCell_other _ _ _ _ (by simp[hne])]
  have fz:∀i:Nat,(lay4 W g' a' b' c' d').frozen? ⟨g,i,none⟩=W.frozen? ⟨g,i,none⟩:=fun i=>by
    unfold lay4;rw[World.frozen?_setCell,World.frozen?_setCell,World.frozen?_setCell,World.frozen?_setCell]
  exact ⟨(hc 0).trans h.c0,(hc 1).trans h.c1,(hc 2).trans h.c2,(hc 3).trans h.c3,(fz 0).trans h.f0,(fz 1).trans h.f1,(fz 2).trans h.f2,(fz 3).trans h.f3,by unfold lay4;simpa [World.setCell]using h.lt⟩
theorem lay4_below' {W w:World}{g B:Nat}(a' b' c' d':Value)(h:Below B w W)(hg:B<=g):Below B w (lay4 W g a' b' c' d') :=
  (((h.setCell (p:=⟨g,0,none⟩) hg _).setCell (p:=⟨g,1,none⟩) hg _).setCell (p:=⟨g,2,none⟩) hg _).setCell (p:=⟨g,3,none⟩) hg _
theorem lay4_below {W w:World}(a' b' c' d':Value)(h:Below w.heap.size w W):Below w.heap.size w (lay4 W w.heap.size a' b' c' d'):=lay4_below' a' b' c' d' h (Nat.le_refl _)
end Go.Proofs.YtglhdielkkhefaaGreat
