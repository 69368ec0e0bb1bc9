/- Parts: 5. -/
import Derived.Test.YtglhdielkkhefaaGreatMt3
import Derived.Test.YtglhdielkkhefaaGreatMt5
import Derived.Test.YtglhdielkkhefaaGreatMt11
set_option linter.unusedVariables false
set_option linter.unusedSimpArgs false
set_option maxRecDepth 100000
set_option maxHeartbeats 40000000

namespace Go.Proofs.YtglhdielkkhefaaGreat
open Go.RowKit Go.Shelf
theorem least_any (n:Bool){A:Option Addr}{c:Nat}{xs:List Nat}{w:World}(hx:Arg w A c xs) :
  Calls Tryz.prog 131 #[.agg #[.bool n,.slice A xs.length c]] w (ZRet w (zof n (val b32 xs))):=by
 obtain ⟨W0,hW0⟩:∃W0,W0=(w.alloc (.cells #[.bool n,.slice A xs.length c] 30)).alloc (.cells #[.bool false,.slice none 0 0] 30):=⟨_,rfl⟩
 have hb:Below w.heap.size w W0.drew:=by rw[hW0];exact (bRR.alloc (by simp) _).drew
 have tX:Zat W0.drew w.heap.size (.bool n) (.slice A xs.length c):=by rw[hW0];exact (Zat.new w _ _).alloc _
 have tR:Zat W0.drew (w.heap.size+1) (.bool false) (.slice none 0 0):=by
  have h:=Zat.new (w.alloc (.cells #[.bool n,.slice A xs.length c] 30)) (.bool false) (.slice none 0 0);rw[szA]at h;rw[hW0];exact h
 have HSM:Hid ((dig b16 (val b32 xs)).length<=8589934592):=by
  have h1:=trimL_dig b16_one (hw_dg hx.dg);rw[hw_val]at h1;have h2:=trimL_le (hw xs);have h3:=hx.small;rw[h1,hw_length]at h2
  show _<=_
  omega
 have HH:=Hd (halves_any (hx.to hb));have cN:W0.cell? ⟨w.heap.size,0,none⟩=some (.bool n):=tX.two.c0;have cW:W0.cell? ⟨w.heap.size,1,none⟩=some (.slice A xs.length c):=tX.two.c1;have HW0:=Hd hW0;clear hW0 hx
 go_enter Tryz.func131,Tryz.ntmps131
 go_wp2_with fail
 rw[<-HW0.out];refine wp_region_any (by kernel_rfl) ?_;refine (show wpAny _ _ _ _ _ _ _ (World.drew _) from ?_);refine wpAny_take (i:=0) (v:=.pointer (some ⟨w.heap.size,0,none⟩)) rfl (by kernel_rfl) (by kernel_rfl) (by kernel_rfl) (fun _ _ _ h=>h) (Or.inl ⟨by rfl,fun _=>by go_simp⟩) ?_;refine wpAny_take (i:=2) (v:=.pointer (some ⟨w.heap.size,1,none⟩)) rfl (by kernel_rfl) (by kernel_rfl) (by kernel_rfl) (fun _ _ _ h=>h) (Or.inl ⟨by rfl,fun _=>by go_simp⟩) ?_;refine wpAny_ready (rs:=[1,3]) (by kernel_rfl) (by simp) (AllReady.cons rfl (fun K hK=>?_) (AllReady.cons rfl (fun K hK=>?_) AllReady.nil))
 .go_simp;refine hK _ _ ?_;clear hK K
  refine wpAny_ready (rs:=[3]) (by kernel_rfl) (by simp) (AllReady.cons rfl (fun K hK=>?_) AllReady.nil)
  go_simp;refine hK _ _ ?_;clear hK K
  refine wpAny_ready (rs:=[4]) (by kernel_rfl) (by simp) (AllReady.cons rfl (fun K hK=>?_) AllReady.nil);go_simp
  refine HH.out.mono ?_;rintro e w2 ⟨A1,c1,rfl,r1,r2,r3,hb2⟩;have hsm2:(dig b16 (val b32 xs)).length<=8589934592:=HSM.out;have HO:=Hd (of_any n r1 (Dg_dig b16_one _) r2 r3 hsm2);rw[val_dig b16_one]at HO;have cN2:=(tX.two.to hb2).c0;have tR2:=tR.two.to hb2;have HB:=Hd (Bxb hb hb2);clear r1 r2 hsm2 hb2;refine hK _ _ ?_;clear hK K;refine wpAny_ready (rs:=[5]) (by kernel_rfl) (by simp) (AllReady.cons rfl (fun K hK=>?_) AllReady.nil);obtain ⟨z,ez⟩:∃z,Hid (zof n (val b32 xs)=z):=⟨_,rfl⟩
  rw[ez.out]at HO;go_simp
  refine HO.out.mono ?_;rintro e w3 ⟨A3,c3,rfl,s1,s2,s3,hb3⟩;obtain ⟨q1,q2,q3,q4,q5⟩:=tR2.to hb3;have S1:=Hd s1;have HB3:=Hxb HB hb3;clear s1 hb3 tR2;refine hK _ _ ?_;clear hK K;refine wpAny_ready (rs:=[6]) (by kernel_rfl) (by simp) (AllReady.cons rfl (fun K hK=>?_) AllReady.nil)
  go_simp;refine hK _ _ ?_;clear hK K
  refine wpAny_done (by kernel_rfl) ?_ _;go_wp2
  have tF:=(⟨q1,q2,q3,q4,q5⟩:Two w3 (w.heap.size+1) _ _).set (.bool (decide (z<0))) (.slice A3 (dig b32 z.natAbs).length c3);refine bodyPost_ret (v:=.agg #[.bool (decide (z<0)),.slice A3 (dig b32 z.natAbs).length c3]) (by simp[results,Tryz.f131,go_sem,tF.c0,tF.c1]) rfl ?_;rw[ez.out];exact zret_stored ⟨q1,q2,q3,q4,q5⟩ (by omega) S1.out s2 s3 HB3.out
 .go_simp;refine hK _ _ ?_;clear hK K
  refine wpAny_ready (rs:=[1,4]) (by kernel_rfl) (by simp) (AllReady.cons rfl (fun K hK=>?_) (AllReady.cons rfl (fun K hK=>?_) AllReady.nil))
  .go_simp;refine hK _ _ ?_;clear hK K
   refine wpAny_ready (rs:=[4]) (by kernel_rfl) (by simp) (AllReady.cons rfl (fun K hK=>?_) AllReady.nil);go_simp
   refine HH.out.mono ?_;rintro e w2 ⟨A1,c1,rfl,r1,r2,r3,hb2⟩;have hsm2:(dig b16 (val b32 xs)).length<=8589934592:=HSM.out;have HO:=Hd (of_any n r1 (Dg_dig b16_one _) r2 r3 hsm2);rw[val_dig b16_one]at HO;have cN2:=(tX.two.to hb2).c0;have tR2:=tR.two.to hb2;have HB:=Hd (Bxb hb hb2);clear r1 r2 hsm2 hb2;refine hK _ _ ?_;clear hK K;refine wpAny_ready (rs:=[5]) (by kernel_rfl) (by simp) (AllReady.cons rfl (fun K hK=>?_) AllReady.nil);obtain ⟨z,ez⟩:∃z,Hid (zof n (val b32 xs)=z):=⟨_,rfl⟩
   rw[ez.out]at HO;go_simp
   refine HO.out.mono ?_;rintro e w3 ⟨A3,c3,rfl,s1,s2,s3,hb3⟩;obtain ⟨q1,q2,q3,q4,q5⟩:=tR2.to hb3;have S1:=Hd s1;have HB3:=Hxb HB hb3;clear s1 hb3 tR2;refine hK _ _ ?_;clear hK K;refine wpAny_ready (rs:=[6]) (by kernel_rfl) (by simp) (AllReady.cons rfl (fun K hK=>?_) AllReady.nil)
   go_simp;refine hK _ _ ?_;clear hK K
   refine wpAny_done (by kernel_rfl) ?_ _;go_wp2
   have tF:=(⟨q1,q2,q3,q4,q5⟩:Two w3 (w.heap.size+1) _ _).set (.bool (decide (z<0))) (.slice A3 (dig b32 z.natAbs).length c3);refine bodyPost_ret (v:=.agg #[.bool (decide (z<0)),.slice A3 (dig b32 z.natAbs).length c3]) (by simp[results,Tryz.f131,go_sem,tF.c0,tF.c1]) rfl ?_;rw[ez.out];exact zret_stored ⟨q1,q2,q3,q4,q5⟩ (by omega) S1.out s2 s3 HB3.out
  .go_simp
   refine HH.out.mono ?_;rintro e w2 ⟨A1,c1,rfl,r1,r2,r3,hb2⟩;have hsm2:(dig b16 (val b32 xs)).length<=8589934592:=HSM.out;have HO:=Hd (of_any n r1 (Dg_dig b16_one _) r2 r3 hsm2);rw[val_dig b16_one]at HO;have cN2:=(tX.two.to hb2).c0;have tR2:=tR.two.to hb2;have HB:=Hd (Bxb hb hb2);clear r1 r2 hsm2 hb2;refine hK _ _ ?_;clear hK K;refine wpAny_ready (rs:=[1]) (by kernel_rfl) (by simp) (AllReady.cons rfl (fun K hK=>?_) AllReady.nil)
   go_simp;refine hK _ _ ?_;clear hK K
   refine wpAny_ready (rs:=[5]) (by kernel_rfl) (by simp) (AllReady.cons rfl (fun K hK=>?_) AllReady.nil);obtain ⟨z,ez⟩:∃z,Hid (zof n (val b32 xs)=z):=⟨_,rfl⟩
   rw[ez.out]at HO;go_simp
   refine HO.out.mono ?_;rintro e w3 ⟨A3,c3,rfl,s1,s2,s3,hb3⟩;obtain ⟨q1,q2,q3,q4,q5⟩:=tR2.to hb3;have S1:=Hd s1;have HB3:=Hxb HB hb3;clear s1 hb3 tR2;refine hK _ _ ?_;clear hK K;refine wpAny_ready (rs:=[6]) (by kernel_rfl) (by simp) (AllReady.cons rfl (fun K hK=>?_) AllReady.nil)
   go_simp;refine hK _ _ ?_;clear hK K
   refine wpAny_done (by kernel_rfl) ?_ _;go_wp2
   have tF:=(⟨q1,q2,q3,q4,q5⟩:Two w3 (w.heap.size+1) _ _).set (.bool (decide (z<0))) (.slice A3 (dig b32 z.natAbs).length c3);refine bodyPost_ret (v:=.agg #[.bool (decide (z<0)),.slice A3 (dig b32 z.natAbs).length c3]) (by simp[results,Tryz.f131,go_sem,tF.c0,tF.c1]) rfl ?_;rw[ez.out];exact zret_stored ⟨q1,q2,q3,q4,q5⟩ (by omega) S1.out s2 s3 HB3.out
theorem lo_word (m:Nat)(hm:m<18446744073709551616):((m:Nat):Int).tmod 4294967296 % 4294967296=(m:Int) % 4294967296:=by
 rw[Int.tmod_eq_emod_of_nonneg (by omega)];omega
theorem hi_word (m:Nat)(hm:m<18446744073709551616):IntKind.u64.wrap (((m:Nat):Int).tdiv 4294967296) % 4294967296=(m:Int) / 4294967296:=by
 rw[Int.tdiv_eq_ediv_of_nonneg (by omega),IntKind.wrap_u64];omega
theorem from_tail (neg:Bool)(m:Nat)(hm:m<18446744073709551616){w W:World}(hb:Below w.heap.size w W) :
  Calls Tryz.prog 131 #[.agg #[.bool neg,.slice (some ⟨W.heap.size,0,none⟩) 2 2]] (W.alloc (.cells #[.int .u32 ((m:Int) % 4294967296),.int .u32 ((m:Int) / 4294967296)] 89)) (ZRet (W.alloc (.cells #[.int .u32 ((m:Int) % 4294967296),.int .u32 ((m:Int) / 4294967296)] 89)) (zof neg m)):=by
 have hr:=Rd.new .u32 W 89 [m % 4294967296,m / 4294967296]
 have h:=least_any neg (A:=some ⟨W.heap.size,0,none⟩) (c:=2) (xs:=[m % 4294967296,m / 4294967296]) (w:=W.alloc (.cells (ints .u32 [m % 4294967296,m / 4294967296]).toArray 89))
  ⟨hr.more (by simp),two_dg hm,by simp,by omega,by simp⟩
 rw[two_val]at h
 simpa [ints]using h
theorem rfrom_pos (m:Nat)(hm:m<9223372036854775808)(w:World) :
  Calls Tryz.prog 104 #[.int .i64 (m:Nat)] w (ZRet w ((m:Nat))):=by
 have t0:=Two.new w (.bool false) (.slice none 0 0) 30;have HB0:=Hd ((Below.refl w.heap.size w).alloc (Nat.le_refl _) (.cells #[.bool false,.slice none 0 0] 30));have hm':m<18446744073709551616:=by omega
 have HI:=Hd (from_tail false m hm' HB0.out);obtain ⟨z,ez⟩:∃z,Hid (zof false m=z):=⟨_,rfl⟩
 rw[ez.out]at HI;simp only[szA]at HI
 go_enter Tryz.func104,Tryz.ntmps104
 go_wp2_with fail
 refine HI.out.mono ?_;rintro e w3 ⟨A3,c3,rfl,s1,s2,s3,hb3⟩;obtain ⟨q1,q2,q3,q4,q5⟩:=(t0.alloc _).to hb3;have S1:=Hd s1;have HB3:=Hd ((HB0.out.alloc HB0.out.size _).trans (hb3.mono (by simp;omega)));clear s1 hb3 t0;go_wp2
 have tF:=(⟨q1,q2,q3,q4,q5⟩:Two w3 w.heap.size _ _).set (.bool (decide (z<0))) (.slice A3 (dig b32 z.natAbs).length c3);refine bodyPost_ret (v:=.agg #[.bool (decide (z<0)),.slice A3 (dig b32 z.natAbs).length c3]) (by simp[results,Tryz.f104,go_sem,tF.c0,tF.c1]) rfl ?_;rw[show ((m:Nat):Int)=z from by rw[<-ez.out];rfl];exact zret_stored ⟨q1,q2,q3,q4,q5⟩ (Nat.le_refl _) S1.out s2 s3 HB3.out
theorem rfrom_neg (m:Nat)(hm0:0<m)(hm:m<=9223372036854775808)(w:World) :
  Calls Tryz.prog 104 #[.int .i64 (-(m:Int))] w (ZRet w (-(m:Int))):=by
 have t0:=Two.new w (.bool false) (.slice none 0 0) 30;have HB0:=Hd ((Below.refl w.heap.size w).alloc (Nat.le_refl _) (.cells #[.bool false,.slice none 0 0] 30));have hm':m<18446744073709551616:=by omega
 have HI:=Hd (from_tail true m hm' HB0.out);obtain ⟨z,ez⟩:∃z,Hid (zof true m=z):=⟨_,rfl⟩
 rw[ez.out]at HI;simp only[szA]at HI
 go_enter Tryz.func104,Tryz.ntmps104
 go_wp2_with fail
 rw[wrap_neg_neg m hm',lo_word m hm',hi_word m hm'];refine HI.out.mono ?_;rintro e w3 ⟨A3,c3,rfl,s1,s2,s3,hb3⟩;obtain ⟨q1,q2,q3,q4,q5⟩:=(t0.alloc _).to hb3;have S1:=Hd s1;have HB3:=Hd ((HB0.out.alloc HB0.out.size _).trans (hb3.mono (by simp;omega)));clear s1 hb3 t0;go_wp2
 have tF:=(⟨q1,q2,q3,q4,q5⟩:Two w3 w.heap.size _ _).set (.bool (decide (z<0))) (.slice A3 (dig b32 z.natAbs).length c3);refine bodyPost_ret (v:=.agg #[.bool (decide (z<0)),.slice A3 (dig b32 z.natAbs).length c3]) (by simp[results,Tryz.f104,go_sem,tF.c0,tF.c1]) rfl ?_;rw[show (-(m:Int):Int)=z from by rw[<-ez.out];rfl];exact zret_stored ⟨q1,q2,q3,q4,q5⟩ (Nat.le_refl _) S1.out s2 s3 HB3.out
theorem rfrom_any (n:Int)(h1:-9223372036854775808<=n)(h2:n<=9223372036854775807)(w:World) :
  Calls Tryz.prog 104 #[.int .i64 n] w (ZRet w n):=by
 rcases Int.lt_or_le n 0 with h|h
 .obtain ⟨m,rfl⟩:∃m:Nat,n=-(m:Int):=⟨n.natAbs,by omega⟩
  exact rfrom_neg m (by omega) (by omega) w
 .obtain ⟨m,rfl⟩:=Int.eq_ofNat_of_zero_le h;exact rfrom_pos m (by omega) w
def Zl (W:World)(x y:Value)(z:Int):Prop:=∃n A c xs,x=.bool n/\y=.slice A xs.length c/\Arg W A c xs/\xs.length<=10000/\zof n (val b32 xs)=z
theorem Zl.to {W V:World}{x y:Value}{z:Int}(h:Zl W x y z)(hb:Below W.heap.size W V):Zl V x y z:=by
 obtain ⟨n,A,c,xs,h1,h2,h3,h4⟩:=h;exact ⟨n,A,c,xs,h1,h2,h3.to hb,h4⟩
theorem Zl.zi {W:World}{x y:Value}{z:Int}(h:Zl W x y z):Zi W x y z:=by
 obtain ⟨n,A,c,xs,h1,h2,h3,_,h4⟩:=h;exact ⟨n,A,c,xs,h1,h2,h3,h4⟩
theorem Zc.zl {W:World}{x y:Value}{z:Int}{k:Nat}(h:Zc W x y z)(hs:Sm k z)(hk:k<=10000):Zl W x y z:=by
 obtain ⟨A,c,h1,h2,h3,h4,h5⟩:=h;have hl:=Nat.le_trans (dig_length_le b32_one hs) hk;exact ⟨_,A,c,_,h1,h2,⟨h3,Dg_dig b32_one _,h4,h5,by omega⟩,hl,by rw[val_dig b32_one];exact zof_dec z⟩
section
variable {w : World} {x y x' y' : Value} {a b : Int}
theorem rneg_z (ha:Zl w x y a):Calls Tryz.prog 130 #[.agg #[x,y]] w (ZR w (-a)):=by
 obtain ⟨n,A,c,xs,rfl,rfl,h3,h4,rfl⟩:=ha;have h:=rneg_any n h3 h4;rw[zof_not]at h;exact h
theorem radd_z (ha:Zl w x y a)(hb:Zl w x' y' b):Calls Tryz.prog 110 #[.agg #[x,y],.agg #[x',y']] w (ZR w (a+b)):=by
 obtain ⟨n,A,c,xs,rfl,rfl,h3,h4,rfl⟩:=ha;obtain ⟨m,B,d,ys,rfl,rfl,k3,k4,rfl⟩:=hb;exact rAdd_any n m h3 h4 k3 k4
theorem rmul_z (ha:Zl w x y a)(hb:Zl w x' y' b):Calls Tryz.prog 109 #[.agg #[x,y],.agg #[x',y']] w (ZR w (a*b)):=by
 obtain ⟨n,A,c,xs,rfl,rfl,h3,h4,rfl⟩:=ha;obtain ⟨m,B,d,ys,rfl,rfl,k3,k4,rfl⟩:=hb;have h:=rMul_any n m h3 h4 k3 k4;rw[zof_mul]at h;exact h
theorem rleast_z (ha:Zl w x y a):Calls Tryz.prog 131 #[.agg #[x,y]] w (ZR w a):=by
 obtain ⟨n,A,c,xs,rfl,rfl,h3,h4,rfl⟩:=ha;exact (least_any n h3).mono fun _ _ h=>h.zr
theorem rfrom_z (v:Int)(h1:-9223372036854775808<=v)(h2:v<=9223372036854775807)(w:World):Calls Tryz.prog 104 #[.int .i64 v] w (ZR w v) :=
 (rfrom_any v h1 h2 w).mono fun _ _ h=>h.zr
end
theorem rAbs_any (n:Bool){A:Option Addr}{c:Nat}{xs:List Nat}{w:World}(hx:Arg w A c xs)(sx:xs.length<=10000) :
  Calls Tryz.prog 132 #[.agg #[.bool n,.slice A xs.length c]] w (ZR w ((val b32 xs:Nat):Int)):=by
 obtain ⟨W0,hW0⟩:∃W0,W0=((w.alloc (.cells #[.bool n,.slice A xs.length c] 30)).alloc (.cells #[.bool false,.slice none 0 0] 30)):=⟨_,rfl⟩
 have hb:Below w.heap.size w W0:=by rw[hW0];exact bRR.alloc (by simp) _
 have tX:Two W0 (w.heap.size) (.bool n) (.slice A xs.length c):=by
  have h:=Two.new w (.bool n) (.slice A xs.length c) 30;rw[hW0];exact h.alloc _
 have tR:Two W0 (w.heap.size+1) (.bool false) (.slice none 0 0):=by
  have h:=Two.new (w.alloc (.cells #[.bool n,.slice A xs.length c] 30)) (.bool false) (.slice none 0 0) 30;rw[szA]at h;rw[hW0];exact h
 have HW0:=Hd hW0;have HB0:=Hd hb;have HX:=Hd hx;have hBW:w.heap.size+1<=W0.heap.size:=by rw[hW0];simp
 have Dsx:val b32 xs<b16 ^ (2*xs.length):=by rw[<-pow_2k];exact val_lt hx.dg
 clear hW0 hb hx
 go_enter Tryz.func132,Tryz.ntmps132
 go_wp2_with fail
 rw[<-HW0.out];have k1:=tX.c0;have k2:=tX.c1;refine (halves_r (HX.out.to HB0.out)).mono ?_;rintro e V ⟨A1,c1,rfl,r1,l1,m1,bb⟩;have H1:=Hr.of_ret r1 l1 m1 Dsx (by omega);have HOF:=Hd (of_r false H1);have t2:=tR.to bb;have HB:=Hxb HB0 bb;clear k1 k2 r1 l1 m1 bb H1 tX tR
 go_wp2_with fail
 refine HOF.out.mono ?_;rintro e V2 ⟨xr,yr,rfl,rz,bb⟩;have rz2:=rz;obtain ⟨A3,c3,rfl,rfl,-⟩:=rz2;have t3:=t2.to bb;have HE:=Hxb HB bb;have k0:=t3.c0;have k1:=t3.c1;have k2:=t3.f0;have k3:=t3.f1;have RZ:=Hd rz;clear rz bb t2 HB HOF;go_wp2
 have tF:=t3.set (.bool (decide (zof false (val b32 xs)<0))) (.slice A3 (dig b32 (zof false (val b32 xs)).natAbs).length c3);have KP:=Kept.of t3 (fun n e=>by cases e) (fun n e=>by cases e) (.bool (decide (zof false (val b32 xs)<0))) (.slice A3 (dig b32 (zof false (val b32 xs)).natAbs).length c3);have hz:zof false (val b32 xs)=((val b32 xs:Nat):Int):=by simp[zof]
 refine bodyPost_ret (v:=.agg #[.bool (decide (zof false (val b32 xs)<0)),.slice A3 (dig b32 (zof false (val b32 xs)).natAbs).length c3]) (by simp[results,Tryz.f132,go_sem,tF.c0,tF.c1]) rfl ?_;rw[<-hz];exact ⟨_,_,rfl,KP.zc _ _ _ RZ.out,KP.bel _ _ HE.out (by omega)⟩
theorem dig_len0 {b n:Nat}(hb:1<b):(dig b n).length=0↔n=0 :=
 ⟨fun h=>(dig_nil hb).1 (List.eq_nil_of_length_eq_zero h),fun h=>by rw[h];rfl⟩
theorem rSign_any (n:Bool){A:Option Addr}{c:Nat}{xs:List Nat}{w:World}(hx:Arg w A c xs)(sx:xs.length<=10000) :
  Calls Tryz.prog 129 #[.agg #[.bool n,.slice A xs.length c]] w fun e w'=>e=.returned (.int .i64 (sgn (zof n (val b32 xs))))/\Below w.heap.size w w':=by
 obtain ⟨W0,hW0⟩:∃W0,W0=(w.alloc (.cells #[.bool n,.slice A xs.length c] 30)):=⟨_,rfl⟩
 have hb:Below w.heap.size w W0:=by rw[hW0];exact bRR
 have tX:Two W0 (w.heap.size) (.bool n) (.slice A xs.length c):=by
  have h:=Two.new w (.bool n) (.slice A xs.length c) 30;rw[hW0];exact h
 have HW0:=Hd hW0;have HB0:=Hd hb;have HX:=Hd hx;have hBW:w.heap.size+1<=W0.heap.size:=by rw[hW0];simp
 have Dsx:val b32 xs<b16 ^ (2*xs.length):=by rw[<-pow_2k];exact val_lt hx.dg
 clear hW0 hb hx;have HH:=Hd (halves_r (HX.out.to HB0.out));have h0:=@dig_len0 b16 (val b32 xs) b16_one;obtain ⟨l,hl⟩:∃l,(dig b16 (val b32 xs)).length=l:=⟨_,rfl⟩
 obtain ⟨v,hv⟩:∃v,val b32 xs=v:=⟨_,rfl⟩
 rw[hv]at h0 hl HH;rw[hv];rw[hl]at h0;have HL:=Hd hl
 have HS:Hid ((l=0->sgn (zof n v)=0)/\(l≠0->sgn (zof n v)=if n then -1 else 1)):=by
  refine ⟨fun h=>by rw[h0.1 h,zof_zero];rfl,fun h=>?_⟩;have:v≠0:=fun e=>h (h0.2 e)
  cases n<;>simp only[sgn,zof,Bool.false_eq_true,if_false,if_true]<;>repeat' split
  all_goals omega
 clear hl h0 hv Dsx
 rcases Nat.eq_zero_or_pos l with hl0|hl0
 .subst hl0;rw[HS.out.1 rfl]
  go_enter Tryz.func129,Tryz.ntmps129
  go_wp2_with fail
  rw[<-HW0.out];have k1:=tX.c0;have k2:=tX.c1;refine HH.out.mono ?_;rintro e V ⟨A1,c1,rfl,r1,l1,m1,bb⟩;rw[HL.out];have k3:=(tX.to bb).c0;have k4:=(tX.to bb).c1;have HB:=Hxb HB0 bb;clear k1 k2 r1 l1 m1 bb tX;go_wp2
  go_ret
  exact ⟨rfl,HB.out⟩
 .have hln:((l:Int)==0)=false:=by rw[beq_eq_false_iff_ne];omega
  rw[HS.out.2 (by omega)];cases n
  .go_enter Tryz.func129,Tryz.ntmps129
   go_wp2_with fail
   rw[<-HW0.out];have k1:=tX.c0;have k2:=tX.c1;refine HH.out.mono ?_;rintro e V ⟨A1,c1,rfl,r1,l1,m1,bb⟩;rw[HL.out];have k3:=(tX.to bb).c0;have k4:=(tX.to bb).c1;have HB:=Hxb HB0 bb;clear k1 k2 r1 l1 m1 bb tX;go_wp2
   go_ret
   exact ⟨rfl,HB.out⟩
  .go_enter Tryz.func129,Tryz.ntmps129
   go_wp2_with fail
   rw[<-HW0.out];have k1:=tX.c0;have k2:=tX.c1;refine HH.out.mono ?_;rintro e V ⟨A1,c1,rfl,r1,l1,m1,bb⟩;rw[HL.out];have k3:=(tX.to bb).c0;have k4:=(tX.to bb).c1;have HB:=Hxb HB0 bb;clear k1 k2 r1 l1 m1 bb tX;go_wp2
   go_ret
   exact ⟨rfl,HB.out⟩
end Go.Proofs.YtglhdielkkhefaaGreat

namespace Go.Proofs.YtglhdielkkhefaaGreat
open Go.RowKit Go.Shelf
theorem rsign_z {w:World}{x y:Value}{a:Int}(ha:Zl w x y a):Calls Tryz.prog 129 #[.agg #[x,y]] w fun e w'=>e=.returned (.int .i64 (sgn a))/\Below w.heap.size w w':=by
 obtain ⟨n,A,c,xs,rfl,rfl,h3,h4,rfl⟩:=ha;exact rSign_any n h3 h4
theorem cmp_signs {n m:Bool}{x y:Nat}(h:sgn (zof n x)=sgn (zof m y)):(sgn (zof n x)<0->-cmpN x y=cmpZ (zof n x) (zof m y))/\(¬sgn (zof n x)<0->cmpN x y=cmpZ (zof n x) (zof m y)):=by
 have h1:=cmpZ_mag h
 rcases sgn_range (zof n x) with hs|hs|hs
 .rw[hs]at h1 ⊢;exact ⟨fun _=>by omega,fun h=>by omega⟩
 .rw[hs]at h1 ⊢;refine ⟨fun h=>by omega,fun _=>?_⟩;rw[hs]at h
  have hx:x=0:=by
   refine Classical.byContradiction fun hn=>?_
   cases n<;>simp only[sgn,zof,Bool.false_eq_true,if_false,if_true]at hs<;>(repeat' split at hs)<;>omega
  have hy:y=0:=by
   refine Classical.byContradiction fun hn=>?_
   cases m<;>simp only[sgn,zof,Bool.false_eq_true,if_false,if_true]at h<;>(repeat' split at h)<;>omega
  subst hx hy;rw[<-h1];simp[cmpN]
 .rw[hs]at h1 ⊢;exact ⟨fun h=>by omega,fun _=>by omega⟩
theorem rCmp_any (n:Bool)(m:Bool){A A':Option Addr}{c c':Nat}{xs ys:List Nat}{w:World}(hx:Arg w A c xs)(sx:xs.length<=10000)(hy:Arg w A' c' ys)(sy:ys.length<=10000) :
  Calls Tryz.prog 127 #[.agg #[.bool n,.slice A xs.length c],.agg #[.bool m,.slice A' ys.length c']] w fun e w'=>e=.returned (.int .i64 (cmpZ (zof n (val b32 xs)) (zof m (val b32 ys))))/\Below w.heap.size w w':=by
 obtain ⟨W0,hW0⟩:∃W0,W0=((w.alloc (.cells #[.bool n,.slice A xs.length c] 30)).alloc (.cells #[.bool m,.slice A' ys.length c'] 30)):=⟨_,rfl⟩
 have hb:Below w.heap.size w W0:=by rw[hW0];exact bRR.alloc (by simp) _
 have tX:Two W0 (w.heap.size) (.bool n) (.slice A xs.length c):=by
  have h:=Two.new w (.bool n) (.slice A xs.length c) 30;rw[hW0];exact h.alloc _
 have tY:Two W0 (w.heap.size+1) (.bool m) (.slice A' ys.length c'):=by
  have h:=Two.new (w.alloc (.cells #[.bool n,.slice A xs.length c] 30)) (.bool m) (.slice A' ys.length c') 30;rw[szA]at h;rw[hW0];exact h
 have HW0:=Hd hW0;have HB0:=Hd hb;have HX:=Hd hx;have HY:=Hd hy;have hBW:w.heap.size+1+1<=W0.heap.size:=by rw[hW0];simp
 have Dsx:val b32 xs<b16 ^ (2*xs.length):=by rw[<-pow_2k];exact val_lt hx.dg
 have Dsy:val b32 ys<b16 ^ (2*ys.length):=by rw[<-pow_2k];exact val_lt hy.dg
 clear hW0 hb hx hy;have HS1:=Hd fun (V:World) (h:Below w.heap.size w V)=>rsign_z (w:=V) (a:=zof n (val b32 xs)) ⟨n,A,c,xs,rfl,rfl,HX.out.to h,sx,rfl⟩
 have HS2:=Hd fun (V:World) (h:Below w.heap.size w V)=>rsign_z (w:=V) (a:=zof m (val b32 ys)) ⟨m,A',c',ys,rfl,rfl,HY.out.to h,sy,rfl⟩
 have r1:=sgn_range (zof n (val b32 xs));have r2:=sgn_range (zof m (val b32 ys));have hne:=@cmpZ_sgn (zof n (val b32 xs)) (zof m (val b32 ys));have heq:=@cmp_signs n m (val b32 xs) (val b32 ys);obtain ⟨s1,e1⟩:∃s,sgn (zof n (val b32 xs))=s:=⟨_,rfl⟩
 obtain ⟨s2,e2⟩:∃s,sgn (zof m (val b32 ys))=s:=⟨_,rfl⟩
 obtain ⟨o,eo⟩:∃o,cmpZ (zof n (val b32 xs)) (zof m (val b32 ys))=o:=⟨_,rfl⟩
 rw[e1]at HS1 r1 hne heq;rw[e2]at HS2 r2 hne heq;rw[eo]at hne heq ⊢;clear e1 e2 eo
 by_cases h12:s1=s2
 .subst h12;obtain ⟨v,ev⟩:∃v,cmpN (val b32 xs) (val b32 ys)=v:=⟨_,rfl⟩
  have hq:=heq rfl;rw[ev]at hq;have EV:=Hd ev;have hss:(s1 != s1)=false:=by simp
  have rv:v=-1∨v=0∨v=1:=by rw[<-ev];unfold cmpN;split<;>(try split)<;>simp
  clear hne heq ev r2
  go_enter Tryz.func127,Tryz.ntmps127
  go_wp2_with fail
  rw[<-HW0.out];refine wp_region_plan (S:=fun w'=>Below (w.heap.size+1+1) W0 w') [(0,true),(2,true),(1,false),(3,false),(4,true)] (by kernel_rfl) (by kernel_rfl) (Below.refl _ _).drew ?_;have HB:=(Below.refl W0.heap.size W0).drew
  repeat (refine plan_take (v:=?_) rfl (by rfl) ?_ ?_;rotate_left;(focus (intro w' hS;have k0:=(tX.toB hS (by omega)).c0;have k1:=(tX.toB hS (by omega)).c1;have k2:=(tY.toB hS (by omega)).c0;have k3:=(tY.toB hS (by omega)).c1;go_simp;try with_reducible rfl));simp only[Act.put,pqA,pqB,pqC])
  refine plan_call rfl (by rfl) (fun K hK=>?_);go_simp
  refine (HS1.out _ (HB0.out.trans (HB.mono HB0.out.size))).mono ?_;rintro e V ⟨rfl,bb⟩;replace HB:=Bxb HB bb;clear bb;refine hK.out _ _ (HB.mono hBW) ?_;clear hK K;refine plan_call rfl (by rfl) (fun K hK=>?_);go_simp
  refine (HS2.out _ (HB0.out.trans (HB.mono HB0.out.size))).mono ?_;rintro e V ⟨rfl,bb⟩;replace HB:=Bxb HB bb;clear bb;refine hK.out _ _ (HB.mono hBW) ?_;clear hK K
  repeat (refine plan_take (v:=?_) rfl (by rfl) ?_ ?_;rotate_left;(focus (intro w' hS;have k0:=(tX.toB hS (by omega)).c0;have k1:=(tX.toB hS (by omega)).c1;have k2:=(tY.toB hS (by omega)).c0;have k3:=(tY.toB hS (by omega)).c1;go_simp;try with_reducible rfl));simp only[Act.put,pqA,pqB,pqC])
  refine plan_done ?_;have k1:=(tX.to HB).c0;have k2:=(tX.to HB).c1;have k3:=(tY.to HB).c0;have k4:=(tY.to HB).c1
  go_wp2_with fail
  clear k1 k2 k3 k4;refine wp_region_plan (S:=fun w'=>Below (w.heap.size+1+1) W0 w') [(0,true),(1,true),(3,true),(4,true),(2,false),(5,false),(6,false),(7,true)] (by kernel_rfl) (by kernel_rfl) (HB.mono hBW).drew ?_;replace HB:=HB.drew
  repeat (refine plan_take (v:=?_) rfl (by rfl) ?_ ?_;rotate_left;(focus (intro w' hS;have k0:=(tX.toB hS (by omega)).c0;have k1:=(tX.toB hS (by omega)).c1;have k2:=(tY.toB hS (by omega)).c0;have k3:=(tY.toB hS (by omega)).c1;go_simp;try with_reducible rfl));simp only[Act.put,pqA,pqB,pqC])
  refine plan_call rfl (by rfl) (fun K hK=>?_);go_simp
  refine (halves_r (HX.out.to (HB0.out.trans (HB.mono HB0.out.size)))).mono ?_;rintro e V ⟨A1,c1,rfl,t1,l1,m1,bb⟩;replace HB:=Bxb HB bb;have H1:=Hr.of_ret t1 l1 m1 Dsx (by omega);clear t1 l1 m1 bb;refine hK.out _ _ (HB.mono hBW) ?_;clear hK K;refine plan_call rfl (by rfl) (fun K hK=>?_);go_simp
  refine (halves_r (HY.out.to (HB0.out.trans (HB.mono HB0.out.size)))).mono ?_;rintro e V ⟨A2,c2,rfl,t1,l1,m1,bb⟩;replace HB:=Bxb HB bb;have H2:=Hr.of_ret t1 l1 m1 Dsy (by omega);replace H1:=H1.to bb;clear t1 l1 m1 bb;refine hK.out _ _ (HB.mono hBW) ?_;clear hK K;have HC:=Hd (cmp_r H1 H2);rw[EV.out]at HC;refine plan_call rfl (by rfl) (fun K hK=>?_);go_simp
  refine HC.out.mono ?_;rintro e V2 ⟨rfl,rfl⟩;refine hK.out _ _ (HB.mono hBW) ?_;clear hK K HC H1 H2
  repeat (refine plan_take (v:=?_) rfl (by rfl) ?_ ?_;rotate_left;(focus (intro w' hS;have k0:=(tX.toB hS (by omega)).c0;have k1:=(tX.toB hS (by omega)).c1;have k2:=(tY.toB hS (by omega)).c0;have k3:=(tY.toB hS (by omega)).c1;go_simp;try with_reducible rfl));simp only[Act.put,pqA,pqB,pqC])
  refine plan_done ?_;have k1:=(tX.to HB).c0;have k2:=(tX.to HB).c1;have k3:=(tY.to HB).c0;have k4:=(tY.to HB).c1
  go_wp2_with fail
  refine (HS1.out _ (HB0.out.trans (HB.mono HB0.out.size))).mono ?_;rintro e V3 ⟨rfl,bb⟩;have HE:=Hd (HB0.out.trans ((Bxb HB bb).mono HB0.out.size));clear k1 k2 k3 k4 bb HB tX tY
  by_cases hs:s1<0
  .have h1:=hq.1 (by omega)
   have hw:IntKind.i64.wrap (-v)=o:=by rw[<-h1];rcases rv with rfl|rfl|rfl<;>decide
   clear hq h1 rv r1;go_wp2
   go_ret
   exact ⟨rfl,HE.out⟩
  .have h1:=hq.2 (by omega);subst h1;clear hq rv r1;go_wp2
   go_ret
   exact ⟨rfl,HE.out⟩
 .have hss:(s1 != s2)=true:=by simpa using h12
  obtain ⟨hz,-⟩:=hne h12;clear heq hne r1 r2
  rcases Int.lt_or_le s1 s2 with hlt|hge
  .have ho:o=-1:=by rw[<-hz];unfold cmpZ;rw[if_pos hlt]
   subst ho;clear hz
   go_enter Tryz.func127,Tryz.ntmps127
   go_wp2_with fail
   rw[<-HW0.out];refine wp_region_plan (S:=fun w'=>Below (w.heap.size+1+1) W0 w') [(0,true),(2,true),(1,false),(3,false),(4,true)] (by kernel_rfl) (by kernel_rfl) (Below.refl _ _).drew ?_;have HB:=(Below.refl W0.heap.size W0).drew
   repeat (refine plan_take (v:=?_) rfl (by rfl) ?_ ?_;rotate_left;(focus (intro w' hS;have k0:=(tX.toB hS (by omega)).c0;have k1:=(tX.toB hS (by omega)).c1;have k2:=(tY.toB hS (by omega)).c0;have k3:=(tY.toB hS (by omega)).c1;go_simp;try with_reducible rfl));simp only[Act.put,pqA,pqB,pqC])
   refine plan_call rfl (by rfl) (fun K hK=>?_);go_simp
   refine (HS1.out _ (HB0.out.trans (HB.mono HB0.out.size))).mono ?_;rintro e V ⟨rfl,bb⟩;replace HB:=Bxb HB bb;clear bb;refine hK.out _ _ (HB.mono hBW) ?_;clear hK K;refine plan_call rfl (by rfl) (fun K hK=>?_);go_simp
   refine (HS2.out _ (HB0.out.trans (HB.mono HB0.out.size))).mono ?_;rintro e V ⟨rfl,bb⟩;replace HB:=Bxb HB bb;clear bb;refine hK.out _ _ (HB.mono hBW) ?_;clear hK K
   repeat (refine plan_take (v:=?_) rfl (by rfl) ?_ ?_;rotate_left;(focus (intro w' hS;have k0:=(tX.toB hS (by omega)).c0;have k1:=(tX.toB hS (by omega)).c1;have k2:=(tY.toB hS (by omega)).c0;have k3:=(tY.toB hS (by omega)).c1;go_simp;try with_reducible rfl));simp only[Act.put,pqA,pqB,pqC])
   refine plan_done ?_;have k1:=(tX.to HB).c0;have k2:=(tX.to HB).c1;have k3:=(tY.to HB).c0;have k4:=(tY.to HB).c1
   go_wp2_with fail
   clear k1 k2 k3 k4;refine wp_region_plan (S:=fun w'=>Below (w.heap.size+1+1) W0 w') [(0,true),(2,true),(1,false),(3,false),(4,true)] (by kernel_rfl) (by kernel_rfl) (HB.mono hBW).drew ?_;replace HB:=HB.drew
   repeat (refine plan_take (v:=?_) rfl (by rfl) ?_ ?_;rotate_left;(focus (intro w' hS;have k0:=(tX.toB hS (by omega)).c0;have k1:=(tX.toB hS (by omega)).c1;have k2:=(tY.toB hS (by omega)).c0;have k3:=(tY.toB hS (by omega)).c1;go_simp;try with_reducible rfl));simp only[Act.put,pqA,pqB,pqC])
   refine plan_call rfl (by rfl) (fun K hK=>?_);go_simp
   refine (HS1.out _ (HB0.out.trans (HB.mono HB0.out.size))).mono ?_;rintro e V ⟨rfl,bb⟩;replace HB:=Bxb HB bb;clear bb;refine hK.out _ _ (HB.mono hBW) ?_;clear hK K;refine plan_call rfl (by rfl) (fun K hK=>?_);go_simp
   refine (HS2.out _ (HB0.out.trans (HB.mono HB0.out.size))).mono ?_;rintro e V ⟨rfl,bb⟩;replace HB:=Bxb HB bb;clear bb;refine hK.out _ _ (HB.mono hBW) ?_;clear hK K
   repeat (refine plan_take (v:=?_) rfl (by rfl) ?_ ?_;rotate_left;(focus (intro w' hS;have k0:=(tX.toB hS (by omega)).c0;have k1:=(tX.toB hS (by omega)).c1;have k2:=(tY.toB hS (by omega)).c0;have k3:=(tY.toB hS (by omega)).c1;go_simp;try with_reducible rfl));simp only[Act.put,pqA,pqB,pqC])
   refine plan_done ?_;have HE:=Hxb HB0 HB;clear HB tX tY;go_wp2
   go_ret
   exact ⟨rfl,HE.out⟩
  .have ho:o=1:=by rw[<-hz];unfold cmpZ;rw[if_neg (by omega),if_pos (by omega)]
   subst ho;clear hz
   go_enter Tryz.func127,Tryz.ntmps127
   go_wp2_with fail
   rw[<-HW0.out];refine wp_region_plan (S:=fun w'=>Below (w.heap.size+1+1) W0 w') [(0,true),(2,true),(1,false),(3,false),(4,true)] (by kernel_rfl) (by kernel_rfl) (Below.refl _ _).drew ?_;have HB:=(Below.refl W0.heap.size W0).drew
   repeat (refine plan_take (v:=?_) rfl (by rfl) ?_ ?_;rotate_left;(focus (intro w' hS;have k0:=(tX.toB hS (by omega)).c0;have k1:=(tX.toB hS (by omega)).c1;have k2:=(tY.toB hS (by omega)).c0;have k3:=(tY.toB hS (by omega)).c1;go_simp;try with_reducible rfl));simp only[Act.put,pqA,pqB,pqC])
   refine plan_call rfl (by rfl) (fun K hK=>?_);go_simp
   refine (HS1.out _ (HB0.out.trans (HB.mono HB0.out.size))).mono ?_;rintro e V ⟨rfl,bb⟩;replace HB:=Bxb HB bb;clear bb;refine hK.out _ _ (HB.mono hBW) ?_;clear hK K;refine plan_call rfl (by rfl) (fun K hK=>?_);go_simp
   refine (HS2.out _ (HB0.out.trans (HB.mono HB0.out.size))).mono ?_;rintro e V ⟨rfl,bb⟩;replace HB:=Bxb HB bb;clear bb;refine hK.out _ _ (HB.mono hBW) ?_;clear hK K
   repeat (refine plan_take (v:=?_) rfl (by rfl) ?_ ?_;rotate_left;(focus (intro w' hS;have k0:=(tX.toB hS (by omega)).c0;have k1:=(tX.toB hS (by omega)).c1;have k2:=(tY.toB hS (by omega)).c0;have k3:=(tY.toB hS (by omega)).c1;go_simp;try with_reducible rfl));simp only[Act.put,pqA,pqB,pqC])
   refine plan_done ?_;have k1:=(tX.to HB).c0;have k2:=(tX.to HB).c1;have k3:=(tY.to HB).c0;have k4:=(tY.to HB).c1
   go_wp2_with fail
   clear k1 k2 k3 k4;refine wp_region_plan (S:=fun w'=>Below (w.heap.size+1+1) W0 w') [(0,true),(2,true),(1,false),(3,false),(4,true)] (by kernel_rfl) (by kernel_rfl) (HB.mono hBW).drew ?_;replace HB:=HB.drew
   repeat (refine plan_take (v:=?_) rfl (by rfl) ?_ ?_;rotate_left;(focus (intro w' hS;have k0:=(tX.toB hS (by omega)).c0;have k1:=(tX.toB hS (by omega)).c1;have k2:=(tY.toB hS (by omega)).c0;have k3:=(tY.toB hS (by omega)).c1;go_simp;try with_reducible rfl));simp only[Act.put,pqA,pqB,pqC])
   refine plan_call rfl (by rfl) (fun K hK=>?_);go_simp
   refine (HS1.out _ (HB0.out.trans (HB.mono HB0.out.size))).mono ?_;rintro e V ⟨rfl,bb⟩;replace HB:=Bxb HB bb;clear bb;refine hK.out _ _ (HB.mono hBW) ?_;clear hK K;refine plan_call rfl (by rfl) (fun K hK=>?_);go_simp
   refine (HS2.out _ (HB0.out.trans (HB.mono HB0.out.size))).mono ?_;rintro e V ⟨rfl,bb⟩;replace HB:=Bxb HB bb;clear bb;refine hK.out _ _ (HB.mono hBW) ?_;clear hK K
   repeat (refine plan_take (v:=?_) rfl (by rfl) ?_ ?_;rotate_left;(focus (intro w' hS;have k0:=(tX.toB hS (by omega)).c0;have k1:=(tX.toB hS (by omega)).c1;have k2:=(tY.toB hS (by omega)).c0;have k3:=(tY.toB hS (by omega)).c1;go_simp;try with_reducible rfl));simp only[Act.put,pqA,pqB,pqC])
   refine plan_done ?_;have HE:=Hxb HB0 HB;clear HB tX tY;go_wp2
   go_ret
   exact ⟨rfl,HE.out⟩
theorem rcmp_z {w:World}{x y x' y':Value}{a b:Int}(ha:Zl w x y a)(hb:Zl w x' y' b):Calls Tryz.prog 127 #[.agg #[x,y],.agg #[x',y']] w fun e w'=>e=.returned (.int .i64 (cmpZ a b))/\Below w.heap.size w w':=by
 obtain ⟨n,A,c,xs,rfl,rfl,h3,h4,rfl⟩:=ha;obtain ⟨m,B,d,ys,rfl,rfl,k3,k4,rfl⟩:=hb;exact rCmp_any n m h3 h4 k3 k4
theorem rabs_z {w:World}{x y:Value}{a:Int}(ha:Zl w x y a):Calls Tryz.prog 132 #[.agg #[x,y]] w (ZR w (a.natAbs:Int)):=by
 obtain ⟨n,A,c,xs,rfl,rfl,h3,h4,rfl⟩:=ha;rw[zof_abs];exact rAbs_any n h3 h4
def HR2 (w:World)(q r:Nat)(e:Ending)(w':World):Prop:=∃A c A' c',e=.returned (.tuple #[.slice A (dig b16 q).length c,.slice A' (dig b16 r).length c'])/\Rd .i64 w' w'.heap.size A (dig b16 q)/\(dig b16 q).length<=c/\c<=9223372036854775807 /\
 Rd .i64 w' w'.heap.size A' (dig b16 r)/\(dig b16 r).length<=c'/\c'<=9223372036854775807/\Below w.heap.size w w'
theorem tdiv_nat (a b:Nat):((a:Nat):Int).tdiv ((b:Nat):Int)=((a / b:Nat):Int):=by rw[Int.tdiv_eq_ediv_of_nonneg (by omega)];rfl
theorem tmod_nat (a b:Nat):((a:Nat):Int).tmod ((b:Nat):Int)=((a % b:Nat):Int):=by rw[Int.tmod_eq_emod_of_nonneg (by omega)];rfl
theorem rdiv_short {A A':Option Addr}{c c':Nat}{xs ys:List Nat}{w:World}(hx:Hr w A c xs)(hy:Hr w A' c' ys)(hl1:xs.length<=3)(hl2:ys.length<=3)(h0:0<val b16 ys) :
  Calls Tryz.prog 161 #[.slice A xs.length c,.slice A' ys.length c'] w (HR2 w (val b16 xs / val b16 ys) (val b16 xs % val b16 ys)):=by
 have h1:=Hd fun (V:World) (h:Below w.heap.size w V)=>small_any (hx.to h) hl1
 have h2:=Hd fun (V:World) (h:Below w.heap.size w V)=>small_any (hy.to h) hl2
 have hX:=val_lt3 hx.dg hl1;have hY:=val_lt3 hy.dg hl2;have k1:(xs.length:Int)<=3:=by omega
 have k2:(ys.length:Int)<=3:=by omega
 clear hx hy;obtain ⟨X,eX⟩:∃X,val b16 xs=X:=⟨_,rfl⟩
 obtain ⟨Y,eY⟩:∃Y,val b16 ys=Y:=⟨_,rfl⟩
 rw[eX]at h1 hX ⊢;rw[eY]at h2 hY h0 ⊢;clear eX eY;have hq:X / Y<281474976710656:=Nat.lt_of_le_of_lt (Nat.div_le_self _ _) hX;have hr:X % Y<281474976710656:=Nat.lt_of_le_of_lt (Nat.mod_le _ _) hX;have g1:=tdiv_nat X Y;have g2:=tmod_nat X Y;obtain ⟨q,eq⟩:∃q,X / Y=q:=⟨_,rfl⟩
 obtain ⟨r,er⟩:∃r,X % Y=r:=⟨_,rfl⟩
 rw[eq]at hq g1 ⊢;rw[er]at hr g2 ⊢;clear eq er;have g3:=wrap_nat q (by omega);have g4:=wrap_nat r (by omega);have g5:((Y:Int)==0)=false:=by rw[beq_eq_false_iff_ne];omega
 have B1:=Hd fun V=>back_any q hq V
 have B2:=Hd fun V=>back_any r hr V
 have HB:=Hd (Below.refl w.heap.size w)
 go_enter Tryz.func161,Tryz.ntmps161
 go_wp2_with fail
 refine (h1.out _ HB.out).mono ?_;rintro e w' ⟨rfl,rfl⟩
 go_wp2_with fail
 refine (h2.out _ HB.out).mono ?_;rintro e w' ⟨rfl,rfl⟩
 go_wp2_with fail
 refine (B1.out _).mono ?_;rintro e V1 ⟨A1,c1,rfl,r1,l1,m1,bb⟩;have HB1:=Hxb HB bb;have R1:=Hd r1;clear bb r1
 go_wp2_with fail
 refine (h1.out _ HB1.out).mono ?_;rintro e w' ⟨rfl,rfl⟩
 go_wp2_with fail
 refine (h2.out _ HB1.out).mono ?_;rintro e w' ⟨rfl,rfl⟩
 go_wp2_with fail
 refine (B2.out _).mono ?_;rintro e V2 ⟨A2,c2,rfl,r2,l2,m2,bb⟩;have HB2:=Hxb HB1 bb;have R1':=Hd (R1.out.to bb);have R2:=Hd r2;clear bb r2;go_wp2
 go_ret2
 exact ⟨A1,c1,A2,c2,rfl,R1'.out,l1,m1,R2.out,l2,m2,HB2.out⟩
theorem wp_build_one {b:Nat}{ac:Act}{w:World}{K:Act->World->Prop}{Q:Exit->Act->World->Prop}{d:Option Tmp}{x:Operand}{pos:String}{after:Array Edge}{guard:Option (Nat×Bool)}(hx:ac.eval x=.int .i64 (b:Nat))
  (h:∀(g:Nat) (V:World),Rd .i64 V V.heap.size (some ⟨g,0,none⟩) [b]->Below w.heap.size w V->K (ac.put d (.slice (some ⟨g,0,none⟩) 1 1)) V) :
  Oper.wp Tryz.prog ⟨d,.buildSlice 113 1 #[(0,x)],113,pos,after,guard⟩ ac w K Q:=by
 have h1:=h _ _ ((Rd.new .i64 w 3 [b]).more (by simp)) bRR;simp only[Oper.wp,execOp,hx,List.map_toArray,List.map_cons,List.map_nil];go_simp
 exact h1
theorem ready_take {P:Program}{ops:Array Oper}{Q:Exit->Act->World->Prop}{md:Region.Mode}{S:World->Prop}{fuel i:Nat}{listed:Array Bool}{d:Option Tmp}{op:Op}{ty:TypeId}{pos:String}{after:Array Edge}{guard:Option (Nat×Bool)}{v:Value}{a:Act}{w:World}
  (ho:ops[i]?=some ⟨d,op,ty,pos,after,guard⟩) (hs:Region.noSelect ops=true) (hf:Region.free md ops listed i=true) (hr:(Region.ready md ops listed).contains i=true) (hw:Region.wanted ⟨d,op,ty,pos,after,guard⟩ (yielded ops a.tmps)=true)
  (hy:∀w,S w->(execOp a.eval ⟨d,op,ty,pos,after,guard⟩).run P w=.ok (.value v) w) (hS:S w) (h:wpAnyH P md ops (NoPanic Q) S fuel (listed.setIfInBounds i true) (a.put d v) w):wpAnyH P md ops (NoPanic Q) S (fuel+1) listed a w :=
 wpAnyH_take ho hs hf hr (fun _ _ _ h=>h) (.inl ⟨hw,hy⟩) hS h
theorem bit_step {P Y b:Nat}(hY:0<Y)(hb:b<=1):(if Y<=2*(P % Y)+b then 2*(P / Y)+1 else 2*(P / Y))=(2*P+b) / Y/\(if Y<=2*(P % Y)+b then 2*(P % Y)+b-Y else 2*(P % Y)+b)=(2*P+b) % Y:=by
 have h1:=Nat.mod_add_div P Y;have h2:=Nat.mod_lt P hY;obtain ⟨q,eq⟩:∃q,P / Y=q:=⟨_,rfl⟩
 obtain ⟨r,er⟩:∃r,P % Y=r:=⟨_,rfl⟩
 rw[eq,er]at h1 ⊢;rw[er]at h2
 have h3:2*P+b=2*r+b+Y*(2*q):=by
  rw[<-h1,Nat.mul_add,Nat.mul_left_comm];omega
 split
 .rename_i h
  have h4:2*P+b=(2*r+b-Y)+Y*(2*q+1):=by rw[h3,Nat.mul_add,Nat.mul_one];omega
  rw[h4,Nat.add_mul_div_left _ _ hY,Nat.add_mul_mod_self_left,Nat.div_eq_of_lt (by omega),Nat.mod_eq_of_lt (by omega)];omega
 .rename_i h
  rw[h3,Nat.add_mul_div_left _ _ hY,Nat.add_mul_mod_self_left,Nat.div_eq_of_lt (by omega),Nat.mod_eq_of_lt (by omega)];omega
theorem one_len : (dig b16 1).length=1:=by rw[show dig b16 1=[1] from by decide];rfl
theorem unit_new {V:World} : Hr (V.alloc (.cells #[.int .i64 1] 3)) (some ⟨V.heap.size,0,none⟩) 1 (dig b16 1)/\Below V.heap.size V (V.alloc (.cells #[.int .i64 1] 3)):=by
 have hb:Below V.heap.size V (V.alloc (.cells #[.int .i64 1] 3)):=bRR;have h1:Rd .i64 (V.alloc (.cells #[.int .i64 1] 3)) (V.alloc (.cells #[.int .i64 1] 3)).heap.size (some ⟨V.heap.size,0,none⟩) [1]:=(Rd.new .i64 V 3 [1]).more (by simp);rw[show dig b16 1=[1] from by decide];exact ⟨⟨h1,Dg.one (by decide),by simp,by decide,by simp⟩,hb⟩
theorem bit_lt {P Y b:Nat}(hY:0<Y)(hb:b<=1)(h:P % Y+P % Y+b<Y):P / Y+P / Y=(2*P+b) / Y/\P % Y+P % Y+b=(2*P+b) % Y:=by
 have h1:=bit_step (P:=P) hY hb;rw[if_neg (by omega),if_neg (by omega)]at h1;omega
theorem bit_ge {P Y b:Nat}(hY:0<Y)(hb:b<=1)(h:Y<=P % Y+P % Y+b):P / Y+P / Y+1=(2*P+b) / Y/\P % Y+P % Y+b-Y=(2*P+b) % Y:=by
 have h1:=bit_step (P:=P) hY hb;rw[if_pos (by omega),if_pos (by omega)]at h1;omega
theorem rdiv_long {A A':Option Addr}{c c':Nat}{xs ys:List Nat}{w:World}(hx:Hr w A c xs)(hy:Hr w A' c' ys)(hl1:xs.length<=100000)(hl2:ys.length<=100000)(hlong:¬(xs.length<=3/\ys.length<=3))(h0:0<val b16 ys) :
  Calls Tryz.prog 161 #[.slice A xs.length c,.slice A' ys.length c'] w (HR2 w (val b16 xs / val b16 ys) (val b16 xs % val b16 ys)):=by
 have HX:=Hd hx;have HY:=Hd hy;obtain ⟨Y,eY⟩:∃Y,Hid (val b16 ys=Y):=⟨_,rfl⟩
 rw[eY.out]at h0 ⊢;have hYl:Hid (Y<b16 ^ ys.length):=by show _<_;rw[<-eY.out];exact val_lt hy.dg
 have H0:=Hd h0;have hcase:(3<xs.length)∨(xs.length<=3/\3<ys.length):=by omega
 clear hx hy h0 hlong
 rcases hcase with k1|⟨k1,k2⟩
 all_goals
  go_enter Tryz.func161,Tryz.ntmps161
  go_wp2
  go_loopw [6,7,8] (fun u v i wr=>∃(k:Nat) (A1:Option Addr) (c1:Nat) (A2:Option Addr) (c2:Nat),u=.slice A1 (dig b16 (val b16 (xs.drop k) / Y)).length c1/\v=.slice A2 (dig b16 (val b16 (xs.drop k) % Y)).length c2/\i=.int .i64 ((k:Int)-1)/\k<=xs.length /\
   Hr wr A1 c1 (dig b16 (val b16 (xs.drop k) / Y))/\Hr wr A2 c2 (dig b16 (val b16 (xs.drop k) % Y))/\Below w.heap.size w wr) (fun _ _ i _=>((intOf i)+1).toNat)
  case atStart=>exact ⟨xs.length,none,0,none,0,by simp[val,dig_zero],by simp[val,dig_zero],rfl,Nat.le_refl _,by simp[val,dig_zero];exact ⟨Rd.nil,Dg.nil,by simp,by decide,by simp⟩,by simp[val,dig_zero];exact ⟨Rd.nil,Dg.nil,by simp,by decide,by simp⟩,Below.refl _ _⟩
  case round =>
   obtain ⟨k,A1,c1,A2,c2,hu,hv,hik,hk,r1,r2,hb⟩:=hrel
   rcases Nat.eq_zero_or_pos k with rfl|hk0
   .rw[List.drop_zero]at hu hv r1 r2;subst hu hv hik;have R1:=Hd r1;have R2:=Hd r2;have HB:=Hd hb;clear r1 r2 hb hk;go_wp2
    go_ret2
    exact ⟨A1,c1,A2,c2,rfl,R1.out.rd,R1.out.le,R1.out.cap,R2.out.rd,R2.out.le,R2.out.cap,HB.out⟩
   .obtain ⟨q,rfl⟩:∃q,k=q+1:=⟨k-1,by omega⟩
    rw[show (((q+1:Nat):Int)-1)=(q:Int) from by omega]at hik;subst hik;have hq:q<xs.length:=by omega
    obtain ⟨b,o,rfl,_,hcx⟩:=(HX.out.to hb).rd.at_ hq;clear hcx;have hd:=HX.out.dg.at_ hq;obtain ⟨x,ex⟩:∃x,Hid (xs[q]=x):=⟨xs[q],rfl⟩
    rw[ex.out]at hd;unfold b16 at hd;obtain ⟨T,eT⟩:∃T,Hid (val b16 (xs.drop (q+1))=T):=⟨_,rfl⟩
    have HVX:Hid (val b16 (xs.drop q)=x+65536*T):=by show _=_;rw[val_drop hq,ex.out,eT.out];rfl
    have HLT:Hid (x+65536*T<b16 ^ (xs.length-q)):=by
     show _<_
     rw[<-HVX.out];have:=val_lt (HX.out.dg.drop q)
     rwa [List.length_drop]at this
    rw[eT.out]at hu hv r1 r2;subst hu hv;have R1:=Hd r1;have R2:=Hd r2;have HB:=Hd hb;clear r1 r2 hb;go_wp2
    go_loopw [6,7,9] (fun u v i wr2=>∃(j:Nat) (A3:Option Addr) (c3:Nat) (A4:Option Addr) (c4:Nat),u=.slice A3 (dig b16 ((T*2 ^ j+x / 2 ^ (16-j)) / Y)).length c3/\v=.slice A4 (dig b16 ((T*2 ^ j+x / 2 ^ (16-j)) % Y)).length c4/\i=.int .i64 (15-(j:Int))/\j<=16 /\
     Hr wr2 A3 c3 (dig b16 ((T*2 ^ j+x / 2 ^ (16-j)) / Y))/\Hr wr2 A4 c4 (dig b16 ((T*2 ^ j+x / 2 ^ (16-j)) % Y))/\Below w.heap.size w wr2) (fun _ _ i _=>((intOf i)+1).toNat)
    case atStart =>
     have hx0:T*2 ^ 0+x / 2 ^ (16-0)=T:=by
      rw[Nat.pow_zero,Nat.mul_one,Nat.sub_zero,show (2:Nat) ^ 16=65536 from by decide,Nat.div_eq_of_lt hd,Nat.add_zero]
     exact ⟨0,A1,c1,A2,c2,by rw[hx0],by rw[hx0],by simp,by omega,by rw[hx0];exact R1.out,by rw[hx0];exact R2.out,HB.out⟩
    case round =>
     obtain ⟨j,A3,c3,A4,c4,hu,hv,hij,hj,r3,r4,hb3⟩:=hrel
     rcases Nat.lt_or_ge j 16 with hj16|hj16
     .obtain ⟨s,es⟩:∃s,s+j=15:=⟨15-j,by omega⟩
      rw[show (15:Int)-(j:Int)=(s:Int) from by omega]at hij;subst hij;obtain ⟨P,eP⟩:∃P,Hid (T*2 ^ j+x / 2 ^ (16-j)=P):=⟨_,rfl⟩
      rw[eP.out]at hu hv r3 r4;subst hu hv;obtain ⟨bit,ebit⟩:∃b,Hid (x / 2 ^ s % 2=b):=⟨_,rfl⟩
      have hbit:bit<=1:=by rw[<-ebit.out];omega
      have HP:Hid (T*2 ^ (j+1)+x / 2 ^ (16-(j+1))=2*P+bit):=by
       show _=_
       have h1:x / 2 ^ (16-j)=x / 2 ^ s / 2:=by rw[Nat.div_div_eq_div_mul,<-Nat.pow_succ];congr 2;omega
       have h2:T*2 ^ (j+1)=2*(T*2 ^ j):=by rw[Nat.pow_succ];rw[<-Nat.mul_assoc,Nat.mul_comm]
       rw[<-eP.out,<-ebit.out,h1,h2,show 16-(j+1)=s from by omega];omega
      have R3:=Hd r3;have R4:=Hd r4;have HB3:=Hd hb3;have e1:=(HX.out.to hb3).rd.cell hq;rw[ex.out]at e1;have hki:(0:Int)<=(q:Int):=by omega
      have hki':(q:Int)<(xs.length:Int):=by omega
      have gw:IntKind.u64.wrap (s:Int)=(s:Int):=by rw[IntKind.wrap_u64];omega
      have gm:min s 64=s:=by omega
      have gt:((x:Int) / 2 ^ s).tmod 2=(bit:Int):=by
       rw[show ((x:Int) / 2 ^ s)=((x / 2 ^ s:Nat):Int) from by push_cast;rfl,<-ebit.out];generalize x / 2 ^ s=n;rw[Int.tmod_eq_emod_of_nonneg (by omega)];omega
      have gb:=wrap_nat bit (by omega);have hrY:Hid (P % Y<b16 ^ ys.length):=Nat.lt_trans (Nat.mod_lt P H0.out) hYl.out
      have h2r:Hid (P % Y+P % Y<b16 ^ (ys.length+1)):=by
       show _<_
       rw[Nat.pow_succ];have h1:=hrY.out;have h2:b16 ^ ys.length*2<=b16 ^ ys.length*b16:=Nat.mul_le_mul_left _ (by decide);omega
      have h2b:Hid (P % Y+P % Y+bit<b16 ^ (ys.length+1)):=by
       show _<_
       rw[Nat.pow_succ];have h1:=hrY.out;have h2:b16 ^ ys.length*4<=b16 ^ ys.length*b16:=Nat.mul_le_mul_left _ (by decide);omega
      have hPl:Hid (P<b16 ^ xs.length):=by
       show _<_
       have h1:=HLT.out;have h2:b16 ^ (xs.length-q)<=b16 ^ xs.length:=Nat.pow_le_pow_right (by decide) (by omega)
       have h3:P*1<=x+65536*T:=by
        rw[Nat.mul_one,<-eP.out];have h4:T*2 ^ j<=T*2 ^ 15:=Nat.mul_le_mul_left _ (Nat.pow_le_pow_right (by decide) (by omega));have h5:x / 2 ^ (16-j)<=x:=Nat.div_le_self _ _;rw[show (2:Nat) ^ 15=32768 from by decide]at h4;omega
       omega
      have hq2:Hid (P / Y+P / Y<b16 ^ (xs.length+1)):=by
       show _<_
       rw[Nat.pow_succ];have h1:=hPl.out;have h2:b16 ^ xs.length*2<=b16 ^ xs.length*b16:=Nat.mul_le_mul_left _ (by decide);have h3:P / Y<=P:=Nat.div_le_self _ _;omega
      have htr:Hid (trimL [bit]=dig b16 bit):=by
       show _=_
       have h:=trimL_dig b16_one (xs:=[bit]) (Dg.one (by unfold b16;omega))
       rwa [show val b16 [bit]=bit from by simp[val]]at h
      clear r3 r4 hb3 R1 R2 HB
      go_wp2_with fail
      refine wp_cut (fun a' v' w'=>∃(A5:Option Addr) (c5:Nat) (u41 u42 u43 u44 u45 u46 u47 u48 u49 u50 u51 u52 u53 u54:Value),v'=(((((((((((((((a'.put (some 41) u41).put (some 42) u42).put (some 43) u43).put (some 44) u44).put (some 45) u45).put (some 46) u46).put (some 47) u47).put (some 48) u48).put (some 49) u49).put (some 50) u50).put (some 51) u51).put (some 52) u52).put (some 53) u53).put (some 54) u54).put (some 7) (.slice A5 (dig b16 (P % Y+P % Y+bit)).length c5))/\Hr w' A5 c5 (dig b16 (P % Y+P % Y+bit))/\Below wr.heap.size wr w') ?_ ?_
      .refine wp_region_planTo (S:=fun w'=>Below wr.heap.size wr w') [(0,true),(1,true),(3,true),(4,true),(5,true),(6,true),(7,true),(8,true),(9,true),(10,true)] #[true,true,false,true,true,true,true,true,true,true,true,false,false,false,false] 5 (by kernel_rfl) (by kernel_rfl) (Below.refl _ _).drew ?_
       repeat (refine plan_take (v:=?_) rfl (by rfl) ?_ ?_;rotate_left;(focus (intro w' hS;have k0:=(hS.cell (World.block_lt_of_cell? _ _ e1)).trans e1;go_simp;try with_reducible rfl));simp only[Act.put,pqA,pqB,pqC])
       clear HB3;intro HB;refine wpAnyH_ready (rs:=[2,11]) (by kernel_rfl) (by simp) (ready_cons rfl (by rfl) (fun K hK=>?_) (ready_cons rfl (by rfl) (fun K hK=>?_) AllReadyH.nil))
       .go_simp
        refine (add_r (R4.out.to HB) (R4.out.to HB)).mono ?_;rintro e V ⟨A6,c6,rfl,z1,z2,z3,bb⟩;have H6:=Hr.of_ret z1 z2 z3 h2r.out (by omega);replace HB:=Bxb HB bb;refine hK.out _ _ HB ?_;clear hK K bb z1 z2 z3;refine rdy1 (i:=11) (by kernel_rfl) rfl (by rfl) (fun K hK=>?_);refine wp_build_one (by rfl) (fun g V z1 bb=>?_);have HBt:Hr V (some ⟨g,0,none⟩) 1 [bit]:=⟨z1,Dg.one (by unfold b16;omega),by simp,by decide,by simp⟩
        replace HB:=Bxb HB bb;replace H6:=H6.to bb;refine hK.out _ _ HB ?_;clear hK K bb z1;simp only[Act.put,pqA,pqB,pqC];refine rdy1 (i:=12) (by kernel_rfl) rfl (by rfl) (fun K hK=>?_);go_simp
        refine (rtrim_any (some ⟨g,0,none⟩) 1 _ [bit] V HBt.rd (by simp) (by decide)).mono ?_;rintro e V2 ⟨rfl,rfl⟩
        have HT:Hr V (some ⟨g,0,none⟩) 1 (dig b16 bit):=by
         have h1:=htr.out;rw[<-h1];exact ⟨HBt.rd.take _,HBt.dg.take _,Nat.le_trans (trimL_le _) (by simp),by decide,Nat.le_trans (trimL_le _) (by simp)⟩
        rw[show trimN [bit]=(dig b16 bit).length from by rw[<-htr.out,trimL_length]];refine hK.out _ _ HB ?_;clear hK K HBt;refine rdy1 (i:=13) (by kernel_rfl) rfl (by rfl) (fun K hK=>?_);go_simp
        refine (add_r H6 HT).mono ?_;rintro e V3 ⟨A7,c7,rfl,z1,z2,z3,bb⟩;have H7:=Hr.of_ret z1 z2 z3 h2b.out (by omega);replace HB:=Bxb HB bb;refine hK.out _ _ HB ?_;clear hK K bb z1 z2 z3 H6 HT;refine ready_take (i:=14) (v:=?_) rfl (by kernel_rfl) (by kernel_rfl) (by kernel_rfl) (by rfl) ?_ HB ?_;rotate_left;(focus (intro w' _;go_simp;try with_reducible rfl));simp only[Act.put,pqA,pqB,pqC];exact wpAnyH_done (by kernel_rfl) ⟨rfl,A7,c7,_,_,_,_,_,_,_,_,_,_,_,_,_,_,by rfl,H7,HB⟩ _
       .refine wp_build_one (by rfl) (fun g V z1 bb=>?_);have HBt:Hr V (some ⟨g,0,none⟩) 1 [bit]:=⟨z1,Dg.one (by unfold b16;omega),by simp,by decide,by simp⟩
        replace HB:=Bxb HB bb;refine hK.out _ _ HB ?_;clear hK K bb z1;simp only[Act.put,pqA,pqB,pqC];refine rdy1 (i:=2) (by kernel_rfl) rfl (by rfl) (fun K hK=>?_);go_simp
        refine (add_r (R4.out.to HB) (R4.out.to HB)).mono ?_;rintro e V ⟨A6,c6,rfl,z1,z2,z3,bb⟩;have H6:=Hr.of_ret z1 z2 z3 h2r.out (by omega);replace HB:=Bxb HB bb;replace HBt:=HBt.to bb;refine hK.out _ _ HB ?_;clear hK K bb z1 z2 z3;refine rdy1 (i:=12) (by kernel_rfl) rfl (by rfl) (fun K hK=>?_);go_simp
        refine (rtrim_any (some ⟨g,0,none⟩) 1 _ [bit] V HBt.rd (by simp) (by decide)).mono ?_;rintro e V2 ⟨rfl,rfl⟩
        have HT:Hr V (some ⟨g,0,none⟩) 1 (dig b16 bit):=by
         have h1:=htr.out;rw[<-h1];exact ⟨HBt.rd.take _,HBt.dg.take _,Nat.le_trans (trimL_le _) (by simp),by decide,Nat.le_trans (trimL_le _) (by simp)⟩
        rw[show trimN [bit]=(dig b16 bit).length from by rw[<-htr.out,trimL_length]];refine hK.out _ _ HB ?_;clear hK K HBt;refine rdy1 (i:=13) (by kernel_rfl) rfl (by rfl) (fun K hK=>?_);go_simp
        refine (add_r H6 HT).mono ?_;rintro e V3 ⟨A7,c7,rfl,z1,z2,z3,bb⟩;have H7:=Hr.of_ret z1 z2 z3 h2b.out (by omega);replace HB:=Bxb HB bb;refine hK.out _ _ HB ?_;clear hK K bb z1 z2 z3 H6 HT;refine ready_take (i:=14) (v:=?_) rfl (by kernel_rfl) (by kernel_rfl) (by kernel_rfl) (by rfl) ?_ HB ?_;rotate_left;(focus (intro w' _;go_simp;try with_reducible rfl));simp only[Act.put,pqA,pqB,pqC];exact wpAnyH_done (by kernel_rfl) ⟨rfl,A7,c7,_,_,_,_,_,_,_,_,_,_,_,_,_,_,by rfl,H7,HB⟩ _
      .rintro v' V ⟨A5,c5,u41,u42,u43,u44,u45,u46,u47,u48,u49,u50,u51,u52,u53,u54,rfl,H5,HB5⟩;simp only[Act.put,pqA,pqB,pqC];have R5:=Hd H5;have HV:=Hd HB5;clear H5 HB5 e1 gw gm gt gb
       go_wp2_with fail
       refine (add_r (R3.out.to HV.out) (R3.out.to HV.out)).mono ?_;rintro e V2 ⟨A6,c6,rfl,z1,z2,z3,bb⟩;have R6:=Hd (Hr.of_ret z1 z2 z3 hq2.out (by omega));have R7:=Hd (R5.out.to bb);have HV2:=Hxb HV bb;have HYV:=Hd (HY.out.to (HB3.out.trans (HV2.out.mono HB3.out.size)));have HBV:=Hd (HB3.out.trans (HV2.out.mono HB3.out.size));clear z1 z2 z3 bb;have hc:=rcmp_any R7.out HYV.out;rw[val_dig b16_one,eY.out]at hc;have HC:=Hd hc;clear hc R5 R3;have h15:Hid (s<=15):=by show _<=_;omega
       have gs:IntKind.i64.wrap ((s:Int)-1)=(s:Int)-1:=IntWalk.i64_in _ (by omega);have hnx:Hid ((15:Int)-((j+1:Nat):Int)=(s:Int)-1):=by show _=_;omega
       rcases Nat.lt_or_ge (P % Y+P % Y+bit) Y with hlt|hge
       .have hb1:=bit_lt H0.out hbit hlt;rw[cmpN_lt hlt]at HC;rw[<-HP.out]at hb1;have K1:=R6.out;have K2:=R7.out;rw[hb1.1]at K1;rw[hb1.2]at K2;have M1:=Hd K1;have M2:=Hd K2;have E1:=Hd hb1.1;have E2:=Hd hb1.2;clear K1 K2 hb1 hlt HP hbit
        go_wp2_with fail
        refine HC.out.mono ?_;rintro e w' ⟨rfl,rfl⟩;go_wp2
        go_roundw
        case rel=>exact ⟨j+1,A6,c6,A5,c5,by rw[<-E1.out],by rw[<-E2.out],by rw[hnx.out],by omega,M1.out,M2.out,HBV.out⟩
        case measure=>simp[intOf]
       .have hb1:=bit_ge H0.out hbit hge;rw[<-HP.out]at hb1
        obtain ⟨cn,ecn,hcn⟩:∃n:Int,cmpN (P % Y+P % Y+bit) Y=n/\0<=n:=by
         refine ⟨_,rfl,?_⟩;unfold cmpN;split
         .omega
         .split<;>omega
        rw[ecn]at HC;have hsb:=rsub_any R7.out HYV.out (by rw[val_dig b16_one,eY.out];exact hge);rw[val_dig b16_one,eY.out,hb1.2]at hsb;have E1:=Hd hb1.1;have E2:=Hd hb1.2;have hRl:(T*2 ^ (j+1)+x / 2 ^ (16-(j+1))) % Y<b16 ^ ys.length:=Nat.lt_trans (Nat.mod_lt _ H0.out) hYl.out;obtain ⟨m,em⟩:∃m,Hid ((T*2 ^ (j+1)+x / 2 ^ (16-(j+1))) % Y=m):=⟨_,rfl⟩
        rw[em.out]at hsb hRl;have HS:=Hd hsb;have HRl:=Hd hRl
        have HQl:Hid (P / Y+P / Y+1<b16 ^ (xs.length+2)):=by
         show _<_
         rw[Nat.pow_succ];have h1:=hq2.out;have h2:b16 ^ (xs.length+1)*2<=b16 ^ (xs.length+1)*b16:=Nat.mul_le_mul_left _ (by decide);omega
        clear hsb ecn hRl hb1 hge HP hbit
        go_wp2_with fail
        refine HC.out.mono ?_;rintro e w' ⟨rfl,rfl⟩
        go_wp2_with fail
        refine HS.out.mono ?_;rintro e V3 ⟨A8,c8,rfl,z1,z2,z3,bb⟩;have M2:=Hd (Hr.of_ret z1 z2 z3 HRl.out (by omega));have R8:=Hd (R6.out.to bb);have HBW:=Hxb HBV bb;clear z1 z2 z3 bb
        go_wp2_with fail
        have hn1:=@unit_new V3;have ha:=add_r (R8.out.to hn1.2) hn1.1;rw[one_len]at ha;refine ha.mono ?_;rintro e V4 ⟨A9,c9,rfl,z1,z2,z3,bb⟩;have M1:=Hr.of_ret z1 z2 z3 HQl.out (by omega);have bb2:=hn1.2.trans (bb.mono hn1.2.size);have M2':=Hd (M2.out.to bb2);have HBW':=Hxb HBW bb2;rw[E1.out]at M1;have M1':=Hd M1;clear M1 ha hn1 z1 z2 z3 bb bb2;go_wp2
        go_roundw
        case rel=>exact ⟨j+1,A9,c9,A8,c8,by rw[<-E1.out],by rw[em.out],by rw[hnx.out],by omega,M1'.out,by rw[em.out];exact M2'.out,HBW'.out⟩
        case measure=>simp[intOf]
     .obtain rfl:j=16:=by omega
      have hx1:T*2 ^ 16+x / 2 ^ (16-16)=val b16 (xs.drop q):=by
       rw[HVX.out,Nat.sub_self,Nat.pow_zero,Nat.div_one,show (2:Nat) ^ 16=65536 from by decide];omega
      rw[hx1]at hu hv r3 r4;subst hu hv hij;have R3:=Hd r3;have R4:=Hd r4;have HB3:=Hd hb3;clear r3 r4 hb3 hx1 R1 R2 HB;go_wp2
      go_roundw
      case rel=>exact ⟨q,A3,c3,A4,c4,rfl,rfl,by simp,by omega,R3.out,R4.out,HB3.out⟩
      case measure=>simp[intOf]
theorem rdiv_any {A A':Option Addr}{c c':Nat}{xs ys:List Nat}{w:World}(hx:Hr w A c xs)(hy:Hr w A' c' ys)(hl1:xs.length<=100000)(hl2:ys.length<=100000)(h0:0<val b16 ys) :
  Calls Tryz.prog 161 #[.slice A xs.length c,.slice A' ys.length c'] w (HR2 w (val b16 xs / val b16 ys) (val b16 xs % val b16 ys)):=by
 by_cases h:xs.length<=3/\ys.length<=3
 .exact rdiv_short hx hy h.1 h.2 h0
 .exact rdiv_long hx hy hl1 hl2 h h0
theorem div_r {A A':Option Addr}{c c' m n:Nat}{w:World}(hx:Hr w A c (dig b16 m))(hy:Hr w A' c' (dig b16 n))(hl1:(dig b16 m).length<=100000)(hl2:(dig b16 n).length<=100000)(h0:0<n) :
  Calls Tryz.prog 161 #[.slice A (dig b16 m).length c,.slice A' (dig b16 n).length c'] w (HR2 w (m / n) (m % n)):=by
 have h:=rdiv_any hx hy hl1 hl2 (by rw[val_dig b16_one];exact h0);rw[val_dig b16_one,val_dig b16_one]at h;exact h
theorem Rd.uniq {kd:IntKind}{w:World}{B:Nat}{A:Option Addr}{xs ys:List Nat}(h:Rd kd w B A xs)(k:Rd kd w B A ys)(hl:xs.length=ys.length):xs=ys:=by
 refine List.ext_getElem hl fun i h1 h2=>?_
 obtain ⟨b,o,rfl,_,e1⟩:=h i h1;obtain ⟨b',o',e,_,e2⟩:=k i h2;simp only[Option.some.injEq,Addr.mk.injEq,and_true]at e;obtain ⟨rfl,rfl⟩:=e;rw[e1]at e2;simp only[Option.some.injEq,Value.int.injEq,true_and]at e2;exact Int.ofNat.inj e2
open Classical in
noncomputable def magOf (w:World)(v:Value):Nat:=if h:∃n,∃A c,v=.slice A (dig b16 n).length c/\Rd .i64 w w.heap.size A (dig b16 n) then h.choose else 0
theorem magOf_eq {w:World}{A:Option Addr}{c n:Nat}(h:Rd .i64 w w.heap.size A (dig b16 n)):magOf w (.slice A (dig b16 n).length c)=n:=by
 have hex:∃m,∃A' c',Value.slice A (dig b16 n).length c=.slice A' (dig b16 m).length c'/\Rd .i64 w w.heap.size A' (dig b16 m):=⟨n,A,c,rfl,h⟩
 unfold magOf;rw[dif_pos hex];obtain ⟨A',c',e,h2⟩:=hex.choose_spec
 injection e with e1 e2 e3
 subst e1;have h3:=Rd.uniq h2 h e2.symm;have h4:val b16 (dig b16 hex.choose)=val b16 (dig b16 n):=by rw[h3]
 rwa [val_dig b16_one,val_dig b16_one]at h4
theorem rGcd_any (n:Bool)(m:Bool){A A':Option Addr}{c c':Nat}{xs ys:List Nat}{w:World}(hx:Arg w A c xs)(sx:xs.length<=10000)(hy:Arg w A' c' ys)(sy:ys.length<=10000) :
  Calls Tryz.prog 125 #[.agg #[.bool n,.slice A xs.length c],.agg #[.bool m,.slice A' ys.length c']] w (ZR w ((Nat.gcd (val b32 xs) (val b32 ys):Nat):Int)):=by
 obtain ⟨W0,hW0⟩:∃W0,W0=(((w.alloc (.cells #[.bool n,.slice A xs.length c] 30)).alloc (.cells #[.bool m,.slice A' ys.length c'] 30)).alloc (.cells #[.bool false,.slice none 0 0] 30)):=⟨_,rfl⟩
 have hb:Below w.heap.size w W0:=by rw[hW0];exact (bRR.alloc (by simp) _).alloc (by simp;omega) _
 have tX:Two W0 (w.heap.size) (.bool n) (.slice A xs.length c):=by
  have h:=Two.new w (.bool n) (.slice A xs.length c) 30;rw[hW0];exact (h.alloc _).alloc _
 have tY:Two W0 (w.heap.size+1) (.bool m) (.slice A' ys.length c'):=by
  have h:=Two.new (w.alloc (.cells #[.bool n,.slice A xs.length c] 30)) (.bool m) (.slice A' ys.length c') 30;rw[szA]at h;rw[hW0];exact h.alloc _
 have tR:Two W0 (w.heap.size+1+1) (.bool false) (.slice none 0 0):=by
  have h:=Two.new ((w.alloc (.cells #[.bool n,.slice A xs.length c] 30)).alloc (.cells #[.bool m,.slice A' ys.length c'] 30)) (.bool false) (.slice none 0 0) 30;rw[szA,szA]at h;rw[hW0];exact h
 have HW0:=Hd hW0;have HB0:=Hd hb;have HX:=Hd hx;have HY:=Hd hy;have hBW:w.heap.size+1+1<=W0.heap.size:=by rw[hW0];simp
 have Dsx:val b32 xs<b16 ^ (2*xs.length):=by rw[<-pow_2k];exact val_lt hx.dg
 have Dsy:val b32 ys<b16 ^ (2*ys.length):=by rw[<-pow_2k];exact val_lt hy.dg
 clear hW0 hb hx hy
 go_enter Tryz.func125,Tryz.ntmps125
 go_wp2_with fail
 rw[<-HW0.out];refine wp_region_plan (S:=fun w'=>Below (w.heap.size+1+1) W0 w') [(0,true),(1,true),(3,true),(4,true),(2,false),(5,false),(6,true),(7,true)] (by kernel_rfl) (by kernel_rfl) (Below.refl _ _).drew ?_;have HB:=(Below.refl W0.heap.size W0).drew
 repeat (refine plan_take (v:=?_) rfl (by rfl) ?_ ?_;rotate_left;(focus (intro w' hS;have k0:=(tX.toB hS (by omega)).c0;have k1:=(tX.toB hS (by omega)).c1;have k2:=(tY.toB hS (by omega)).c0;have k3:=(tY.toB hS (by omega)).c1;go_simp;try with_reducible rfl));simp only[Act.put,pqA,pqB,pqC])
 refine plan_call rfl (by rfl) (fun K hK=>?_);go_simp
 refine (halves_r (HX.out.to (HB0.out.trans (HB.mono HB0.out.size)))).mono ?_;rintro e V ⟨A1,c1,rfl,r1,l1,m1,bb⟩;replace HB:=Bxb HB bb;have H1:=Hr.of_ret r1 l1 m1 Dsx (by omega);clear r1 l1 m1 bb;refine hK.out _ _ (HB.mono hBW) ?_;clear hK K;refine plan_call rfl (by rfl) (fun K hK=>?_);go_simp
 refine (halves_r (HY.out.to (HB0.out.trans (HB.mono HB0.out.size)))).mono ?_;rintro e V ⟨A2,c2,rfl,r1,l1,m1,bb⟩;replace HB:=Bxb HB bb;have H2:=Hr.of_ret r1 l1 m1 Dsy (by omega);replace H1:=H1.to bb;clear r1 l1 m1 bb;refine hK.out _ _ (HB.mono hBW) ?_;clear hK K
 repeat (refine plan_take (v:=?_) rfl (by rfl) ?_ ?_;rotate_left;(focus (intro w' hS;have k0:=(tX.toB hS (by omega)).c0;have k1:=(tX.toB hS (by omega)).c1;have k2:=(tY.toB hS (by omega)).c0;have k3:=(tY.toB hS (by omega)).c1;go_simp;try with_reducible rfl));simp only[Act.put,pqA,pqB,pqC])
 refine plan_done ?_;obtain ⟨N,hN⟩:∃N,N=20000:=⟨_,rfl⟩
 have B1:val b32 xs<b16 ^ N:=Nat.lt_of_lt_of_le Dsx (Nat.pow_le_pow_right (by decide) (by omega));have B2:val b32 ys<b16 ^ N:=Nat.lt_of_lt_of_le Dsy (Nat.pow_le_pow_right (by decide) (by omega));obtain ⟨G,eG⟩:∃G,Nat.gcd (val b32 xs) (val b32 ys)=G:=⟨_,rfl⟩
 have EG:=Hd eG;have HI:Hid (∃(X Y:Nat) ,val b32 xs=X/\val b32 ys=Y/\Nat.gcd X Y=G/\X<b16 ^ N/\Y<b16 ^ N):=⟨_,_,rfl,rfl,eG,B1,B2⟩
 clear Dsx Dsy HX HY tX tY eG B1 B2;obtain ⟨X0,Y0,e1,e2,hG,B1,B2⟩:=HI.out;rw[e1]at H1 ⊢;rw[e2]at H2 ⊢;clear e1 e2 HI;have HN:=Hd (show N<=20000 by omega);clear hN;have RI:=Hd (show Hr _ A1 c1 (dig b16 X0)/\Hr _ A2 c2 (dig b16 Y0)/\Nat.gcd X0 Y0=G/\X0<b16 ^ N/\Y0<b16 ^ N/\Below W0.heap.size W0 _ from ⟨H1,H2,hG,B1,B2,HB⟩);clear H1 H2 hG B1 B2 HB;go_wp2
 go_loopw [5,6] (fun u v wr=>∃(X Y:Nat) (A3:Option Addr) (c3:Nat) (A4:Option Addr) (c4:Nat),u=.slice A3 (dig b16 X).length c3/\v=.slice A4 (dig b16 Y).length c4/\Hr wr A3 c3 (dig b16 X)/\Hr wr A4 c4 (dig b16 Y)/\Nat.gcd X Y=G/\X<b16 ^ N/\Y<b16 ^ N/\Below W0.heap.size W0 wr) (fun _ v wr=>magOf wr v)
 case atStart=>exact ⟨X0,Y0,A1,c1,A2,c2,rfl,rfl,RI.out⟩
 case round =>
  clear RI;obtain ⟨X,Y,A3,c3,A4,c4,hu,hv,r3,r4,hG,b1,b2,hb⟩:=hrel;subst hu hv;have R3:=Hd r3;have R4:=Hd r4;have HG:=Hd hG;have B1:=Hd b1;have B2:=Hd b2;have HB:=Hd hb;have hM:magOf wr (.slice A4 (dig b16 Y).length c4)=Y:=magOf_eq r4.rd;clear r3 r4 hG b1 b2 hb
  rcases Nat.eq_zero_or_pos Y with rfl|hY
  .have hl:(dig b16 0).length=0:=by rw[dig_zero];rfl
   have HOF:=Hd (of_r false R3.out);have t2:=tR.to HB.out;have hz:Hid (zof false X=((X:Nat):Int)):=by show _=_;simp[zof]
   have hXG:Hid (X=G):=by show _=_;rw[<-HG.out,Nat.gcd_zero_right]
   have HE0:=Hd (HB0.out.trans (HB.out.mono HB0.out.size));clear hM HG B1 B2 R3 R4
   go_wp2_with fail
   refine HOF.out.mono ?_;rintro e V2 ⟨xr,yr,rfl,rz,bb⟩;have rz2:=rz;obtain ⟨A5,c5,rfl,rfl,-⟩:=rz2;have t3:=t2.to bb;have HE:=Hxb HE0 bb;have k0:=t3.c0;have k1:=t3.c1;have k2:=t3.f0;have k3:=t3.f1;have RZ:=Hd rz;clear rz bb t2 HB HOF;go_wp2
   have tF:=t3.set (.bool (decide (zof false X<0))) (.slice A5 (dig b32 (zof false X).natAbs).length c5);have KP:=Kept.of t3 (fun n e=>by cases e) (fun n e=>by cases e) (.bool (decide (zof false X<0))) (.slice A5 (dig b32 (zof false X).natAbs).length c5);refine bodyPost_ret (v:=.agg #[.bool (decide (zof false X<0)),.slice A5 (dig b32 (zof false X).natAbs).length c5]) (by simp[results,Tryz.f125,go_sem,tF.c0,tF.c1]) rfl ?_;rw[EG.out,<-hXG.out,<-hz.out];exact ⟨_,_,rfl,KP.zc _ _ _ RZ.out,KP.bel _ _ HE.out (by omega)⟩
  .have hl:0<(dig b16 Y).length:=by
    refine Nat.pos_of_ne_zero fun h=>?_
    rw[dig_len0 b16_one]at h;omega
   have hl':(0:Int)<((dig b16 Y).length:Int):=by omega
   have HD:=div_r R3.out R4.out (Nat.le_trans (dig_length_le b16_one B1.out) (by have:=HN.out;omega)) (Nat.le_trans (dig_length_le b16_one B2.out) (by have:=HN.out;omega)) hY;have hQ:X / Y<b16 ^ N:=Nat.lt_of_le_of_lt (Nat.div_le_self _ _) B1.out;have hR:X % Y<b16 ^ N:=Nat.lt_trans (Nat.mod_lt _ hY) B2.out;have hRY:X % Y<Y:=Nat.mod_lt _ hY;have hGR:Nat.gcd Y (X % Y)=G:=by rw[<-HG.out,Nat.gcd_comm X Y,Nat.gcd_rec Y X,Nat.gcd_comm]
   obtain ⟨q,eq⟩:∃q,X / Y=q:=⟨_,rfl⟩
   obtain ⟨r,er⟩:∃r,X % Y=r:=⟨_,rfl⟩
   rw[er]at HD hR hRY hGR;rw[eq]at HD hQ;have HD2:=Hd HD;have F:=Hd (show q<b16 ^ N/\r<b16 ^ N/\r<Y/\Nat.gcd Y r=G from ⟨hQ,hR,hRY,hGR⟩);clear HD hQ hR hRY hGR eq er HG B1 R3 hl
   go_wp2_with fail
   refine HD2.out.mono ?_;rintro e V2 ⟨A5,c5,A6,c6,rfl,-,-,-,z1,z2,z3,bb⟩;have H6:=Hd (Hr.of_ret z1 z2 z3 F.out.2.1 (by have:=HN.out;omega));have H4:=Hd (R4.out.to bb);have HBV:=Hxb HB bb;clear z1 z2 z3 bb HD2 R4 HB;go_wp2
   go_roundw
   case rel=>exact ⟨Y,r,A4,c4,A6,c6,rfl,rfl,H4.out,H6.out,F.out.2.2.2,B2.out,F.out.2.1,HBV.out⟩
   case measure=>rw[hM,magOf_eq H6.out.rd];exact F.out.2.2.1
theorem rgcd_z {w:World}{x y x' y':Value}{a b:Int}(ha:Zl w x y a)(hb:Zl w x' y' b):Calls Tryz.prog 125 #[.agg #[x,y],.agg #[x',y']] w (ZR w ((Nat.gcd a.natAbs b.natAbs:Nat):Int)):=by
 obtain ⟨n,A,c,xs,rfl,rfl,h3,h4,rfl⟩:=ha;obtain ⟨m,B,d,ys,rfl,rfl,k3,k4,rfl⟩:=hb;rw[zof_abs,zof_abs];exact rGcd_any n m h3 h4 k3 k4
end Go.Proofs.YtglhdielkkhefaaGreat
