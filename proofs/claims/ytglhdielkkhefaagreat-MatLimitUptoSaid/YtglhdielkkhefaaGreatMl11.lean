/- Parts: 11. -/
import Derived.Test.YtglhdielkkhefaaGreatMl3
import Derived.Test.YtglhdielkkhefaaGreatMl5
import Derived.Test.YtglhdielkkhefaaGreatMl8
import Derived.Test.YtglhdielkkhefaaGreatMl10
set_option linter.unusedVariables false
set_option linter.unusedSimpArgs false
set_option maxRecDepth 100000
set_option maxHeartbeats 40000000

namespace Go.Proofs.YtglhdielkkhefaaGreat
open Go.RowKit Go.Shelf
theorem least_any (n:Bool){A:Option Addr}{c:Nat}{xs:List Nat}{w:World}(hx:Arg w A c xs) :
  Calls Tryz.prog 131 #[.agg #[.bool n,.slice A xs.length c]] w (ZRet w (zof n (val b32 xs))):=by
 obtain ⟨W0,hW0⟩:∃W0,W0=(w.alloc (.cells #[.bool n,.slice A xs.length c] 30)).alloc (.cells #[.bool false,.slice none 0 0] 30):=⟨_,rfl⟩
 have hb:Below w.heap.size w W0.drew:=by rw[hW0];exact (bRR.alloc (by simp) _).drew
 have tX:Zat W0.drew w.heap.size (.bool n) (.slice A xs.length c):=by rw[hW0];exact (Zat.new w _ _).alloc _
 have tR:Zat W0.drew (w.heap.size+1) (.bool false) (.slice none 0 0):=by
  have h:=Zat.new (w.alloc (.cells #[.bool n,.slice A xs.length c] 30)) (.bool false) (.slice none 0 0);rw[szA]at h;rw[hW0];exact h
 have HSM:Hid ((dig b16 (val b32 xs)).length<=8589934592):=by
  have h1:=trimL_dig b16_one (hw_dg hx.dg);rw[hw_val]at h1;have h2:=trimL_le (hw xs);have h3:=hx.small;rw[h1,hw_length]at h2
  show _<=_
  omega
 have HH:=Hd (halves_any (hx.to hb));have cN:W0.cell? ⟨w.heap.size,0,none⟩=some (.bool n):=tX.two.c0;have cW:W0.cell? ⟨w.heap.size,1,none⟩=some (.slice A xs.length c):=tX.two.c1;have HW0:=Hd hW0;clear hW0 hx
 go_enter Tryz.func131,Tryz.ntmps131
 go_wp2_with fail
 rw[<-HW0.out];refine wp_region_any (by kernel_rfl) ?_;refine (show wpAny _ _ _ _ _ _ _ (World.drew _) from ?_);refine wpAny_take (i:=0) (v:=.pointer (some ⟨w.heap.size,0,none⟩)) rfl (by kernel_rfl) (by kernel_rfl) (by kernel_rfl) (fun _ _ _ h=>h) (Or.inl ⟨by rfl,fun _=>by go_simp⟩) ?_;refine wpAny_take (i:=2) (v:=.pointer (some ⟨w.heap.size,1,none⟩)) rfl (by kernel_rfl) (by kernel_rfl) (by kernel_rfl) (fun _ _ _ h=>h) (Or.inl ⟨by rfl,fun _=>by go_simp⟩) ?_;refine wpAny_ready (rs:=[1,3]) (by kernel_rfl) (by simp) (AllReady.cons rfl (fun K hK=>?_) (AllReady.cons rfl (fun K hK=>?_) AllReady.nil))
 .go_simp;refine hK _ _ ?_;clear hK K
  refine wpAny_ready (rs:=[3]) (by kernel_rfl) (by simp) (AllReady.cons rfl (fun K hK=>?_) AllReady.nil)
  go_simp;refine hK _ _ ?_;clear hK K
  refine wpAny_ready (rs:=[4]) (by kernel_rfl) (by simp) (AllReady.cons rfl (fun K hK=>?_) AllReady.nil);go_simp
  refine HH.out.mono ?_;rintro e w2 ⟨A1,c1,rfl,r1,r2,r3,hb2⟩;have hsm2:(dig b16 (val b32 xs)).length<=8589934592:=HSM.out;have HO:=Hd (of_any n r1 (Dg_dig b16_one _) r2 r3 hsm2);rw[val_dig b16_one]at HO;have cN2:=(tX.two.to hb2).c0;have tR2:=tR.two.to hb2;have HB:=Hd (Bxb hb hb2);clear r1 r2 hsm2 hb2;refine hK _ _ ?_;clear hK K;refine wpAny_ready (rs:=[5]) (by kernel_rfl) (by simp) (AllReady.cons rfl (fun K hK=>?_) AllReady.nil);obtain ⟨z,ez⟩:∃z,Hid (zof n (val b32 xs)=z):=⟨_,rfl⟩
  rw[ez.out]at HO;go_simp
  refine HO.out.mono ?_;rintro e w3 ⟨A3,c3,rfl,s1,s2,s3,hb3⟩;obtain ⟨q1,q2,q3,q4,q5⟩:=tR2.to hb3;have S1:=Hd s1;have HB3:=Hxb HB hb3;clear s1 hb3 tR2;refine hK _ _ ?_;clear hK K;refine wpAny_ready (rs:=[6]) (by kernel_rfl) (by simp) (AllReady.cons rfl (fun K hK=>?_) AllReady.nil)
  go_simp;refine hK _ _ ?_;clear hK K
  refine wpAny_done (by kernel_rfl) ?_ _;go_wp2
  have tF:=(⟨q1,q2,q3,q4,q5⟩:Two w3 (w.heap.size+1) _ _).set (.bool (decide (z<0))) (.slice A3 (dig b32 z.natAbs).length c3);refine bodyPost_ret (v:=.agg #[.bool (decide (z<0)),.slice A3 (dig b32 z.natAbs).length c3]) (by simp[results,Tryz.f131,go_sem,tF.c0,tF.c1]) rfl ?_;rw[ez.out];exact zret_stored ⟨q1,q2,q3,q4,q5⟩ (by omega) S1.out s2 s3 HB3.out
 .go_simp;refine hK _ _ ?_;clear hK K
  refine wpAny_ready (rs:=[1,4]) (by kernel_rfl) (by simp) (AllReady.cons rfl (fun K hK=>?_) (AllReady.cons rfl (fun K hK=>?_) AllReady.nil))
  .go_simp;refine hK _ _ ?_;clear hK K
   refine wpAny_ready (rs:=[4]) (by kernel_rfl) (by simp) (AllReady.cons rfl (fun K hK=>?_) AllReady.nil);go_simp
   refine HH.out.mono ?_;rintro e w2 ⟨A1,c1,rfl,r1,r2,r3,hb2⟩;have hsm2:(dig b16 (val b32 xs)).length<=8589934592:=HSM.out;have HO:=Hd (of_any n r1 (Dg_dig b16_one _) r2 r3 hsm2);rw[val_dig b16_one]at HO;have cN2:=(tX.two.to hb2).c0;have tR2:=tR.two.to hb2;have HB:=Hd (Bxb hb hb2);clear r1 r2 hsm2 hb2;refine hK _ _ ?_;clear hK K;refine wpAny_ready (rs:=[5]) (by kernel_rfl) (by simp) (AllReady.cons rfl (fun K hK=>?_) AllReady.nil);obtain ⟨z,ez⟩:∃z,Hid (zof n (val b32 xs)=z):=⟨_,rfl⟩
   rw[ez.out]at HO;go_simp
   refine HO.out.mono ?_;rintro e w3 ⟨A3,c3,rfl,s1,s2,s3,hb3⟩;obtain ⟨q1,q2,q3,q4,q5⟩:=tR2.to hb3;have S1:=Hd s1;have HB3:=Hxb HB hb3;clear s1 hb3 tR2;refine hK _ _ ?_;clear hK K;refine wpAny_ready (rs:=[6]) (by kernel_rfl) (by simp) (AllReady.cons rfl (fun K hK=>?_) AllReady.nil)
   go_simp;refine hK _ _ ?_;clear hK K
   refine wpAny_done (by kernel_rfl) ?_ _;go_wp2
   have tF:=(⟨q1,q2,q3,q4,q5⟩:Two w3 (w.heap.size+1) _ _).set (.bool (decide (z<0))) (.slice A3 (dig b32 z.natAbs).length c3);refine bodyPost_ret (v:=.agg #[.bool (decide (z<0)),.slice A3 (dig b32 z.natAbs).length c3]) (by simp[results,Tryz.f131,go_sem,tF.c0,tF.c1]) rfl ?_;rw[ez.out];exact zret_stored ⟨q1,q2,q3,q4,q5⟩ (by omega) S1.out s2 s3 HB3.out
  .go_simp
   refine HH.out.mono ?_;rintro e w2 ⟨A1,c1,rfl,r1,r2,r3,hb2⟩;have hsm2:(dig b16 (val b32 xs)).length<=8589934592:=HSM.out;have HO:=Hd (of_any n r1 (Dg_dig b16_one _) r2 r3 hsm2);rw[val_dig b16_one]at HO;have cN2:=(tX.two.to hb2).c0;have tR2:=tR.two.to hb2;have HB:=Hd (Bxb hb hb2);clear r1 r2 hsm2 hb2;refine hK _ _ ?_;clear hK K;refine wpAny_ready (rs:=[1]) (by kernel_rfl) (by simp) (AllReady.cons rfl (fun K hK=>?_) AllReady.nil)
   go_simp;refine hK _ _ ?_;clear hK K
   refine wpAny_ready (rs:=[5]) (by kernel_rfl) (by simp) (AllReady.cons rfl (fun K hK=>?_) AllReady.nil);obtain ⟨z,ez⟩:∃z,Hid (zof n (val b32 xs)=z):=⟨_,rfl⟩
   rw[ez.out]at HO;go_simp
   refine HO.out.mono ?_;rintro e w3 ⟨A3,c3,rfl,s1,s2,s3,hb3⟩;obtain ⟨q1,q2,q3,q4,q5⟩:=tR2.to hb3;have S1:=Hd s1;have HB3:=Hxb HB hb3;clear s1 hb3 tR2;refine hK _ _ ?_;clear hK K;refine wpAny_ready (rs:=[6]) (by kernel_rfl) (by simp) (AllReady.cons rfl (fun K hK=>?_) AllReady.nil)
   go_simp;refine hK _ _ ?_;clear hK K
   refine wpAny_done (by kernel_rfl) ?_ _;go_wp2
   have tF:=(⟨q1,q2,q3,q4,q5⟩:Two w3 (w.heap.size+1) _ _).set (.bool (decide (z<0))) (.slice A3 (dig b32 z.natAbs).length c3);refine bodyPost_ret (v:=.agg #[.bool (decide (z<0)),.slice A3 (dig b32 z.natAbs).length c3]) (by simp[results,Tryz.f131,go_sem,tF.c0,tF.c1]) rfl ?_;rw[ez.out];exact zret_stored ⟨q1,q2,q3,q4,q5⟩ (by omega) S1.out s2 s3 HB3.out
theorem lo_word (m:Nat)(hm:m<18446744073709551616):((m:Nat):Int).tmod 4294967296 % 4294967296=(m:Int) % 4294967296:=by
 rw[Int.tmod_eq_emod_of_nonneg (by omega)];omega
theorem hi_word (m:Nat)(hm:m<18446744073709551616):IntKind.u64.wrap (((m:Nat):Int).tdiv 4294967296) % 4294967296=(m:Int) / 4294967296:=by
 rw[Int.tdiv_eq_ediv_of_nonneg (by omega),IntKind.wrap_u64];omega
theorem from_tail (neg:Bool)(m:Nat)(hm:m<18446744073709551616){w W:World}(hb:Below w.heap.size w W) :
  Calls Tryz.prog 131 #[.agg #[.bool neg,.slice (some ⟨W.heap.size,0,none⟩) 2 2]] (W.alloc (.cells #[.int .u32 ((m:Int) % 4294967296),.int .u32 ((m:Int) / 4294967296)] 89)) (ZRet (W.alloc (.cells #[.int .u32 ((m:Int) % 4294967296),.int .u32 ((m:Int) / 4294967296)] 89)) (zof neg m)):=by
 have hr:=Rd.new .u32 W 89 [m % 4294967296,m / 4294967296]
 have h:=least_any neg (A:=some ⟨W.heap.size,0,none⟩) (c:=2) (xs:=[m % 4294967296,m / 4294967296]) (w:=W.alloc (.cells (ints .u32 [m % 4294967296,m / 4294967296]).toArray 89))
  ⟨hr.more (by simp),two_dg hm,by simp,by omega,by simp⟩
 rw[two_val]at h
 simpa [ints]using h
theorem rfrom_pos (m:Nat)(hm:m<9223372036854775808)(w:World) :
  Calls Tryz.prog 104 #[.int .i64 (m:Nat)] w (ZRet w ((m:Nat))):=by
 have t0:=Two.new w (.bool false) (.slice none 0 0) 30;have HB0:=Hd ((Below.refl w.heap.size w).alloc (Nat.le_refl _) (.cells #[.bool false,.slice none 0 0] 30));have hm':m<18446744073709551616:=by omega
 have HI:=Hd (from_tail false m hm' HB0.out);obtain ⟨z,ez⟩:∃z,Hid (zof false m=z):=⟨_,rfl⟩
 rw[ez.out]at HI;simp only[szA]at HI
 go_enter Tryz.func104,Tryz.ntmps104
 go_wp2_with fail
 refine HI.out.mono ?_;rintro e w3 ⟨A3,c3,rfl,s1,s2,s3,hb3⟩;obtain ⟨q1,q2,q3,q4,q5⟩:=(t0.alloc _).to hb3;have S1:=Hd s1;have HB3:=Hd ((HB0.out.alloc HB0.out.size _).trans (hb3.mono (by simp;omega)));clear s1 hb3 t0;go_wp2
 have tF:=(⟨q1,q2,q3,q4,q5⟩:Two w3 w.heap.size _ _).set (.bool (decide (z<0))) (.slice A3 (dig b32 z.natAbs).length c3);refine bodyPost_ret (v:=.agg #[.bool (decide (z<0)),.slice A3 (dig b32 z.natAbs).length c3]) (by simp[results,Tryz.f104,go_sem,tF.c0,tF.c1]) rfl ?_;rw[show ((m:Nat):Int)=z from by rw[<-ez.out];rfl];exact zret_stored ⟨q1,q2,q3,q4,q5⟩ (Nat.le_refl _) S1.out s2 s3 HB3.out
theorem rfrom_neg (m:Nat)(hm0:0<m)(hm:m<=9223372036854775808)(w:World) :
  Calls Tryz.prog 104 #[.int .i64 (-(m:Int))] w (ZRet w (-(m:Int))):=by
 have t0:=Two.new w (.bool false) (.slice none 0 0) 30;have HB0:=Hd ((Below.refl w.heap.size w).alloc (Nat.le_refl _) (.cells #[.bool false,.slice none 0 0] 30));have hm':m<18446744073709551616:=by omega
 have HI:=Hd (from_tail true m hm' HB0.out);obtain ⟨z,ez⟩:∃z,Hid (zof true m=z):=⟨_,rfl⟩
 rw[ez.out]at HI;simp only[szA]at HI
 go_enter Tryz.func104,Tryz.ntmps104
 go_wp2_with fail
 rw[wrap_neg_neg m hm',lo_word m hm',hi_word m hm'];refine HI.out.mono ?_;rintro e w3 ⟨A3,c3,rfl,s1,s2,s3,hb3⟩;obtain ⟨q1,q2,q3,q4,q5⟩:=(t0.alloc _).to hb3;have S1:=Hd s1;have HB3:=Hd ((HB0.out.alloc HB0.out.size _).trans (hb3.mono (by simp;omega)));clear s1 hb3 t0;go_wp2
 have tF:=(⟨q1,q2,q3,q4,q5⟩:Two w3 w.heap.size _ _).set (.bool (decide (z<0))) (.slice A3 (dig b32 z.natAbs).length c3);refine bodyPost_ret (v:=.agg #[.bool (decide (z<0)),.slice A3 (dig b32 z.natAbs).length c3]) (by simp[results,Tryz.f104,go_sem,tF.c0,tF.c1]) rfl ?_;rw[show (-(m:Int):Int)=z from by rw[<-ez.out];rfl];exact zret_stored ⟨q1,q2,q3,q4,q5⟩ (Nat.le_refl _) S1.out s2 s3 HB3.out
theorem rfrom_any (n:Int)(h1:-9223372036854775808<=n)(h2:n<=9223372036854775807)(w:World) :
  Calls Tryz.prog 104 #[.int .i64 n] w (ZRet w n):=by
 rcases Int.lt_or_le n 0 with h|h
 .obtain ⟨m,rfl⟩:∃m:Nat,n=-(m:Int):=⟨n.natAbs,by omega⟩
  exact rfrom_neg m (by omega) (by omega) w
 .obtain ⟨m,rfl⟩:=Int.eq_ofNat_of_zero_le h;exact rfrom_pos m (by omega) w
def Zl (W:World)(x y:Value)(z:Int):Prop:=∃n A c xs,x=.bool n/\y=.slice A xs.length c/\Arg W A c xs/\xs.length<=10000/\zof n (val b32 xs)=z
theorem Zl.to {W V:World}{x y:Value}{z:Int}(h:Zl W x y z)(hb:Below W.heap.size W V):Zl V x y z:=by
 obtain ⟨n,A,c,xs,h1,h2,h3,h4⟩:=h;exact ⟨n,A,c,xs,h1,h2,h3.to hb,h4⟩
theorem Zl.zi {W:World}{x y:Value}{z:Int}(h:Zl W x y z):Zi W x y z:=by
 obtain ⟨n,A,c,xs,h1,h2,h3,_,h4⟩:=h;exact ⟨n,A,c,xs,h1,h2,h3,h4⟩
theorem Zc.zl {W:World}{x y:Value}{z:Int}{k:Nat}(h:Zc W x y z)(hs:Sm k z)(hk:k<=10000):Zl W x y z:=by
 obtain ⟨A,c,h1,h2,h3,h4,h5⟩:=h;have hl:=Nat.le_trans (dig_length_le b32_one hs) hk;exact ⟨_,A,c,_,h1,h2,⟨h3,Dg_dig b32_one _,h4,h5,by omega⟩,hl,by rw[val_dig b32_one];exact zof_dec z⟩
section
variable {w : World} {x y x' y' : Value} {a b : Int}
theorem rfrom_z (v:Int)(h1:-9223372036854775808<=v)(h2:v<=9223372036854775807)(w:World):Calls Tryz.prog 104 #[.int .i64 v] w (ZR w v) :=
 (rfrom_any v h1 h2 w).mono fun _ _ h=>h.zr
end
end Go.Proofs.YtglhdielkkhefaaGreat

namespace Go.Proofs.YtglhdielkkhefaaGreat
open Go.RowKit Go.Shelf
def HR2 (w:World)(q r:Nat)(e:Ending)(w':World):Prop:=∃A c A' c',e=.returned (.tuple #[.slice A (dig b16 q).length c,.slice A' (dig b16 r).length c'])/\Rd .i64 w' w'.heap.size A (dig b16 q)/\(dig b16 q).length<=c/\c<=9223372036854775807 /\
 Rd .i64 w' w'.heap.size A' (dig b16 r)/\(dig b16 r).length<=c'/\c'<=9223372036854775807/\Below w.heap.size w w'
open Classical in
noncomputable def magOf (w:World)(v:Value):Nat:=if h:∃n,∃A c,v=.slice A (dig b16 n).length c/\Rd .i64 w w.heap.size A (dig b16 n) then h.choose else 0
end Go.Proofs.YtglhdielkkhefaaGreat

namespace Go.Proofs.YtglhdielkkhefaaGreat
open Go.RowKit Go.Shelf
def ZZ (w:World)(a b:Int)(e:Ending)(w':World):Prop:=∃xq yq xr yr,e=.returned (.tuple #[.agg #[xq,yq],.agg #[xr,yr],.int .i64 0])/\Zc w' xq yq a/\Zc w' xr yr b/\Below w.heap.size w w'
theorem ediv_one {a b q r:Int}(hb:b≠0)(h:a=q*b+r)(h0:0<=r)(h1:r<b.natAbs):a / b=q/\a % b=r:=by
 have h2:=Int.emod_add_mul_ediv a b
 have h5:a % b=r:=by
  rw[h,Int.add_comm,Int.mul_comm,Int.add_mul_emod_self_left]
  rcases Int.lt_or_le b 0 with hn|hp
  .rw[<-Int.emod_neg,Int.emod_eq_of_lt h0 (by omega)]
  .rw[Int.emod_eq_of_lt h0 (by omega)]
 refine ⟨?_,h5⟩;have h6:b*(a / b)=b*q:=by rw[Int.mul_comm b q];omega
 exact Int.eq_of_mul_eq_mul_left hb h6
theorem zdiv_f {X Y:Nat}(m:Bool)(hY:0<Y):zof false X / zof m Y=zof m (X / Y)/\zof false X % zof m Y=zof false (X % Y):=by
 have h1:=Nat.mod_add_div X Y;have h2:=Nat.mod_lt X hY;obtain ⟨q,eq⟩:∃q,X / Y=q:=⟨_,rfl⟩
 obtain ⟨r,er⟩:∃r,X % Y=r:=⟨_,rfl⟩
 rw[eq,er]at h1 ⊢;rw[er]at h2;have h3:(X:Int)=(q:Int)*(Y:Int)+(r:Int):=by rw[<-h1,Int.mul_comm];push_cast;omega
 cases m
 .exact ediv_one (by simp[zof];omega) (by simpa [zof]using h3) (by simp[zof]) (by simp[zof];omega)
 .exact ediv_one (by simp[zof];omega) (by simp only[zof,if_true,Bool.false_eq_true,if_false,Int.neg_mul,Int.mul_neg];omega) (by simp[zof]) (by simp[zof];omega)
theorem zdiv_t {X Y:Nat}(m:Bool)(hY:0<Y)(hr:X % Y=0):zof true X / zof m Y=zof (!m) (X / Y)/\zof true X % zof m Y=zof false 0:=by
 have h1:=Nat.mod_add_div X Y;obtain ⟨q,eq⟩:∃q,X / Y=q:=⟨_,rfl⟩
 rw[hr,eq]at h1;rw[eq];have h3:(X:Int)=(q:Int)*(Y:Int):=by rw[<-h1,Int.mul_comm];push_cast;omega
 cases m
 .exact ediv_one (by simp[zof];omega) (by simp only[zof,if_true,Bool.false_eq_true,if_false,Int.neg_mul,Int.mul_neg,Bool.not_false];omega) (by simp[zof]) (by simp[zof];omega)
 .exact ediv_one (by simp[zof];omega) (by simp only[zof,if_true,Bool.false_eq_true,if_false,Int.neg_mul,Int.mul_neg,Bool.not_true];omega) (by simp[zof]) (by simp[zof];omega)
theorem zdiv_r {X Y:Nat}(m:Bool)(hY:0<Y)(hr:0<X % Y):zof true X / zof m Y=zof (!m) (X / Y+1)/\zof true X % zof m Y=zof false (Y-X % Y):=by
 have h1:=Nat.mod_add_div X Y;have h2:=Nat.mod_lt X hY;obtain ⟨q,eq⟩:∃q,X / Y=q:=⟨_,rfl⟩
 obtain ⟨r,er⟩:∃r,X % Y=r:=⟨_,rfl⟩
 rw[eq,er]at h1 ⊢;rw[er]at h2 hr;have h3:(X:Int)=(q:Int)*(Y:Int)+(r:Int):=by rw[<-h1,Int.mul_comm];push_cast;omega
 cases m
 .exact ediv_one (by simp[zof];omega) (by simp only[zof,if_true,Bool.false_eq_true,if_false,Int.neg_mul,Int.mul_neg,Bool.not_false];push_cast [Nat.le_of_lt h2];rw[Int.add_mul];omega) (by simp[zof]) (by simp[zof];omega)
 .exact ediv_one (by simp[zof];omega) (by simp only[zof,if_true,Bool.false_eq_true,if_false,Int.neg_mul,Int.mul_neg,Bool.not_true];push_cast [Nat.le_of_lt h2];rw[Int.add_mul];omega) (by simp[zof]) (by simp[zof];omega)
def ZE (w:World)(a b:Int)(k:Int)(e:Ending)(w':World):Prop:=∃xq yq xr yr,e=.returned (.tuple #[.agg #[xq,yq],.agg #[xr,yr],.int .i64 k])/\Zc w' xq yq a/\Zc w' xr yr b/\Below w.heap.size w w'
theorem zc_nil (W:World):Zc W (.bool false) (.slice none 0 0) 0:=⟨none,0,rfl,rfl,Rd.nil,Nat.le_refl _,by decide⟩
theorem DRet.ze {w w':World}{q r:Int}{e:Ending}(h:DRet w q r e w'):ZE w q r 0 e w':=by
 obtain ⟨A1,c1,A2,c2,rfl,h1,h2,h3,h4,h5,h6,h7⟩:=h;exact ⟨_,_,_,_,rfl,⟨A1,c1,rfl,rfl,h1,h3,h4⟩,⟨A2,c2,rfl,rfl,h2,h5,h6⟩,h7⟩
theorem dx_zero (n m:Bool){A A':Option Addr}{c c':Nat}{xs ys:List Nat}{w:World}(hx:Arg w A c xs)(hy:Arg w A' c' ys)(h0:val b32 ys=0) :
  Calls Tryz.prog 124 #[.agg #[.bool n,.slice A xs.length c],.agg #[.bool m,.slice A' ys.length c']] w (ZE w 0 0 7):=by
 have HX:=Hd hx;have HY:=Hd hy
 have hq:((((trimL ys).length:Nat):Int)==0)=true:=by
  rw[trimL_dig b32_one hy.dg,h0];rfl
 clear hx hy h0;obtain ⟨W0,hW0⟩:∃W0,W0=(((w.alloc (.cells #[.bool n,.slice A xs.length c] 30)).alloc (.cells #[.bool m,.slice A' ys.length c'] 30)).alloc (.cells #[.bool false,.slice none 0 0] 30)).alloc (.cells #[.bool false,.slice none 0 0] 30):=⟨_,rfl⟩
 have hb:Below w.heap.size w W0:=by rw[hW0];exact ((bRR.alloc (by simp) _).alloc (by simp;omega) _).alloc (by simp;omega) _
 have tX:Zat W0 w.heap.size (.bool n) (.slice A xs.length c):=by rw[hW0];exact (((Zat.new w _ _).alloc _).alloc _).alloc _
 have tY:Zat W0 (w.heap.size+1) (.bool m) (.slice A' ys.length c'):=by
  have h:=Zat.new (w.alloc (.cells #[.bool n,.slice A xs.length c] 30)) (.bool m) (.slice A' ys.length c');rw[szA]at h;rw[hW0];exact (h.alloc _).alloc _
 have tQ:Zat W0 (w.heap.size+1+1) (.bool false) (.slice none 0 0):=by
  have h:=Zat.new ((w.alloc (.cells #[.bool n,.slice A xs.length c] 30)).alloc (.cells #[.bool m,.slice A' ys.length c'] 30)) (.bool false) (.slice none 0 0);rw[szA,szA]at h;rw[hW0];exact h.alloc _
 have tR:Zat W0 (w.heap.size+1+1+1) (.bool false) (.slice none 0 0):=by
  have h:=Zat.new (((w.alloc (.cells #[.bool n,.slice A xs.length c] 30)).alloc (.cells #[.bool m,.slice A' ys.length c'] 30)).alloc (.cells #[.bool false,.slice none 0 0] 30)) (.bool false) (.slice none 0 0);rw[szA,szA,szA]at h;rw[hW0];exact h
 have q1:=tX.two.c1;have q2:=tY.two.c1;have HW0:=Hd hW0;clear hW0
 go_enter Tryz.func124,Tryz.ntmps124
 go_wp2_with fail
 rw[<-HW0.out]
 go_quiet ((first|(go_at_call 119;with_reducible exact Calls.quiet_of_same (trim_q (HX.out.to (hb.trans (bel_drewN (Below.refl _ _) _)))))|(go_at_call 119;with_reducible exact Calls.quiet_of_same (trim_q (HY.out.to (hb.trans (bel_drewN (Below.refl _ _) _)))))))
 rename_i nq
 have hb1:Below w.heap.size w (W0.drewN nq):=bel_drewN hb _;have tX1:Two (W0.drewN nq) w.heap.size _ _:=tX.two.to (bel_drewN (Below.refl _ _) _);have tY1:Two (W0.drewN nq) (w.heap.size+1) _ _:=tY.two.to (bel_drewN (Below.refl _ _) _);have tQ1:Two (W0.drewN nq) (w.heap.size+1+1) _ _:=tQ.two.to (bel_drewN (Below.refl _ _) _);have tR1:Two (W0.drewN nq) (w.heap.size+1+1+1) _ _:=tR.two.to (bel_drewN (Below.refl _ _) _);generalize W0.drewN nq=W1 at hb1 tX1 tY1 tQ1 tR1 ⊢;clear q1 q2 tX tY tQ tR hb HW0;have HB:=Hd hb1;have TQ:=Hd tQ1;have TR:=Hd tR1;obtain ⟨g1,g2,g3,g4,g5⟩:=tQ1;obtain ⟨k1,k2,k3,k4,k5⟩:=tR1;clear tX1 tY1 hb1 HX HY;go_wp2
 have tF:=TQ.out.set (.bool false) (.slice none 0 0);have K1:=Kept.of TQ.out (fun n e=>by cases e) (fun n e=>by cases e) (.bool false) (.slice none 0 0);have tG0:=K1.two _ _ _ (by omega) TR.out;have tG:=tG0.set (.bool false) (.slice none 0 0);have K2:=Kept.of tG0 (fun n e=>by cases e) (fun n e=>by cases e) (.bool false) (.slice none 0 0);have tH:=K2.two _ _ _ (by omega) tF
 refine bodyPost_ret (v:=.tuple #[.agg #[.bool false,.slice none 0 0],.agg #[.bool false,.slice none 0 0],.int .i64 7])
  (by simp[results,Tryz.f124,go_sem,tH.c0,tH.c1,tG.c0,tG.c1]) rfl ?_
 exact ⟨_,_,_,_,rfl,zc_nil _,zc_nil _,K2.bel _ _ (K1.bel _ _ HB.out (by omega)) (by omega)⟩
def dr (a b:Int):Int:=if b=0 then 0 else a % b
def de (b:Int):Int:=if b=0 then 7 else 0
theorem dm_x {w:World}{x y x' y':Value}{a b:Int}(ha:Zl w x y a)(hb:Zl w x' y' b):Calls Tryz.prog 124 #[.agg #[x,y],.agg #[x',y']] w (ZE w (a / b) (dr a b) (de b)):=by
 obtain ⟨n,A,c,xs,rfl,rfl,h3,h4,rfl⟩:=ha;obtain ⟨m,B,d,ys,rfl,rfl,k3,k4,rfl⟩:=hb
 rcases Nat.eq_zero_or_pos (val b32 ys) with hY|hY
 .have e0:zof m (val b32 ys)=0:=by rw[hY];cases m<;>rfl
  unfold dr de;rw[e0,if_pos rfl,if_pos rfl,Int.ediv_zero];exact dx_zero n m h3 k3 hY
 .have e0:zof m (val b32 ys)≠0:=by cases m<;>simp[zof]<;>omega
  unfold dr de;rw[if_neg e0,if_neg e0];have hl:xs.length<=4294967293:=by omega
  cases n
  .rw[(zdiv_f m hY).1,(zdiv_f m hY).2];cases m
   .exact (dx_ff h3 k3 hl hY).mono fun _ _ h=>h.ze
   .exact (dx_ft h3 k3 hl hY).mono fun _ _ h=>h.ze
  .rcases Nat.eq_zero_or_pos (val b32 xs % val b32 ys) with hr|hr
   .rw[(zdiv_t m hY hr).1,(zdiv_t m hY hr).2];cases m
    .have h:=dx_tfz h3 k3 hl hY hr;rw[hr]at h;exact h.mono fun _ _ h=>h.ze
    .have h:=dx_ttz h3 k3 hl hY hr;rw[hr]at h;exact h.mono fun _ _ h=>h.ze
   .rw[(zdiv_r m hY hr).1,(zdiv_r m hY hr).2];cases m
    .exact (dx_tfn h3 k3 hl hY hr).mono fun _ _ h=>h.ze
    .exact (dx_ttn h3 k3 hl hY hr).mono fun _ _ h=>h.ze
theorem gcd_x {w:World}{x y x' y':Value}{a b:Int}(ha:Zl w x y a)(hb:Zl w x' y' b):Calls Tryz.prog 122 #[.agg #[x,y],.agg #[x',y']] w (ZR w (Int.gcd a b:Nat)):=by
 obtain ⟨n,A,c,xs,rfl,rfl,h3,h4,rfl⟩:=ha;obtain ⟨m,B,d,ys,rfl,rfl,k3,k4,rfl⟩:=hb;have h:=gcd_all n m h3 k3 (by omega) (by omega);rw[show Int.gcd (zof n (val b32 xs)) (zof m (val b32 ys))=Nat.gcd (val b32 xs) (val b32 ys) from by unfold Int.gcd;rw[zof_abs,zof_abs]];exact h.mono fun _ _ h=>h.zr
theorem bx {w V V':World}(h:Below w.heap.size w V)(b:Below V.heap.size V V'):Below w.heap.size w V':=Bxb h b
theorem hx {w V V':World}(h:Hid (Below w.heap.size w V))(b:Below V.heap.size V V'):Hid (Below w.heap.size w V'):=Hxb h b
def BG : Nat:=b32 ^ 10000
def Sg (z:Int):Prop:=z.natAbs<BG
theorem Sg.sm {z:Int}(h:Sg z):Sm 10000 z:=by
  unfold Sg BG at h;unfold Sm;exact h
theorem Sm.sg {k:Nat}{z:Int}(h:Sm k z)(hk:k<=10000):Sg z:=by
  have h1:=h.mono hk;unfold Sm at h1;unfold Sg BG;exact h1
theorem sg_lit {z:Int}(h:z.natAbs<18446744073709551616):Sg z:=by
  have h1:Sm 2 z:=by
    unfold Sm;rw[show b32 ^ 2=18446744073709551616 from by decide];exact h
  exact h1.sg (by decide)
theorem Zc.zs {W:World}{x y:Value}{z:Int}(h:Zc W x y z)(hs:Sg z):Zl W x y z:=h.zl hs.sm (Nat.le_refl _)
theorem zl_of {W V:World}{x y:Value}{z:Int}(h:Zl W x y z)(k:Zi W x y z->Zi V x y z):Zl V x y z:=by
  have h1:=k h.zi;obtain ⟨n,A,c,xs,rfl,rfl,h3,h4,rfl⟩:=h;obtain ⟨m,B,d,ys,e1,e2,k3,k5⟩:=h1;simp only[Value.slice.injEq]at e2;exact ⟨m,B,d,ys,e1,by rw[e2.1,e2.2.1,e2.2.2],k3,by omega,k5⟩
theorem Zl.fs {W:World}{x y:Value}{z:Int}(h:Zl W x y z):Fs x y:=h.zi.fs
theorem int64_z {w:World}{x y:Value}{a:Int}(ha:Zi w x y a):Calls Tryz.prog 154 #[.agg #[x,y]] w fun e w'=>e=.returned (.tuple #[.int .i64 (i64v a),.bool (inI a)])/\Below w.heap.size w w':=by
  obtain ⟨n,A,c,xs,rfl,rfl,h3,rfl⟩:=ha;exact int64_any n h3
theorem from_z (v:Int)(h1:-9223372036854775808<=v)(h2:v<=9223372036854775807)(w:World):Calls Tryz.prog 117 #[.int .i64 v] w (ZR w v) :=
  (fromInt64_any v h1 h2 w).mono fun _ _ h=>h.zr
theorem gcd_z {w:World}{x y x' y':Value}{a b:Int}(ha:Zl w x y a)(hb:Zl w x' y' b)(_sa:Sg a)(_sb:Sg b):Calls Tryz.prog 122 #[.agg #[x,y],.agg #[x',y']] w (ZR w (Int.gcd a b:Nat)):=gcd_x ha hb
theorem dm_z {w:World}{x y x' y':Value}{a b:Int}(ha:Zl w x y a)(hb:Zl w x' y' b)(hb0:b≠0)(_sa:Sg a):Calls Tryz.prog 124 #[.agg #[x,y],.agg #[x',y']] w (DRet w (a / b) (a % b)):=by
  have h:=dm_x ha hb;unfold dr de at h;rw[if_neg hb0,if_neg hb0]at h;refine h.mono ?_;rintro e w' ⟨xq,yq,xr,yr,rfl,⟨A,c,rfl,rfl,q1,q2,q3⟩,⟨A',c',rfl,rfl,r1,r2,r3⟩,hb⟩;exact ⟨A,c,A',c',rfl,q1,r1,q2,q3,r2,r3,hb⟩
structure Four (W:World)(g:Nat)(a b c d:Value):Prop where
  c0:W.cell? ⟨g,0,none⟩=some a
  c1:W.cell? ⟨g,1,none⟩=some b
  c2:W.cell? ⟨g,2,none⟩=some c
  c3:W.cell? ⟨g,3,none⟩=some d
  f0:W.frozen? ⟨g,0,none⟩=false
  f1:W.frozen? ⟨g,1,none⟩=false
  f2:W.frozen? ⟨g,2,none⟩=false
  f3:W.frozen? ⟨g,3,none⟩=false
  lt:g<W.heap.size
theorem Four.toB {W V:World}{g B:Nat}{a b c d:Value}(h:Four W g a b c d)(hb:Below B W V)(hg:g<B):Four V g a b c d :=
  ⟨(hb.cell (p:=⟨g,0,none⟩) hg).trans h.c0,(hb.cell (p:=⟨g,1,none⟩) hg).trans h.c1,(hb.cell (p:=⟨g,2,none⟩) hg).trans h.c2,(hb.cell (p:=⟨g,3,none⟩) hg).trans h.c3,
   (hb.frozen (p:=⟨g,0,none⟩) hg).trans h.f0,(hb.frozen (p:=⟨g,1,none⟩) hg).trans h.f1,(hb.frozen (p:=⟨g,2,none⟩) hg).trans h.f2,(hb.frozen (p:=⟨g,3,none⟩) hg).trans h.f3,Nat.lt_of_lt_of_le h.lt hb.size⟩
theorem Four.to {W V:World}{g:Nat}{a b c d:Value}(h:Four W g a b c d)(hb:Below W.heap.size W V):Four V g a b c d:=h.toB hb h.lt
theorem Four.of {W:World}{g:Nat}{a b c d:Value}{t:TypeId}(h:W.heap[g]?=some (.cells #[a,b,c,d] t (0,0))):Four W g a b c d :=
  ⟨by simp[World.cell?,h],by simp[World.cell?,h],by simp[World.cell?,h],by simp[World.cell?,h],by simp[World.frozen?,h],by simp[World.frozen?,h],by simp[World.frozen?,h],by simp[World.frozen?,h],(Array.getElem?_eq_some_iff.1 h).1⟩
theorem Four.new (W:World)(a b c d:Value)(t:TypeId):Four (W.alloc (.cells #[a,b,c,d] t)) W.heap.size a b c d:=Four.of (World.alloc_heap_new W _)
theorem Four.alloc {W:World}{g:Nat}{a b c d:Value}(h:Four W g a b c d)(o:Obj):Four (W.alloc o) g a b c d:=h.to bRR
def put4 (W:World)(g:Nat)(a b c d:Value):World:=(((W.setCell ⟨g,0,none⟩ a).setCell ⟨g,1,none⟩ b).setCell ⟨g,2,none⟩ c).setCell ⟨g,3,none⟩ d
def Qc (W:World)(a b c d:Value)(r:Rat):Prop:=Zc W a b r.num/\Zc W c d (if r.den=1 then 0 else (r.den:Int))
theorem Zc.zero (W:World):Zc W (.bool false) (.slice none 0 0) 0:=⟨none,0,rfl,rfl,Rd.nil,Nat.le_refl _,by decide⟩
theorem Qc.to {W V:World}{a b c d:Value}{r:Rat}(h:Qc W a b c d r)(hb:Below W.heap.size W V):Qc V a b c d r:=⟨h.1.to hb,h.2.to hb⟩
def QR (w:World)(r:Rat)(e:Ending)(w':World):Prop:=∃a b c d,e=.returned (.agg #[a,b,c,d])/\Qc w' a b c d r/\Below w.heap.size w w'
theorem inI_one : inI 1=true/\i64v 1=1:=inI_t (by decide) (by decide)
theorem isOne_z {w:World}{x y:Value}{a:Int}(ha:Zi w x y a):Calls Tryz.prog 121 #[.agg #[x,y]] w fun e w'=>e=.returned (.bool (decide (a=1)))/\Below w.heap.size w w':=by
 have hb:=Hd ((Below.refl w.heap.size w).alloc (Nat.le_refl _) (.cells #[x,y] 30));have HI:=Hd (int64_z (ha.to hb.out));have hone:a=1->inI a=true/\i64v a=1:=by rintro rfl;exact inI_one
 have hne:a≠1->inI a=true->i64v a≠1:=fun h h1 h2=>by unfold i64v at h2;rw[h1]at h2;exact h h2
 obtain ⟨i,ei⟩:∃i,i64v a=i:=⟨_,rfl⟩
 obtain ⟨so,es⟩:∃s,inI a=s:=⟨_,rfl⟩
 rw[ei,es]at HI hone hne
 have HR:Hid ((so=true/\i=1/\decide (a=1)=true)∨(so=true/\i≠1/\decide (a=1)=false)∨(so=false/\decide (a=1)=false)):=by
  by_cases h:a=1
  .exact .inl ⟨(hone h).1,(hone h).2,decide_eq_true h⟩
  .cases so
   .exact .inr (.inr ⟨rfl,decide_eq_false h⟩)
   .exact .inr (.inl ⟨rfl,hne h rfl,decide_eq_false h⟩)
 clear hone hne ei es ha
 rcases HR.out with ⟨rfl,rfl,hr⟩|⟨rfl,hi,hr⟩|⟨rfl,hr⟩
 .rw[hr];clear hr HR
  go_enter Tryz.func121,Tryz.ntmps121
  go_wp2_with fail
  refine HI.out.mono ?_;rintro e w' ⟨rfl,b⟩;have HB:=Hxb hb b;clear b HI;go_wp2
  go_ret
  exact ⟨rfl,HB.out⟩
 .rw[hr];have hi2:(i==1)=false:=by simpa using hi
  clear hr HR hi
  go_enter Tryz.func121,Tryz.ntmps121
  go_wp2_with fail
  refine HI.out.mono ?_;rintro e w' ⟨rfl,b⟩;have HB:=Hxb hb b;clear b HI;go_wp2
  go_ret
  exact ⟨rfl,HB.out⟩
 .rw[hr];clear hr HR
  go_enter Tryz.func121,Tryz.ntmps121
  go_wp2_with fail
  refine HI.out.mono ?_;rintro e w' ⟨rfl,b⟩;have HB:=Hxb hb b;clear b HI;go_wp2
  go_ret
  exact ⟨rfl,HB.out⟩
structure Kept4 (g:Nat)(w V:World):Prop where
 two:∀g' u v,g'≠g->Two w g' u v->Two V g' u v
 four:∀g' a b c d,g'≠g->Four w g' a b c d->Four V g' a b c d
 zc:∀x y z,Zc w x y z->Zc V x y z
 zi:∀x y z,Zi w x y z->Zi V x y z
 bel:∀B w0,Below B w0 w->B<=g->Below B w0 V
 size:V.heap.size=w.heap.size
theorem Kept4.zl {g:Nat}{w V:World}(kp:Kept4 g w V){x y:Value}{z:Int}(h:Zl w x y z):Zl V x y z:=zl_of h (kp.zi _ _ _)
theorem Kept.zl {g:Nat}{w V:World}(kp:Kept g w V){x y:Value}{z:Int}(h:Zl w x y z):Zl V x y z:=zl_of h (kp.zi _ _ _)
theorem cell_put4 {W:World}{g:Nat}{a b c d:Value}{p:Addr}(hp:p.block≠g)(a' b' c' d':Value):(put4 W g a' b' c' d').cell? p=W.cell? p:=by
 unfold put4;rw[World.cell?_setCell_other _ _ _ _ (by intro e;exact hp (by rw[<-e])),World.cell?_setCell_other _ _ _ _ (by intro e;exact hp (by rw[<-e])),World.cell?_setCell_other _ _ _ _ (by intro e;exact hp (by rw[<-e])),World.cell?_setCell_other _ _ _ _ (by intro e;exact hp (by rw[<-e]))]
theorem frozen_put4 {W:World}{g:Nat}{p:Addr}(a' b' c' d':Value):(put4 W g a' b' c' d').frozen? p=W.frozen? p:=by
 unfold put4;rw[World.frozen?_setCell,World.frozen?_setCell,World.frozen?_setCell,World.frozen?_setCell]
theorem size_put4 {W:World}{g:Nat}(a' b' c' d':Value):(put4 W g a' b' c' d').heap.size=W.heap.size:=by unfold put4;simp[World.setCell]
theorem Four.set {W:World}{g:Nat}{a b c d:Value}(h:Four W g a b c d)(a' b' c' d':Value):Four (put4 W g a' b' c' d') g a' b' c' d':=by
 have n01:(⟨g,0,none⟩:Addr)≠⟨g,1,none⟩:=by simp
 have h0:((W.setCell ⟨g,0,none⟩ a')).cell? ⟨g,0,none⟩=some a':=World.cell?_setCell_same' _ _ _ (by rw[h.c0];rfl);have h1:((W.setCell ⟨g,0,none⟩ a').setCell ⟨g,1,none⟩ b').cell? ⟨g,1,none⟩=some b':=World.cell?_setCell_same' _ _ _ (by rw[World.cell?_setCell_other _ _ _ _ (by simp),h.c1];rfl);have h2:(((W.setCell ⟨g,0,none⟩ a').setCell ⟨g,1,none⟩ b').setCell ⟨g,2,none⟩ c').cell? ⟨g,2,none⟩=some c':=World.cell?_setCell_same' _ _ _ (by rw[World.cell?_setCell_other _ _ _ _ (by simp),World.cell?_setCell_other _ _ _ _ (by simp),h.c2];rfl);have h3:(put4 W g a' b' c' d').cell? ⟨g,3,none⟩=some d':=World.cell?_setCell_same' _ _ _ (by rw[World.cell?_setCell_other _ _ _ _ (by simp),World.cell?_setCell_other _ _ _ _ (by simp),World.cell?_setCell_other _ _ _ _ (by simp),h.c3];rfl);refine ⟨?_,?_,?_,h3,by rw[frozen_put4];exact h.f0,by rw[frozen_put4];exact h.f1,by rw[frozen_put4];exact h.f2,by rw[frozen_put4];exact h.f3,by rw[size_put4];exact h.lt⟩
 .unfold put4;rw[World.cell?_setCell_other _ _ _ _ (by simp),World.cell?_setCell_other _ _ _ _ (by simp),World.cell?_setCell_other _ _ _ _ (by simp)];exact h0
 .unfold put4;rw[World.cell?_setCell_other _ _ _ _ (by simp),World.cell?_setCell_other _ _ _ _ (by simp)];exact h1
 .unfold put4;rw[World.cell?_setCell_other _ _ _ _ (by simp)];exact h2
theorem Rd.put4 {kd:IntKind}{w:World}{B g:Nat}{A:Option Addr}{xs:List Nat}{a b c d:Value}(t:Four w g a b c d)(h1:∀n:Int,a≠.int kd n)(h2:∀n:Int,b≠.int kd n)(h3:∀n:Int,c≠.int kd n)(h4:∀n:Int,d≠.int kd n)(h:Rd kd w B A xs)(a' b' c' d':Value):Rd kd (put4 w g a' b' c' d') B A xs:=by
 intro k hk;obtain ⟨b0,o,rfl,hb,hc⟩:=h k hk;refine ⟨b0,o,rfl,hb,?_⟩
 have hne:∀(j:Nat) (u:Value),w.cell? ⟨g,j,none⟩=some u->(∀n:Int,u≠.int kd n)->(⟨g,j,none⟩:Addr)≠⟨b0,o+k,none⟩:=fun j u hu hn e=>by
  rw[e,hc]at hu
  injection hu with hu
  exact hn _ hu.symm
 unfold Go.Proofs.YtglhdielkkhefaaGreat.put4;rw[World.cell?_setCell_other _ _ _ _ (hne 3 d t.c3 h4),World.cell?_setCell_other _ _ _ _ (hne 2 c t.c2 h3),World.cell?_setCell_other _ _ _ _ (hne 1 b t.c1 h2),World.cell?_setCell_other _ _ _ _ (hne 0 a t.c0 h1)];exact hc
def Fq (a b c d:Value):Prop:=Fs a b/\Fs c d
theorem Fs.nint {kd:IntKind}{x y:Value}(h:Fs x y):(∀n:Int,x≠.int kd n)/\(∀n:Int,y≠.int kd n):=by
 obtain ⟨n,A,k,c,rfl,rfl⟩:=h;exact ⟨(fun n e=>by cases e),(fun n e=>by cases e)⟩
theorem Kept4.of {w:World}{g:Nat}{a b c d:Value}(t:Four w g a b c d)(f:Fq a b c d)(a' b' c' d':Value):Kept4 g w (put4 w g a' b' c' d'):=by
 have hr:∀A xs,Rd .u32 w w.heap.size A xs->Rd .u32 (put4 w g a' b' c' d') (put4 w g a' b' c' d').heap.size A xs:=fun A xs h=>by
  rw[size_put4];exact Rd.put4 t f.1.nint.1 f.1.nint.2 f.2.nint.1 f.2.nint.2 h _ _ _ _
 refine ⟨fun g' u v hne t'=>?_,fun g' p q r s hne t'=>?_,?_,?_,fun B w0 h hg=>?_,size_put4 _ _ _ _⟩
 .exact ⟨(cell_put4 (a:=a) (b:=b) (c:=c) (d:=d) hne _ _ _ _).trans t'.c0,(cell_put4 (a:=a) (b:=b) (c:=c) (d:=d) hne _ _ _ _).trans t'.c1,(frozen_put4 _ _ _ _).trans t'.f0,(frozen_put4 _ _ _ _).trans t'.f1,by rw[size_put4];exact t'.lt⟩
 .exact ⟨(cell_put4 (a:=a) (b:=b) (c:=c) (d:=d) hne _ _ _ _).trans t'.c0,(cell_put4 (a:=a) (b:=b) (c:=c) (d:=d) hne _ _ _ _).trans t'.c1,(cell_put4 (a:=a) (b:=b) (c:=c) (d:=d) hne _ _ _ _).trans t'.c2,(cell_put4 (a:=a) (b:=b) (c:=c) (d:=d) hne _ _ _ _).trans t'.c3,
   (frozen_put4 _ _ _ _).trans t'.f0,(frozen_put4 _ _ _ _).trans t'.f1,(frozen_put4 _ _ _ _).trans t'.f2,(frozen_put4 _ _ _ _).trans t'.f3,by rw[size_put4];exact t'.lt⟩
 .rintro x y z ⟨A,c,h1,h2,h3,h4,h5⟩;exact ⟨A,c,h1,h2,hr _ _ h3,h4,h5⟩
 .rintro x y z ⟨n,A,c,xs,h1,h2,⟨r1,r2,r3,r4,r5⟩,h4⟩;exact ⟨n,A,c,xs,h1,h2,⟨hr _ _ r1,r2,r3,r4,r5⟩,h4⟩
 .exact (((h.setCell (p:=⟨g,0,none⟩) hg _).setCell (p:=⟨g,1,none⟩) hg _).setCell (p:=⟨g,2,none⟩) hg _).setCell (p:=⟨g,3,none⟩) hg _
section
variable {ac : Act} {w : World} {K : Act -> World -> Prop} {Q : Exit -> Act -> World -> Prop} {d : Option Tmp} {ty : TypeId} {pos : String} {after : Array Edge} {guard : Option (Nat × Bool)}
theorem wp_alloc_four (h:∀(g:Nat) (V:World),Four V g (.bool false) (.slice none 0 0) (.bool false) (.slice none 0 0)->Below w.heap.size w V->w.heap.size<=g->K (ac.put d (.pointer (some ⟨g,0,none⟩))) V) :
  Oper.wp Tryz.prog ⟨d,.alloc 32,ty,pos,after,guard⟩ ac w K Q:=by
 have h1:=h _ _ (Four.new w (.bool false) (.slice none 0 0) (.bool false) (.slice none 0 0) 32) bRR (Nat.le_refl _);go_simp
 exact h1
theorem wp_store_four {g:Nat}{a b c e a0 b0 c0 e0:Value}{p v:Operand}(hp:ac.eval p=.pointer (some ⟨g,0,none⟩))(hv:ac.eval v=.agg #[a,b,c,e])(t:Four w g a0 b0 c0 e0)(f0:Fq a0 b0 c0 e0)(f1:Fq a b c e)
  (h:∀V:World,Four V g a b c e->Kept4 g w V->K (ac.put d undef) V) :
  Oper.wp Tryz.prog ⟨d,.store 32 p v,ty,pos,after,guard⟩ ac w K Q:=by
 have h1:=h _ (t.set a b c e) (Kept4.of t f0 a b c e);obtain ⟨⟨n1,A1,k1,l1,rfl,rfl⟩,⟨n2,A2,k2,l2,rfl,rfl⟩⟩:=f1;have u0:=t.c0;have u1:=t.c1;have u2:=t.c2;have u3:=t.c3;have v0:=t.f0;have v1:=t.f1;have v2:=t.f2;have v3:=t.f3;clear h t;unfold put4 at h1;simp only[Oper.wp,execOp,hp,hv];go_simp
 exact h1
end
end Go.Proofs.YtglhdielkkhefaaGreat

namespace Go.Proofs.YtglhdielkkhefaaGreat
open Go.RowKit Go.Shelf
theorem Zi.zero (W:World):Zi W (.bool false) (.slice none 0 0) 0:=⟨false,none,0,[],rfl,rfl,⟨Rd.nil,Dg.nil,by simp,by decide,by simp⟩,rfl⟩
theorem Four.far {w:World}{g g':Nat}{a b c d:Value}(t:Four w g' a b c d)(hne:g'≠g)(u v:Value):Four ((w.setCell ⟨g,0,none⟩ u).setCell ⟨g,1,none⟩ v) g' a b c d:=by
 refine ⟨?_,?_,?_,?_,?_,?_,?_,?_,by simpa [World.setCell]using t.lt⟩
 all_goals first
  | (rw[World.frozen?_setCell,World.frozen?_setCell];first|exact t.f0|exact t.f1|exact t.f2|exact t.f3)
  | (rw[World.cell?_setCell_other _ _ _ _ (by simp[Ne.symm hne]),World.cell?_setCell_other _ _ _ _ (by simp[Ne.symm hne])];first|exact t.c0|exact t.c1|exact t.c2|exact t.c3)
theorem pack2 {V:World}{g:Nat}{x0 y0:Value}(t:Two V g x0 y0)(f:Fs x0 y0)(a b:Value):∃V',(V.setCell ⟨g,0,none⟩ a).setCell ⟨g,1,none⟩ b=V'/\Two V' g a b/\Kept g V V'/\∀g' p q r s,g'≠g->Four V g' p q r s->Four V' g' p q r s :=
 ⟨_,rfl,t.set a b,Kept.of t f.nint.1 f.nint.2 a b,fun _ _ _ _ _ hne h=>h.far hne a b⟩
theorem pack4 {V:World}{g:Nat}{a0 b0 c0 d0:Value}(t:Four V g a0 b0 c0 d0)(f:Fq a0 b0 c0 d0)(a b c d:Value):∃V',(((V.setCell ⟨g,0,none⟩ a).setCell ⟨g,1,none⟩ b).setCell ⟨g,2,none⟩ c).setCell ⟨g,3,none⟩ d=V'/\Four V' g a b c d/\Kept4 g V V' :=
 ⟨_,rfl,t.set a b c d,Kept4.of t f a b c d⟩
theorem Fq.nil : Fq (.bool false) (.slice none 0 0) (.bool false) (.slice none 0 0):=⟨Fs.nil,Fs.nil⟩
theorem fromInteger_z {w:World}{x y:Value}{a:Int}(ha:Zi w x y a):Calls Tryz.prog 96 #[.agg #[x,y]] w (QR w (a:Rat)):=by
 obtain ⟨W0,hW0⟩:∃W0,W0=(w.alloc (.cells #[x,y] 30)).alloc (.cells #[.bool false,.slice none 0 0,.bool false,.slice none 0 0] 32):=⟨_,rfl⟩
 have hb:Below w.heap.size w W0:=by rw[hW0];exact bRR.alloc (by simp) _
 have tX:Two W0 w.heap.size x y:=by rw[hW0];exact (Two.new w _ _ _).alloc _
 have tR:Four W0 (w.heap.size+1) (.bool false) (.slice none 0 0) (.bool false) (.slice none 0 0):=by
  have h:=Four.new (w.alloc (.cells #[x,y] 30)) (.bool false) (.slice none 0 0) (.bool false) (.slice none 0 0) 32;rw[szA]at h;rw[hW0];exact h
 have HW0:=Hd hW0;have HA:=Hd (add_z (ha.to hb) (Zi.zero W0));rw[Int.add_zero]at HA;have HB0:=Hd hb;clear hW0 ha hb
 go_enter Tryz.func96,Tryz.ntmps96
 go_wp2_with fail
 rw[<-HW0.out];have k0:=tX.c0;have k1:=tX.c1
 go_wp2_with fail
 refine HA.out.mono ?_;rintro e V ⟨xr,yr,rfl,rz,bb⟩;have t4:=tR.to bb;have HB:=Hxb HB0 bb;have RZ:=Hd rz;obtain ⟨A3,c3,rfl,rfl,-⟩:=rz;obtain ⟨V2,eV,u,kp⟩:=pack4 t4 Fq.nil (.bool (decide (a<0))) (.slice A3 (dig b32 a.natAbs).length c3) (.bool false) (.slice none 0 0);obtain ⟨v0,v1,v2,v3,v4,v5,v6,v7,_⟩:=t4;have EV:=Hd eV;have KP:=Hd kp;have U:=Hd u;clear k0 k1 eV kp u bb HA tX tR;go_wp2
 rw[EV.out];refine bodyPost_ret (v:=.agg #[.bool (decide (a<0)),.slice A3 (dig b32 a.natAbs).length c3,.bool false,.slice none 0 0]) (by simp[results,Tryz.f96,go_sem,U.out.c0,U.out.c1,U.out.c2,U.out.c3]) rfl ?_;exact ⟨_,_,_,_,rfl,⟨KP.out.zc _ _ _ RZ.out,Zc.zero V2⟩,KP.out.bel _ _ HB.out (by omega)⟩
def cmn (a b:Int):Int:=if b<0 then -(Int.gcd a b:Int) else (Int.gcd a b:Int)
theorem cmn_num (a b:Int)(hb:b≠0):a / cmn a b=(Rat.divInt a b).num:=by
 rw[Rat.num_divInt];unfold cmn;have hg:((b.gcd a:Nat):Int)∣a:=Int.gcd_dvd_right ..
 split
 .rename_i h
  rw[Int.sign_eq_neg_one_of_neg h,Int.ediv_neg,Int.gcd_comm a b,Int.neg_mul,Int.one_mul,Int.neg_ediv_of_dvd hg]
 .rename_i h
  rw[Int.sign_eq_one_of_pos (by omega),Int.gcd_comm a b,Int.one_mul]
theorem cmn_den (a b:Int)(hb:b≠0):b / cmn a b=((Rat.divInt a b).den:Int):=by
 rw[Rat.den_divInt,if_neg hb];unfold cmn;have hg:((b.gcd a:Nat):Int)∣b:=Int.gcd_dvd_left ..;rw[Int.gcd_comm a b,Int.natCast_ediv]
 split
 .rename_i h
  rw[Int.ediv_neg,show ((b.natAbs:Nat):Int)=-b from by omega,Int.neg_ediv_of_dvd hg]
 .rename_i h
  rw[show ((b.natAbs:Nat):Int)=b from by omega]
theorem cmn_ne (a b:Int)(hb:b≠0):cmn a b≠0:=by
 have h:Int.gcd a b≠0:=fun h=>hb (Int.gcd_eq_zero_iff.1 h).2
 unfold cmn
 split<;>omega
theorem divInt_one (a:Int):Rat.divInt a 1=(a:Rat):=by
 apply Rat.ext
 .rw[Rat.num_divInt];simp
 .rw[Rat.den_divInt];simp
theorem sign_v {w:World}{x y:Value}{a v:Int}(h:Zl w x y a)(hv:sgn a=v):Calls Tryz.prog 95 #[.agg #[x,y]] w fun e w'=>e=.returned (.int .i64 v)/\Below w.heap.size w w':=by
 subst hv;exact sign_z h.zi
theorem isOne_v {w:World}{x y:Value}{a:Int}{v:Bool}(ha:Zl w x y a)(hv:decide (a=1)=v):Calls Tryz.prog 121 #[.agg #[x,y]] w fun e w'=>e=.returned (.bool v)/\Below w.heap.size w w':=by
 subst hv;exact isOne_z ha.zi
theorem Sg.den {a b:Int}(sb:Sg b)(hb:b≠0):Sg ((Rat.divInt a b).den:Int):=by
 rw[<-cmn_den a b hb];unfold Sg at *;have h1:(b / cmn a b).natAbs<=b.natAbs:=Int.natAbs_ediv_le_natAbs _ _;omega
end Go.Proofs.YtglhdielkkhefaaGreat
