/- Parts: 8. -/
import Derived.Test.YtglhdielkkhefaaGreatMt3
import Derived.Test.YtglhdielkkhefaaGreatMt5
import Derived.Deep.AppendSrc
import Derived.Deep.Upon
set_option linter.unusedVariables false
set_option linter.unusedSimpArgs false
set_option maxRecDepth 100000
set_option maxHeartbeats 40000000

namespace Go.Proofs.YtglhdielkkhefaaGreat
open Go.RowKit Go.Shelf
theorem times_any {A:Option Addr}{c:Nat}{xs:List Nat}{w:World}(hx:Hr w A c xs)(f:Nat)(hf:f<=1024) :
  Calls Tryz.prog 167 #[.slice A xs.length c,.int .i64 (f:Nat)] w (HRet w (val b16 xs*f)):=by
 obtain ⟨i0,hi,hz0,hz1,hz2⟩:=info_parts infoInt;obtain ⟨n,en⟩:∃n,Hid (val b16 xs*f=n):=⟨_,rfl⟩
 rw[en.out];have HX:=Hd hx;have hxs:=hx.small;have hxl:=hx.le;have hxc:=hx.cap;clear hx;obtain ⟨m,em⟩:∃m,m=xs.length:=⟨_,rfl⟩
 have hm1:xs.length<=m:=by omega
 have hm3:m<=4294967296:=by omega
 have EM:=Hd em;clear em
 go_enter Tryz.func167,Tryz.ntmps167
 go_wp2
 go_loopw [5,6,7] (fun v q i wr=>∃(k r:Nat) (S:List Nat) (A1:Option Addr) (c1:Nat),v=.slice A1 k c1/\q=.int .i64 r/\i=.int .i64 k/\r<=f/\k<=m+1/\S.length=k/\Dg b16 S/\val b16 S+b16 ^ k*r=val b16 (xs.take k)*f /\
   wr.ownsRow w.heap.size 3 1 (.slice A1 k c1) k (ints .i64 S)/\Below w.heap.size w wr) (fun _ _ i _=>m+1-(intOf i).toNat)
 case atStart=>exact ⟨0,0,[],none,0,rfl,rfl,rfl,by omega,by omega,rfl,Dg.nil,by simp[val],by simpa [ints]using World.ownsRow_nil _ _ _ _,Below.refl _ _⟩
 case round =>
  obtain ⟨k,r,S,A1,c1,rfl,rfl,rfl,hr,hk,hS,hdg,hval,hown,hb⟩:=hrel
  by_cases hend:¬k<xs.length/\¬0<r
  .obtain ⟨h1,h3⟩:=hend;obtain rfl:r=0:=by omega
   have hv:val b16 S=n:=by rw[val_le_take (b:=b16) xs k (by omega)]at hval;have:=en.out;omega
   obtain ⟨hc1,hc2⟩:=own_caps hown;have hrd:=Rd.of_own hown (Nat.le_refl _);have HT:=Hd (rtrim_any A1 c1 _ S wr hrd (by omega) hc2);have hta:=trimL_dig b16_one hdg;rw[hv]at hta;have htn:trimN S=(dig b16 n).length:=by rw[<-hta,trimL_length]
   have hrt:Rd .i64 wr wr.heap.size A1 (dig b16 n):=by rw[<-hta];exact hrd.take _
   have hle:(dig b16 n).length<=c1:=by rw[<-htn];have:=trimN_le S;omega
   rw[hS,htn]at HT;have HF:=Hd hrt;have HB:=Hd hb;clear hrt hb hown hrd hta hval hdg htn hv
   go_wp2_with fail
   refine HT.out.mono ?_;rintro e w' ⟨rfl,rfl⟩;go_wp2
   go_ret
   exact ⟨A1,c1,rfl,HF.out,hle,hc2,HB.out⟩
  .have hkm:k<=m:=by
    refine Classical.byContradiction fun hgt=>?_
    have hk1:k=m+1:=by omega
    rw[val_le_take (b:=b16) xs k (by omega)]at hval;have h1:=val_lt HX.out.dg;have h3:b16 ^ xs.length<=b16 ^ m:=Nat.pow_le_pow_right (by decide) hm1;have h5:b16 ^ k=b16 ^ m*65536:=by rw[hk1,Nat.pow_succ];rfl
    have h6:1<=r:=by omega
    have h7:b16 ^ k*1<=b16 ^ k*r:=Nat.mul_le_mul_left _ h6;have h8:val b16 xs*f<=val b16 xs*1024:=Nat.mul_le_mul_left _ hf;omega
   obtain ⟨x,ex⟩:∃x,Hid (xs.getD k 0=x):=⟨_,rfl⟩
   have hu:=getD_dg (by decide) HX.out.dg k;have HA1:=Hd (at_int (c:=c) (HX.out.to hb).rd (by omega) (k:Int) (by omega) (by omega));rw[show ((k:Int)).toNat=k from by omega]at HA1;rw[ex.out]at hu HA1;unfold b16 at hu;have hxf:x*f<=65535*f:=Nat.mul_le_mul_right _ (by omega);obtain ⟨p,ep⟩:∃p,p=x*f:=⟨_,rfl⟩
   rw[<-ep]at hxf;obtain ⟨d,ed⟩:∃d,d=p+r:=⟨_,rfl⟩
   have hd:d<67200000:=by omega
   have hd2:d / 65536<=f:=by omega
   have hmul:(x:Int)*(f:Int)=(p:Int):=by rw[ep];simp
   have hsum:(p:Int)+(r:Int)=(d:Int):=by omega
   have g0:=wrap_nat p (by omega);have g5:=wrap_nat d (by omega);have g1:=tmod16 d;have g2:=tdiv16 d;have g3:=wrap_nat (d % 65536) (by omega);have g4:=wrap_nat (d / 65536) (by omega)
   have NEXTV:val b16 (S++[d % 65536])+b16 ^ (k+1)*(d / 65536)=val b16 (xs.take (k+1))*f:=by
    refine digit_step (d:=p) hS hval (by omega) ?_;rw[val_take_succ,ex.out,Nat.add_mul,ep,Nat.mul_assoc]
   have NV:=Hd NEXTV;have hs1:=hb.size
   have NEXT:∀v' w1,w1.ownsRow w.heap.size 3 1 v' (k+1) (ints .i64 S++[.int .i64 ((d % 65536:Nat):Int)])->(wr.alloc (.cells #[.int .i64 ((d % 65536:Nat):Int)] 3)).grownBy w1 (Value.slice A1 k c1).ownBlock ->
     ∃(A2:Option Addr) (c2:Nat),v'=.slice A2 (k+1) c2/\w1.ownsRow w.heap.size 3 1 (.slice A2 (k+1) c2) (k+1) (ints .i64 (S++[d % 65536]))/\Below w.heap.size w w1:=by
    intro v' w1 hown' hgrow;obtain ⟨A2,c2,rfl⟩:=own_shape hown';refine ⟨A2,c2,rfl,?_,(hb.alloc hs1 _).grown hgrow (by simp;omega) (fun j e=>(hown.lt j e).1)⟩
    simpa [ints]using hown'
   have hownA:=hown.alloc (.cells #[.int .i64 ((d % 65536:Nat):Int)] 3);have HN:=Hd NEXT;have HSD:=Hd hdg;have hcase:k<xs.length∨(¬k<xs.length/\0<r):=by omega
   clear NEXT NEXTV hb hown ex ed hval ep hdg hend
   rcases hcase with t1|⟨t1,t2⟩
   all_goals
    go_wp2_with fail
    refine HA1.out.mono ?_;rintro e w' ⟨rfl,rfl⟩
    go_wp2_with (at_builtin;refine wpList_append_own _ rfl (.tmp 26) (.tmp 29) 113 rfl w.heap.size 3 i0 (.int .i64 0) 1 8 Tryz.underlying113 hi hz0 hz1 hz2 rfl (by decide) (.slice A1 k c1) k _ rfl hownA ⟨wr.heap.size,0,none⟩ 1 1 [.int .i64 ((d % 65536:Nat):Int)] rfl rfl (cell_one_new _ _ _) (by simp[Value.oneCell']) (by unfold maxLen;omega) (by omega) (by simp;omega) ?_;intro v' w1 hown' hgrow _;obtain ⟨A2,c2,rfl,n1,n2⟩:=HN.out _ _ hown' hgrow;have N1:=Hd n1;have N2:=Hd n2;clear n1 n2 hown' hgrow)
    go_roundw
    case rel=>exact ⟨k+1,d / 65536,S++[d % 65536],A2,c2,rfl,by simp,by simp,by omega,by omega,by simp[hS],HSD.out.app (Dg.one (by unfold b16;omega)),NV.out,N1.out,N2.out⟩
    case measure=>simp[intOf];omega
theorem val_drop {b:Nat}{xs:List Nat}{q:Nat}(h:q<xs.length):val b (xs.drop q)=xs[q]+b*val b (xs.drop (q+1)):=by
 rw[List.drop_eq_getElem_cons h];rfl
theorem Dg.drop {b:Nat}{xs:List Nat}(h:Dg b xs)(n:Nat):Dg b (xs.drop n):=fun d hd=>h d (List.mem_of_mem_drop hd)
theorem val_lt3 {xs:List Nat}(h:Dg b16 xs)(hl:xs.length<=3):val b16 xs<281474976710656 :=
 Nat.lt_of_lt_of_le (val_lt h) (Nat.le_trans (Nat.pow_le_pow_right (by decide) hl) (by decide))
theorem small_any {A:Option Addr}{c:Nat}{xs:List Nat}{w:World}(hx:Hr w A c xs)(hl:xs.length<=3) :
  Calls Tryz.prog 166 #[.slice A xs.length c] w fun e w'=>e=.returned (.int .i64 (val b16 xs:Nat))/\w'=w:=by
 obtain ⟨n,en⟩:∃n,Hid (val b16 xs=n):=⟨_,rfl⟩
 rw[en.out];have HX:=Hd hx;clear hx
 go_enter Tryz.func166,Tryz.ntmps166
 go_wp2
 go_loopw [3,4] (fun v i wr=>∃k:Nat,v=.int .i64 (val b16 (xs.drop k):Nat)/\i=.int .i64 ((k:Int)-1)/\k<=xs.length/\wr=w) (fun _ i _=>((intOf i)+1).toNat)
 case atStart=>exact ⟨xs.length,by simp[val],rfl,Nat.le_refl _,rfl⟩
 case round =>
  obtain ⟨k,hv,hik,hk,rfl⟩:=hrel
  rcases Nat.eq_zero_or_pos k with rfl|hk0
  .rw[List.drop_zero,en.out]at hv;subst hv hik;clear hk;go_wp2
   go_ret
   exact ⟨rfl,rfl⟩
  .obtain ⟨q,rfl⟩:∃q,k=q+1:=⟨k-1,by omega⟩
   rw[show (((q+1:Nat):Int)-1)=(q:Int) from by omega]at hik;subst hv hik;have hq:q<xs.length:=by omega
   obtain ⟨b,o,rfl,_,hc1⟩:=HX.out.rd.at_ hq;have e1:=hc1 q hq;have hd:=HX.out.dg.at_ hq;have hvd:=val_drop (b:=b16) hq;have hlt:=val_lt3 (HX.out.dg.drop q) (by rw[List.length_drop];omega);have hlt2:=val_lt3 (HX.out.dg.drop (q+1)) (by rw[List.length_drop];omega);obtain ⟨x,ex⟩:∃x,Hid (xs[q]=x):=⟨xs[q],rfl⟩
   obtain ⟨T,eT⟩:∃T,Hid (val b16 (xs.drop (q+1))=T):=⟨_,rfl⟩
   rw[ex.out]at e1 hd hvd;rw[eT.out]at hvd hlt2 ⊢;unfold b16 at hd;have hvd2:val b16 (xs.drop q)=x+65536*T:=hvd;rw[hvd2]at hlt;have HV:=Hd hvd2;have hki:(0:Int)<=(q:Int):=by omega
   have hki':(q:Int)<(xs.length:Int):=by omega
   clear hc1 hvd hvd2;go_wp2
   go_roundw
   case rel=>exact ⟨q,by rw[HV.out];congr 1;omega,by simp,by omega,trivial⟩
   case measure=>simp[intOf]
theorem back_any (v:Nat)(hv:v<281474976710656)(w:World) :
  Calls Tryz.prog 165 #[.int .i64 (v:Nat)] w (HRet w v):=by
 have hr:=Rd.new .i64 w 3 [v % 65536,v / 65536 % 65536,v / 65536 / 65536];have hdg:Dg b16 [v % 65536,v / 65536 % 65536,v / 65536 / 65536]:=Dg.cons (by unfold b16;omega) (Dg.cons (by unfold b16;omega) (Dg.one (by unfold b16;omega)));have hval:val b16 [v % 65536,v / 65536 % 65536,v / 65536 / 65536]=v:=by simp only[val,b16];omega
 have hta:=trimL_dig b16_one hdg;rw[hval]at hta;have hT:=rtrim_any (some ⟨w.heap.size,0,none⟩) 3 (w.heap.size+1) [v % 65536,v / 65536 % 65536,v / 65536 / 65536] _ hr (by simp) (by decide);rw[<-trimL_length,hta]at hT;have hrt:=hr.take (trimN [v % 65536,v / 65536 % 65536,v / 65536 / 65536]);rw[show [v % 65536,v / 65536 % 65536,v / 65536 / 65536].take (trimN [v % 65536,v / 65536 % 65536,v / 65536 / 65536])=dig b16 v from hta]at hrt;have hle:(dig b16 v).length<=3:=by rw[<-hta];exact trimL_le _
 have g1:=tmod16 v;have g2:=tdiv16 v;have g3:=tmod16 (v / 65536);have g4:=tdiv16 (v / 65536);have g5:=wrap_nat (v / 65536) (by omega);have g6:=wrap_nat (v / 65536 / 65536) (by omega);have g7:=wrap_nat (v % 65536) (by omega);have g8:=wrap_nat (v / 65536 % 65536) (by omega);obtain ⟨W0,hW0⟩:∃W0,W0=w.alloc (.cells (ints .i64 [v % 65536,v / 65536 % 65536,v / 65536 / 65536]).toArray 3):=⟨_,rfl⟩
 have hsz:W0.heap.size=w.heap.size+1:=by rw[hW0];simp
 have hb:Below w.heap.size w W0:=by rw[hW0];exact bRR
 rw[<-hW0]at hT hrt;rw[<-hsz]at hrt;have HT:=Hd hT;have HR:=Hd hrt;have HB:=Hd hb;have hW1:W0=w.alloc (.cells #[.int .i64 ((v:Int) % 65536),.int .i64 ((v:Int) / 65536 % 65536),.int .i64 ((v:Int) / 65536 / 65536)] 3):=by rw[hW0];simp[ints]
 have HW:=Hd hW1;clear hr hdg hval hta hT hrt hW0 hW1 hb
 go_enter Tryz.func165,Tryz.ntmps165
 go_wp2_with fail
 rw[<-HW.out];refine HT.out.mono ?_;rintro e w' ⟨rfl,rfl⟩;go_wp2
 go_ret
 exact ⟨_,_,rfl,HR.out,hle,by decide,HB.out⟩
theorem wpList_append_run {P:Program}{ops:Array Oper}{Q:Exit->Act->World->Prop}{rest:List Oper}{o:Oper}{a:Act}{w w':World}{v u v':Value}
  (hgd:o.guard=none) (s x:Operand) (t:TypeId) (ho:o.op=.call { callee:=.builtin .append,args:=#[s,x],argTypes:=#[t,t] })
  (hs:a.eval s=v) (hx:a.eval x=u) (hrun:(Builtin.append_ #[t,t] o.type #[v,u]).run P w=.ok v' w') (h:wpList P ops Q rest (a.put o.dst v') w'):wpList P ops Q (o::rest) a w :=
 wpList_step fun _ hK=>step_append_out hgd s x t ho hs hx hrun (hK _ _ h)
theorem Hr.of_ret {w':World}{A:Option Addr}{c n k:Nat}(h:Rd .i64 w' w'.heap.size A (dig b16 n))(hl:(dig b16 n).length<=c)(hc:c<=9223372036854775807)(hn:n<b16 ^ k)(hk:k<=4294967296):Hr w' A c (dig b16 n) :=
 ⟨h,Dg_dig b16_one n,hl,hc,Nat.le_trans (dig_length_le b16_one hn) hk⟩
theorem append_zero {wr:World}{base:Nat}(hbase:base<=wr.heap.size){A1:Option Addr}{c1:Nat}{O:List Nat}(h:Rd .i64 wr wr.heap.size A1 O)(hs:O.length<=4294967296){i:TypeInfo}(hi:Tryz.prog.info? 3=some i)(hz0:i.zero=some (.int .i64 0))(hz1:i.size=1)(hz2:i.bytes=8) :
  ∃A2 c2 w1,(Builtin.append_ #[113,113] 113 #[.slice (some ⟨wr.heap.size,0,none⟩) 1 1,.slice A1 O.length c1]).run Tryz.prog (wr.alloc (.cells #[.int .i64 0] 3))=.ok (.slice A2 (0::O).length c2) w1 /\
   w1.ownsRow base 3 1 (.slice A2 (0::O).length c2) (0::O).length (ints .i64 (0::O))/\Below wr.heap.size wr w1:=by
 have hown:(wr.alloc (.cells #[.int .i64 0] 3)).ownsRow base 3 1 (.slice (some ⟨wr.heap.size,0,none⟩) 1 1) 1 (ints .i64 [0]):=by
  have h:=World.ownsRow_lit (base:=base) (e:=3) (size:=1) wr #[.int .i64 0] 1 hbase (by decide) (by simp)
  simpa [ints]using h
 have hb:Below wr.heap.size wr (wr.alloc (.cells #[.int .i64 0] 3)):=bRR
 cases A1 with
 | none =>
  have hO:O=[]:=by
   cases O with
   | nil=>rfl
   | cons d r=>obtain ⟨b,o,e,_⟩:=h 0 (by simp);cases e
  subst hO;exact ⟨some ⟨wr.heap.size,0,none⟩,1,_,run_append_nothing _ 113 113 113 3 i Tryz.underlying113 hi _ 1 1 (Nat.le_refl _) _ (Src.ofNil _ Tryz.underlying113 c1),by simpa using hown,hb⟩
 | some a =>
  obtain ⟨v',w1,hrun,hown',hgrow,_,_⟩:=run_append_own_at (P:=Tryz.prog) (wr.alloc (.cells #[.int .i64 0] 3)) base 113 113 3 i (.int .i64 0) 1 8
   Tryz.underlying113 hi hz0 hz1 hz2 rfl (by decide) _ 1 _ hown a O.length c1 (ints .i64 O) (by simp[ints]) (Rd.news h hb) (by
    intro u hu;obtain ⟨d,_,rfl⟩:=List.mem_map.1 hu
    rfl) (by unfold maxLen;omega) (by omega) (by simp;omega)
  obtain ⟨A2,c2,rfl⟩:=own_shape hown';have e1:1+O.length=(0::O).length:=by simp;omega
  rw[e1]at hrun hown';refine ⟨A2,c2,w1,hrun,by simpa [ints]using hown',hb.grown hgrow (by simp) (fun j e=>?_)⟩;have:wr.heap.size=j:=by simpa [Value.ownBlock]using e
  omega
theorem Rd.cell {kd:IntKind}{w:World}{B b o:Nat}{xs:List Nat}(h:Rd kd w B (some ⟨b,o,none⟩) xs){k:Nat}(hk:k<xs.length):w.cell? ⟨b,o+k,none⟩=some (.int kd (xs[k]:Nat)):=by
 obtain ⟨b',o',e,_,hc⟩:=h k hk
 injection e with e
 injection e with e1 e2
 subst e1 e2;exact hc
theorem pow_cut {b n m:Nat}{X Y:Nat}(hX:X<b ^ n)(hY:Y<b ^ m):X*Y<b ^ (n+m):=by
 rw[Nat.pow_add];exact Nat.mul_lt_mul'' hX hY
theorem mul_lt_pow {xs ys:List Nat}(hx:Dg b16 xs)(hy:Dg b16 ys)(q:Nat):val b16 (xs.drop q)*val b16 ys<b16 ^ (xs.length-q+ys.length):=by
 have h1:=val_lt (hx.drop q);rw[List.length_drop]at h1;exact pow_cut h1 (val_lt hy)
theorem rmul_long {A A':Option Addr}{c c':Nat}{xs ys:List Nat}{w:World}(hx:Hr w A c xs)(hy:Hr w A' c' ys)(hl:xs.length+ys.length<=1000000)(h3:¬xs.length+ys.length<=3) :
  Calls Tryz.prog 137 #[.slice A xs.length c,.slice A' ys.length c'] w (HRet w (val b16 xs*val b16 ys)):=by
 obtain ⟨i0,hi,hz0,hz1,hz2⟩:=info_parts infoInt;obtain ⟨n,en⟩:∃n,Hid (val b16 xs*val b16 ys=n):=⟨_,rfl⟩
 rw[en.out];have HX:=Hd hx;have HY:=Hd hy;have HI:=Hd (⟨hi,hz0,hz1,hz2⟩:_/\_/\_/\_);clear hx hy hi hz0 hz1 hz2;have h3':¬((xs.length:Int)+(ys.length:Int)<=3):=by omega
 go_enter Tryz.func137,Tryz.ntmps137
 go_wp2
 go_loopw [5,6] (fun v i wr=>∃(k:Nat) (O:List Nat) (A1:Option Addr) (c1:Nat),v=.slice A1 O.length c1/\i=.int .i64 ((k:Int)-1)/\k<=xs.length/\Hr wr A1 c1 O/\val b16 O=val b16 (xs.drop k)*val b16 ys/\O.length<=xs.length-k+ys.length/\Below w.heap.size w wr) (fun _ i _=>((intOf i)+1).toNat)
 case atStart=>exact ⟨xs.length,[],none,0,rfl,rfl,Nat.le_refl _,⟨Rd.nil,Dg.nil,by simp,by decide,by simp⟩,by simp[val],by simp,Below.refl _ _⟩
 case round =>
  obtain ⟨k,O,A1,c1,rfl,hik,hk,hO,hval,hlen,hb⟩:=hrel
  rcases Nat.eq_zero_or_pos k with rfl|hk0
  .rw[List.drop_zero,en.out]at hval;subst hik;have HT:=Hd (rtrim_any A1 c1 _ O wr hO.rd hO.le hO.cap);have hta:=trimL_dig b16_one hO.dg;rw[hval]at hta;have htn:trimN O=(dig b16 n).length:=by rw[<-hta,trimL_length]
   have hrt:Rd .i64 wr wr.heap.size A1 (dig b16 n):=by rw[<-hta];exact hO.rd.take _
   have hle:(dig b16 n).length<=c1:=by rw[<-htn];exact Nat.le_trans (trimN_le O) hO.le
   have hcap:=hO.cap;rw[htn]at HT;have HF:=Hd hrt;have HB:=Hd hb;clear hrt hb hO hta hval htn hlen hk
   go_wp2_with fail
   refine HT.out.mono ?_;rintro e w' ⟨rfl,rfl⟩;go_wp2
   go_ret
   exact ⟨A1,c1,rfl,HF.out,hle,hcap,HB.out⟩
  .obtain ⟨q,rfl⟩:∃q,k=q+1:=⟨k-1,by omega⟩
   rw[show (((q+1:Nat):Int)-1)=(q:Int) from by omega]at hik;subst hik;have hq:q<xs.length:=by omega
   obtain ⟨i1,i2,i3,i4⟩:=HI.out;have hsm:O.length<=4294967296:=by omega
   have AZ:=append_zero (base:=w.heap.size) (c1:=c1) (hb.size) hO.rd hsm i1 i2 i3 i4;obtain ⟨A2,c2,w1,hrun,hown,hb1⟩:=AZ;have hb2:=Bxb hb hb1;obtain ⟨hc1,hc2⟩:=own_caps hown;have hO2:Hr w1 A2 c2 (0::O):=⟨Rd.of_own hown (Nat.le_refl _),Dg.cons (by decide) hO.dg,hc1,hc2,by simp;omega⟩
   obtain ⟨b,o,rfl,_,hcx⟩:=(HX.out.to hb2).rd.at_ hq;have e1:=hcx q hq;have hd:=HX.out.dg.at_ hq;obtain ⟨x,ex⟩:∃x,Hid (xs[q]=x):=⟨xs[q],rfl⟩
   rw[ex.out]at e1 hd;unfold b16 at hd;have HV0:Hid (val b16 (0::O)=b16*(val b16 (xs.drop (q+1))*val b16 ys)):=by show _=_;rw[val,hval,Nat.zero_add]
   have HVX:Hid (val b16 (xs.drop q)=x+b16*val b16 (xs.drop (q+1))):=by show _=_;rw[val_drop hq,ex.out]
   have HRUN:=Hd hrun;have HO2:=Hd hO2;have HB2:=Hd hb2;have hlen2:(0::O).length<=xs.length-q+ys.length:=by simp;omega
   obtain ⟨O2,eO2⟩:∃L,Hid (0::O=L):=⟨_,rfl⟩
   rw[eO2.out]at HRUN HO2 HV0 hlen2;have hki:(0:Int)<=(q:Int):=by omega
   have hki':(q:Int)<(xs.length:Int):=by omega
   clear hrun hO2 hb2 hown hb1 hO hval hb hcx hc1 hc2 hlen eO2
   go_wp2_with (at_builtin;refine wpList_append_run rfl (.tmp 27) (.tmp 28) 113 rfl (by rfl) (by rfl) HRUN.out ?_;clear HRUN)
   have hx16:x<=65535:=by omega
   clear e1 h3' h3
   go_loopw [5,7] (fun v kk wr2=>∃(k:Nat) (R:List Nat) (A3:Option Addr) (c3:Nat),v=.slice A3 R.length c3/\kk=.int .i64 k/\k<=66559/\Hr wr2 A3 c3 R/\val b16 R=b16*(val b16 (xs.drop (q+1))*val b16 ys)+min k x*val b16 ys/\R.length<=xs.length-q+ys.length/\Below w.heap.size w wr2) (fun _ kk _=>66559-(intOf kk).toNat)
   case atStart=>exact ⟨0,O2,A2,c2,rfl,rfl,by omega,HO2.out,by rw[HV0.out];simp,hlen2,HB2.out⟩
   case round =>
    obtain ⟨k,R,A3,c3,rfl,rfl,hk2,hR,hvR,hlR,hbR⟩:=hrel;have e1:=(HX.out.to hbR).rd.cell hq;rw[ex.out]at e1
    by_cases hkx:k<x
    .obtain ⟨f,hf,hf1,hf2,hfe⟩:∃f,f<=1024/\1<=f/\min (k+1024) x=min k x+f/\((f<1024/\(x:Int)-(k:Int)=(f:Int))∨(k+1024<=x/\f=1024)):=by
      rcases Nat.lt_or_ge (x-k) 1024 with h|h
      .exact ⟨x-k,by omega,by omega,by omega,.inl ⟨h,by omega⟩⟩
      .exact ⟨1024,by omega,by omega,by omega,.inr ⟨by omega,rfl⟩⟩
     have HT:=Hd fun (F:Int) (hF:F=(f:Int))=>by
      have h:=times_any (HY.out.to hbR) f hf;rw[<-hF]at h;exact h
     have hTl:val b16 ys*f<b16 ^ (ys.length+1):=by
      have h1:=val_lt HY.out.dg;have h2:val b16 ys*f<b16 ^ ys.length*65536:=Nat.mul_lt_mul'' h1 (by omega);rw[Nat.pow_succ];exact h2
     obtain ⟨M,eM⟩:∃M,Hid (b16*(val b16 (xs.drop (q+1))*val b16 ys)+min (k+1024) x*val b16 ys=M):=⟨_,rfl⟩
     have HVN:Hid (val b16 R+val b16 ys*f=b16*(val b16 (xs.drop (q+1))*val b16 ys)+min (k+1024) x*val b16 ys):=by
      show _=_
      rw[hvR,hf2,Nat.add_mul,Nat.mul_comm f];omega
     have HLN:Hid (b16*(val b16 (xs.drop (q+1))*val b16 ys)+min (k+1024) x*val b16 ys<b16 ^ (xs.length-q+ys.length)):=by
      show _<_
      refine Nat.lt_of_le_of_lt ?_ (mul_lt_pow HX.out.dg HY.out.dg q);rw[HVX.out,Nat.add_mul,Nat.mul_assoc];have:min (k+1024) x*val b16 ys<=x*val b16 ys:=Nat.mul_le_mul_right _ (by omega);omega
     rw[eM.out]at HVN HLN;have HR:=Hd hR;have HBR:=Hd hbR;have HTL:=Hd hTl;clear hR hbR hvR hlR hTl hf1 hf2
     rcases hfe with ⟨h1,hfe⟩|⟨h1,rfl⟩
     all_goals
      go_wp2_with fail
      refine (HT.out _ (by omega)).mono ?_;rintro e w4 ⟨A4,c4,rfl,r4,l4,m4,b4⟩;have HR4:=Hr.of_ret r4 l4 m4 HTL.out (by omega);have HA:=Hd (radd_any (HR.out.to b4) HR4);rw[val_dig b16_one,HVN.out]at HA;have HB4:=Hxb HBR b4;clear r4 l4 m4 b4 HR4
      go_wp2_with fail
      refine HA.out.mono ?_;rintro e w5 ⟨A5,c5,rfl,r5,l5,m5,b5⟩;have HR5:=Hd (Hr.of_ret r5 l5 m5 HLN.out (by omega));have HB5:=Hxb HB4 b5;have hl5:=dig_length_le b16_one HLN.out;clear r5 l5 m5 b5;go_wp2
      go_roundw
      case rel=>exact ⟨k+1024,_,A5,c5,rfl,by simp,by omega,HR5.out,by rw[val_dig b16_one];exact eM.out.symm,hl5,HB5.out⟩
      case measure=>simp[intOf];omega
    .have HVN:Hid (val b16 R=val b16 (xs.drop q)*val b16 ys):=by
      show _=_
      rw[hvR,HVX.out,Nat.add_mul,Nat.mul_assoc,show min k x=x from by omega];omega
     have HR:=Hd hR;have HBR:=Hd hbR;clear hR hbR hvR;go_wp2
     go_roundw
     case rel=>exact ⟨q,R,A3,c3,rfl,by simp,by omega,HR.out,HVN.out,hlR,HBR.out⟩
     case measure=>simp[intOf]
theorem rmul_any {A A':Option Addr}{c c':Nat}{xs ys:List Nat}{w:World}(hx:Hr w A c xs)(hy:Hr w A' c' ys)(hl:xs.length+ys.length<=1000000) :
  Calls Tryz.prog 137 #[.slice A xs.length c,.slice A' ys.length c'] w (HRet w (val b16 xs*val b16 ys)):=by
 by_cases h3:xs.length+ys.length<=3
 .have h1:=Hd (small_any hx (by omega));have h2:=Hd (small_any hy (by omega))
  have hlt:val b16 xs*val b16 ys<281474976710656 :=
   Nat.lt_of_lt_of_le (pow_cut (val_lt hx.dg) (val_lt hy.dg)) (Nat.le_trans (Nat.pow_le_pow_right (by decide) h3) (by decide))
  obtain ⟨p,ep⟩:∃p,val b16 xs*val b16 ys=p:=⟨_,rfl⟩
  have hB:=Hd (back_any p (by omega) w);have h3':(xs.length:Int)+(ys.length:Int)<=3:=by omega
  have hm:((val b16 xs:Nat):Int)*((val b16 ys:Nat):Int)=(p:Int):=by rw[<-ep];simp
  have g:=wrap_nat p (by omega);rw[ep];obtain ⟨X,eX⟩:∃X,val b16 xs=X:=⟨_,rfl⟩
  obtain ⟨Y,eY⟩:∃Y,val b16 ys=Y:=⟨_,rfl⟩
  rw[eX]at h1 hm;rw[eY]at h2 hm;have hxc:=hx.le;have hxc2:=hx.cap;have hyc:=hy.le;have hyc2:=hy.cap;clear hlt ep eX eY hx hy
  go_enter Tryz.func137,Tryz.ntmps137
  go_wp2_with fail
  refine h1.out.mono ?_;rintro e w' ⟨rfl,rfl⟩
  go_wp2_with fail
  refine h2.out.mono ?_;rintro e w' ⟨rfl,rfl⟩
  go_wp2_with fail
  refine hB.out.mono ?_;rintro e w' ⟨A4,c4,rfl,r4,l4,m4,b4⟩;have HF:=Hd r4;have HBB:=Hd b4;clear r4 b4;go_wp2
  go_ret
  exact ⟨A4,c4,rfl,HF.out,l4,m4,HBB.out⟩
 .exact rmul_long hx hy hl h3
theorem digit_less {b k:Nat}{S:List Nat}(hl:S.length=k){X Y l x y d l':Nat}(h:val b S+Y=X+b ^ k*l)(hv:d+y+l=x+b*l'):val b (S++[d])+(Y+b ^ k*y)=(X+b ^ k*x)+b ^ (k+1)*l':=by
 rw[val_append,hl,Nat.pow_succ];simp only[val,Nat.mul_zero,Nat.add_zero];have h1:b ^ k*(d+y+l)=b ^ k*(x+b*l'):=by rw[hv]
 rw[Nat.mul_add,Nat.mul_add,Nat.mul_add,<-Nat.mul_assoc]at h1;omega
theorem val_take_drop {b:Nat}(ys:List Nat)(k:Nat):∃T,val b ys=val b (ys.take k)+b ^ (ys.take k).length*T:=⟨val b (ys.drop k),by rw[<-val_append,List.take_append_drop]⟩
theorem sub_end {k l X:Nat}{S ys:List Nat}(hS:S.length=k)(hdg:Dg b16 S)(h:val b16 S+val b16 (ys.take k)=X+b16 ^ k*l)(hX:X<b16 ^ k)(hle:val b16 ys<=X):val b16 S=X-val b16 ys:=by
 have h1:=val_lt hdg;rw[hS]at h1;obtain ⟨T,hT⟩:=val_take_drop (b:=b16) ys k;have h0:val b16 (ys.take k)<=val b16 ys:=by rw[hT];exact Nat.le_add_right _ _
 have hl:l=0:=by
  refine Classical.byContradiction fun hn=>?_
  have:b16 ^ k*1<=b16 ^ k*l:=Nat.mul_le_mul_left _ (by omega);omega
 subst hl
 by_cases hk:ys.length<=k
 .rw[List.take_of_length_le hk]at h;omega
 .have hlen:(ys.take k).length=k:=by rw[List.length_take];omega
  rw[hlen]at hT
  have hT0:T=0:=by
   refine Classical.byContradiction fun hn=>?_
   have:b16 ^ k*1<=b16 ^ k*T:=Nat.mul_le_mul_left _ (by omega);omega
  subst hT0;omega
theorem rsub_any {A A':Option Addr}{c c':Nat}{xs ys:List Nat}{w:World}(hx:Hr w A c xs)(hy:Hr w A' c' ys)(hge:val b16 ys<=val b16 xs) :
  Calls Tryz.prog 141 #[.slice A xs.length c,.slice A' ys.length c'] w (HRet w (val b16 xs-val b16 ys)):=by
 obtain ⟨i0,hi,hz0,hz1,hz2⟩:=info_parts infoInt;obtain ⟨n,en⟩:∃n,Hid (val b16 xs-val b16 ys=n):=⟨_,rfl⟩
 rw[en.out];have HX:=Hd hx;have HY:=Hd hy;have hxs:=hx.small;have hys:=hy.small;have hxl:=hx.le;have hxc:=hx.cap;have hyl:=hy.le;have hyc:=hy.cap;clear hx hy;have HGE:=Hd hge;clear hge
 go_enter Tryz.func141,Tryz.ntmps141
 go_wp2
 go_loopw [5,6,7] (fun v q i wr=>∃(k r:Nat) (S:List Nat) (A1:Option Addr) (c1:Nat),v=.slice A1 k c1/\q=.int .i64 r/\i=.int .i64 k/\r<=1/\k<=xs.length/\S.length=k/\Dg b16 S/\val b16 S+val b16 (ys.take k)=val b16 (xs.take k)+b16 ^ k*r /\
   wr.ownsRow w.heap.size 3 1 (.slice A1 k c1) k (ints .i64 S)/\Below w.heap.size w wr) (fun _ _ i _=>xs.length-(intOf i).toNat)
 case atStart=>exact ⟨0,0,[],none,0,rfl,rfl,rfl,by omega,by omega,rfl,Dg.nil,by simp[val],by simpa [ints]using World.ownsRow_nil _ _ _ _,Below.refl _ _⟩
 case round =>
  obtain ⟨k,r,S,A1,c1,rfl,rfl,rfl,hr,hk,hS,hdg,hval,hown,hb⟩:=hrel
  by_cases hend:¬k<xs.length
  .obtain rfl:k=xs.length:=by omega
   have hv:val b16 S=n:=by
    rw[val_le_take (b:=b16) xs _ (Nat.le_refl _)]at hval;rw[<-en.out];exact sub_end hS hdg hval (val_lt HX.out.dg) HGE.out
   obtain ⟨hc1,hc2⟩:=own_caps hown;have hrd:=Rd.of_own hown (Nat.le_refl _);have HT:=Hd (rtrim_any A1 c1 _ S wr hrd (by omega) hc2);have hta:=trimL_dig b16_one hdg;rw[hv]at hta;have htn:trimN S=(dig b16 n).length:=by rw[<-hta,trimL_length]
   have hrt:Rd .i64 wr wr.heap.size A1 (dig b16 n):=by rw[<-hta];exact hrd.take _
   have hle:(dig b16 n).length<=c1:=by rw[<-htn];have:=trimN_le S;omega
   rw[hS,htn]at HT;have HF:=Hd hrt;have HB:=Hd hb;clear hrt hb hown hrd hta hval hdg htn hv
   go_wp2_with fail
   refine HT.out.mono ?_;rintro e w' ⟨rfl,rfl⟩;go_wp2
   go_ret
   exact ⟨A1,c1,rfl,HF.out,hle,hc2,HB.out⟩
  .have hkm:k<xs.length:=by omega
   have hki:(0:Int)<=(k:Int):=by omega
   obtain ⟨x,ex⟩:∃x,Hid (xs.getD k 0=x):=⟨_,rfl⟩
   obtain ⟨y,ey⟩:∃y,Hid (ys.getD k 0=y):=⟨_,rfl⟩
   have hu:=getD_dg (by decide) HX.out.dg k;have hz:=getD_dg (by decide) HY.out.dg k;have HA1:=Hd (at_int (c:=c) (HX.out.to hb).rd (by omega) (k:Int) (by omega) (by omega));have HA2:=Hd (at_int (c:=c') (HY.out.to hb).rd (by omega) (k:Int) (by omega) (by omega));rw[show ((k:Int)).toNat=k from by omega]at HA1 HA2;rw[ex.out]at hu HA1;rw[ey.out]at hz HA2;unfold b16 at hu hz
   obtain ⟨d,r',t,hd,hr',et,hdig,hcase⟩:∃(d r':Nat) (t:Int),d<65536/\r'<=1/\(x:Int)-(y:Int)-(r:Int)=t/\d+y+r=x+65536*r'/\((r'=0/\t=(d:Int))∨(r'=1/\t<0/\t+65536=(d:Int))):=by
    by_cases hlt:y+r<=x
    .exact ⟨x-y-r,0,_,by omega,by omega,rfl,by omega,.inl ⟨rfl,by omega⟩⟩
    .exact ⟨x+65536-y-r,1,_,by omega,by omega,rfl,by omega,.inr ⟨rfl,by omega,by omega⟩⟩
   have ht1:-65537<=t:=by omega
   have ht2:t<65536:=by omega
   have NEXTV:val b16 (S++[d])+val b16 (ys.take (k+1))=val b16 (xs.take (k+1))+b16 ^ (k+1)*r':=by
    rw[val_take_succ,val_take_succ,ex.out,ey.out];exact digit_less hS hval hdig
   have NV:=Hd NEXTV;have w1:IntKind.i64.wrap ((x:Int)-(y:Int))=(x:Int)-(y:Int):=IntWalk.i64_in _ (by omega);have w2:IntKind.i64.wrap ((x:Int)-(y:Int)-(r:Int))=t:=by rw[et];exact IntWalk.i64_in _ (by omega)
   have hs1:=hb.size
   have NEXT:∀v' w1,w1.ownsRow w.heap.size 3 1 v' (k+1) (ints .i64 S++[.int .i64 ((d:Nat):Int)])->(wr.alloc (.cells #[.int .i64 ((d:Nat):Int)] 3)).grownBy w1 (Value.slice A1 k c1).ownBlock ->
     ∃(A2:Option Addr) (c2:Nat),v'=.slice A2 (k+1) c2/\w1.ownsRow w.heap.size 3 1 (.slice A2 (k+1) c2) (k+1) (ints .i64 (S++[d]))/\Below w.heap.size w w1:=by
    intro v' w1 hown' hgrow;obtain ⟨A2,c2,rfl⟩:=own_shape hown';refine ⟨A2,c2,rfl,?_,(hb.alloc hs1 _).grown hgrow (by simp;omega) (fun j e=>(hown.lt j e).1)⟩
    simpa [ints]using hown'
   have hownA:=hown.alloc (.cells #[.int .i64 ((d:Nat):Int)] 3);have HN:=Hd NEXT;have HSD:=Hd hdg;clear NEXT NEXTV hb hown ex ey hval hdg hend hdig et
   rcases hcase with ⟨rfl,rfl⟩|⟨rfl,t1,t2⟩
   .clear ht1 ht2
    go_wp2_with fail
    refine HA1.out.mono ?_;rintro e w' ⟨rfl,rfl⟩
    go_wp2_with fail
    refine HA2.out.mono ?_;rintro e w' ⟨rfl,rfl⟩
    go_wp2_with (at_builtin;refine wpList_append_own _ rfl (.tmp 28) (.tmp 30) 113 rfl w.heap.size 3 i0 (.int .i64 0) 1 8 Tryz.underlying113 hi hz0 hz1 hz2 rfl (by decide) (.slice A1 k c1) k _ rfl hownA ⟨wr.heap.size,0,none⟩ 1 1 [.int .i64 ((d:Nat):Int)] rfl rfl (cell_one_new _ _ _) (by simp[Value.oneCell']) (by unfold maxLen;omega) (by omega) (by simp;omega) ?_;intro v' w1 hown' hgrow _;obtain ⟨A2,c2,rfl,n1,n2⟩:=HN.out _ _ hown' hgrow;have N1:=Hd n1;have N2:=Hd n2;clear n1 n2 hown' hgrow)
    go_roundw
    case rel=>exact ⟨k+1,0,S++[d],A2,c2,rfl,by simp,by simp,by omega,by omega,by simp[hS],HSD.out.app (Dg.one (by unfold b16;omega)),NV.out,N1.out,N2.out⟩
    case measure=>simp[intOf];omega
   .go_wp2_with fail
    refine HA1.out.mono ?_;rintro e w' ⟨rfl,rfl⟩
    go_wp2_with fail
    refine HA2.out.mono ?_;rintro e w' ⟨rfl,rfl⟩
    go_wp2_with (at_builtin;refine wpList_append_own _ rfl (.tmp 28) (.tmp 30) 113 rfl w.heap.size 3 i0 (.int .i64 0) 1 8 Tryz.underlying113 hi hz0 hz1 hz2 rfl (by decide) (.slice A1 k c1) k _ rfl hownA ⟨wr.heap.size,0,none⟩ 1 1 [.int .i64 ((d:Nat):Int)] rfl rfl (cell_one_new _ _ _) (by simp[Value.oneCell']) (by unfold maxLen;omega) (by omega) (by simp;omega) ?_;intro v' w1 hown' hgrow _;obtain ⟨A2,c2,rfl,n1,n2⟩:=HN.out _ _ hown' hgrow;have N1:=Hd n1;have N2:=Hd n2;clear n1 n2 hown' hgrow)
    go_roundw
    case rel=>exact ⟨k+1,1,S++[d],A2,c2,rfl,by simp,by simp,by omega,by omega,by simp[hS],HSD.out.app (Dg.one (by unfold b16;omega)),NV.out,N1.out,N2.out⟩
    case measure=>simp[intOf];omega
theorem val_pad {b:Nat}(xs:List Nat)(k:Nat):val b (xs++List.replicate k 0)=val b xs:=by rw[val_append,val_zeros];simp
theorem getD_pad (xs:List Nat)(k j:Nat):(xs++List.replicate k 0).getD j 0=xs.getD j 0:=by
 simp only[List.getD_eq_getElem?_getD,List.getElem?_append]
 split
 .rfl
 .rename_i h
  rw[List.getElem?_eq_none (by omega:xs.length<=j),List.getElem?_replicate]
  split<;>rfl
theorem dg_pad {b:Nat}(hb:0<b){xs:List Nat}(h:Dg b xs)(k:Nat):Dg b (xs++List.replicate k 0):=h.app (fun d hd=>by rw[List.eq_of_mem_replicate hd];exact hb)
theorem cmp_at {b:Nat}(hb:0<b){xs ys:List Nat}{m k:Nat}(hx:Dg b xs)(hy:Dg b ys)(h1:xs.length<=m)(h2:ys.length<=m)(hk:k<m)(hs:∀j,k<j->xs.getD j 0=ys.getD j 0)(hne:xs.getD k 0≠ys.getD k 0) :
  cmpN (val b xs) (val b ys)=cmpN (xs.getD k 0) (ys.getD k 0):=by
 have e1:=val_pad (b:=b) xs (m-xs.length);have e2:=val_pad (b:=b) ys (m-ys.length);have l1:(xs++List.replicate (m-xs.length) 0).length=m:=by simp;omega
 have l2:(ys++List.replicate (m-ys.length) 0).length=m:=by simp;omega
 rw[<-e1,<-e2,<-getD_pad xs (m-xs.length) k,<-getD_pad ys (m-ys.length) k];rw[<-getD_pad xs (m-xs.length) k,<-getD_pad ys (m-ys.length) k]at hne;exact cmpN_of (dg_pad hb hx _) (dg_pad hb hy _) (by rw[l1,l2]) (by rw[l1];exact hk) (fun j hj _=>by rw[getD_pad,getD_pad];exact hs j hj) hne
theorem eq_at {b:Nat}{xs ys:List Nat}{m:Nat}(h1:xs.length<=m)(h2:ys.length<=m)(hs:∀j,xs.getD j 0=ys.getD j 0):val b xs=val b ys:=by
 rw[<-val_pad (b:=b) xs (m-xs.length),<-val_pad (b:=b) ys (m-ys.length)];rw[eq_of_getD (xs:=xs++List.replicate (m-xs.length) 0) (ys:=ys++List.replicate (m-ys.length) 0) (by simp;omega) (fun j _=>by rw[getD_pad,getD_pad];exact hs j)]
theorem rcmp_any {A A':Option Addr}{c c':Nat}{xs ys:List Nat}{w:World}(hx:Hr w A c xs)(hy:Hr w A' c' ys) :
  Calls Tryz.prog 140 #[.slice A xs.length c,.slice A' ys.length c'] w fun e w'=>e=.returned (.int .i64 (cmpN (val b16 xs) (val b16 ys)))/\w'=w:=by
 obtain ⟨n,en⟩:∃n,Hid (cmpN (val b16 xs) (val b16 ys)=n):=⟨_,rfl⟩
 rw[en.out];have HX:=Hd hx;have HY:=Hd hy;have hxs:=hx.small;have hys:=hy.small;clear hx hy;obtain ⟨m,em⟩:∃m,m=max xs.length ys.length:=⟨_,rfl⟩
 have hm1:xs.length<=m:=by omega
 have hm2:ys.length<=m:=by omega
 have hm3:m<=4294967296:=by omega
 have EM:=Hd em;clear em
 rcases Nat.lt_or_ge xs.length ys.length with h0|h0
 all_goals
  go_enter Tryz.func140,Tryz.ntmps140
  go_wp2
  go_loopw [5] (fun i wr=>∃k:Nat,i=.int .i64 ((k:Int)-1)/\k<=m/\(∀j,k<=j->xs.getD j 0=ys.getD j 0)/\wr=w) (fun i _=>((intOf i)+1).toNat)
  case atStart=>exact ⟨m,by have:=EM.out;congr 1;omega,Nat.le_refl _,(fun j hj=>by rw[getD_over (by omega),getD_over (by omega)]),rfl⟩
  case round =>
   obtain ⟨k,hik,hk,hs,rfl⟩:=hrel
   rcases Nat.eq_zero_or_pos k with rfl|hk0
   .obtain rfl:=hik;have hn:(0:Int)=n:=by rw[<-en.out,eq_at hm1 hm2 (fun j=>hs j (Nat.zero_le _)),cmpN_refl]
    subst hn;clear hs hk;go_wp2
    go_ret
    exact ⟨rfl,rfl⟩
   .obtain ⟨q,rfl⟩:∃q,k=q+1:=⟨k-1,by omega⟩
    rw[show (((q+1:Nat):Int)-1)=(q:Int) from by omega]at hik;subst hik;obtain ⟨x,ex⟩:∃x,Hid (xs.getD q 0=x):=⟨_,rfl⟩
    obtain ⟨y,ey⟩:∃y,Hid (ys.getD q 0=y):=⟨_,rfl⟩
    have hu:=getD_dg (by decide) HX.out.dg q;have hz:=getD_dg (by decide) HY.out.dg q;have HA1:=Hd (at_int (c:=c) HX.out.rd (by omega) (q:Int) (by omega) (by omega));have HA2:=Hd (at_int (c:=c') HY.out.rd (by omega) (q:Int) (by omega) (by omega));rw[show ((q:Int)).toNat=q from by omega]at HA1 HA2;rw[ex.out]at hu HA1;rw[ey.out]at hz HA2;unfold b16 at hu hz
    have HE:Hid (x≠y->n=cmpN x y):=fun hne=>by
     rw[<-en.out,cmp_at (by decide) HX.out.dg HY.out.dg hm1 hm2 (by omega:q<m) (fun j hj=>hs j hj) (by rw[ex.out,ey.out];exact hne),ex.out,ey.out]
    have HS:Hid (x=y->∀j,q<=j->xs.getD j 0=ys.getD j 0):=fun he j hj=>by
     rcases Nat.eq_or_lt_of_le hj with rfl|hlt
     .rw[ex.out,ey.out,he]
     .exact hs j hlt
    clear hs ex ey
    rcases Nat.lt_trichotomy x y with hlt|heq|hgt
    .have hn:n=-1:=by rw[HE.out (by omega),cmpN_lt hlt]
     subst hn;clear hk
     go_wp2_with fail
     refine HA1.out.mono ?_;rintro e w' ⟨rfl,rfl⟩
     go_wp2_with fail
     refine HA2.out.mono ?_;rintro e w' ⟨rfl,rfl⟩;go_wp2
     go_ret
     exact ⟨rfl,rfl⟩
    .subst heq
     go_wp2_with fail
     refine HA1.out.mono ?_;rintro e w' ⟨rfl,rfl⟩
     go_wp2_with fail
     refine HA2.out.mono ?_;rintro e w' ⟨rfl,rfl⟩
     go_wp2_with fail
     refine HA1.out.mono ?_;rintro e w' ⟨rfl,rfl⟩
     go_wp2_with fail
     refine HA2.out.mono ?_;rintro e w' ⟨rfl,rfl⟩;go_wp2
     go_roundw
     case rel=>exact ⟨q,by simp,by omega,HS.out trivial,trivial⟩
     case measure=>simp[intOf]
    .have hn:n=1:=by rw[HE.out (by omega),cmpN_gt hgt]
     subst hn;clear hk
     go_wp2_with fail
     refine HA1.out.mono ?_;rintro e w' ⟨rfl,rfl⟩
     go_wp2_with fail
     refine HA2.out.mono ?_;rintro e w' ⟨rfl,rfl⟩
     go_wp2_with fail
     refine HA1.out.mono ?_;rintro e w' ⟨rfl,rfl⟩
     go_wp2_with fail
     refine HA2.out.mono ?_;rintro e w' ⟨rfl,rfl⟩;go_wp2
     go_ret
     exact ⟨rfl,rfl⟩
theorem Two.toB {W V:World}{g B:Nat}{a b:Value}(h:Two W g a b)(hb:Below B W V)(hg:g<B):Two V g a b :=
 ⟨(hb.cell (p:=⟨g,0,none⟩) hg).trans h.c0,(hb.cell (p:=⟨g,1,none⟩) hg).trans h.c1,(hb.frozen (p:=⟨g,0,none⟩) hg).trans h.f0,(hb.frozen (p:=⟨g,1,none⟩) hg).trans h.f1,Nat.lt_of_lt_of_le h.lt hb.size⟩
theorem halves_r {A:Option Addr}{c:Nat}{xs:List Nat}{w:World}(hx:Arg w A c xs):Calls Tryz.prog 138 #[.slice A xs.length c] w (HRet w (val b32 xs)):=halves_any hx
theorem of_r (neg:Bool){A:Option Addr}{c n:Nat}{w:World}(hr:Hr w A c (dig b16 n)):Calls Tryz.prog 136 #[.bool neg,.slice A (dig b16 n).length c] w (ZR w (zof neg n)):=by
 have h:=of_any neg hr.rd hr.dg hr.le hr.cap (Nat.le_trans hr.small (by decide));rw[val_dig b16_one]at h;exact h.mono fun _ _ h=>h.zr
theorem mul_r {A A':Option Addr}{c c' m n k l:Nat}{w:World}(hx:Hr w A c (dig b16 m))(hy:Hr w A' c' (dig b16 n))(h1:m<b16 ^ k)(h2:n<b16 ^ l)(hk:k+l<=1000000) :
  Calls Tryz.prog 137 #[.slice A (dig b16 m).length c,.slice A' (dig b16 n).length c'] w (HRet w (m*n)):=by
 have h:=rmul_any hx hy (Nat.le_trans (Nat.add_le_add (dig_length_le b16_one h1) (dig_length_le b16_one h2)) hk);rw[val_dig b16_one,val_dig b16_one]at h;exact h
theorem rneg_any (n:Bool){A:Option Addr}{c:Nat}{xs:List Nat}{w:World}(hx:Arg w A c xs)(sx:xs.length<=10000) :
  Calls Tryz.prog 130 #[.agg #[.bool n,.slice A xs.length c]] w (ZR w (zof (!n) (val b32 xs))):=by
 obtain ⟨W0,hW0⟩:∃W0,W0=((w.alloc (.cells #[.bool n,.slice A xs.length c] 30)).alloc (.cells #[.bool false,.slice none 0 0] 30)):=⟨_,rfl⟩
 have hb:Below w.heap.size w W0:=by rw[hW0];exact bRR.alloc (by simp) _
 have tX:Two W0 (w.heap.size) (.bool n) (.slice A xs.length c):=by
  have h:=Two.new w (.bool n) (.slice A xs.length c) 30;rw[hW0];exact h.alloc _
 have tR:Two W0 (w.heap.size+1) (.bool false) (.slice none 0 0):=by
  have h:=Two.new (w.alloc (.cells #[.bool n,.slice A xs.length c] 30)) (.bool false) (.slice none 0 0) 30;rw[szA]at h;rw[hW0];exact h
 have HW0:=Hd hW0;have HB0:=Hd hb;have HX:=Hd hx;have hBW:w.heap.size+1<=W0.heap.size:=by rw[hW0];simp
 have Dsx:val b32 xs<b16 ^ (2*xs.length):=by rw[<-pow_2k];exact val_lt hx.dg
 clear hW0 hb hx
 go_enter Tryz.func130,Tryz.ntmps130
 go_wp2_with fail
 rw[<-HW0.out];refine wp_region_plan (S:=fun w'=>Below (w.heap.size+1) W0 w') [(0,true),(1,true),(2,true),(3,true),(4,true),(5,false),(6,false),(7,false)] (by kernel_rfl) (by kernel_rfl) (Below.refl _ _).drew ?_;have HB:=(Below.refl W0.heap.size W0).drew
 repeat (refine plan_take (v:=?_) rfl (by rfl) ?_ ?_;rotate_left;(focus (intro w' hS;have k0:=(tX.toB hS (by omega)).c0;have k1:=(tX.toB hS (by omega)).c1;go_simp;try with_reducible rfl));simp only[Act.put,pqA,pqB,pqC])
 refine plan_call rfl (by rfl) (fun K hK=>?_);go_simp
 refine (halves_r (HX.out.to (HB0.out.trans (HB.mono HB0.out.size)))).mono ?_;rintro e V ⟨A1,c1,rfl,r1,l1,m1,bb⟩;replace HB:=Bxb HB bb;have H1:=Hr.of_ret r1 l1 m1 Dsx (by omega);clear r1 l1 m1 bb;refine hK.out _ _ (HB.mono hBW) ?_;clear hK K;refine plan_call rfl (by rfl) (fun K hK=>?_);go_simp
 refine (of_r (!n) H1).mono ?_;rintro e V ⟨xr,yr,rfl,rz,bb⟩;replace HB:=Bxb HB bb;clear H1 bb;refine hK.out _ _ (HB.mono hBW) ?_;clear hK K;refine plan_call rfl (by rfl) (fun K hK=>?_);refine wp_store_two (by rfl) (by rfl) (tR.to HB) Fs.nil rz.fs (fun V u kp=>?_);have HF:=kp.zc _ _ _ rz;have HE:=kp.bel _ _ (HB0.out.trans (HB.mono HB0.out.size)) (by omega);refine hK.out _ _ (kp.bel _ _ (HB.mono hBW) (Nat.le_refl _)) ?_;clear hK K kp;simp only[Act.put,pqA,pqB,pqC];refine plan_done ?_;have HF2:=Hd HF;have HE2:=Hd HE;clear HF HE;go_wp2
 exact bodyPost_ret (v:=.agg #[xr,yr]) (by simp[results,Tryz.f130,go_sem,u.c0,u.c1]) rfl ⟨xr,yr,rfl,HF2.out,HE2.out⟩
theorem rMul_any (n:Bool)(m:Bool){A A':Option Addr}{c c':Nat}{xs ys:List Nat}{w:World}(hx:Arg w A c xs)(sx:xs.length<=10000)(hy:Arg w A' c' ys)(sy:ys.length<=10000) :
  Calls Tryz.prog 109 #[.agg #[.bool n,.slice A xs.length c],.agg #[.bool m,.slice A' ys.length c']] w (ZR w (zof (!(n==m)) (val b32 xs*val b32 ys))):=by
 obtain ⟨W0,hW0⟩:∃W0,W0=(((w.alloc (.cells #[.bool n,.slice A xs.length c] 30)).alloc (.cells #[.bool m,.slice A' ys.length c'] 30)).alloc (.cells #[.bool false,.slice none 0 0] 30)):=⟨_,rfl⟩
 have hb:Below w.heap.size w W0:=by rw[hW0];exact (bRR.alloc (by simp) _).alloc (by simp;omega) _
 have tX:Two W0 (w.heap.size) (.bool n) (.slice A xs.length c):=by
  have h:=Two.new w (.bool n) (.slice A xs.length c) 30;rw[hW0];exact (h.alloc _).alloc _
 have tY:Two W0 (w.heap.size+1) (.bool m) (.slice A' ys.length c'):=by
  have h:=Two.new (w.alloc (.cells #[.bool n,.slice A xs.length c] 30)) (.bool m) (.slice A' ys.length c') 30;rw[szA]at h;rw[hW0];exact h.alloc _
 have tR:Two W0 (w.heap.size+1+1) (.bool false) (.slice none 0 0):=by
  have h:=Two.new ((w.alloc (.cells #[.bool n,.slice A xs.length c] 30)).alloc (.cells #[.bool m,.slice A' ys.length c'] 30)) (.bool false) (.slice none 0 0) 30;rw[szA,szA]at h;rw[hW0];exact h
 have HW0:=Hd hW0;have HB0:=Hd hb;have HX:=Hd hx;have HY:=Hd hy;have hBW:w.heap.size+1+1<=W0.heap.size:=by rw[hW0];simp
 have Dsx:val b32 xs<b16 ^ (2*xs.length):=by rw[<-pow_2k];exact val_lt hx.dg
 have Dsy:val b32 ys<b16 ^ (2*ys.length):=by rw[<-pow_2k];exact val_lt hy.dg
 clear hW0 hb hx hy;obtain ⟨s,hs⟩:∃s,(!(n==m))=s:=⟨_,rfl⟩
 rw[hs]
 go_enter Tryz.func109,Tryz.ntmps109
 go_wp2_with fail
 rw[<-HW0.out];refine wp_region_plan (S:=fun w'=>Below (w.heap.size+1+1) W0 w') [(0,true),(1,true),(2,true),(3,true),(4,true),(5,true),(6,true),(8,true),(9,true),(7,false),(10,false),(11,false),(12,false),(13,false)] (by kernel_rfl) (by kernel_rfl) (Below.refl _ _).drew ?_;have HB:=(Below.refl W0.heap.size W0).drew
 repeat (refine plan_take (v:=?_) rfl (by rfl) ?_ ?_;rotate_left;(focus (intro w' hS;have k0:=(tX.toB hS (by omega)).c0;have k1:=(tX.toB hS (by omega)).c1;have k2:=(tY.toB hS (by omega)).c0;have k3:=(tY.toB hS (by omega)).c1;go_simp;try with_reducible rfl));simp only[Act.put,pqA,pqB,pqC])
 refine plan_call rfl (by rfl) (fun K hK=>?_);go_simp
 refine (halves_r (HX.out.to (HB0.out.trans (HB.mono HB0.out.size)))).mono ?_;rintro e V ⟨A1,c1,rfl,r1,l1,m1,bb⟩;replace HB:=Bxb HB bb;have H1:=Hr.of_ret r1 l1 m1 Dsx (by omega);clear r1 l1 m1 bb;refine hK.out _ _ (HB.mono hBW) ?_;clear hK K;refine plan_call rfl (by rfl) (fun K hK=>?_);go_simp
 refine (halves_r (HY.out.to (HB0.out.trans (HB.mono HB0.out.size)))).mono ?_;rintro e V ⟨A2,c2,rfl,r1,l1,m1,bb⟩;replace HB:=Bxb HB bb;have H2:=Hr.of_ret r1 l1 m1 Dsy (by omega);replace H1:=H1.to bb;clear r1 l1 m1 bb;refine hK.out _ _ (HB.mono hBW) ?_;clear hK K;refine plan_call rfl (by rfl) (fun K hK=>?_);go_simp
 refine (mul_r H1 H2 Dsx Dsy (by omega)).mono ?_;rintro e V ⟨A3,c3,rfl,r1,l1,m1,bb⟩;replace HB:=Bxb HB bb;have H3:=Hr.of_ret r1 l1 m1 (pow_cut Dsx Dsy) (by omega);clear r1 l1 m1 bb H1 H2;refine hK.out _ _ (HB.mono hBW) ?_;clear hK K;refine plan_call rfl (by rfl) (fun K hK=>?_);go_simp
 refine (of_r s H3).mono ?_;rintro e V ⟨xr,yr,rfl,rz,bb⟩;replace HB:=Bxb HB bb;clear H3 bb;refine hK.out _ _ (HB.mono hBW) ?_;clear hK K;refine plan_call rfl (by rfl) (fun K hK=>?_);refine wp_store_two (by rfl) (by rfl) (tR.to HB) Fs.nil rz.fs (fun V u kp=>?_);have HF:=kp.zc _ _ _ rz;have HE:=kp.bel _ _ (HB0.out.trans (HB.mono HB0.out.size)) (by omega);refine hK.out _ _ (kp.bel _ _ (HB.mono hBW) (Nat.le_refl _)) ?_;clear hK K kp;simp only[Act.put,pqA,pqB,pqC];refine plan_done ?_;have HF2:=Hd HF;have HE2:=Hd HE;clear HF HE;go_wp2
 exact bodyPost_ret (v:=.agg #[xr,yr]) (by simp[results,Tryz.f109,go_sem,u.c0,u.c1]) rfl ⟨xr,yr,rfl,HF2.out,HE2.out⟩
theorem add_r {A A':Option Addr}{c c' m n:Nat}{w:World}(hx:Hr w A c (dig b16 m))(hy:Hr w A' c' (dig b16 n)) :
  Calls Tryz.prog 139 #[.slice A (dig b16 m).length c,.slice A' (dig b16 n).length c'] w (HRet w (m+n)):=by
 have h:=radd_any hx hy;rw[val_dig b16_one,val_dig b16_one]at h;exact h
theorem sub_r {A A':Option Addr}{c c' m n:Nat}{w:World}(hx:Hr w A c (dig b16 m))(hy:Hr w A' c' (dig b16 n))(h:n<=m) :
  Calls Tryz.prog 141 #[.slice A (dig b16 m).length c,.slice A' (dig b16 n).length c'] w (HRet w (m-n)):=by
 have h:=rsub_any hx hy (by rw[val_dig b16_one,val_dig b16_one];exact h);rw[val_dig b16_one,val_dig b16_one]at h;exact h
theorem cmp_r {A A':Option Addr}{c c' m n:Nat}{w:World}(hx:Hr w A c (dig b16 m))(hy:Hr w A' c' (dig b16 n)) :
  Calls Tryz.prog 140 #[.slice A (dig b16 m).length c,.slice A' (dig b16 n).length c'] w fun e w'=>e=.returned (.int .i64 (cmpN m n))/\w'=w:=by
 have h:=rcmp_any hx hy;rw[val_dig b16_one,val_dig b16_one]at h;exact h
theorem pow_max {b k l m n:Nat}(hb:2<=b)(h1:m<b ^ k)(h2:n<b ^ l):m+n<b ^ (k+l+1):=by
 have e1:b ^ k<=b ^ (k+l):=Nat.pow_le_pow_right (by omega) (by omega);have e2:b ^ l<=b ^ (k+l):=Nat.pow_le_pow_right (by omega) (by omega);have e3:b ^ (k+l)*2<=b ^ (k+l)*b:=Nat.mul_le_mul_left _ hb;rw[Nat.pow_succ];omega
theorem rAdd_same (n:Bool){A A':Option Addr}{c c':Nat}{xs ys:List Nat}{w:World}(hx:Arg w A c xs)(sx:xs.length<=10000)(hy:Arg w A' c' ys)(sy:ys.length<=10000) :
  Calls Tryz.prog 110 #[.agg #[.bool n,.slice A xs.length c],.agg #[.bool n,.slice A' ys.length c']] w (ZR w (zof n (val b32 xs+val b32 ys))):=by
 obtain ⟨W0,hW0⟩:∃W0,W0=(((w.alloc (.cells #[.bool n,.slice A xs.length c] 30)).alloc (.cells #[.bool n,.slice A' ys.length c'] 30)).alloc (.cells #[.bool false,.slice none 0 0] 30)):=⟨_,rfl⟩
 have hb:Below w.heap.size w W0:=by rw[hW0];exact (bRR.alloc (by simp) _).alloc (by simp;omega) _
 have tX:Two W0 (w.heap.size) (.bool n) (.slice A xs.length c):=by
  have h:=Two.new w (.bool n) (.slice A xs.length c) 30;rw[hW0];exact (h.alloc _).alloc _
 have tY:Two W0 (w.heap.size+1) (.bool n) (.slice A' ys.length c'):=by
  have h:=Two.new (w.alloc (.cells #[.bool n,.slice A xs.length c] 30)) (.bool n) (.slice A' ys.length c') 30;rw[szA]at h;rw[hW0];exact h.alloc _
 have tR:Two W0 (w.heap.size+1+1) (.bool false) (.slice none 0 0):=by
  have h:=Two.new ((w.alloc (.cells #[.bool n,.slice A xs.length c] 30)).alloc (.cells #[.bool n,.slice A' ys.length c'] 30)) (.bool false) (.slice none 0 0) 30;rw[szA,szA]at h;rw[hW0];exact h
 have HW0:=Hd hW0;have HB0:=Hd hb;have HX:=Hd hx;have HY:=Hd hy;have hBW:w.heap.size+1+1<=W0.heap.size:=by rw[hW0];simp
 have Dsx:val b32 xs<b16 ^ (2*xs.length):=by rw[<-pow_2k];exact val_lt hx.dg
 have Dsy:val b32 ys<b16 ^ (2*ys.length):=by rw[<-pow_2k];exact val_lt hy.dg
 clear hW0 hb hx hy;have hnn:(n==n)=true:=by simp
 go_enter Tryz.func110,Tryz.ntmps110
 go_wp2_with fail
 rw[<-HW0.out];refine wp_region_plan (S:=fun w'=>Below (w.heap.size+1+1) W0 w') [(0,true),(1,true),(3,true),(4,true),(2,false),(5,false),(6,true),(7,true)] (by kernel_rfl) (by kernel_rfl) (Below.refl _ _).drew ?_;have HB:=(Below.refl W0.heap.size W0).drew
 repeat (refine plan_take (v:=?_) rfl (by rfl) ?_ ?_;rotate_left;(focus (intro w' hS;have k0:=(tX.toB hS (by omega)).c0;have k1:=(tX.toB hS (by omega)).c1;have k2:=(tY.toB hS (by omega)).c0;have k3:=(tY.toB hS (by omega)).c1;go_simp;try with_reducible rfl));simp only[Act.put,pqA,pqB,pqC])
 refine plan_call rfl (by rfl) (fun K hK=>?_);go_simp
 refine (halves_r (HX.out.to (HB0.out.trans (HB.mono HB0.out.size)))).mono ?_;rintro e V ⟨A1,c1,rfl,r1,l1,m1,bb⟩;replace HB:=Bxb HB bb;have H1:=Hr.of_ret r1 l1 m1 Dsx (by omega);clear r1 l1 m1 bb;refine hK.out _ _ (HB.mono hBW) ?_;clear hK K;refine plan_call rfl (by rfl) (fun K hK=>?_);go_simp
 refine (halves_r (HY.out.to (HB0.out.trans (HB.mono HB0.out.size)))).mono ?_;rintro e V ⟨A2,c2,rfl,r1,l1,m1,bb⟩;replace HB:=Bxb HB bb;have H2:=Hr.of_ret r1 l1 m1 Dsy (by omega);replace H1:=H1.to bb;clear r1 l1 m1 bb;refine hK.out _ _ (HB.mono hBW) ?_;clear hK K
 repeat (refine plan_take (v:=?_) rfl (by rfl) ?_ ?_;rotate_left;(focus (intro w' hS;have k0:=(tX.toB hS (by omega)).c0;have k1:=(tX.toB hS (by omega)).c1;have k2:=(tY.toB hS (by omega)).c0;have k3:=(tY.toB hS (by omega)).c1;go_simp;try with_reducible rfl));simp only[Act.put,pqA,pqB,pqC])
 refine plan_done ?_;have k1:=(tX.to HB).c0;have k2:=(tX.to HB).c1;have k3:=(tY.to HB).c0;have k4:=(tY.to HB).c1
 go_wp2_with fail
 clear k1 k2 k3 k4;refine wp_region_plan (S:=fun w'=>Below (w.heap.size+1+1) W0 w') [(0,true),(1,true),(2,true),(3,true),(4,false),(5,false),(6,false)] (by kernel_rfl) (by kernel_rfl) (HB.mono hBW).drew ?_;replace HB:=HB.drew
 repeat (refine plan_take (v:=?_) rfl (by rfl) ?_ ?_;rotate_left;(focus (intro w' hS;have k0:=(tX.toB hS (by omega)).c0;have k1:=(tX.toB hS (by omega)).c1;have k2:=(tY.toB hS (by omega)).c0;have k3:=(tY.toB hS (by omega)).c1;go_simp;try with_reducible rfl));simp only[Act.put,pqA,pqB,pqC])
 replace H1:=H1.to (Below.refl _ _).drew;replace H2:=H2.to (Below.refl _ _).drew;refine plan_call rfl (by rfl) (fun K hK=>?_);go_simp
 refine (add_r H1 H2).mono ?_;rintro e V ⟨A3,c3,rfl,r1,l1,m1,bb⟩;replace HB:=Bxb HB bb;have H3:=Hr.of_ret r1 l1 m1 (pow_max (by decide) Dsx Dsy) (by omega);clear r1 l1 m1 bb H1 H2;refine hK.out _ _ (HB.mono hBW) ?_;clear hK K;refine plan_call rfl (by rfl) (fun K hK=>?_);go_simp
 refine (of_r n H3).mono ?_;rintro e V ⟨xr,yr,rfl,rz,bb⟩;replace HB:=Bxb HB bb;clear H3 bb;refine hK.out _ _ (HB.mono hBW) ?_;clear hK K;refine plan_call rfl (by rfl) (fun K hK=>?_);refine wp_store_two (by rfl) (by rfl) (tR.to HB) Fs.nil rz.fs (fun V u kp=>?_);have HF:=kp.zc _ _ _ rz;have HE:=kp.bel _ _ (HB0.out.trans (HB.mono HB0.out.size)) (by omega);refine hK.out _ _ (kp.bel _ _ (HB.mono hBW) (Nat.le_refl _)) ?_;clear hK K kp;simp only[Act.put,pqA,pqB,pqC];refine plan_done ?_;have HF2:=Hd HF;have HE2:=Hd HE;clear HF HE;go_wp2
 exact bodyPost_ret (v:=.agg #[xr,yr]) (by simp[results,Tryz.f110,go_sem,u.c0,u.c1]) rfl ⟨xr,yr,rfl,HF2.out,HE2.out⟩
theorem rAdd_ge (n:Bool)(m:Bool){A A':Option Addr}{c c':Nat}{xs ys:List Nat}{w:World}(hx:Arg w A c xs)(sx:xs.length<=10000)(hy:Arg w A' c' ys)(sy:ys.length<=10000)(hnm:(n==m)=false)(hge:val b32 ys<=val b32 xs) :
  Calls Tryz.prog 110 #[.agg #[.bool n,.slice A xs.length c],.agg #[.bool m,.slice A' ys.length c']] w (ZR w (zof n (val b32 xs-val b32 ys))):=by
 obtain ⟨W0,hW0⟩:∃W0,W0=(((w.alloc (.cells #[.bool n,.slice A xs.length c] 30)).alloc (.cells #[.bool m,.slice A' ys.length c'] 30)).alloc (.cells #[.bool false,.slice none 0 0] 30)):=⟨_,rfl⟩
 have hb:Below w.heap.size w W0:=by rw[hW0];exact (bRR.alloc (by simp) _).alloc (by simp;omega) _
 have tX:Two W0 (w.heap.size) (.bool n) (.slice A xs.length c):=by
  have h:=Two.new w (.bool n) (.slice A xs.length c) 30;rw[hW0];exact (h.alloc _).alloc _
 have tY:Two W0 (w.heap.size+1) (.bool m) (.slice A' ys.length c'):=by
  have h:=Two.new (w.alloc (.cells #[.bool n,.slice A xs.length c] 30)) (.bool m) (.slice A' ys.length c') 30;rw[szA]at h;rw[hW0];exact h.alloc _
 have tR:Two W0 (w.heap.size+1+1) (.bool false) (.slice none 0 0):=by
  have h:=Two.new ((w.alloc (.cells #[.bool n,.slice A xs.length c] 30)).alloc (.cells #[.bool m,.slice A' ys.length c'] 30)) (.bool false) (.slice none 0 0) 30;rw[szA,szA]at h;rw[hW0];exact h
 have HW0:=Hd hW0;have HB0:=Hd hb;have HX:=Hd hx;have HY:=Hd hy;have hBW:w.heap.size+1+1<=W0.heap.size:=by rw[hW0];simp
 have Dsx:val b32 xs<b16 ^ (2*xs.length):=by rw[<-pow_2k];exact val_lt hx.dg
 have Dsy:val b32 ys<b16 ^ (2*ys.length):=by rw[<-pow_2k];exact val_lt hy.dg
 clear hW0 hb hx hy;obtain ⟨o,ho⟩:∃o,cmpN (val b32 xs) (val b32 ys)=o:=⟨_,rfl⟩
 have ho0:0<=o:=by rw[<-ho];unfold cmpN;split<;>(try split)<;>omega
 have HO:=Hd ho;have HGE:=Hd hge;clear ho hge
 go_enter Tryz.func110,Tryz.ntmps110
 go_wp2_with fail
 rw[<-HW0.out];refine wp_region_plan (S:=fun w'=>Below (w.heap.size+1+1) W0 w') [(0,true),(1,true),(3,true),(4,true),(2,false),(5,false),(6,true),(7,true)] (by kernel_rfl) (by kernel_rfl) (Below.refl _ _).drew ?_;have HB:=(Below.refl W0.heap.size W0).drew
 repeat (refine plan_take (v:=?_) rfl (by rfl) ?_ ?_;rotate_left;(focus (intro w' hS;have k0:=(tX.toB hS (by omega)).c0;have k1:=(tX.toB hS (by omega)).c1;have k2:=(tY.toB hS (by omega)).c0;have k3:=(tY.toB hS (by omega)).c1;go_simp;try with_reducible rfl));simp only[Act.put,pqA,pqB,pqC])
 refine plan_call rfl (by rfl) (fun K hK=>?_);go_simp
 refine (halves_r (HX.out.to (HB0.out.trans (HB.mono HB0.out.size)))).mono ?_;rintro e V ⟨A1,c1,rfl,r1,l1,m1,bb⟩;replace HB:=Bxb HB bb;have H1:=Hr.of_ret r1 l1 m1 Dsx (by omega);clear r1 l1 m1 bb;refine hK.out _ _ (HB.mono hBW) ?_;clear hK K;refine plan_call rfl (by rfl) (fun K hK=>?_);go_simp
 refine (halves_r (HY.out.to (HB0.out.trans (HB.mono HB0.out.size)))).mono ?_;rintro e V ⟨A2,c2,rfl,r1,l1,m1,bb⟩;replace HB:=Bxb HB bb;have H2:=Hr.of_ret r1 l1 m1 Dsy (by omega);replace H1:=H1.to bb;clear r1 l1 m1 bb;refine hK.out _ _ (HB.mono hBW) ?_;clear hK K
 repeat (refine plan_take (v:=?_) rfl (by rfl) ?_ ?_;rotate_left;(focus (intro w' hS;have k0:=(tX.toB hS (by omega)).c0;have k1:=(tX.toB hS (by omega)).c1;have k2:=(tY.toB hS (by omega)).c0;have k3:=(tY.toB hS (by omega)).c1;go_simp;try with_reducible rfl));simp only[Act.put,pqA,pqB,pqC])
 refine plan_done ?_;have k1:=(tX.to HB).c0;have k2:=(tX.to HB).c1;have k3:=(tY.to HB).c0;have k4:=(tY.to HB).c1
 go_wp2_with fail
 have HC:=cmp_r H1 H2;rw[HO.out]at HC;refine HC.mono ?_;rintro e V2 ⟨rfl,rfl⟩;clear HC
 go_wp2_with fail
 clear k1 k2 k3 k4;refine wp_region_plan (S:=fun w'=>Below (w.heap.size+1+1) W0 w') [(0,true),(1,true),(2,true),(3,true),(4,false),(5,false),(6,false)] (by kernel_rfl) (by kernel_rfl) (HB.mono hBW).drew ?_;replace HB:=HB.drew
 repeat (refine plan_take (v:=?_) rfl (by rfl) ?_ ?_;rotate_left;(focus (intro w' hS;have k0:=(tX.toB hS (by omega)).c0;have k1:=(tX.toB hS (by omega)).c1;have k2:=(tY.toB hS (by omega)).c0;have k3:=(tY.toB hS (by omega)).c1;go_simp;try with_reducible rfl));simp only[Act.put,pqA,pqB,pqC])
 replace H1:=H1.to (Below.refl _ _).drew;replace H2:=H2.to (Below.refl _ _).drew;refine plan_call rfl (by rfl) (fun K hK=>?_);go_simp
 refine (sub_r H1 H2 HGE.out).mono ?_;rintro e V ⟨A3,c3,rfl,r1,l1,m1,bb⟩;replace HB:=Bxb HB bb;have H3:=Hr.of_ret r1 l1 m1 (Nat.lt_of_le_of_lt (Nat.sub_le _ _) Dsx) (by omega);clear r1 l1 m1 bb H1 H2;refine hK.out _ _ (HB.mono hBW) ?_;clear hK K;refine plan_call rfl (by rfl) (fun K hK=>?_);go_simp
 refine (of_r n H3).mono ?_;rintro e V ⟨xr,yr,rfl,rz,bb⟩;replace HB:=Bxb HB bb;clear H3 bb;refine hK.out _ _ (HB.mono hBW) ?_;clear hK K;refine plan_call rfl (by rfl) (fun K hK=>?_);refine wp_store_two (by rfl) (by rfl) (tR.to HB) Fs.nil rz.fs (fun V u kp=>?_);have HF:=kp.zc _ _ _ rz;have HE:=kp.bel _ _ (HB0.out.trans (HB.mono HB0.out.size)) (by omega);refine hK.out _ _ (kp.bel _ _ (HB.mono hBW) (Nat.le_refl _)) ?_;clear hK K kp;simp only[Act.put,pqA,pqB,pqC];refine plan_done ?_;have HF2:=Hd HF;have HE2:=Hd HE;clear HF HE;go_wp2
 exact bodyPost_ret (v:=.agg #[xr,yr]) (by simp[results,Tryz.f110,go_sem,u.c0,u.c1]) rfl ⟨xr,yr,rfl,HF2.out,HE2.out⟩
theorem rAdd_lt (n:Bool)(m:Bool){A A':Option Addr}{c c':Nat}{xs ys:List Nat}{w:World}(hx:Arg w A c xs)(sx:xs.length<=10000)(hy:Arg w A' c' ys)(sy:ys.length<=10000)(hnm:(n==m)=false)(hlt:val b32 xs<val b32 ys) :
  Calls Tryz.prog 110 #[.agg #[.bool n,.slice A xs.length c],.agg #[.bool m,.slice A' ys.length c']] w (ZR w (zof m (val b32 ys-val b32 xs))):=by
 obtain ⟨W0,hW0⟩:∃W0,W0=(((w.alloc (.cells #[.bool n,.slice A xs.length c] 30)).alloc (.cells #[.bool m,.slice A' ys.length c'] 30)).alloc (.cells #[.bool false,.slice none 0 0] 30)):=⟨_,rfl⟩
 have hb:Below w.heap.size w W0:=by rw[hW0];exact (bRR.alloc (by simp) _).alloc (by simp;omega) _
 have tX:Two W0 (w.heap.size) (.bool n) (.slice A xs.length c):=by
  have h:=Two.new w (.bool n) (.slice A xs.length c) 30;rw[hW0];exact (h.alloc _).alloc _
 have tY:Two W0 (w.heap.size+1) (.bool m) (.slice A' ys.length c'):=by
  have h:=Two.new (w.alloc (.cells #[.bool n,.slice A xs.length c] 30)) (.bool m) (.slice A' ys.length c') 30;rw[szA]at h;rw[hW0];exact h.alloc _
 have tR:Two W0 (w.heap.size+1+1) (.bool false) (.slice none 0 0):=by
  have h:=Two.new ((w.alloc (.cells #[.bool n,.slice A xs.length c] 30)).alloc (.cells #[.bool m,.slice A' ys.length c'] 30)) (.bool false) (.slice none 0 0) 30;rw[szA,szA]at h;rw[hW0];exact h
 have HW0:=Hd hW0;have HB0:=Hd hb;have HX:=Hd hx;have HY:=Hd hy;have hBW:w.heap.size+1+1<=W0.heap.size:=by rw[hW0];simp
 have Dsx:val b32 xs<b16 ^ (2*xs.length):=by rw[<-pow_2k];exact val_lt hx.dg
 have Dsy:val b32 ys<b16 ^ (2*ys.length):=by rw[<-pow_2k];exact val_lt hy.dg
 clear hW0 hb hx hy;have HO:Hid (cmpN (val b32 xs) (val b32 ys)=-1):=cmpN_lt hlt;have HGE:=Hd (Nat.le_of_lt hlt);clear hlt
 go_enter Tryz.func110,Tryz.ntmps110
 go_wp2_with fail
 rw[<-HW0.out];refine wp_region_plan (S:=fun w'=>Below (w.heap.size+1+1) W0 w') [(0,true),(1,true),(3,true),(4,true),(2,false),(5,false),(6,true),(7,true)] (by kernel_rfl) (by kernel_rfl) (Below.refl _ _).drew ?_;have HB:=(Below.refl W0.heap.size W0).drew
 repeat (refine plan_take (v:=?_) rfl (by rfl) ?_ ?_;rotate_left;(focus (intro w' hS;have k0:=(tX.toB hS (by omega)).c0;have k1:=(tX.toB hS (by omega)).c1;have k2:=(tY.toB hS (by omega)).c0;have k3:=(tY.toB hS (by omega)).c1;go_simp;try with_reducible rfl));simp only[Act.put,pqA,pqB,pqC])
 refine plan_call rfl (by rfl) (fun K hK=>?_);go_simp
 refine (halves_r (HX.out.to (HB0.out.trans (HB.mono HB0.out.size)))).mono ?_;rintro e V ⟨A1,c1,rfl,r1,l1,m1,bb⟩;replace HB:=Bxb HB bb;have H1:=Hr.of_ret r1 l1 m1 Dsx (by omega);clear r1 l1 m1 bb;refine hK.out _ _ (HB.mono hBW) ?_;clear hK K;refine plan_call rfl (by rfl) (fun K hK=>?_);go_simp
 refine (halves_r (HY.out.to (HB0.out.trans (HB.mono HB0.out.size)))).mono ?_;rintro e V ⟨A2,c2,rfl,r1,l1,m1,bb⟩;replace HB:=Bxb HB bb;have H2:=Hr.of_ret r1 l1 m1 Dsy (by omega);replace H1:=H1.to bb;clear r1 l1 m1 bb;refine hK.out _ _ (HB.mono hBW) ?_;clear hK K
 repeat (refine plan_take (v:=?_) rfl (by rfl) ?_ ?_;rotate_left;(focus (intro w' hS;have k0:=(tX.toB hS (by omega)).c0;have k1:=(tX.toB hS (by omega)).c1;have k2:=(tY.toB hS (by omega)).c0;have k3:=(tY.toB hS (by omega)).c1;go_simp;try with_reducible rfl));simp only[Act.put,pqA,pqB,pqC])
 refine plan_done ?_;have k1:=(tX.to HB).c0;have k2:=(tX.to HB).c1;have k3:=(tY.to HB).c0;have k4:=(tY.to HB).c1
 go_wp2_with fail
 have HC:=cmp_r H1 H2;rw[HO.out]at HC;refine HC.mono ?_;rintro e V2 ⟨rfl,rfl⟩;clear HC
 go_wp2_with fail
 clear k1 k2 k3 k4;refine wp_region_plan (S:=fun w'=>Below (w.heap.size+1+1) W0 w') [(0,true),(1,true),(2,true),(3,true),(4,false),(5,false),(6,false)] (by kernel_rfl) (by kernel_rfl) (HB.mono hBW).drew ?_;replace HB:=HB.drew
 repeat (refine plan_take (v:=?_) rfl (by rfl) ?_ ?_;rotate_left;(focus (intro w' hS;have k0:=(tX.toB hS (by omega)).c0;have k1:=(tX.toB hS (by omega)).c1;have k2:=(tY.toB hS (by omega)).c0;have k3:=(tY.toB hS (by omega)).c1;go_simp;try with_reducible rfl));simp only[Act.put,pqA,pqB,pqC])
 replace H1:=H1.to (Below.refl _ _).drew;replace H2:=H2.to (Below.refl _ _).drew;refine plan_call rfl (by rfl) (fun K hK=>?_);go_simp
 refine (sub_r H2 H1 HGE.out).mono ?_;rintro e V ⟨A3,c3,rfl,r1,l1,m1,bb⟩;replace HB:=Bxb HB bb;have H3:=Hr.of_ret r1 l1 m1 (Nat.lt_of_le_of_lt (Nat.sub_le _ _) Dsy) (by omega);clear r1 l1 m1 bb H1 H2;refine hK.out _ _ (HB.mono hBW) ?_;clear hK K;refine plan_call rfl (by rfl) (fun K hK=>?_);go_simp
 refine (of_r m H3).mono ?_;rintro e V ⟨xr,yr,rfl,rz,bb⟩;replace HB:=Bxb HB bb;clear H3 bb;refine hK.out _ _ (HB.mono hBW) ?_;clear hK K;refine plan_call rfl (by rfl) (fun K hK=>?_);refine wp_store_two (by rfl) (by rfl) (tR.to HB) Fs.nil rz.fs (fun V u kp=>?_);have HF:=kp.zc _ _ _ rz;have HE:=kp.bel _ _ (HB0.out.trans (HB.mono HB0.out.size)) (by omega);refine hK.out _ _ (kp.bel _ _ (HB.mono hBW) (Nat.le_refl _)) ?_;clear hK K kp;simp only[Act.put,pqA,pqB,pqC];refine plan_done ?_;have HF2:=Hd HF;have HE2:=Hd HE;clear HF HE;go_wp2
 exact bodyPost_ret (v:=.agg #[xr,yr]) (by simp[results,Tryz.f110,go_sem,u.c0,u.c1]) rfl ⟨xr,yr,rfl,HF2.out,HE2.out⟩
theorem rAdd_any (n m:Bool){A A':Option Addr}{c c':Nat}{xs ys:List Nat}{w:World}(hx:Arg w A c xs)(sx:xs.length<=10000)(hy:Arg w A' c' ys)(sy:ys.length<=10000) :
  Calls Tryz.prog 110 #[.agg #[.bool n,.slice A xs.length c],.agg #[.bool m,.slice A' ys.length c']] w (ZR w (zof n (val b32 xs)+zof m (val b32 ys))):=by
 by_cases hnm:n=m
 .subst hnm;have h:=rAdd_same n hx sx hy sy;rw[show zof n (val b32 xs+val b32 ys)=zof n (val b32 xs)+zof n (val b32 ys) from by cases n<;>simp[zof]<;>omega]at h;exact h
 .have hb:(n==m)=false:=by simpa using hnm
  rcases Nat.lt_or_ge (val b32 xs) (val b32 ys) with hlt|hge
  .have h:=rAdd_lt n m hx sx hy sy hb hlt;rw[show zof m (val b32 ys-val b32 xs)=zof n (val b32 xs)+zof m (val b32 ys) from by cases n<;>cases m<;>simp[zof]at *<;>omega]at h;exact h
  .have h:=rAdd_ge n m hx sx hy sy hb hge;rw[show zof n (val b32 xs-val b32 ys)=zof n (val b32 xs)+zof m (val b32 ys) from by cases n<;>cases m<;>simp[zof]at *<;>omega]at h;exact h
end Go.Proofs.YtglhdielkkhefaaGreat
