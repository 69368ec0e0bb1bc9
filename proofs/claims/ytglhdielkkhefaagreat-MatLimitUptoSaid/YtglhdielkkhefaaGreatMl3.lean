/- Parts: 9. -/
import Derived.Test.YtglhdielkkhefaaGreatMl1
import Derived.Test.YtglhdielkkhefaaGreatMl2
import Derived.BigQuiet
import Derived.Deep.QuietTactic
import Derived.Deep.RegionWith
import Derived.Maps.AppendAt
import Derived.RegionTactic
import Derived.WalkSpells
set_option linter.unusedVariables false
set_option linter.unusedSimpArgs false
set_option maxRecDepth 100000
set_option maxHeartbeats 40000000

namespace Go.Proofs.YtglhdielkkhefaaGreat
open Go.RowKit Go.Shelf
structure Arg (w:World)(A:Option Addr)(c:Nat)(xs:List Nat):Prop where
 rd:Rd .u32 w w.heap.size A xs
 dg:Dg b32 xs
 le:xs.length<=c
 cap:c<=9223372036854775807
 small:xs.length<=4294967295
theorem Arg.to {w w':World}{A:Option Addr}{c:Nat}{xs:List Nat}(h:Arg w A c xs)(hb:Below w.heap.size w w'):Arg w' A c xs:=⟨h.rd.to hb,h.dg,h.le,h.cap,h.small⟩
theorem Arg.trim {w:World}{A:Option Addr}{c:Nat}{xs:List Nat}(h:Arg w A c xs):Arg w A c (trimL xs) :=
 ⟨h.rd.take _,h.dg.take _,Nat.le_trans (trimL_le xs) h.le,h.cap,Nat.le_trans (trimL_le xs) h.small⟩
theorem trim_trimmed {b:Nat}(hb:1<b){xs:List Nat}(h:Dg b xs):trimN (trimL xs)=(trimL xs).length:=by
 rw[trimL_dig hb h,trimN_of_dig hb]
theorem trim_l {A:Option Addr}{c:Nat}{xs:List Nat}{w:World}(h:Arg w A c xs) :
  Calls Tryz.prog 119 #[.slice A xs.length c] w fun e w'=>e=.returned (.slice A (trimL xs).length c)/\w=w':=by
 refine (trim_any A c _ xs w h.rd h.le h.cap).mono ?_;rintro e w' ⟨rfl,rfl⟩;rw[trimL_length];exact ⟨rfl,rfl⟩
theorem combine_l {q:Int}(hq:q=1∨q=-1){A A':Option Addr}{c c':Nat}{xs ys:List Nat}{w:World}(hx:Arg w A c xs)(hy:Arg w A' c' ys)(h0:0<=((val b32 xs:Nat):Int)+q*(val b32 ys:Nat)) :
  Calls Tryz.prog 160 #[.slice A xs.length c,.slice A' ys.length c',.int .i64 1,.int .i64 q] w fun e w'=>∃A1 c1 zs,e=.returned (.slice A1 zs.length c1) /\
   Rd .u32 w' w'.heap.size A1 zs/\zs.length<=c1/\c1<=9223372036854775807/\Dg b32 zs/\zs.length<=max xs.length ys.length+1/\((val b32 zs:Nat):Int)=(val b32 xs:Nat)+q*(val b32 ys:Nat)/\Below w.heap.size w w':=by
 refine (combine_any q hq A A' c c' xs ys w hx.rd hy.rd hx.dg hy.dg (by have:=hx.small;omega) (by have:=hy.small;omega) h0).mono ?_;rintro e w' ⟨v,zs,rfl,⟨A1,c1,rfl,h1,h2,h3⟩,h4,h5,h6,h7⟩;exact ⟨A1,c1,zs,rfl,h1,h2,h3,h4,h5,h6,h7⟩
def ZRet (w:World)(z:Int)(e:Ending)(w':World):Prop:=∃A c,e=.returned (.agg #[.bool (decide (z<0)),.slice A (dig b32 z.natAbs).length c])/\Rd .u32 w' w'.heap.size A (dig b32 z.natAbs)/\(dig b32 z.natAbs).length<=c/\c<=9223372036854775807/\Below w.heap.size w w'
theorem integer_l (neg:Bool){A:Option Addr}{c:Nat}{xs:List Nat}{w:World}(hx:Rd .u32 w w.heap.size A xs)(dx:Dg b32 xs)(hc:xs.length<=c)(hc':c<=9223372036854775807) :
  Calls Tryz.prog 151 #[.bool neg,.slice A xs.length c] w (ZRet w (zof neg (val b32 xs))):=by
 refine (integer_any neg A c xs w hx dx hc hc').mono ?_;rintro e w' ⟨v,rfl,⟨sv,rfl,A1,c1,rfl,h1,h2,h3⟩,hb⟩;exact ⟨A1,c1,rfl,h1,h2,h3,hb⟩
structure Two (W:World)(g:Nat)(a b:Value):Prop where
 c0:W.cell? ⟨g,0,none⟩=some a
 c1:W.cell? ⟨g,1,none⟩=some b
 f0:W.frozen? ⟨g,0,none⟩=false
 f1:W.frozen? ⟨g,1,none⟩=false
 lt:g<W.heap.size
theorem Two.to {W V:World}{g:Nat}{a b:Value}(h:Two W g a b)(hb:Below W.heap.size W V):Two V g a b :=
 ⟨(hb.cell (p:=⟨g,0,none⟩) h.lt).trans h.c0,(hb.cell (p:=⟨g,1,none⟩) h.lt).trans h.c1,(hb.frozen (p:=⟨g,0,none⟩) h.lt).trans h.f0,(hb.frozen (p:=⟨g,1,none⟩) h.lt).trans h.f1,Nat.lt_of_lt_of_le h.lt hb.size⟩
theorem Two.of {W:World}{g:Nat}{a b:Value}{t:TypeId}(h:W.heap[g]?=some (.cells #[a,b] t (0,0))):Two W g a b :=
 ⟨by simp[World.cell?,h],by simp[World.cell?,h],by simp[World.frozen?,h],by simp[World.frozen?,h],(Array.getElem?_eq_some_iff.1 h).1⟩
theorem Two.new (W:World)(a b:Value)(t:TypeId):Two (W.alloc (.cells #[a,b] t)) W.heap.size a b:=Two.of (World.alloc_heap_new W _)
theorem Two.alloc {W:World}{g:Nat}{a b:Value}(h:Two W g a b)(o:Obj):Two (W.alloc o) g a b:=h.to bRR
theorem Two.set {W:World}{g:Nat}{a b:Value}(h:Two W g a b)(a' b':Value):Two ((W.setCell ⟨g,0,none⟩ a').setCell ⟨g,1,none⟩ b') g a' b':=by
 have h0:(W.setCell ⟨g,0,none⟩ a').cell? ⟨g,0,none⟩=some a':=World.cell?_setCell_same' _ _ _ (by rw[h.c0];rfl);have h1:(W.setCell ⟨g,0,none⟩ a').cell? ⟨g,1,none⟩=some b:=(World.cell?_setCell_other _ _ _ _ (by simp)).trans h.c1;refine ⟨(World.cell?_setCell_other _ _ _ _ (by simp)).trans h0,World.cell?_setCell_same' _ _ _ (by rw[h1];rfl),?_,?_,by simpa [World.setCell]using h.lt⟩
 .rw[World.frozen?_setCell,World.frozen?_setCell];exact h.f0
 .rw[World.frozen?_setCell,World.frozen?_setCell];exact h.f1
theorem Rd.set {kd:IntKind}{w:World}{B:Nat}{A:Option Addr}{xs:List Nat}(h:Rd kd w B A xs){p:Addr}{u:Value}(hp:w.cell? p=some u)(hu:∀n:Int,u≠.int kd n)(v:Value):Rd kd (w.setCell p v) B A xs:=by
 intro k hk;obtain ⟨b,o,rfl,hb,hc⟩:=h k hk;refine ⟨b,o,rfl,hb,?_⟩;rw[World.cell?_setCell_other,hc];rintro rfl;rw[hc]at hp
 injection hp with hp
 exact hu _ hp.symm
theorem zret_stored {w w3:World}{g:Nat}{x:Bool}{A0:Option Addr}{n0 c0:Nat}{z:Int}{A:Option Addr}{c:Nat}(t:Two w3 g (.bool x) (.slice A0 n0 c0))(hg:w.heap.size<=g)(hr:Rd .u32 w3 w3.heap.size A (dig b32 z.natAbs))
  (h2:(dig b32 z.natAbs).length<=c) (h3:c<=9223372036854775807) (hb:Below w.heap.size w w3) :
  ZRet w z (.returned (.agg #[.bool (decide (z<0)),.slice A (dig b32 z.natAbs).length c])) ((w3.setCell ⟨g,0,none⟩ (.bool (decide (z<0)))).setCell ⟨g,1,none⟩ (.slice A (dig b32 z.natAbs).length c)):=by
 refine ⟨A,c,rfl,?_,h2,h3,(hb.setCell (p:=⟨g,0,none⟩) hg _).setCell (p:=⟨g,1,none⟩) hg _⟩;have h1:(w3.setCell ⟨g,0,none⟩ (.bool (decide (z<0)))).cell? ⟨g,1,none⟩=some (.slice A0 n0 c0):=(World.cell?_setCell_other _ _ _ _ (by simp)).trans t.c1;have h4:=(hr.set t.c0 (fun n e=>by cases e) (.bool (decide (z<0)))).set h1 (fun n e=>by cases e) (.slice A (dig b32 z.natAbs).length c);exact h4.more (by simp[World.setCell])
theorem sum_same (n:Bool){A A':Option Addr}{c c':Nat}{xs ys:List Nat}{w:World}(hx:Arg w A c xs)(hy:Arg w A' c' ys) :
  Calls Tryz.prog 153 #[.agg #[.bool n,.slice A xs.length c],.bool n,.slice A' ys.length c'] w (ZRet w (zof n (val b32 xs+val b32 ys))):=by
 have h1:(n==n)=true:=by simp
 have HX:=Hd hx;have HY:=Hd hy;clear hx hy;obtain ⟨W0,hW0⟩:∃W0,W0=(w.alloc (.cells #[.bool n,.slice A xs.length c] 30)).alloc (.cells #[.bool false,.slice none 0 0] 30):=⟨_,rfl⟩
 have hb:Below w.heap.size w W0:=by rw[hW0];exact bRR.alloc (by simp) _
 have tX:Two W0 w.heap.size (.bool n) (.slice A xs.length c):=by rw[hW0];exact (Two.new w _ _ _).alloc _
 have tR:Two W0 (w.heap.size+1) (.bool false) (.slice none 0 0):=by
  have h:=Two.new (w.alloc (.cells #[.bool n,.slice A xs.length c] 30)) (.bool false) (.slice none 0 0) 30;rw[szA]at h;rw[hW0];exact h
 have HW0:=Hd hW0;clear hW0
 go_enter Tryz.func153,Tryz.ntmps153
 go_wp2_with fail
 rw[<-HW0.out];obtain ⟨q1,q2,q3,q4,q5⟩:=tX;refine (trim_l (HX.out.to hb)).mono ?_;rintro e w' ⟨rfl,rfl⟩
 go_wp2_with fail
 refine (trim_l (HY.out.to hb)).mono ?_;rintro e w' ⟨rfl,rfl⟩
 go_wp2_with fail
 have h0:0<=((val b32 (trimL xs):Nat):Int)+1*(val b32 (trimL ys):Nat):=by omega
 refine (combine_l (.inl rfl) (HX.out.to hb).trim (HY.out.to hb).trim h0).mono ?_;clear h0;rintro e w2 ⟨A1,c1,zs,rfl,r1,r2,r3,r5,_,r6,hb2⟩
 have hv:val b32 zs=val b32 xs+val b32 ys:=by
  rw[val_trimL,val_trimL]at r6;omega
 have HI:=Hd (integer_l n r1 r5 r2 r3);rw[hv]at HI;have tR2:=tR.to hb2;have HB:=Hd (Bxb hb hb2);clear r1 r6 hb2 hv hb q1 q2 q3 q4 q5;obtain ⟨z,ez⟩:∃z,Hid (zof n (val b32 xs+val b32 ys)=z):=⟨_,rfl⟩
 rw[ez.out]at HI ⊢
 go_wp2_with fail
 refine HI.out.mono ?_;rintro e w3 ⟨A3,c3,rfl,s1,s2,s3,hb3⟩;obtain ⟨q1,q2,q3,q4,q5⟩:=tR2.to hb3;have S1:=Hd s1;have HB3:=Hxb HB hb3;clear s1 hb3 tR tR2;go_wp2
 have tF:=(⟨q1,q2,q3,q4,q5⟩:Two w3 (w.heap.size+1) _ _).set (.bool (decide (z<0))) (.slice A3 (dig b32 z.natAbs).length c3);refine bodyPost_ret (v:=.agg #[.bool (decide (z<0)),.slice A3 (dig b32 z.natAbs).length c3]) (by simp[results,Tryz.f153,go_sem,tF.c0,tF.c1]) rfl ?_;rw[ez.out];exact zret_stored ⟨q1,q2,q3,q4,q5⟩ (by omega) S1.out s2 s3 HB3.out
theorem compare_l {A A':Option Addr}{c c':Nat}{xs ys:List Nat}{w:World}(hx:Arg w A c xs)(hy:Arg w A' c' ys) :
  Calls Tryz.prog 143 #[.slice A (trimL xs).length c,.slice A' (trimL ys).length c'] w fun e w'=>e=.returned (.int .i64 (cmpN (val b32 xs) (val b32 ys)))/\Below w.heap.size w w':=by
 have h:=compare_any A A' c c' (trimL xs) (trimL ys) w hx.trim.rd hy.trim.rd (trim_trimmed b32_one hx.dg) (trim_trimmed b32_one hy.dg) hx.trim.dg hy.trim.dg hx.trim.le hx.cap hy.trim.le hy.cap
 rwa [val_trimL,val_trimL]at h
theorem sum_less (n:Bool){A A':Option Addr}{c c':Nat}{xs ys:List Nat}{w:World}(hx:Arg w A c xs)(hy:Arg w A' c' ys)(hlt:val b32 xs<val b32 ys) :
  Calls Tryz.prog 153 #[.agg #[.bool n,.slice A xs.length c],.bool (!n),.slice A' ys.length c'] w (ZRet w (zof (!n) (val b32 ys-val b32 xs))):=by
 have h1:(n==!n)=false:=by cases n<;>rfl
 have HX:=Hd hx;have HY:=Hd hy;have HLT:=Hd hlt;clear hx hy hlt;obtain ⟨m,HM⟩:∃m,Hid (m=!n):=⟨_,rfl⟩
 rw[<-HM.out]at h1 ⊢;obtain ⟨W0,hW0⟩:∃W0,W0=(w.alloc (.cells #[.bool n,.slice A xs.length c] 30)).alloc (.cells #[.bool false,.slice none 0 0] 30):=⟨_,rfl⟩
 have hb:Below w.heap.size w W0:=by rw[hW0];exact bRR.alloc (by simp) _
 have tX:Two W0 w.heap.size (.bool n) (.slice A xs.length c):=by rw[hW0];exact (Two.new w _ _ _).alloc _
 have tR:Two W0 (w.heap.size+1) (.bool false) (.slice none 0 0):=by
  have h:=Two.new (w.alloc (.cells #[.bool n,.slice A xs.length c] 30)) (.bool false) (.slice none 0 0) 30;rw[szA]at h;rw[hW0];exact h
 have HW0:=Hd hW0;clear hW0
 go_enter Tryz.func153,Tryz.ntmps153
 go_wp2_with fail
 rw[<-HW0.out];obtain ⟨q1,q2,q3,q4,q5⟩:=tX;refine (trim_l (HX.out.to hb)).mono ?_;rintro e w' ⟨rfl,rfl⟩
 go_wp2_with fail
 refine (trim_l (HY.out.to hb)).mono ?_;rintro e w' ⟨rfl,rfl⟩
 go_wp2_with fail
 refine (compare_l (HX.out.to hb) (HY.out.to hb)).mono ?_;rw[cmpN_lt HLT.out];rintro e w1 ⟨rfl,hb1⟩;have tX1:=(⟨q1,q2,q3,q4,q5⟩:Two W0 w.heap.size _ _).to hb1;have tR1:=tR.to hb1;replace hb:=Bxb hb hb1;clear q1 q2 q3 q4 q5 tR hb1 HW0;have h0:0<=((val b32 (trimL ys):Nat):Int)+-1*(val b32 (trimL xs):Nat):=by have:=HLT.out;rw[val_trimL,val_trimL];omega
 have HC:=Hd (combine_l (q:=-1) (.inr rfl) (HY.out.to hb).trim (HX.out.to hb).trim h0);clear h0 tX1
 go_wp2_with fail
 refine HC.out.mono ?_;rintro e w2 ⟨A1,c1,zs,rfl,r1,r2,r3,r5,_,r6,hb2⟩
 have hv:val b32 zs=val b32 ys-val b32 xs:=by
  rw[val_trimL,val_trimL]at r6;omega
 have HI:=Hd (integer_l m r1 r5 r2 r3);rw[hv]at HI;have tR2:=tR1.to hb2;have HB:=Hd (Bxb hb hb2);clear r1 r6 hb2 hv hb tR1;obtain ⟨z,ez⟩:∃z,Hid (zof m (val b32 ys-val b32 xs)=z):=⟨_,rfl⟩
 rw[ez.out]at HI ⊢
 go_wp2_with fail
 refine HI.out.mono ?_;rintro e w3 ⟨A3,c3,rfl,s1,s2,s3,hb3⟩;obtain ⟨q1,q2,q3,q4,q5⟩:=tR2.to hb3;have S1:=Hd s1;have HB3:=Hxb HB hb3;clear s1 hb3 tR2;go_wp2
 have tF:=(⟨q1,q2,q3,q4,q5⟩:Two w3 (w.heap.size+1) _ _).set (.bool (decide (z<0))) (.slice A3 (dig b32 z.natAbs).length c3);refine bodyPost_ret (v:=.agg #[.bool (decide (z<0)),.slice A3 (dig b32 z.natAbs).length c3]) (by simp[results,Tryz.f153,go_sem,tF.c0,tF.c1]) rfl ?_;rw[ez.out];exact zret_stored ⟨q1,q2,q3,q4,q5⟩ (by omega) S1.out s2 s3 HB3.out
theorem sum_more (n:Bool){A A':Option Addr}{c c':Nat}{xs ys:List Nat}{w:World}(hx:Arg w A c xs)(hy:Arg w A' c' ys)(hlt:val b32 ys<=val b32 xs) :
  Calls Tryz.prog 153 #[.agg #[.bool n,.slice A xs.length c],.bool (!n),.slice A' ys.length c'] w (ZRet w (zof n (val b32 xs-val b32 ys))):=by
 have h1:(n==!n)=false:=by cases n<;>rfl
 have HX:=Hd hx;have HY:=Hd hy;have HLT:=Hd hlt;clear hx hy hlt;obtain ⟨m,HM⟩:∃m,Hid (m=!n):=⟨_,rfl⟩
 rw[<-HM.out]at h1 ⊢;obtain ⟨W0,hW0⟩:∃W0,W0=(w.alloc (.cells #[.bool n,.slice A xs.length c] 30)).alloc (.cells #[.bool false,.slice none 0 0] 30):=⟨_,rfl⟩
 have hb:Below w.heap.size w W0:=by rw[hW0];exact bRR.alloc (by simp) _
 have tX:Two W0 w.heap.size (.bool n) (.slice A xs.length c):=by rw[hW0];exact (Two.new w _ _ _).alloc _
 have tR:Two W0 (w.heap.size+1) (.bool false) (.slice none 0 0):=by
  have h:=Two.new (w.alloc (.cells #[.bool n,.slice A xs.length c] 30)) (.bool false) (.slice none 0 0) 30;rw[szA]at h;rw[hW0];exact h
 have HW0:=Hd hW0;clear hW0
 go_enter Tryz.func153,Tryz.ntmps153
 go_wp2_with fail
 rw[<-HW0.out];obtain ⟨q1,q2,q3,q4,q5⟩:=tX;refine (trim_l (HX.out.to hb)).mono ?_;rintro e w' ⟨rfl,rfl⟩
 go_wp2_with fail
 refine (trim_l (HY.out.to hb)).mono ?_;rintro e w' ⟨rfl,rfl⟩
 go_wp2_with fail
 refine (compare_l (HX.out.to hb) (HY.out.to hb)).mono ?_;obtain ⟨cv,hcv,hcv0⟩:∃cv,cmpN (val b32 xs) (val b32 ys)=cv/\0<=cv:=⟨_,rfl,by have:=HLT.out;unfold cmpN;split<;>(try split)<;>omega⟩
 rw[hcv];clear hcv;rintro e w1 ⟨rfl,hb1⟩;have tX1:=(⟨q1,q2,q3,q4,q5⟩:Two W0 w.heap.size _ _).to hb1;have tR1:=tR.to hb1;replace hb:=Bxb hb hb1;clear q1 q2 q3 q4 q5 tR hb1 HW0;have h0:0<=((val b32 (trimL xs):Nat):Int)+-1*(val b32 (trimL ys):Nat):=by have:=HLT.out;rw[val_trimL,val_trimL];omega
 replace hb:=hb.drew;have hb1:Below w1.heap.size w1 w1.drew:=(Below.refl _ _).drew;replace tX1:=tX1.to hb1;have HC:=Hd (combine_l (w:=w1.drew) (q:=-1) (.inr rfl) (HX.out.to hb).trim (HY.out.to hb).trim h0);have cX1:=tX1.c0;clear h0
 go_wp2_with fail
 refine wp_region_any (by kernel_rfl) ?_;refine (show wpAny _ _ _ _ _ _ _ (World.drew _) from ?_);refine wpAny_take (i:=0) (v:=.pointer (some ⟨w.heap.size,0,none⟩)) rfl (by kernel_rfl) (by kernel_rfl) (by kernel_rfl) (fun _ _ _ h=>h) (Or.inl ⟨by rfl,fun _=>by go_simp⟩) ?_;refine wpAny_take (i:=2) (v:=.slice A (trimL xs).length c) rfl (by kernel_rfl) (by kernel_rfl) (by kernel_rfl) (fun _ _ _ h=>h) (Or.inl ⟨by rfl,fun _=>by go_simp⟩) ?_;refine wpAny_take (i:=3) (v:=.slice A' (trimL ys).length c') rfl (by kernel_rfl) (by kernel_rfl) (by kernel_rfl) (fun _ _ _ h=>h) (Or.inl ⟨by rfl,fun _=>by go_simp⟩) ?_;refine wpAny_ready (rs:=[1,4]) (by kernel_rfl) (by simp) (AllReady.cons rfl (fun K hK=>?_) (AllReady.cons rfl (fun K hK=>?_) AllReady.nil))
 .go_simp;refine hK _ _ ?_;clear hK K
  refine wpAny_ready (rs:=[4]) (by kernel_rfl) (by simp) (AllReady.cons rfl (fun K hK=>?_) AllReady.nil);go_simp
  refine HC.out.mono ?_;rintro e w2 ⟨A1,c1,zs,rfl,r1,r2,r3,r5,_,r6,hb2⟩
  have hv:val b32 zs=val b32 xs-val b32 ys:=by
   have:=HLT.out;rw[val_trimL,val_trimL]at r6;omega
  have HI:=Hd (integer_l n r1 r5 r2 r3);rw[hv]at HI;have tR2:=(tR1.to hb1).to hb2;have tX2:=tX1.to hb2;have HB:=Hd (Bxb hb hb2);have cX2:=tX2.c0;clear r1 r6 hb2 hv hb tR1 tX1 tX2;refine hK _ _ ?_;clear hK K;refine wpAny_ready (rs:=[5]) (by kernel_rfl) (by simp) (AllReady.cons rfl (fun K hK=>?_) AllReady.nil);obtain ⟨z,ez⟩:∃z,Hid (zof n (val b32 xs-val b32 ys)=z):=⟨_,rfl⟩
  rw[ez.out]at HI;go_simp
  refine HI.out.mono ?_;rintro e w3 ⟨A3,c3,rfl,s1,s2,s3,hb3⟩;obtain ⟨q1,q2,q3,q4,q5⟩:=tR2.to hb3;have S1:=Hd s1;have HB3:=Hxb HB hb3;clear s1 hb3 tR2;refine hK _ _ ?_;clear hK K;refine wpAny_ready (rs:=[6]) (by kernel_rfl) (by simp) (AllReady.cons rfl (fun K hK=>?_) AllReady.nil)
  go_simp;refine hK _ _ ?_;clear hK K
  refine wpAny_done (by kernel_rfl) ?_ _;go_wp2
  have tF:=(⟨q1,q2,q3,q4,q5⟩:Two w3 (w.heap.size+1) _ _).set (.bool (decide (z<0))) (.slice A3 (dig b32 z.natAbs).length c3);refine bodyPost_ret (v:=.agg #[.bool (decide (z<0)),.slice A3 (dig b32 z.natAbs).length c3]) (by simp[results,Tryz.f153,go_sem,tF.c0,tF.c1]) rfl ?_;rw[ez.out];exact zret_stored ⟨q1,q2,q3,q4,q5⟩ (by omega) S1.out s2 s3 HB3.out
 .go_simp
  refine HC.out.mono ?_;rintro e w2 ⟨A1,c1,zs,rfl,r1,r2,r3,r5,_,r6,hb2⟩
  have hv:val b32 zs=val b32 xs-val b32 ys:=by
   have:=HLT.out;rw[val_trimL,val_trimL]at r6;omega
  have HI:=Hd (integer_l n r1 r5 r2 r3);rw[hv]at HI;have tR2:=(tR1.to hb1).to hb2;have tX2:=tX1.to hb2;have HB:=Hd (Bxb hb hb2);have cX2:=tX2.c0;clear r1 r6 hb2 hv hb tR1 tX1 tX2;refine hK _ _ ?_;clear hK K;refine wpAny_ready (rs:=[1]) (by kernel_rfl) (by simp) (AllReady.cons rfl (fun K hK=>?_) AllReady.nil)
  go_simp;refine hK _ _ ?_;clear hK K
  refine wpAny_ready (rs:=[5]) (by kernel_rfl) (by simp) (AllReady.cons rfl (fun K hK=>?_) AllReady.nil);obtain ⟨z,ez⟩:∃z,Hid (zof n (val b32 xs-val b32 ys)=z):=⟨_,rfl⟩
  rw[ez.out]at HI;go_simp
  refine HI.out.mono ?_;rintro e w3 ⟨A3,c3,rfl,s1,s2,s3,hb3⟩;obtain ⟨q1,q2,q3,q4,q5⟩:=tR2.to hb3;have S1:=Hd s1;have HB3:=Hxb HB hb3;clear s1 hb3 tR2;refine hK _ _ ?_;clear hK K;refine wpAny_ready (rs:=[6]) (by kernel_rfl) (by simp) (AllReady.cons rfl (fun K hK=>?_) AllReady.nil)
  go_simp;refine hK _ _ ?_;clear hK K
  refine wpAny_done (by kernel_rfl) ?_ _;go_wp2
  have tF:=(⟨q1,q2,q3,q4,q5⟩:Two w3 (w.heap.size+1) _ _).set (.bool (decide (z<0))) (.slice A3 (dig b32 z.natAbs).length c3);refine bodyPost_ret (v:=.agg #[.bool (decide (z<0)),.slice A3 (dig b32 z.natAbs).length c3]) (by simp[results,Tryz.f153,go_sem,tF.c0,tF.c1]) rfl ?_;rw[ez.out];exact zret_stored ⟨q1,q2,q3,q4,q5⟩ (by omega) S1.out s2 s3 HB3.out
theorem ints_lt {kd:IntKind}{xs:List Nat}{j:Nat}{u:Value}(h:(ints kd xs)[j]?=some u):j<xs.length:=by
 have:=(List.getElem?_eq_some_iff.1 h).1
 simpa [ints]using this
theorem ints_at {kd:IntKind}{xs:List Nat}{j:Nat}{u:Value}(h:(ints kd xs)[j]?=some u)(hj:j<xs.length):u=.int kd (xs[j]:Nat):=by
 simpa [ints,hj]using h.symm
theorem Rd.news {kd:IntKind}{w V:World}{B:Nat}{a:Addr}{xs:List Nat}(hr:Rd kd w B (some a) xs)(hB:Below B w V):∀j u,(ints kd xs)[j]?=some u->V.cell? (a.add j)=some u:=by
 intro j u hj;have hjl:j<xs.length:=ints_lt hj;obtain ⟨b,o,e,hb,hc⟩:=hr j hjl
 injection e with e
 subst e;obtain rfl:=ints_at hj hjl;have h2:V.cell? ⟨b,o+j,none⟩=some (.int kd (xs[j]:Nat)):=(hB.cell (p:=⟨b,o+j,none⟩) hb).trans hc
 by_cases h0:j=0
 .subst h0;simpa [Addr.add]using h2
 .simpa [Addr.add,h0]using h2
theorem clone_some (a:Addr)(c:Nat){xs:List Nat}{w:World}(hr:Rd .u32 w w.heap.size (some a) xs)(hl:xs.length<=4294967296) :
  Calls Tryz.prog 156 #[.slice (some a) xs.length c] w fun e w'=>∃v,e=.returned v/\w'.ownsRow w.heap.size 89 1 v xs.length (ints .u32 xs)/\Below w.heap.size w w':=by
 obtain ⟨i0,hi,hz0,hz1,hz2⟩:=info_parts infoWord;have hnil:=fun (w:World)=>Lib.run_eql_slice_nil (P:=Tryz.prog) w 28 89 (some a) xs.length c 0 0 Tryz.underlying28
 have HR:=Hd hr;clear hr;have hown0:(w.alloc (.cells #[] 89)).ownsRow w.heap.size 89 1 (.slice (some ⟨w.heap.size,0,none⟩) 0 0) 0 []:=⟨rfl,.inr ⟨w.heap.size,0,#[],rfl,Nat.le_refl _,World.alloc_heap_new w _,by simp,by simp,by simp,by simp⟩⟩
 go_enter Tryz.func156,Tryz.ntmps156
 go_wp2_with (at_builtin;refine wpList_append_own _ rfl (.tmp 5) (.tmp 6) 28 rfl w.heap.size 89 i0 (.int .u32 0) 1 4 Tryz.underlying28 hi hz0 hz1 hz2 rfl (by decide) (.slice (some ⟨w.heap.size,0,none⟩) 0 0) 0 [] rfl hown0 a xs.length c (ints .u32 xs) rfl (by simp[ints]) ?c1 (by intro u hu;simp only[ints,List.mem_map]at hu;obtain ⟨n,_,rfl⟩:=hu;rfl) (by unfold maxLen;omega) (by omega) (by simp) ?_)
 case c1=>exact Rd.news HR.out ((Below.refl w.heap.size w).alloc (Nat.le_refl _) _)
 .intro v' w1 hown' hgrow _;have HO:=Hd hown';have HB:=Hd (((Below.refl w.heap.size w).alloc (Nat.le_refl _) _).grown hgrow (by simp) (fun j e=>by simp[Value.ownBlock]at e;omega));clear hown' hgrow;go_wp2
  go_ret
  exact ⟨_,rfl,by simpa using HO.out,HB.out⟩
theorem clone_none (c:Nat)(w:World) :
  Calls Tryz.prog 156 #[.slice none 0 c] w fun e w'=>e=.returned (.slice none 0 0)/\w=w':=by
 have hnil:=fun (w:World)=>Lib.run_eql_slice_nil (P:=Tryz.prog) w 28 89 none 0 c 0 0 Tryz.underlying28
 go_enter Tryz.func156,Tryz.ntmps156
 go_wp2
 go_ret
 exact ⟨rfl,rfl⟩
theorem clone_any {A:Option Addr}(c:Nat){xs:List Nat}{w:World}(hr:Rd .u32 w w.heap.size A xs)(hl:xs.length<=4294967296) :
  Calls Tryz.prog 156 #[.slice A xs.length c] w fun e w'=>∃v,e=.returned v/\w'.ownsRow w.heap.size 89 1 v xs.length (ints .u32 xs)/\Below w.heap.size w w':=by
 cases A with
 | some a=>exact clone_some a c hr hl
 | none =>
  have h0:xs=[]:=by
   cases xs with
   | nil=>rfl
   | cons d r=>obtain ⟨b,o,e,_⟩:=hr 0 (by simp);cases e
  subst h0;refine (clone_none c w).mono ?_;rintro e w' ⟨rfl,rfl⟩;exact ⟨_,rfl,by simpa [ints]using World.ownsRow_nil _ _ _ _,Below.refl _ _⟩
theorem ret_u64 {a b:Int}(h:a=b):Ending.returned (.int .u64 a)=Ending.returned (.int .u64 b):=by rw[h]
theorem or_words (a b:Nat)(ha:a<4294967296)(hb:b<4294967296):bits .or .u64 (bits .or .u64 0 (a:Int)) ((b:Int)*4294967296)=((a+b*4294967296:Nat):Int):=by
 have h1:bits .or .u64 0 (a:Int)=(a:Int):=by
  have h:=bits_or_u64_nat 0 a (by omega) (by omega);rw[Nat.zero_or]at h;exact h
 rw[h1,show ((b:Int)*4294967296)=((b*4294967296:Nat):Int) from by simp,bits_or_u64_nat a (b*4294967296) (by omega) (by omega)];have h2:=Nat.shiftLeft_add_eq_or_of_lt (i:=32) (b:=a) (by omega) b;rw[Nat.shiftLeft_eq]at h2;rw[Nat.or_comm,show b*4294967296=b*2 ^ 32 from rfl,<-h2,Nat.add_comm]
theorem or_word (a:Nat)(ha:a<4294967296):bits .or .u64 0 (a:Int)=(a:Int):=by
 have h:=bits_or_u64_nat 0 a (by omega) (by omega);rw[Nat.zero_or]at h;exact h
theorem toUint64_two (A:Option Addr)(c a b:Nat)(w:World)(hx:Rd .u32 w w.heap.size A [a,b])(ha:a<4294967296)(hb:b<4294967296) :
  Calls Tryz.prog 159 #[.slice A 2 c] w fun e w'=>e=.returned (.int .u64 ((a+b*4294967296:Nat):Int))/\w=w':=by
 obtain ⟨B,o,rfl,_,hc⟩:=hx.at_ (k:=0) (by simp);have h0:=hc 0 (by simp);have h1:=hc 1 (by simp);simp only[List.getElem_cons_zero,List.getElem_cons_succ,Nat.add_zero]at h0 h1;clear hc hx
 go_enter Tryz.func159,Tryz.ntmps159
 go_wp2
 refine wp_loop_rounds 3 ?_;rw[rounds_succ];go_wp2
 rw[rounds_succ];go_wp2
 rw[rounds_succ];go_wp2
 go_ret
 exact ⟨ret_u64 (or_words a b ha hb),rfl⟩
theorem toUint64_one (A:Option Addr)(c a:Nat)(w:World)(hx:Rd .u32 w w.heap.size A [a])(ha:a<4294967296) :
  Calls Tryz.prog 159 #[.slice A 1 c] w fun e w'=>e=.returned (.int .u64 (a:Nat))/\w=w':=by
 obtain ⟨B,o,rfl,_,hc⟩:=hx.at_ (k:=0) (by simp);have h0:=hc 0 (by simp);simp only[List.getElem_cons_zero,Nat.add_zero]at h0;clear hc hx
 go_enter Tryz.func159,Tryz.ntmps159
 go_wp2
 refine wp_loop_rounds 2 ?_;rw[rounds_succ];go_wp2
 rw[rounds_succ];go_wp2
 go_ret
 exact ⟨ret_u64 (or_word a ha),rfl⟩
theorem toUint64_nil (A:Option Addr)(c:Nat)(w:World) :
  Calls Tryz.prog 159 #[.slice A 0 c] w fun e w'=>e=.returned (.int .u64 0)/\w=w':=by
 go_enter Tryz.func159,Tryz.ntmps159
 go_wp2
 refine wp_loop_rounds 1 ?_;rw[rounds_succ];go_wp2
 go_ret
 exact ⟨rfl,rfl⟩
theorem toUint64_any {A:Option Addr}{c:Nat}{xs:List Nat}{w:World}(hx:Rd .u32 w w.heap.size A xs)(hd:Dg b32 xs)(hl:xs.length<=2) :
  Calls Tryz.prog 159 #[.slice A xs.length c] w fun e w'=>e=.returned (.int .u64 (val b32 xs:Nat))/\w=w':=by
 match xs,hl with
 | [],_=>exact toUint64_nil A c w
 | [a],_=>exact toUint64_one A c a w hx (hd a (by simp))
 | [a,b],_ =>
  have h:=toUint64_two A c a b w hx (hd a (by simp)) (hd b (by simp));rw[show val b32 [a,b]=a+b*4294967296 from by simp only[val,b32];omega];exact h
theorem smallGCD_any (x y:Nat)(w:World)(hx:x<18446744073709551616)(hy:y<18446744073709551616) :
  Calls Tryz.prog 158 #[.int .u64 (x:Nat),.int .u64 (y:Nat)] w fun e w'=>e=.returned (.int .u64 (Nat.gcd x y:Nat))/\∃d,w'=w.drewN d:=by
 obtain ⟨g,eg⟩:∃g,Hid (Nat.gcd x y=g):=⟨_,rfl⟩
 rw[eg.out]
 go_enter Tryz.func158,Tryz.ntmps158
 go_wp2
 go_loopw [0,1] (fun u v wr=>∃a b d:Nat,u=.int .u64 (a:Nat)/\v=.int .u64 (b:Nat)/\a<18446744073709551616/\b<18446744073709551616/\Hid (Nat.gcd a b=g)/\wr=w.drewN d) (fun _ v _=>(intOf v).toNat)
 case atStart=>exact ⟨x,y,0,rfl,rfl,hx,hy,eg,rfl⟩
 case round =>
  obtain ⟨a,b,d,rfl,rfl,ha,hb,hg,rfl⟩:=hrel
  rcases Nat.eq_zero_or_pos b with h0|h0
  .subst h0;have ht:((0:Int) != 0)=false:=rfl;have HG:Hid (a=g):=by have h:=hg.out;rw[Nat.gcd_zero_right]at h;exact h
   clear hg;go_wp2
   go_ret
   exact ⟨ret_u64 (by rw[HG.out]),d,rfl⟩
  .have ht:((b:Int) != 0)=true:=by rw[bne_iff_ne];omega
   have hlt:a % b<b:=Nat.mod_lt _ h0
   have HG:Hid (Nat.gcd b (a % b)=g):=by
    have h:=hg.out;rw[Nat.gcd_comm,Nat.gcd_rec]at h;rw[Nat.gcd_comm];exact h
   have hb1:(1:Int)<=(b:Int):=by omega
   obtain ⟨m,em⟩:∃m,Hid (a % b=m):=⟨_,rfl⟩
   rw[em.out]at HG hlt;have hm:((a:Int).tmod (b:Int))=(m:Int):=by rw[Int.tmod_eq_emod_of_nonneg (by omega),<-em.out];simp
   clear hg;go_wp2
   go_quiet (fail)
   clear hm;go_wp2
   go_roundw
   case rel=>exact ⟨b,m,_,rfl,rfl,hb,by omega,HG,by rw[World.drewN_drewN]⟩
   case measure=>simp[intOf];omega
theorem toWords_l (n:Nat)(hn:n<18446744073709551616)(w:World) :
  Calls Tryz.prog 152 #[.int .u64 (n:Nat)] w fun e w'=>∃A c,e=.returned (.slice A (dig b32 n).length c)/\Rd .u32 w' w'.heap.size A (dig b32 n)/\(dig b32 n).length<=c/\c<=9223372036854775807/\Below w.heap.size w w':=by
 refine (toWords_any n hn w).mono ?_;rintro e w' ⟨v,rfl,⟨A,c,rfl,h1,h2,h3⟩,hb⟩;exact ⟨A,c,rfl,h1,h2,h3,hb⟩
theorem wrap_neg_neg (m:Nat)(hm:m<18446744073709551616):IntKind.u64.wrap (-IntKind.u64.wrap (-(m:Int)))=(m:Int):=by
 rw[IntKind.wrap_u64,IntKind.wrap_u64];omega
theorem zof_dig (neg:Bool)(n:Nat):zof neg (val b32 (dig b32 n))=zof neg n:=by rw[val_dig b32_one]
theorem fromInt64_pos (m:Nat)(hm:m<9223372036854775808)(w:World) :
  Calls Tryz.prog 117 #[.int .i64 (m:Nat)] w (ZRet w ((m:Nat))):=by
 have t0:=Two.new w (.bool false) (.slice none 0 0) 30;have HB0:=Hd ((Below.refl w.heap.size w).alloc (Nat.le_refl _) (.cells #[.bool false,.slice none 0 0] 30));have hm':m<18446744073709551616:=by omega
 go_enter Tryz.func117,Tryz.ntmps117
 go_wp2_with fail
 refine (toWords_l m hm' _).mono ?_;rintro e w2 ⟨A1,c1,rfl,r1,r2,r3,hb2⟩;have HI:=Hd (integer_l false r1 (Dg_dig b32_one m) r2 r3);rw[zof_dig]at HI;have tR2:=t0.to hb2;have HB:=Hxb HB0 hb2;clear r1 hb2 t0;obtain ⟨z,ez⟩:∃z,Hid (zof false m=z):=⟨_,rfl⟩
 rw[ez.out]at HI
 go_wp2_with fail
 refine HI.out.mono ?_;rintro e w3 ⟨A3,c3,rfl,s1,s2,s3,hb3⟩;obtain ⟨q1,q2,q3,q4,q5⟩:=tR2.to hb3;have S1:=Hd s1;have HB3:=Hxb HB hb3;clear s1 hb3 tR2;go_wp2
 have tF:=(⟨q1,q2,q3,q4,q5⟩:Two w3 w.heap.size _ _).set (.bool (decide (z<0))) (.slice A3 (dig b32 z.natAbs).length c3);refine bodyPost_ret (v:=.agg #[.bool (decide (z<0)),.slice A3 (dig b32 z.natAbs).length c3]) (by simp[results,Tryz.f117,go_sem,tF.c0,tF.c1]) rfl ?_;rw[show ((m:Nat):Int)=z from by rw[<-ez.out];rfl];exact zret_stored ⟨q1,q2,q3,q4,q5⟩ (Nat.le_refl _) S1.out s2 s3 HB3.out
theorem fromInt64_neg (m:Nat)(hm0:0<m)(hm:m<=9223372036854775808)(w:World) :
  Calls Tryz.prog 117 #[.int .i64 (-(m:Int))] w (ZRet w (-(m:Int))):=by
 have t0:=Two.new w (.bool false) (.slice none 0 0) 30;have HB0:=Hd ((Below.refl w.heap.size w).alloc (Nat.le_refl _) (.cells #[.bool false,.slice none 0 0] 30));have hm':m<18446744073709551616:=by omega
 go_enter Tryz.func117,Tryz.ntmps117
 go_wp2_with fail
 rw[wrap_neg_neg m hm'];refine (toWords_l m hm' _).mono ?_;rintro e w2 ⟨A1,c1,rfl,r1,r2,r3,hb2⟩;have HI:=Hd (integer_l true r1 (Dg_dig b32_one m) r2 r3);rw[zof_dig]at HI;have tR2:=t0.to hb2;have HB:=Hxb HB0 hb2;clear r1 hb2 t0;obtain ⟨z,ez⟩:∃z,Hid (zof true m=z):=⟨_,rfl⟩
 rw[ez.out]at HI
 go_wp2_with fail
 refine HI.out.mono ?_;rintro e w3 ⟨A3,c3,rfl,s1,s2,s3,hb3⟩;obtain ⟨q1,q2,q3,q4,q5⟩:=tR2.to hb3;have S1:=Hd s1;have HB3:=Hxb HB hb3;clear s1 hb3 tR2;go_wp2
 have tF:=(⟨q1,q2,q3,q4,q5⟩:Two w3 w.heap.size _ _).set (.bool (decide (z<0))) (.slice A3 (dig b32 z.natAbs).length c3);refine bodyPost_ret (v:=.agg #[.bool (decide (z<0)),.slice A3 (dig b32 z.natAbs).length c3]) (by simp[results,Tryz.f117,go_sem,tF.c0,tF.c1]) rfl ?_;rw[show (-(m:Int):Int)=z from by rw[<-ez.out];rfl];exact zret_stored ⟨q1,q2,q3,q4,q5⟩ (Nat.le_refl _) S1.out s2 s3 HB3.out
theorem fromInt64_any (n:Int)(h1:-9223372036854775808<=n)(h2:n<=9223372036854775807)(w:World) :
  Calls Tryz.prog 117 #[.int .i64 n] w (ZRet w n):=by
 rcases Int.lt_or_le n 0 with h|h
 .obtain ⟨m,rfl⟩:∃m:Nat,n=-(m:Int):=⟨n.natAbs,by omega⟩
  exact fromInt64_neg m (by omega) (by omega) w
 .obtain ⟨m,rfl⟩:=Int.eq_ofNat_of_zero_le h;exact fromInt64_pos m (by omega) w
theorem ret_bool {a b:Bool}(h:a=b):Ending.returned (.bool a)=Ending.returned (.bool b):=by rw[h]
theorem bel_drewN {B:Nat}{a w:World}(h:Below B a w)(n:Nat):Below B a (w.drewN n):=⟨h.os,h.tape,h.output,h.size,h.block⟩
theorem take_ne {xs ys:List Nat}{k:Nat}(h1:k<xs.length)(h2:k<ys.length)(hne:xs[k]≠ys[k]):xs≠ys:=by
 rintro rfl;exact hne rfl
theorem take_eq_succ {xs ys:List Nat}{k:Nat}(h1:k<xs.length)(h2:k<ys.length)(h:xs.take k=ys.take k)(he:xs[k]=ys[k]):xs.take (k+1)=ys.take (k+1):=by
 rw[take_snoc xs k h1,take_snoc ys k h2,h,he]
theorem same_neg (n m:Bool)(hnm:(n != m)=true){A A':Option Addr}{c c' k k':Nat}(w:World) :
  Calls Tryz.prog 52 #[.agg #[.bool n,.slice A k c],.agg #[.bool m,.slice A' k' c']] w fun e w'=>e=.returned (.bool false)/\Below w.heap.size w w':=by
 cases n<;>cases m
 .exact absurd hnm (by decide)
 .clear hnm
  go_enter Tryz.func52,Tryz.ntmps52
  go_wp2
  go_ret
  exact ⟨rfl,bRR.alloc (by simp) _⟩
 .clear hnm
  go_enter Tryz.func52,Tryz.ntmps52
  go_wp2
  go_ret
  exact ⟨rfl,bRR.alloc (by simp) _⟩
 .exact absurd hnm (by decide)
theorem same_len (n:Bool){A A':Option Addr}{c c' k k':Nat}(w:World)(hk:k<=9223372036854775807)(hk':k'<=9223372036854775807)(hne:k≠k') :
  Calls Tryz.prog 52 #[.agg #[.bool n,.slice A k c],.agg #[.bool n,.slice A' k' c']] w fun e w'=>e=.returned (.bool false)/\Below w.heap.size w w':=by
 have h0:(n != n)=false:=by simp
 have h1:((k:Int) != (k':Int))=true:=by rw[bne_iff_ne];omega
 clear hne
 go_enter Tryz.func52,Tryz.ntmps52
 go_wp2
 go_ret
 exact ⟨rfl,bRR.alloc (by simp) _⟩
theorem same_words (n:Bool){A A':Option Addr}{c c':Nat}{xs ys:List Nat}{w:World}(hx:Rd .u32 w w.heap.size A xs)(hy:Rd .u32 w w.heap.size A' ys)(hl:xs.length=ys.length)
  (hc:xs.length<=c) (hc63:c<=9223372036854775807) (hc':xs.length<=c') (hc63':c'<=9223372036854775807) :
  Calls Tryz.prog 52 #[.agg #[.bool n,.slice A xs.length c],.agg #[.bool n,.slice A' xs.length c']] w fun e w'=>e=.returned (.bool (decide (xs=ys)))/\Below w.heap.size w w':=by
 have h0:(n != n)=false:=by simp
 have h1:((xs.length:Int) != (xs.length:Int))=false:=by simp
 have hl63:xs.length<=9223372036854775807:=by omega
 have HL:=Hd hl;have HX:=Hd hx;have HY:=Hd hy;obtain ⟨W0,hW0⟩:∃W0,W0=(w.alloc (.cells #[.bool n,.slice A xs.length c] 30)).alloc (.cells #[.bool n,.slice A' xs.length c'] 30):=⟨_,rfl⟩
 have hb:Below w.heap.size w W0:=by rw[hW0];exact bRR.alloc (by simp) _
 have tX:Two W0 w.heap.size (.bool n) (.slice A xs.length c):=by rw[hW0];exact (Two.new w _ _ _).alloc _
 have tY:Two W0 (w.heap.size+1) (.bool n) (.slice A' xs.length c'):=by
  have h:=Two.new (w.alloc (.cells #[.bool n,.slice A xs.length c] 30)) (.bool n) (.slice A' xs.length c') 30;rw[szA]at h;rw[hW0];exact h
 have HW0:=Hd hW0;clear hl hx hy hW0
 go_enter Tryz.func52,Tryz.ntmps52
 go_wp2
 rw[<-HW0.out]
 go_loopw [5] (fun i wr=>∃k:Nat,i=.int .i64 k/\k<=xs.length/\xs.take k=ys.take k/\∃d,wr=W0.drewN d) (fun i _=>xs.length-(intOf i).toNat)
 case atStart=>exact ⟨0,rfl,Nat.zero_le _,by simp,0,rfl⟩
 case round =>
  obtain ⟨k,rfl,hk,ht,d,rfl⟩:=hrel;have HT:=Hd ht;have tX':=(tX.to (Below.refl _ _))
  obtain ⟨q1,q2,q3,q4,q5⟩:=tX;obtain ⟨p1,p2,p3,p4,p5⟩:=tY;clear ht tX'
  by_cases hlt:k<xs.length
  .have hlt':k<ys.length:=by have:=HL.out;omega
   obtain ⟨b1,o1,rfl,_,hc1⟩:=(HX.out.to hb).at_ hlt;obtain ⟨b2,o2,rfl,_,hc2⟩:=(HY.out.to hb).at_ hlt';have e1:=hc1 k hlt;have e2:=hc2 k hlt';have hki:(0:Int)<=(k:Int):=by omega
   have hki':(k:Int)<(xs.length:Int):=by omega
   clear hc1 hc2
   by_cases he:xs[k]=ys[k]
   .have ht:((xs[k]:Int) != (ys[k]:Int))=false:=by rw[he];simp
    have HE:=Hd he;clear he;go_wp2
    go_quiet (fail)
    go_wp2
    go_roundw
    case rel=>exact ⟨k+1,by simp,by omega,take_eq_succ hlt hlt' HT.out HE.out,_,rfl⟩
    case measure=>simp[intOf];omega
   .have ht:((xs[k]:Int) != (ys[k]:Int))=true:=by rw[bne_iff_ne];omega
    have HE:=Hd he;clear he;go_wp2
    go_quiet (fail)
    go_wp2
    go_ret
    exact ⟨ret_bool (decide_eq_false (take_ne hlt hlt' HE.out)).symm,bel_drewN (bel_drewN hb _) _⟩
  .obtain rfl:k=xs.length:=by omega
   clear hlt;go_wp2
   go_ret
   have h1:=HT.out;have h2:=HL.out;rw[List.take_of_length_le (Nat.le_refl _),List.take_of_length_le (by omega)]at h1;exact ⟨ret_bool (decide_eq_true h1).symm,bel_drewN hb _⟩
theorem same_any (n m:Bool){A A':Option Addr}{c c':Nat}{xs ys:List Nat}{w:World}(hx:Rd .u32 w w.heap.size A xs)(hy:Rd .u32 w w.heap.size A' ys)
  (hc:xs.length<=c) (hc63:c<=9223372036854775807) (hc':ys.length<=c') (hc63':c'<=9223372036854775807) :
  Calls Tryz.prog 52 #[.agg #[.bool n,.slice A xs.length c],.agg #[.bool m,.slice A' ys.length c']] w fun e w'=>e=.returned (.bool (decide (n=m/\xs=ys)))/\Below w.heap.size w w':=by
 by_cases hnm:n=m
 .subst hnm
  by_cases hl:xs.length=ys.length
  .have h:=same_words n hx hy hl hc hc63 (by omega) hc63';rw[show decide (n=n/\xs=ys)=decide (xs=ys) from by simp,<-hl];exact h
  .rw[show decide (n=n/\xs=ys)=false from by simp;rintro rfl;exact hl rfl];exact same_len n w (by omega) (by omega) hl
 .rw[show decide (n=m/\xs=ys)=false from by simp[hnm]];exact same_neg n m (by cases n<;>cases m<;>simp_all) w
end Go.Proofs.YtglhdielkkhefaaGreat

namespace Go.Proofs.YtglhdielkkhefaaGreat
open Go.RowKit
theorem rtrim_any (A:Option Addr)(c B:Nat)(xs:List Nat)(w:World)(hr:Rd .i64 w B A xs)(hlc:xs.length<=c)(hc:c<=9223372036854775807) :
  Calls Tryz.prog 163 #[.slice A xs.length c] w fun e w'=>e=.returned (.slice A (trimN xs) c)/\w=w':=by
 go_enter Tryz.func163,Tryz.ntmps163
 go_wp2
 go_loop [3] (fun n=>∃k:Nat,k<=xs.length/\trimN (xs.take k)=trimN xs/\n=.int .i64 k) (fun n=>(intOf n).toNat)
 case atStart=>exact ⟨xs.length,Nat.le_refl _,by rw[List.take_length],rfl⟩
 case round =>
  obtain ⟨k,hk,ht,rfl⟩:=hrel;have HT:=Hd ht;clear ht
  rcases Nat.eq_zero_or_pos k with h0|h0
  .subst h0;go_wp2
   go_ret
   exact ⟨ret_slice (by rw[<-HT.out];simp[trimN]),rfl⟩
  .obtain ⟨j,rfl⟩:∃j,k=j+1:=⟨k-1,by omega⟩
   have hj:j<xs.length:=by omega
   obtain ⟨b,o,rfl,hb,hcell⟩:=hr.at_ hj;have hcj:=hcell j hj
   by_cases hz:xs[j]=0
   .rw[hz]at hcj;have HZ:=Hd hz;clear hz hcell;go_wp2
    go_round
    case rel=>exact ⟨j,by omega,by rw[<-HT.out,trimN_step_zero xs j hj HZ.out],rfl⟩
    case measure=>simp[intOf]
   .have HZ:=Hd hz;have hz':((xs[j]:Int)==0)=false:=by simp[hz]
    clear hz hcell;go_wp2
    go_ret
    exact ⟨ret_slice (by rw[<-HT.out,trimN_step xs j hj HZ.out]),rfl⟩
theorem at_any {A:Option Addr}{c:Nat}{xs:List Nat}{w:World}(hr:Rd .i64 w w.heap.size A xs)(hl:xs.length<=9223372036854775807)(i:Nat)(hi:i<=9223372036854775807) :
  Calls Tryz.prog 164 #[.slice A xs.length c,.int .i64 (i:Nat)] w fun e w'=>e=.returned (.int .i64 (xs.getD i 0:Nat))/\w=w':=by
 by_cases h:i<xs.length
 .obtain ⟨b,o,rfl,_,hc⟩:=hr.at_ h;have h1:=hc i h;have h2:xs.getD i 0=xs[i]:=by simp[h]
  rw[h2];clear hc h2 hr
  go_enter Tryz.func164,Tryz.ntmps164
  go_wp2
  go_ret
  exact ⟨rfl,rfl⟩
 .have h2:xs.getD i 0=0:=by simp[Nat.le_of_not_lt h]
  rw[h2];clear h2 hr
  go_enter Tryz.func164,Tryz.ntmps164
  go_wp2
  go_ret
  exact ⟨rfl,rfl⟩
open Go.Shelf
def b16 : Nat:=65536
theorem b16_one : 1<b16:=by decide
def hw : List Nat->List Nat
 | []=>[]
 | d::r=>d % 65536::d / 65536::hw r
theorem hw_append (xs ys:List Nat):hw (xs++ys)=hw xs++hw ys:=by
 induction xs with
 | nil=>rfl
 | cons d r ih=>simp[hw,ih]
theorem hw_length (xs:List Nat):(hw xs).length=2*xs.length:=by
 induction xs with
 | nil=>rfl
 | cons d r ih=>simp[hw,ih];omega
theorem hw_dg {xs:List Nat}(h:Dg b32 xs):Dg b16 (hw xs):=by
 induction xs with
 | nil=>exact Dg.nil
 | cons d r ih =>
  have hd:=h d (by simp);unfold b32 at hd;exact Dg.cons (by unfold b16;omega) (Dg.cons (by unfold b16;omega) (ih fun e he=>h e (List.mem_cons_of_mem _ he)))
theorem hw_val (xs:List Nat):val b16 (hw xs)=val b32 xs:=by
 induction xs with
 | nil=>rfl
 | cons d r ih =>
  rw[hw,val,val,val,ih];generalize val b32 r=t;unfold b16 b32;omega
theorem hw_take (xs:List Nat)(k:Nat)(h:k<xs.length):hw (xs.take (k+1))=hw (xs.take k)++[xs[k] % 65536,xs[k] / 65536]:=by
 rw[take_snoc xs k h,hw_append];rfl
theorem own_shape {w:World}{base:Nat}{e:TypeId}{size n:Nat}{v:Value}{xs:List Value}(h:w.ownsRow base e size v n xs):∃A c,v=.slice A n c:=by
 rcases h.2 with ⟨rfl,rfl⟩|⟨g,cap,cur,rfl,_⟩
 .exact ⟨_,_,rfl⟩
 .exact ⟨_,_,rfl⟩
theorem step_append_out {P:Program}{w w':World}{ops:Array Oper}{o:Oper}{a:Act}{K:Act->World->Prop}{Q:Exit->Act->World->Prop}{E:Prop}{v u v':Value}
  (hgd:o.guard=none) (s x:Operand) (t:TypeId) (ho:o.op=.call { callee:=.builtin .append,args:=#[s,x],argTypes:=#[t,t] })
  (hs:a.eval s=v) (hx:a.eval x=u) (hrun:(Builtin.append_ #[t,t] o.type #[v,u]).run P w=.ok v' w') (h:K (a.put o.dst v') w') :
  if Region.wanted o (yielded ops a.tmps)=true then Oper.wp P o a w K Q else E:=by
 have hw:Region.wanted o (yielded ops a.tmps)=true:=by simp[Region.wanted,hgd]
 rw[if_pos hw];unfold Oper.wp execOp;simp only[ho,resolve,invoke,builtin,Sem.run_bind,Sem.run_pure,Result.andThen_ok,List.map_toArray,List.map_cons,List.map_nil,hs,hx,hrun];exact h
theorem infoInt : (Tryz.prog.info? 3).map (fun i=>(i.zero,i.size,i.bytes))=some (some (.int .i64 0),1,8):=by kernel_rfl
theorem halves_any {A:Option Addr}{c:Nat}{xs:List Nat}{w:World}(hx:Arg w A c xs) :
  Calls Tryz.prog 138 #[.slice A xs.length c] w fun e w'=>∃A1 c1,e=.returned (.slice A1 (dig b16 (val b32 xs)).length c1)/\Rd .i64 w' w'.heap.size A1 (dig b16 (val b32 xs)) /\
   (dig b16 (val b32 xs)).length<=c1/\c1<=9223372036854775807/\Below w.heap.size w w':=by
 obtain ⟨i0,hi,hz0,hz1,hz2⟩:=info_parts infoInt;have HX:=Hd hx;have hle:=hx.le;have hcap:=hx.cap;have hsm:=hx.small;clear hx
 go_enter Tryz.func138,Tryz.ntmps138
 go_wp2
 go_loopw [3,4] (fun v i wr=>∃(k:Nat) (A1:Option Addr) (c1:Nat),v=.slice A1 (2*k) c1/\i=.int .i64 k/\k<=xs.length/\wr.ownsRow w.heap.size 3 1 (.slice A1 (2*k) c1) (2*k) (ints .i64 (hw (xs.take k)))/\Below w.heap.size w wr) (fun _ i _=>xs.length-(intOf i).toNat)
 case atStart=>exact ⟨0,none,0,rfl,rfl,Nat.zero_le _,by simpa [ints,hw]using World.ownsRow_nil _ _ _ _,Below.refl _ _⟩
 case round =>
  obtain ⟨k,A1,c1,rfl,rfl,hk,hown,hb⟩:=hrel
  by_cases hlt:k<xs.length
  .obtain ⟨b,o,rfl,_,hc1⟩:=(HX.out.to hb).rd.at_ hlt;have e1:=hc1 k hlt;have hd:=HX.out.dg.at_ hlt;unfold b32 at hd;clear hc1;have hki:(0:Int)<=(k:Int):=by omega
   have hki':(k:Int)<(xs.length:Int):=by omega
   obtain ⟨d,ed⟩:∃d:Nat,Hid (xs[k]=d):=⟨xs[k],rfl⟩
   rw[ed.out]at e1 hd;have hs1:=hb.size
   obtain ⟨v',w1,hrun,hown',hgrow,_,_⟩:=run_append_own_at (P:=Tryz.prog) (wr.drew.alloc (.cells #[.int .i64 ((d:Int) % 65536),.int .i64 ((d:Int) / 65536)] 3)) w.heap.size 113 113 3 i0 (.int .i64 0) 1 8
    Tryz.underlying113 hi hz0 hz1 hz2 rfl (by decide) (.slice A1 (2*k) c1) (2*k) _ (hown.drew.alloc _) ⟨wr.heap.size,0,none⟩ 2 2 [.int .i64 ((d:Int) % 65536),.int .i64 ((d:Int) / 65536)] rfl (by
     intro j u hj;have hn:=Two.new wr.drew (.int .i64 ((d:Int) % 65536)) (.int .i64 ((d:Int) / 65536)) 3
     match j,hj with
     | 0,hj =>
      simp at hj;subst hj
      simpa [Addr.add]using hn.c0
     | 1,hj =>
      simp at hj;subst hj
      simpa [Addr.add]using hn.c1) (by simp[Value.oneCell']) (by unfold maxLen;omega) (by omega) (by simp;omega)
   obtain ⟨A2,c2,rfl⟩:=own_shape hown';rw[show 2*k+2=2*(k+1) from by omega]at hrun hown'
   have hnew:w1.ownsRow w.heap.size 3 1 (.slice A2 (2*(k+1)) c2) (2*(k+1)) (ints .i64 (hw (xs.take (k+1)))):=by
    rw[hw_take xs k hlt,ed.out]
    simpa [ints]using hown'
   have hbel:Below w.heap.size w w1:=((hb.drew).alloc (by simpa using hs1) _).grown hgrow (by simp;omega) (fun j e=>(hown.lt j e).1);have HOWN:=Hd hnew;have HB:=Hd hbel;have HRUN:=Hd hrun;clear hnew hbel hrun hown' hgrow hown hb hi hz0 hz1 hz2;have g1:((d:Nat):Int).tmod 65536=(d:Int) % 65536:=IntWalk.rem_in _ _ (by omega);have g2:IntKind.i64.wrap ((d:Int) % 65536)=(d:Int) % 65536:=IntWalk.i64_in _ (by omega);have g3:IntKind.u32.wrap ((d:Int) / 65536)=(d:Int) / 65536:=IntWalk.u32_in _ (by omega);have g4:IntKind.i64.wrap ((d:Int) / 65536)=(d:Int) / 65536:=IntWalk.i64_in _ (by omega);go_wp2
   refine wp_region_any (by kernel_rfl) ?_;refine (show wpAny _ _ _ _ _ _ _ (World.drew _) from ?_);refine wpAny_take (i:=0) (v:=.slice A1 (2*k) c1) rfl (by kernel_rfl) (by kernel_rfl) (by kernel_rfl) (fun _ _ _ h=>h) (Or.inl ⟨by rfl,fun _=>by go_simp⟩) ?_;refine wpAny_take (i:=1) (v:=.slice (some ⟨b,o,none⟩) xs.length c) rfl (by kernel_rfl) (by kernel_rfl) (by kernel_rfl) (fun _ _ _ h=>h) (Or.inl ⟨by rfl,fun _=>by go_simp⟩) ?_;refine wpAny_take (i:=2) (v:=.int .i64 (k:Nat)) rfl (by kernel_rfl) (by kernel_rfl) (by kernel_rfl) (fun _ _ _ h=>h) (Or.inl ⟨by rfl,fun _=>by go_simp⟩) ?_;refine wpAny_take (i:=7) (v:=.slice (some ⟨b,o,none⟩) xs.length c) rfl (by kernel_rfl) (by kernel_rfl) (by kernel_rfl) (fun _ _ _ h=>h) (Or.inl ⟨by rfl,fun _=>by go_simp⟩) ?_;refine wpAny_take (i:=8) (v:=.int .i64 (k:Nat)) rfl (by kernel_rfl) (by kernel_rfl) (by kernel_rfl) (fun _ _ _ h=>h) (Or.inl ⟨by rfl,fun _=>by go_simp⟩) ?_;refine wpAny_take (i:=3) (v:=.pointer (some ⟨b,o+k,none⟩)) rfl (by kernel_rfl) (by kernel_rfl) (by kernel_rfl) (fun _ _ _ h=>h) (Or.inl ⟨by rfl,fun _=>by go_simp⟩) ?_;refine wpAny_take (i:=9) (v:=.pointer (some ⟨b,o+k,none⟩)) rfl (by kernel_rfl) (by kernel_rfl) (by kernel_rfl) (fun _ _ _ h=>h) (Or.inl ⟨by rfl,fun _=>by go_simp⟩) ?_;refine wpAny_ready (rs:=[4,10]) (by kernel_rfl) (by simp) (AllReady.cons rfl (fun K hK=>?_) (AllReady.cons rfl (fun K hK=>?_) AllReady.nil))
   .go_simp;refine hK _ _ ?_;clear hK K
    refine wpAny_take (i:=5) (v:=.int .u32 ((d:Nat) % 65536)) rfl (by kernel_rfl) (by kernel_rfl) (by kernel_rfl) (fun _ _ _ h=>h) (Or.inl ⟨by rfl,fun _=>by go_simp⟩) ?_;refine wpAny_take (i:=6) (v:=.int .i64 ((d:Nat) % 65536)) rfl (by kernel_rfl) (by kernel_rfl) (by kernel_rfl) (fun _ _ _ h=>h) (Or.inl ⟨by rfl,fun _=>by go_simp⟩) ?_;refine wpAny_ready (rs:=[10]) (by kernel_rfl) (by simp) (AllReady.cons rfl (fun K hK=>?_) AllReady.nil)
    go_simp;refine hK _ _ ?_;clear hK K
    refine wpAny_take (i:=11) (v:=.int .u32 ((d:Nat) / 65536)) rfl (by kernel_rfl) (by kernel_rfl) (by kernel_rfl) (fun _ _ _ h=>h) (Or.inl ⟨by rfl,fun _=>by go_simp⟩) ?_;refine wpAny_take (i:=12) (v:=.int .i64 ((d:Nat) / 65536)) rfl (by kernel_rfl) (by kernel_rfl) (by kernel_rfl) (fun _ _ _ h=>h) (Or.inl ⟨by rfl,fun _=>by go_simp⟩) ?_;refine wpAny_ready (rs:=[13]) (by kernel_rfl) (by simp) (AllReady.cons rfl (fun K hK=>?_) AllReady.nil)
    go_simp;refine hK _ _ ?_;clear hK K
    refine wpAny_ready (rs:=[14]) (by kernel_rfl) (by simp) (AllReady.cons rfl (fun K hK=>?_) AllReady.nil);refine step_append_out rfl (.tmp 11) (.tmp 24) 113 rfl (by rfl) (by rfl) HRUN.out ?_;refine hK _ _ ?_;clear hK K;refine wpAny_ready (rs:=[15]) (by kernel_rfl) (by simp) (AllReady.cons rfl (fun K hK=>?_) AllReady.nil)
    go_simp;refine hK _ _ ?_;clear hK K
    refine wpAny_done (by kernel_rfl) ?_ _;clear g1 g2 g3 g4;go_wp2
    go_roundw
    case rel=>exact ⟨k+1,A2,c2,rfl,by simp,by omega,HOWN.out,HB.out⟩
    case measure=>simp[intOf];omega
   .go_simp;refine hK _ _ ?_;clear hK K
    refine wpAny_take (i:=11) (v:=.int .u32 ((d:Nat) / 65536)) rfl (by kernel_rfl) (by kernel_rfl) (by kernel_rfl) (fun _ _ _ h=>h) (Or.inl ⟨by rfl,fun _=>by go_simp⟩) ?_;refine wpAny_take (i:=12) (v:=.int .i64 ((d:Nat) / 65536)) rfl (by kernel_rfl) (by kernel_rfl) (by kernel_rfl) (fun _ _ _ h=>h) (Or.inl ⟨by rfl,fun _=>by go_simp⟩) ?_;refine wpAny_ready (rs:=[4]) (by kernel_rfl) (by simp) (AllReady.cons rfl (fun K hK=>?_) AllReady.nil)
    go_simp;refine hK _ _ ?_;clear hK K
    refine wpAny_take (i:=5) (v:=.int .u32 ((d:Nat) % 65536)) rfl (by kernel_rfl) (by kernel_rfl) (by kernel_rfl) (fun _ _ _ h=>h) (Or.inl ⟨by rfl,fun _=>by go_simp⟩) ?_;refine wpAny_take (i:=6) (v:=.int .i64 ((d:Nat) % 65536)) rfl (by kernel_rfl) (by kernel_rfl) (by kernel_rfl) (fun _ _ _ h=>h) (Or.inl ⟨by rfl,fun _=>by go_simp⟩) ?_;refine wpAny_ready (rs:=[13]) (by kernel_rfl) (by simp) (AllReady.cons rfl (fun K hK=>?_) AllReady.nil)
    go_simp;refine hK _ _ ?_;clear hK K
    refine wpAny_ready (rs:=[14]) (by kernel_rfl) (by simp) (AllReady.cons rfl (fun K hK=>?_) AllReady.nil);refine step_append_out rfl (.tmp 11) (.tmp 24) 113 rfl (by rfl) (by rfl) HRUN.out ?_;refine hK _ _ ?_;clear hK K;refine wpAny_ready (rs:=[15]) (by kernel_rfl) (by simp) (AllReady.cons rfl (fun K hK=>?_) AllReady.nil)
    go_simp;refine hK _ _ ?_;clear hK K
    refine wpAny_done (by kernel_rfl) ?_ _;clear g1 g2 g3 g4;go_wp2
    go_roundw
    case rel=>exact ⟨k+1,A2,c2,rfl,by simp,by omega,HOWN.out,HB.out⟩
    case measure=>simp[intOf];omega
  .obtain rfl:k=xs.length:=by omega
   rw[List.take_of_length_le (Nat.le_refl _)]at hown;obtain ⟨A2,c2,e2,h1,h2,h3⟩:=Sl.of_own hown;rw[e2];have hdg:=hw_dg HX.out.dg;have HS:=Hd (Sl.trim b16_one h1 hdg h2 h3);rw[hw_val]at HS;have HB:=Hd hb;have HT:=Hd (rtrim_any A2 c2 _ _ _ h1 h2 h3);clear hown h1 hdg hb
   go_wp2_with fail
   refine HT.out.mono ?_;rintro e w' ⟨rfl,rfl⟩;go_wp2
   go_ret
   obtain ⟨A3,c3,e,t1,t2,t3⟩:=HS.out;exact ⟨A3,c3,congrArg Ending.returned e,t1,t2,t3,HB.out⟩
def pks (t:List Nat):Nat->List Nat
 | 0=>[]
 | k+1=>pks t k++[t.getD (2*k) 0+t.getD (2*k+1) 0*65536]
theorem pks_length (t:List Nat):∀k,(pks t k).length=k
 | 0=>rfl
 | k+1=>by simp[pks,pks_length t k]
theorem pks_dg {t:List Nat}(h:Dg b16 t):∀k,Dg b32 (pks t k)
 | 0=>Dg.nil
 | k+1=>by
  have h1:=getD_dg (by decide) h (2*k);have h2:=getD_dg (by decide) h (2*k+1);unfold b16 at h1 h2;exact (pks_dg h k).app (Dg.one (by unfold b32;omega))
theorem pow_2k (k:Nat):b32 ^ k=b16 ^ (2*k):=by rw[Nat.pow_mul];rfl
theorem pks_val (t:List Nat):∀k,val b32 (pks t k)=val b16 (t.take (2*k))
 | 0=>by simp[pks,val]
 | k+1=>by
  rw[pks,val_append,pks_length,pks_val t k,show 2*(k+1)=2*k+1+1 from by omega,val_take_succ t (2*k+1),val_take_succ t (2*k),pow_2k,Nat.pow_succ];simp only[val,Nat.mul_zero,Nat.add_zero];rw[Nat.mul_add,show b16 ^ (2*k)*b16*t.getD (2*k+1) 0=b16 ^ (2*k)*(t.getD (2*k+1) 0*65536) from by rw[Nat.mul_assoc,Nat.mul_comm b16];rfl];omega
theorem val_low {b:Nat}(hb:0<b):∀{zs:List Nat},trimN zs=zs.length->zs≠[]->b ^ (zs.length-1)<=val b zs:=by
 intro zs
 induction zs with
 | nil=>intro _ h;exact absurd rfl h
 | cons d r ih =>
  intro ht _;simp only[trimN,List.length_cons]at ht
  by_cases h0:trimN r=0
  .rw[if_pos h0]at ht
   by_cases hd:d=0
   .rw[if_pos hd]at ht;omega
   .rw[if_neg hd]at ht;have:r.length=0:=by omega
    simp[this,val];omega
  .rw[if_neg h0]at ht;have hr:r≠[]:=by rintro rfl;simp[trimN]at h0
   have h1:=ih (by omega) hr;have h2:0<r.length:=List.length_pos_iff.2 hr;simp only[val,List.length_cons,Nat.add_sub_cancel]
   have h3:b ^ r.length=b*b ^ (r.length-1):=by
    rw[Nat.mul_comm,<-Nat.pow_succ];congr 1;omega
   have h4:=Nat.mul_le_mul_left b h1;omega
theorem pks_all {t:List Nat}(h:Dg b16 t)(ht:trimN t=t.length){N:Nat}(h1:t.length<=2*N)(h2:2*N<=t.length+1):pks t N=dig b32 (val b16 t):=by
 have hv:val b32 (pks t N)=val b16 t:=by rw[pks_val,List.take_of_length_le h1]
 have hd:=pks_dg h N;have he:=trimL_dig b32_one hd;rw[hv]at he;rw[<-he];have hl:=trimL_length (pks t N)
 suffices trimN (pks t N)=N by
  unfold trimL;rw[this,List.take_of_length_le (by rw[pks_length];omega)]
 have hle:=trimN_le (pks t N);rw[pks_length]at hle
 rcases Nat.lt_or_ge (trimN (pks t N)) N with hlt|hge
 .exfalso
  have h3:val b32 (trimL (pks t N))<b32 ^ trimN (pks t N):=by
   have:=val_lt (hd.take (trimN (pks t N)));unfold trimL
   rwa [List.length_take,pks_length,Nat.min_eq_left hle]at this
  rw[val_trimL,hv]at h3;have hne:t≠[]:=by rintro rfl;simp at h1 h2;omega
  have h4:=val_low (b:=b16) (by decide) ht hne;rw[pow_2k]at h3;have h5:b16 ^ (2*trimN (pks t N))<=b16 ^ (t.length-1):=Nat.pow_le_pow_right (by decide) (by omega);omega
 .omega
def Zat (W:World)(g:Nat)(a b:Value):Prop:=W.heap[g]?=some (.cells #[a,b] 30 (0,0))
theorem Zat.two {W:World}{g:Nat}{a b:Value}(h:Zat W g a b):Two W g a b:=Two.of h
theorem Zat.new (W:World)(a b:Value):Zat (W.alloc (.cells #[a,b] 30)) W.heap.size a b:=World.alloc_heap_new W _
theorem Zat.kept {W V:World}{row:Option Nat}{g:Nat}{a b:Value}(h:Zat W g a b)(hg:W.grownBy V row)(hne:some g≠row):Zat V g a b:=(hg.block g h.two.lt hne).trans h
theorem Zat.alloc {W:World}{g:Nat}{a b:Value}(h:Zat W g a b)(o:Obj):Zat (W.alloc o) g a b:=(Below.heap_alloc W o g h.two.lt).trans h
theorem Zat.not_row {W:World}{g:Nat}{a b:Value}(h:Zat W g a b){base:Nat}{e:TypeId}{size n:Nat}{v:Value}{xs:List Value}(hr:W.ownsRow base e size v n xs)(hne:30≠e):some g≠v.ownBlock:=by
 rcases hr.2 with ⟨rfl,_⟩|⟨g',cap,cur,rfl,_,hh,_⟩
 .simp[Value.ownBlock]
 .intro he;obtain rfl:g=g':=by simpa [Value.ownBlock]using he
  rw[show W.heap[g]?=_ from h]at hh
  injection hh with hh
  injection hh with _ h2
  exact hne h2
theorem own_caps {w:World}{base:Nat}{e:TypeId}{size n c:Nat}{A:Option Addr}{xs:List Value}(h:w.ownsRow base e size (.slice A n c) n xs):n<=c/\c<=9223372036854775807:=by
 rcases h.2 with ⟨e,rfl⟩|⟨g,cap,cur,e,_,_,h1,h2,_⟩
 .injection e with _ _ e;subst e;exact ⟨by omega,by omega⟩
 .injection e with _ _ e;subst e;exact ⟨h1,by simpa [maxLen]using h2⟩
theorem at_int {A:Option Addr}{c:Nat}{xs:List Nat}{w:World}(hr:Rd .i64 w w.heap.size A xs)(hl:xs.length<=9223372036854775807)(i:Int)(h0:0<=i)(hi:i<=9223372036854775807) :
  Calls Tryz.prog 164 #[.slice A xs.length c,.int .i64 i] w fun e w'=>e=.returned (.int .i64 (xs.getD i.toNat 0:Nat))/\w=w':=by
 obtain ⟨n,rfl⟩:=Int.eq_ofNat_of_zero_le h0;exact at_any hr hl n (by omega)
theorem of_any (neg:Bool){A:Option Addr}{c:Nat}{h:List Nat}{w:World}(hr:Rd .i64 w w.heap.size A h)(hd:Dg b16 h)(hc:h.length<=c)(hcap:c<=9223372036854775807)(hsm:h.length<=8589934592) :
  Calls Tryz.prog 136 #[.bool neg,.slice A h.length c] w (ZRet w (zof neg (val b16 h))):=by
 obtain ⟨i0,hi,hz0,hz1,hz2⟩:=info_parts infoWord;obtain ⟨t,et⟩:∃t,Hid (trimL h=t):=⟨_,rfl⟩
 have htl:t.length=trimN h:=by rw[<-et.out,trimL_length]
 have hsm':t.length<=8589934592:=by rw[htl];exact Nat.le_trans (trimN_le h) hsm
 have dt:Dg b16 t:=by rw[<-et.out];exact hd.take _
 have tt:trimN t=t.length:=by rw[<-et.out];exact trim_trimmed b16_one hd
 have vt:val b16 t=val b16 h:=by rw[<-et.out];exact val_trimL h
 have rt:Rd .i64 w w.heap.size A t:=by rw[<-et.out];exact hr.take _
 rw[<-vt];have t0:=Zat.new w (.bool false) (.slice none 0 0);have HB0:=Hd ((Below.refl w.heap.size w).alloc (Nat.le_refl _) (.cells #[.bool false,.slice none 0 0] 30));have HT:=Hd (rtrim_any A c _ h _ (hr.to HB0.out) hc hcap);rw[<-htl]at HT;have DT:=Hd dt;have TT:=Hd tt;have RT:=Hd rt;obtain ⟨z,ez⟩:∃z,Hid (zof neg (val b16 t)=z):=⟨_,rfl⟩
 rw[ez.out];have hb0:=HB0.out;clear dt tt rt vt htl hr hd et hc;obtain ⟨W0,hW0⟩:∃W0,W0=w.alloc (.cells #[.bool false,.slice none 0 0] 30):=⟨_,rfl⟩
 have hs0:W0.heap.size=w.heap.size+1:=by rw[hW0];simp
 rw[<-hW0]at t0 HT hb0;have HW0:=Hd hW0;clear hW0 HB0
 go_enter Tryz.func136,Tryz.ntmps136
 go_wp2_with fail
 rw[<-HW0.out];refine HT.out.mono ?_;rintro e w' ⟨rfl,rfl⟩;go_wp2
 go_loopw [5,6] (fun v i wr=>∃(k j:Nat) (A1:Option Addr) (c1:Nat),v=.slice A1 k c1/\i=.int .i64 j/\j=2*k/\j<=t.length+1/\wr.ownsRow w.heap.size 89 1 (.slice A1 k c1) k (ints .u32 (pks t k))/\Zat wr w.heap.size (.bool false) (.slice none 0 0)/\Below w.heap.size w wr)
  (fun _ i _=>t.length+1-(intOf i).toNat)
 case atStart=>exact ⟨0,0,none,0,rfl,rfl,rfl,by omega,by simpa [ints,pks]using World.ownsRow_nil _ _ _ _,t0,hb0⟩
 case round =>
  obtain ⟨k,j,A1,c1,rfl,rfl,hj,hk,hown,t1,hb⟩:=hrel
  by_cases hlt:j<t.length
  .have hu:=getD_dg (by decide) DT.out j;have hz:=getD_dg (by decide) DT.out (j+1);unfold b16 at hu hz;have HA1:=Hd (at_int (c:=c) (RT.out.to hb) (by omega) (j:Int) (by omega) (by omega));have HA2:=Hd (at_int (c:=c) (RT.out.to hb) (by omega) ((j:Int)+1) (by omega) (by omega));rw[show ((j:Int)).toNat=j from by omega]at HA1;rw[show ((j:Int)+1).toNat=j+1 from by omega]at HA2;obtain ⟨x,ex⟩:∃x,Hid (t.getD j 0=x):=⟨_,rfl⟩
   obtain ⟨y,ey⟩:∃y,Hid (t.getD (j+1) 0=y):=⟨_,rfl⟩
   rw[ex.out]at hu HA1;rw[ey.out]at hz HA2;have hs1:=hb.size;have HJ:=Hd hj;have hk2:2*k<=t.length:=by omega
   clear hj
   have NEXT:∀v' w1,w1.ownsRow w.heap.size 89 1 v' (k+1) (ints .u32 (pks t k)++[.int .u32 ((x:Int)+(y:Int)*65536)])->(wr.alloc (.cells #[.int .u32 ((x:Int)+(y:Int)*65536)] 89)).grownBy w1 (Value.slice A1 k c1).ownBlock ->
     ∃(A2:Option Addr) (c2:Nat),v'=.slice A2 (k+1) c2/\w1.ownsRow w.heap.size 89 1 (.slice A2 (k+1) c2) (k+1) (ints .u32 (pks t (k+1)))/\Zat w1 w.heap.size (.bool false) (.slice none 0 0)/\Below w.heap.size w w1:=by
    intro v' w1 hown' hgrow;obtain ⟨A2,c2,rfl⟩:=own_shape hown';refine ⟨A2,c2,rfl,?_,?_,(hb.alloc hs1 _).grown hgrow (by simp;omega) (fun j e=>(hown.lt j e).1)⟩
    .rw[pks,<-HJ.out,ex.out,ey.out]
     simpa [ints]using hown'
    .exact (t1.alloc _).kept hgrow (t1.not_row hown (by decide))
   have hownA:=hown.alloc (.cells #[.int .u32 ((x:Int)+(y:Int)*65536)] 89);have HN:=Hd NEXT;clear NEXT t1 hb hown ex ey
   go_wp2_with fail
   refine HA1.out.mono ?_;rintro e w' ⟨rfl,rfl⟩
   go_wp2_with fail
   refine HA2.out.mono ?_;rintro e w' ⟨rfl,rfl⟩
   go_wp2_with (at_builtin;refine wpList_append_own _ rfl (.tmp 15) (.tmp 27) 28 rfl w.heap.size 89 i0 (.int .u32 0) 1 4 Tryz.underlying28 hi hz0 hz1 hz2 rfl (by decide) (.slice A1 k c1) k _ rfl hownA ⟨wr.heap.size,0,none⟩ 1 1 [.int .u32 ((x:Int)+(y:Int)*65536)] rfl rfl (cell_one_new _ _ _) (by simp[Value.oneCell']) (by unfold maxLen;omega) (by omega) (by simp;omega) ?_;intro v' w1 hown' hgrow _;obtain ⟨A2,c2,rfl,n1,n2,n3⟩:=HN.out _ _ hown' hgrow;have N1:=Hd n1;have N2:=Hd n2;have N3:=Hd n3;clear n1 n2 n3 hown' hgrow)
   go_roundw
   case rel=>exact ⟨k+1,j+2,A2,c2,rfl,by simp,by have:=HJ.out;omega,by omega,N1.out,N2.out,N3.out⟩
   case measure=>simp[intOf];omega
  .have hall:=pks_all DT.out TT.out (N:=k) (by omega) (by omega);obtain ⟨hc1,hc2⟩:=own_caps hown;rw[hall]at hown;have hr:=Rd.of_own hown (Nat.le_refl _);have hkl:(dig b32 (val b16 t)).length=k:=by have:=hown.1;simp[ints]at this;omega
   have hza:z.natAbs=val b16 t:=by rw[<-ez.out,zof_abs]
   have T1:=Hd t1;have t2:=t1.two
   have HRES:Hid (∀B:Bool,decide (z<0)=B->ZRet w z (.returned (.agg #[.bool B,.slice A1 k c1])) ((wr.setCell ⟨w.heap.size,0,none⟩ (.bool B)).setCell ⟨w.heap.size,1,none⟩ (.slice A1 k c1))):=by
    rintro B rfl;have h:=zret_stored (z:=z) t1.two (Nat.le_refl _) (by rw[hza];exact hr) (by rw[hza,hkl];exact hc1) hc2 hb;rw[hza,hkl]at h;exact h
   have HV:Hid (val b16 t=0↔k=0):=by
    rw[<-hkl];exact ⟨fun h=>by rw[h];rfl,fun h=>(dig_nil b32_one).1 (List.eq_nil_of_length_eq_zero h)⟩
   obtain ⟨p1,p2,p3,p4,p5⟩:=t2;clear t1 hown hr hall hkl hza hb hj
   rcases Nat.eq_zero_or_pos k with hk0|hk0
   .have hz0':z=0:=by rw[<-ez.out,HV.out.2 hk0,zof_zero]
    have DZ:Hid (decide (z<0)=false):=by rw[hz0'];rfl
    subst hk0;clear hz0';cases neg
    .go_wp2
     have tF:=T1.out.two.set (.bool false) (.slice A1 0 c1);refine bodyPost_ret (v:=.agg #[.bool false,.slice A1 0 c1]) (by simp[results,Tryz.f136,go_sem,tF.c0,tF.c1]) rfl (HRES.out false DZ.out)
    .go_wp2
     have tF:=T1.out.two.set (.bool false) (.slice A1 0 c1);refine bodyPost_ret (v:=.agg #[.bool false,.slice A1 0 c1]) (by simp[results,Tryz.f136,go_sem,tF.c0,tF.c1]) rfl (HRES.out false DZ.out)
   .have DZ:Hid (decide (z<0)=neg):=by
     rw[<-ez.out];exact zof_neg neg (fun h=>by have:=HV.out.1 h;omega)
    cases neg
    .go_wp2
     have tF:=T1.out.two.set (.bool false) (.slice A1 k c1);refine bodyPost_ret (v:=.agg #[.bool false,.slice A1 k c1]) (by simp[results,Tryz.f136,go_sem,tF.c0,tF.c1]) rfl (HRES.out false DZ.out)
    .go_wp2
     have tF:=T1.out.two.set (.bool true) (.slice A1 k c1);refine bodyPost_ret (v:=.agg #[.bool true,.slice A1 k c1]) (by simp[results,Tryz.f136,go_sem,tF.c0,tF.c1]) rfl (HRES.out true DZ.out)
end Go.Proofs.YtglhdielkkhefaaGreat
