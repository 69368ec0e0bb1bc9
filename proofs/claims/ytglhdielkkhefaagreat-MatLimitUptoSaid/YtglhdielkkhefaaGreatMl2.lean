/- Parts: 3. -/
import Derived.Test.YtglhdielkkhefaaGreatMl1
import Derived.Laws.EntriesVeiled
import Derived.Maps.AppendAt
set_option linter.unusedVariables false
set_option linter.unusedSimpArgs false
set_option maxRecDepth 100000
set_option maxHeartbeats 40000000

namespace Go.Proofs.YtglhdielkkhefaaGreat
open Go.RowKit Go.Shelf
attribute [local go_sem] Oper.semAt_some
theorem infoWord : (Tryz.prog.info? 89).map (fun i=>(i.zero,i.size,i.bytes))=some (some (.int .u32 0),1,4):=by kernel_rfl
theorem follows : Tryz.prog.follows .mixedOrders=true:=by kernel_rfl
theorem combine_x (q:Int)(hq:q=1∨q=-1)(A A':Option Addr)(c c':Nat)(xs ys:List Nat)(w:World)(hx:Rd .u32 w w.heap.size A xs)(hy:Rd .u32 w w.heap.size A' ys)
  (dx:Dg b32 xs) (dy:Dg b32 ys) (hxl:xs.length<=4294967296) (hyl:ys.length<=4294967296) (hle:ys.length<=xs.length) :
  CallsIn Fence.wide 3 Tryz.prog 160 #[.slice A xs.length c,.slice A' ys.length c',.int .i64 1,.int .i64 q] w fun e w'=>∃v,e=.returned v /\
   w'.ownsRow w.heap.size 89 1 v (xs.length+1) (ints .u32 (outs q xs ys (xs.length+1)))/\Below w.heap.size w w':=by
 obtain ⟨i0,hi,hz0,hz1,hz2⟩:=info_parts infoWord;refine callsIn_of_wp_marks Tryz.func160 rfl trivial ?_ rfl;simp only[Tryz.ntmps160,List.size_toArray,List.length_cons,List.length_nil,Nat.reduceAdd,Nat.reduceSub,Array.replicate_succ,Array.replicate_zero,List.push_toArray,List.append_toArray,List.nil_append,List.cons_append]
 gi_wp2_with (first
  | (refine ⟨trivial,?_⟩;gi_at_call 177;refine (callsIn_wide.2 (combiner_any _ _ _)).mono ?_;rintro e w' ⟨rfl,rfl⟩)
  | (refine ⟨trivial,?_⟩;gi_at_call 178;refine (callsIn_wide.2 (pairs_any _ _ _ _ _ _ _)).mono ?_;rintro e w' ⟨rfl,rfl⟩)
  | (gi_at_make;refine wpListIn_make_own _ rfl _ _ 28 rfl w.heap.size 89 i0 (.int .u32 0) 1 Tryz.underlying28 hi hz0 hz1 .i64 .i64 _ (xs.length+1) rfl rfl (by omega) (by rw[hz2];omega) (by unfold maxLen;omega) (by simp;omega) ?_;intro w4 hown4 hgrow4))
 obtain ⟨W3,hW3⟩:∃W3,W3=(((w.alloc (.cells #[.int .i64 1] 2)).alloc (.cells #[.int .i64 q] 2)).alloc (.cells #[.int .i64 0] 2)).alloc (.cells #[.func (.func 189) #[] #[.pointer (some ⟨w.heap.size,0,none⟩),.pointer (some ⟨w.heap.size+1,0,none⟩),.pointer (some ⟨w.heap.size+1+1,0,none⟩)]] 153):=⟨_,rfl⟩
 have b0:Boxed W3 w.heap.size 2 (.int .i64 1):=by rw[hW3];exact (((Boxed.new w _ _).alloc _).alloc _).alloc _
 have b1:Boxed W3 (w.heap.size+1) 2 (.int .i64 q):=by
  have h:=Boxed.new (w.alloc (.cells #[.int .i64 1] 2)) 2 (.int .i64 q);rw[szA]at h;rw[hW3];exact (h.alloc _).alloc _
 have b2:Boxed W3 (w.heap.size+1+1) 2 (.int .i64 0):=by
  have h:=Boxed.new ((w.alloc (.cells #[.int .i64 1] 2)).alloc (.cells #[.int .i64 q] 2)) 2 (.int .i64 0);rw[szA,szA]at h;rw[hW3];exact h.alloc _
 have b3:Boxed W3 (w.heap.size+1+1+1) 153 (.func (.func 189) #[] #[.pointer (some ⟨w.heap.size,0,none⟩),.pointer (some ⟨w.heap.size+1,0,none⟩),.pointer (some ⟨w.heap.size+1+1,0,none⟩)]):=by
  have h:=Boxed.new (((w.alloc (.cells #[.int .i64 1] 2)).alloc (.cells #[.int .i64 q] 2)).alloc (.cells #[.int .i64 0] 2)) 153 (.func (.func 189) #[] #[.pointer (some ⟨w.heap.size,0,none⟩),.pointer (some ⟨w.heap.size+1,0,none⟩),.pointer (some ⟨w.heap.size+1+1,0,none⟩)]);rw[szA,szA,szA]at h;rw[hW3];exact h
 have hb3:Below w.heap.size w W3:=by rw[hW3];exact ((bRR.alloc (by simp) _).alloc (by simp;omega) _).alloc (by simp;omega) _
 have hs3:W3.heap.size=w.heap.size+4:=by rw[hW3];simp
 rw[<-hW3]at hgrow4;clear hW3;have hs4:w.heap.size+4<=w4.heap.size:=by have:=hgrow4.size;omega
 replace b0:=b0.kept hgrow4 (by simp);replace b1:=b1.kept hgrow4 (by simp);replace b2:=b2.kept hgrow4 (by simp);replace b3:=b3.kept hgrow4 (by simp);have hb4:Below w.heap.size w w4:=hb3.grown hgrow4 (by omega) (fun k e=>by cases e);clear hb3 hs3 hgrow4;obtain ⟨H,hH⟩:∃H,w4.heap.size=H:=⟨_,rfl⟩
 rw[hH]at hs4 ⊢;obtain ⟨W0,hW0⟩:∃W0,W0=((w4.alloc (.cells #[.slice (some ⟨w.heap.size+1+1+1+1,0,none⟩) 0 (xs.length+1)] 28)).alloc (.cells #[.slice A xs.length c] 28)).alloc (.cells #[.slice A' ys.length c'] 28):=⟨_,rfl⟩
 rw[<-hW0];replace b0:Boxed W0 w.heap.size 2 (.int .i64 1):=by rw[hW0];exact ((b0.alloc _).alloc _).alloc _
 replace b1:Boxed W0 (w.heap.size+1) 2 (.int .i64 q):=by rw[hW0];exact ((b1.alloc _).alloc _).alloc _
 replace b2:Boxed W0 (w.heap.size+1+1) 2 (.int .i64 0):=by rw[hW0];exact ((b2.alloc _).alloc _).alloc _
 replace b3:Boxed W0 (w.heap.size+1+1+1) 153 (.func (.func 189) #[] #[.pointer (some ⟨w.heap.size,0,none⟩),.pointer (some ⟨w.heap.size+1,0,none⟩),.pointer (some ⟨w.heap.size+1+1,0,none⟩)]):=by rw[hW0];exact ((b3.alloc _).alloc _).alloc _
 have bW:Boxed W0 H 28 (.slice (some ⟨w.heap.size+1+1+1+1,0,none⟩) 0 (xs.length+1)):=by
  have h:=Boxed.new w4 28 (.slice (some ⟨w.heap.size+1+1+1+1,0,none⟩) 0 (xs.length+1));rw[hH]at h;rw[hW0];exact (h.alloc _).alloc _
 have bX:Boxed W0 (H+1) 28 (.slice A xs.length c):=by
  have h:=Boxed.new (w4.alloc (.cells #[.slice (some ⟨w.heap.size+1+1+1+1,0,none⟩) 0 (xs.length+1)] 28)) 28 (.slice A xs.length c);rw[szA,hH]at h;rw[hW0];exact h.alloc _
 have bY:Boxed W0 (H+1+1) 28 (.slice A' ys.length c'):=by
  have h:=Boxed.new ((w4.alloc (.cells #[.slice (some ⟨w.heap.size+1+1+1+1,0,none⟩) 0 (xs.length+1)] 28)).alloc (.cells #[.slice A xs.length c] 28)) 28 (.slice A' ys.length c');rw[szA,szA,hH]at h;rw[hW0];exact h
 have hown0:W0.ownsRow w.heap.size 89 1 (.slice (some ⟨w.heap.size+1+1+1+1,0,none⟩) 0 (xs.length+1)) 0 []:=by
  have h:=hown4;simp only[szA]at h;rw[hW0];exact ((h.alloc _).alloc _).alloc _
 have hb0:Below w.heap.size w W0:=by rw[hW0];exact ((hb4.alloc (by omega) _).alloc (by simp;omega) _).alloc (by simp;omega) _
 have hs0:W0.heap.size=H+3:=by rw[hW0];simp[hH]
 clear hW0 hH hown4 hb4
 refine wp_rounds (gf:=190) (lb:=#[.pointer (some ⟨H+1,0,none⟩),.pointer (some ⟨H+1+1,0,none⟩)]) ?hg (enters_of Tryz.func190 (by kernel_rfl) rfl)
  (N:=xs.length) (enc:=pairE xs ys) (Keep:=fun _=>KeepAt (pairS (H+1) (H+1+1) w.heap.size))
  (fun W hW=>by
   have h:=pairs_gives (H+1) (H+1+1) w.heap.size c c' A A' xs ys (by omega) (by omega) W ((hW.cell (p:=⟨H+1,0,none⟩) (by show H+1<_;omega)).trans bX.cell) ((hW.cell (p:=⟨H+1+1,0,none⟩) (by show H+1+1<_;omega)).trans bY.cell)
    (hx.below (hb0.trans (hW.mono (by omega)))) (hy.below (hb0.trans (hW.mono (by omega))))
   rwa [show max xs.length ys.length=xs.length from by omega]at h)
  (fun k A₁ B₁ o o' _ h=>keepAt_round (pairS_lt (by omega) (by omega) (by omega)) o o' h)
  ?hps
  (fun k W=>(∃v,Boxed W H 28 v/\W.ownsRow w.heap.size 89 1 v k (ints .u32 (outs q xs ys k))/\True)/\Boxed W w.heap.size 2 (.int .i64 1)/\Boxed W (w.heap.size+1) 2 (.int .i64 q)/\Boxed W (w.heap.size+1+1) 2 (.int .i64 (crr q xs ys k)) /\
   Boxed W (w.heap.size+1+1+1) 153 (.func (.func 189) #[] #[.pointer (some ⟨w.heap.size,0,none⟩),.pointer (some ⟨w.heap.size+1,0,none⟩),.pointer (some ⟨w.heap.size+1+1,0,none⟩)])/\Boxed W (H+1) 28 (.slice A xs.length c)/\Boxed W (H+1+1) 28 (.slice A' ys.length c')/\Below w.heap.size w W)
  (fun _ _ _=>False)
  ?hI ?hIx ⟨⟨_,bW,hown0,trivial⟩,b0,b1,b2,b3,bX,bY,hb0⟩
  (fun k=>{ tmps:=#[.slice A xs.length c,.slice A' ys.length c',.int .i64 1,.int .i64 q,undef,undef,undef,undef,.slice none 0 0,.pointer (some ⟨w.heap.size+1+1+1,0,none⟩),.pointer (some ⟨H,0,none⟩),.int .u32 ((xs.getD k 0:Nat):Int),.int .u32 ((ys.getD k 0:Nat):Int),
   .int .i64 1,.int .i64 q,.func (.func 189) #[] #[.pointer (some ⟨w.heap.size,0,none⟩),.pointer (some ⟨w.heap.size+1,0,none⟩),.pointer (some ⟨w.heap.size+1+1,0,none⟩)],.slice A xs.length c,.int .i64 (xs.length:Nat),.slice A' ys.length c',.int .i64 (ys.length:Nat),.int .i64 (xs.length:Nat),.int .i64 ((xs.length:Nat)+1),.slice (some ⟨w.heap.size+1+1+1+1,0,none⟩) 0 (xs.length+1),
   .slice A xs.length c,.slice A' ys.length c',.func (.func 190) #[] #[.pointer (some ⟨H+1,0,none⟩),.pointer (some ⟨H+1+1,0,none⟩)],.int .u32 ((xs.getD k 0:Nat):Int),.int .u32 ((ys.getD k 0:Nat):Int),undef,undef,undef,undef,undef,undef,undef,undef,undef,undef,undef,undef],defers:=[] }) ?assign ?body ?done ?stop
 case hg=>rfl
 case hps=>exact fun _=>rfl
 case hI =>
  exact OwnFrom.and (Own.from (holdsRow_own w.heap.size H 28 89 1 (fun k=>k) (fun k=>ints .u32 (outs q xs ys k)) (fun _ _=>True)) _) (OwnFrom.and (Own.from (boxed_own _ _ _) _) (OwnFrom.and (Own.from (boxed_own _ _ _) _) (OwnFrom.and (Own.from (boxed_own _ _ _) _) (OwnFrom.and (Own.from (boxed_own _ _ _) _) (OwnFrom.and (Own.from (boxed_own _ _ _) _) (OwnFrom.and (Own.from (boxed_own _ _ _) _) (ownFrom_below (Nat.le_refl _) (by omega))))))))
 case hIx=>exact fun _ _ _ _ _ h _ _=>h
 case assign =>
  intro l k W K hK;unfold pairE
  gi_wp2
  exact hK
 case body =>
  rintro l k W hlt ⟨⟨v,bW1,hown1,_⟩,c0,c1,c2,c3,cX,cY,hb1⟩ hk;have hu:=getD_dg (by decide) dx k;have hv:=getD_dg (by decide) dy k;obtain ⟨hr1,hr2⟩:=crr_bounds hq dx dy k;have HD:=Hd (outD_cast q xs ys k);have HC:Hid (crr q xs ys (k+1)=((xs.getD k 0:Nat)+q*(ys.getD k 0:Nat)+crr q xs ys k) / 4294967296):=rfl;unfold b32 at hu hv;obtain ⟨u,eu⟩:∃u,Hid (xs.getD k 0=u):=⟨_,rfl⟩
  obtain ⟨z,ez⟩:∃z,Hid (ys.getD k 0=z):=⟨_,rfl⟩
  obtain ⟨r,er⟩:∃r,Hid (crr q xs ys k=r):=⟨_,rfl⟩
  rw[eu.out]at hu HD HC ⊢;rw[ez.out]at hv HD HC ⊢;rw[er.out]at hr1 hr2 HD HC c2;obtain ⟨d,ed⟩:∃d,Hid (outD q xs ys k=d):=⟨_,rfl⟩
  obtain ⟨r',er'⟩:∃r',Hid (crr q xs ys (k+1)=r'):=⟨_,rfl⟩
  rw[ed.out]at HD;rw[er'.out]at HC ⊢
  have STEP:∀V:World,V.cell? ⟨w.heap.size,0,none⟩=some (.int .i64 1)->V.cell? ⟨w.heap.size+1,0,none⟩=some (.int .i64 q)->V.cell? ⟨w.heap.size+1+1,0,none⟩=some (.int .i64 r)->V.frozen? ⟨w.heap.size+1+1,0,none⟩=false ->
    Calls Tryz.prog 189 #[.int .u32 (u:Nat),.int .u32 (z:Nat),.pointer (some ⟨w.heap.size,0,none⟩),.pointer (some ⟨w.heap.size+1,0,none⟩),.pointer (some ⟨w.heap.size+1+1,0,none⟩)] V fun e V'=>e=.returned (.int .u32 (d:Nat))/\V'=V.setCell ⟨w.heap.size+1+1,0,none⟩ (.int .i64 r'):=by
   intro V v0 v1 v2 f2
   have hqz:q*(z:Int)=z∨q*(z:Int)=-z:=by rcases hq with rfl|rfl<;>omega
   refine (combiner1_any 1 q r u z _ _ _ V hu hv v0 v1 v2 f2 (by omega) (by omega) (by omega) (by omega) (by omega) (by omega) (by omega) (by omega)).mono ?_;rintro e V' ⟨rfl,rfl⟩;rw[HD.out,HC.out,Int.one_mul];exact ⟨rfl,rfl⟩
  have STEPH:=Hd STEP;clear STEP;have hs1:=hb1.size;have hn0:w.heap.size<=(W.drew.setCell ⟨w.heap.size+1+1,0,none⟩ (.int .i64 r')).heap.size:=by simpa [World.setCell]using hs1
  have hownC:(W.drew.setCell ⟨w.heap.size+1+1,0,none⟩ (.int .i64 r')).ownsRow w.heap.size 89 1 v k (ints .u32 (outs q xs ys k)):=ownsRow_setCell_other (w:=W.drew) hown1.drew (Ne.symm (c2.not_row (by decide) hown1)) _;have bWC:Boxed (W.drew.setCell ⟨w.heap.size+1+1,0,none⟩ (.int .i64 r')) H 28 v:=Boxed.other (W:=W.drew) bW1 (by omega) _;have c2C:Boxed (W.drew.setCell ⟨w.heap.size+1+1,0,none⟩ (.int .i64 r')) (w.heap.size+1+1) 2 (.int .i64 r'):=Boxed.set (W:=W.drew) _ c2;have c0C:Boxed (W.drew.setCell ⟨w.heap.size+1+1,0,none⟩ (.int .i64 r')) w.heap.size 2 (.int .i64 1):=Boxed.other (W:=W.drew) c0 (by omega) _;have c1C:Boxed (W.drew.setCell ⟨w.heap.size+1+1,0,none⟩ (.int .i64 r')) (w.heap.size+1) 2 (.int .i64 q):=Boxed.other (W:=W.drew) c1 (by omega) _;have c3C:=Boxed.other (W:=W.drew) c3 (B':=w.heap.size+1+1) (by omega) (.int .i64 r');have hbC:Below w.heap.size w (W.drew.setCell ⟨w.heap.size+1+1,0,none⟩ (.int .i64 r')):=hb1.drew.setCell (p:=⟨w.heap.size+1+1,0,none⟩) (by show w.heap.size<=w.heap.size+1+1;omega) _;have cXC:=Boxed.other (W:=W.drew) cX (B':=w.heap.size+1+1) (by omega) (.int .i64 r');have cYC:=Boxed.other (W:=W.drew) cY (B':=w.heap.size+1+1) (by omega) (.int .i64 r')
  obtain ⟨v',w1,hrun,hown',hgrow,_,_⟩:=run_append_own_at (P:=Tryz.prog) ((W.drew.setCell ⟨w.heap.size+1+1,0,none⟩ (.int .i64 r')).alloc (.cells #[.int .u32 (d:Nat)] 89)) w.heap.size 28 28 89 i0 (.int .u32 0) 1 4
   Tryz.underlying28 hi hz0 hz1 hz2 rfl (by decide) v k _ (hownC.alloc _) ⟨W.heap.size,0,none⟩ 1 1 [.int .u32 (d:Nat)] rfl (by
    intro j u' hj
    match j,hj with
    | 0,hj =>
     simp at hj;subst hj;have h:=(Boxed.new (W.drew.setCell ⟨w.heap.size+1+1,0,none⟩ (.int .i64 r')) 89 (.int .u32 (d:Nat))).cell
     simpa [Addr.add,World.setCell]using h) (by simp[Value.oneCell']) (by unfold maxLen;omega) (by omega) (by simp;omega)
  obtain ⟨g',cap',rfl⟩:=ownsRow_succ hown';obtain ⟨hv1,hv2,hr2',hk2,hb2⟩:=bWC.appended (by decide) hownC hn0 (by omega) hown' hgrow;have HRUN:=Hd hrun
  have FIN:leftBy W0.heap.size (KeepAt (pairS (H+1) (H+1+1) w.heap.size)) (fun W=>(∃v,Boxed W H 28 v/\W.ownsRow w.heap.size 89 1 v (k+1) (ints .u32 (outs q xs ys (k+1)))/\True)/\Boxed W w.heap.size 2 (.int .i64 1)/\Boxed W (w.heap.size+1) 2 (.int .i64 q)/\Boxed W (w.heap.size+1+1) 2 (.int .i64 r') /\
    Boxed W (w.heap.size+1+1+1) 153 (.func (.func 189) #[] #[.pointer (some ⟨w.heap.size,0,none⟩),.pointer (some ⟨w.heap.size+1,0,none⟩),.pointer (some ⟨w.heap.size+1+1,0,none⟩)])/\Boxed W (H+1) 28 (.slice A xs.length c)/\Boxed W (H+1+1) 28 (.slice A' ys.length c')/\Below w.heap.size w W) (fun _ _=>False) W .normal { tmps:=#[],defers:=[] } (w1.setCell ⟨H,0,none⟩ (.slice (some ⟨g',0,none⟩) (k+1) cap')):=by
   have dX:=((cXC.alloc _).kept hgrow (cXC.not_row (by decide) hownC)).other (B':=H) (by omega) (.slice (some ⟨g',0,none⟩) (k+1) cap');have dY:=((cYC.alloc _).kept hgrow (cYC.not_row (by decide) hownC)).other (B':=H) (by omega) (.slice (some ⟨g',0,none⟩) (k+1) cap');refine ⟨(((KeepsOthers.drew W).trans (KeepsOthers.setCell _ _ _)).trans hk2).from _,?_,⟨_,hv2,?_,trivial⟩,?_,?_,?_,?_,dX,dY,hbC.trans hb2⟩
   .rintro p (rfl|rfl|hp)
    .rw[dX.cell,cX.cell]
    .rw[dY.cell,cY.cell]
    .exact ((Below.refl _ W).drew.setCell (p:=⟨w.heap.size+1+1,0,none⟩) (by show w.heap.size<=w.heap.size+1+1;omega) _ |>.trans hb2).cell hp
   .have h:=hr2';rw[outs,ed.out]
    simpa [ints]using h
   .exact ((c0C.alloc _).kept hgrow (c0C.not_row (by decide) hownC)).other (by omega) (.slice (some ⟨g',0,none⟩) (k+1) cap')
   .exact ((c1C.alloc _).kept hgrow (c1C.not_row (by decide) hownC)).other (by omega) (.slice (some ⟨g',0,none⟩) (k+1) cap')
   .exact ((c2C.alloc _).kept hgrow (c2C.not_row (by decide) hownC)).other (by omega) (.slice (some ⟨g',0,none⟩) (k+1) cap')
   .exact ((c3C.alloc _).kept hgrow (c3C.not_row (by decide) hownC)).other (by omega) (.slice (some ⟨g',0,none⟩) (k+1) cap')
  have FINH:=Hd FIN;clear FIN hv2 hr2' hk2 hb2 hown' hgrow hownC bWC c2C c0C c1C c3C cXC cYC hbC cX cY hrun bX bY hb0 b0 b1 b2 b3 bW hown0;have cAL:=((bW1.other (B':=w.heap.size+1+1) (by omega) (.int .i64 r')).alloc (.cells #[.int .u32 (d:Nat)] 89)).cell;have cW:=bW1.cell;have cF:=c3.cell;have cW1:=hv1.cell;have fW1:=hv1.frozen
  gi_wp2_with fail
  refine region_round follows (by kernel_rfl) ?_;refine wpAnyIn_take (i:=2) (v:=.int .u32 (u:Nat)) rfl rfl (by kernel_rfl) (by kernel_rfl) (by kernel_rfl) (fun _ _ _ h=>h) ⟨Or.inl ⟨by rfl,fun w=>by go_simp⟩,fun _=>rfl⟩ ?_;refine wpAnyIn_take (i:=3) (v:=.int .u32 (z:Nat)) rfl rfl (by kernel_rfl) (by kernel_rfl) (by kernel_rfl) (fun _ _ _ h=>h) ⟨Or.inl ⟨by rfl,fun w=>by go_simp⟩,fun _=>rfl⟩ ?_;refine wpAnyIn_ready (rs:=[0,1]) (by kernel_rfl) (by simp) (AllReadyIn.cons rfl (fun K hK=>?_) (AllReadyIn.cons rfl (fun K hK=>?_) AllReadyIn.nil))
  .go_simp;refine hK _ _ ?_;clear hK K
   refine rdyI (i:=1) (by kernel_rfl) rfl (fun K hK=>?_)
   go_simp;refine hK _ _ ?_;clear hK K
   refine rdyI (i:=4) (by kernel_rfl) rfl (fun K hK=>?_)
   go_simp;gi_wp2_with (refine ⟨trivial,?_⟩;gi_at_call 189;refine (callsIn_wide.2 (STEPH.out W.drew c0.cell c1.cell c2.cell c2.frozen)).mono ?_;rintro e w' ⟨rfl,rfl⟩)
   refine rdyI (i:=5) (by kernel_rfl) rfl (fun K hK=>?_)
   go_simp;refine hK _ _ ?_;clear hK K
   refine rdyI (i:=6) (by kernel_rfl) rfl (fun K hK=>?_);refine step_append_in rfl (.tmp 28) (.tmp 33) 28 rfl (by rfl) (by rfl) HRUN.out ?_;refine hK _ _ ?_;clear hK K;refine rdyI (i:=7) (by kernel_rfl) rfl (fun K hK=>?_)
   go_simp;refine hK _ _ ?_;clear hK K
   refine wpAnyIn_done (by kernel_rfl) ?_ _;exact FINH.out
  .go_simp;refine hK _ _ ?_;clear hK K
   refine wpAnyIn_ready (rs:=[0,4]) (by kernel_rfl) (by simp) (AllReadyIn.cons rfl (fun K hK=>?_) (AllReadyIn.cons rfl (fun K hK=>?_) AllReadyIn.nil))
   .go_simp;refine hK _ _ ?_;clear hK K
    refine rdyI (i:=4) (by kernel_rfl) rfl (fun K hK=>?_)
    go_simp;gi_wp2_with (refine ⟨trivial,?_⟩;gi_at_call 189;refine (callsIn_wide.2 (STEPH.out W.drew c0.cell c1.cell c2.cell c2.frozen)).mono ?_;rintro e w' ⟨rfl,rfl⟩)
    refine rdyI (i:=5) (by kernel_rfl) rfl (fun K hK=>?_)
    go_simp;refine hK _ _ ?_;clear hK K
    refine rdyI (i:=6) (by kernel_rfl) rfl (fun K hK=>?_);refine step_append_in rfl (.tmp 28) (.tmp 33) 28 rfl (by rfl) (by rfl) HRUN.out ?_;refine hK _ _ ?_;clear hK K;refine rdyI (i:=7) (by kernel_rfl) rfl (fun K hK=>?_)
    go_simp;refine hK _ _ ?_;clear hK K
    refine wpAnyIn_done (by kernel_rfl) ?_ _;exact FINH.out
   .go_simp;gi_wp2_with (refine ⟨trivial,?_⟩;gi_at_call 189;refine (callsIn_wide.2 (STEPH.out W.drew c0.cell c1.cell c2.cell c2.frozen)).mono ?_;rintro e w' ⟨rfl,rfl⟩)
    refine wpAnyIn_ready (rs:=[0,5]) (by kernel_rfl) (by simp) (AllReadyIn.cons rfl (fun K hK=>?_) (AllReadyIn.cons rfl (fun K hK=>?_) AllReadyIn.nil))
    .go_simp;refine hK _ _ ?_;clear hK K
     refine rdyI (i:=5) (by kernel_rfl) rfl (fun K hK=>?_)
     go_simp;refine hK _ _ ?_;clear hK K
     refine rdyI (i:=6) (by kernel_rfl) rfl (fun K hK=>?_);refine step_append_in rfl (.tmp 28) (.tmp 33) 28 rfl (by rfl) (by rfl) HRUN.out ?_;refine hK _ _ ?_;clear hK K;refine rdyI (i:=7) (by kernel_rfl) rfl (fun K hK=>?_)
     go_simp;refine hK _ _ ?_;clear hK K
     refine wpAnyIn_done (by kernel_rfl) ?_ _;exact FINH.out
    .go_simp;refine hK _ _ ?_;clear hK K
     refine rdyI (i:=0) (by kernel_rfl) rfl (fun K hK=>?_)
     go_simp;refine hK _ _ ?_;clear hK K
     refine rdyI (i:=6) (by kernel_rfl) rfl (fun K hK=>?_);refine step_append_in rfl (.tmp 28) (.tmp 33) 28 rfl (by rfl) (by rfl) HRUN.out ?_;refine hK _ _ ?_;clear hK K;refine rdyI (i:=7) (by kernel_rfl) rfl (fun K hK=>?_)
     go_simp;refine hK _ _ ?_;clear hK K
     refine wpAnyIn_done (by kernel_rfl) ?_ _;exact FINH.out
 case done =>
  rintro W ⟨⟨v,bW1,hown1,_⟩,c0,c1,c2,c3,cX,cY,hb1⟩ hK;obtain ⟨hr1,hr2⟩:=crr_bounds hq dx dy xs.length;have HD:=Hd (outD_cast q xs ys xs.length);have HC:Hid (crr q xs ys (xs.length+1)=((xs.getD xs.length 0:Nat)+q*(ys.getD xs.length 0:Nat)+crr q xs ys xs.length) / 4294967296):=rfl;obtain ⟨u,eu⟩:∃u,Hid (xs.getD xs.length 0=u):=⟨_,rfl⟩
  obtain ⟨z,ez⟩:∃z,Hid (ys.getD xs.length 0=z):=⟨_,rfl⟩
  obtain ⟨r,er⟩:∃r,Hid (crr q xs ys xs.length=r):=⟨_,rfl⟩
  rw[eu.out]at HD HC;rw[ez.out]at HD HC;have hu0:u=0:=by rw[<-eu.out];exact getD_over (Nat.le_refl _)
  have hz0':z=0:=by rw[<-ez.out];exact getD_over hle
  subst hu0 hz0';rw[er.out]at hr1 hr2 HD HC c2;obtain ⟨d,ed⟩:∃d,Hid (outD q xs ys xs.length=d):=⟨_,rfl⟩
  obtain ⟨r',er'⟩:∃r',Hid (crr q xs ys (xs.length+1)=r'):=⟨_,rfl⟩
  rw[ed.out]at HD;rw[er'.out]at HC
  have STEP:∀V:World,V.cell? ⟨w.heap.size,0,none⟩=some (.int .i64 1)->V.cell? ⟨w.heap.size+1,0,none⟩=some (.int .i64 q)->V.cell? ⟨w.heap.size+1+1,0,none⟩=some (.int .i64 r)->V.frozen? ⟨w.heap.size+1+1,0,none⟩=false ->
    Calls Tryz.prog 189 #[.int .u32 0,.int .u32 0,.pointer (some ⟨w.heap.size,0,none⟩),.pointer (some ⟨w.heap.size+1,0,none⟩),.pointer (some ⟨w.heap.size+1+1,0,none⟩)] V fun e V'=>e=.returned (.int .u32 (d:Nat))/\V'=V.setCell ⟨w.heap.size+1+1,0,none⟩ (.int .i64 r'):=by
   intro V v0 v1 v2 f2;have hqz:q*((0:Nat):Int)=0:=by simp
   refine (combiner1_any 1 q r 0 0 _ _ _ V (by omega) (by omega) v0 v1 v2 f2 (by omega) (by omega) (by omega) (by omega) (by omega) (by omega) (by omega) (by omega)).mono ?_;rintro e V' ⟨rfl,rfl⟩;rw[HD.out,HC.out,Int.one_mul];exact ⟨rfl,rfl⟩
  have STEPH:=Hd STEP;clear STEP;have hs1:=hb1.size;have hn0:w.heap.size<=(W.drew.setCell ⟨w.heap.size+1+1,0,none⟩ (.int .i64 r')).heap.size:=by simpa [World.setCell]using hs1
  have hownC:(W.drew.setCell ⟨w.heap.size+1+1,0,none⟩ (.int .i64 r')).ownsRow w.heap.size 89 1 v xs.length (ints .u32 (outs q xs ys xs.length)):=ownsRow_setCell_other (w:=W.drew) hown1.drew (Ne.symm (c2.not_row (by decide) hown1)) _;have bWC:Boxed (W.drew.setCell ⟨w.heap.size+1+1,0,none⟩ (.int .i64 r')) H 28 v:=Boxed.other (W:=W.drew) bW1 (by omega) _;have c2C:Boxed (W.drew.setCell ⟨w.heap.size+1+1,0,none⟩ (.int .i64 r')) (w.heap.size+1+1) 2 (.int .i64 r'):=Boxed.set (W:=W.drew) _ c2;have c0C:Boxed (W.drew.setCell ⟨w.heap.size+1+1,0,none⟩ (.int .i64 r')) w.heap.size 2 (.int .i64 1):=Boxed.other (W:=W.drew) c0 (by omega) _;have c1C:Boxed (W.drew.setCell ⟨w.heap.size+1+1,0,none⟩ (.int .i64 r')) (w.heap.size+1) 2 (.int .i64 q):=Boxed.other (W:=W.drew) c1 (by omega) _;have c3C:=Boxed.other (W:=W.drew) c3 (B':=w.heap.size+1+1) (by omega) (.int .i64 r');have hbC:Below w.heap.size w (W.drew.setCell ⟨w.heap.size+1+1,0,none⟩ (.int .i64 r')):=hb1.drew.setCell (p:=⟨w.heap.size+1+1,0,none⟩) (by show w.heap.size<=w.heap.size+1+1;omega) _;have cXC:=Boxed.other (W:=W.drew) cX (B':=w.heap.size+1+1) (by omega) (.int .i64 r');have cYC:=Boxed.other (W:=W.drew) cY (B':=w.heap.size+1+1) (by omega) (.int .i64 r')
  obtain ⟨v',w1,hrun,hown',hgrow,_,_⟩:=run_append_own_at (P:=Tryz.prog) ((W.drew.setCell ⟨w.heap.size+1+1,0,none⟩ (.int .i64 r')).alloc (.cells #[.int .u32 (d:Nat)] 89)) w.heap.size 28 28 89 i0 (.int .u32 0) 1 4
   Tryz.underlying28 hi hz0 hz1 hz2 rfl (by decide) v xs.length _ (hownC.alloc _) ⟨W.heap.size,0,none⟩ 1 1 [.int .u32 (d:Nat)] rfl (by
    intro j u' hj
    match j,hj with
    | 0,hj =>
     simp at hj;subst hj;have h:=(Boxed.new (W.drew.setCell ⟨w.heap.size+1+1,0,none⟩ (.int .i64 r')) 89 (.int .u32 (d:Nat))).cell
     simpa [Addr.add,World.setCell]using h) (by simp[Value.oneCell']) (by unfold maxLen;omega) (by omega) (by simp;omega)
  obtain ⟨g',cap',rfl⟩:=ownsRow_succ hown';obtain ⟨hv1,hv2,hr2',hk2,hb2⟩:=bWC.appended (by decide) hownC hn0 (by omega) hown' hgrow;have HRUN:=Hd hrun
  have hres:(w1.ownsRow w.heap.size 89 1 (.slice (some ⟨g',0,none⟩) (xs.length+1) cap') (xs.length+1) (ints .u32 (outs q xs ys (xs.length+1)))):=by
   rw[outs,ed.out]
   simpa [ints]using hown'
  have hsame:w1.heap[W0.heap.size]?=some (.deferred (some [])):=by
   have h1:(W.drew.setCell ⟨w.heap.size+1+1,0,none⟩ (.int .i64 r')).heap[W0.heap.size]?=some (.deferred (some [])):=(KeepsOthers.setCell W.drew _ _).same _ _ hK rfl;have h2:=(KeepsOthers.alloc (W.drew.setCell ⟨w.heap.size+1+1,0,none⟩ (.int .i64 r')) (.cells #[.int .u32 (d:Nat)] 89)).same _ _ h1 rfl;refine (hgrow.block _ (Array.getElem?_eq_some_iff.1 h2).1 ?_).trans h2;intro e
   rcases hownC.2 with ⟨rfl,_⟩|⟨g,cap,cur,rfl,_,hg,_⟩
   .simp[Value.ownBlock]at e
   .obtain rfl:W0.heap.size=g:=by simpa [Value.ownBlock]using e
    rw[hg]at h1;cases h1
  have hbW:Below w.heap.size w w1:=(hbC.alloc hn0 _).grown hgrow (by simp;omega) (fun j e=>by
   rcases hownC.2 with ⟨rfl,_⟩|⟨g,cap,cur,rfl,hb,_,_⟩
   .simp[Value.ownBlock]at e
   .obtain rfl:g=j:=by simpa [Value.ownBlock]using e
    exact hb)
  have HEND:Hid (w1.ownsRow w.heap.size 89 1 (.slice (some ⟨g',0,none⟩) (xs.length+1) cap') (xs.length+1) (ints .u32 (outs q xs ys (xs.length+1)))/\w1.heap[W0.heap.size]?=some (.deferred (some []))/\Below w.heap.size w w1):=⟨hres,hsame,hbW⟩
  have cAL:=((bW1.other (B':=w.heap.size+1+1) (by omega) (.int .i64 r')).alloc (.cells #[.int .u32 (d:Nat)] 89)).cell;have cW:=bW1.cell;have cF:=c3.cell;have HRUN:=Hd hrun;clear hres hsame hbW hv2 hr2' hk2 hb2 hown' hgrow hownC bWC c2C c0C c1C c3C cXC cYC hbC cX cY hrun bX bY hb0 b0 b1 b2 b3 bW hown0 hK
  gi_wp2_with fail
  refine wpIn_region_any follows ?_;refine (show wpAnyIn _ _ _ _ _ _ _ _ _ (World.drew _) from ?_);refine wpAnyIn_ready (rs:=[0,1]) (by kernel_rfl) (by simp) (AllReadyIn.cons rfl (fun K hK=>?_) (AllReadyIn.cons rfl (fun K hK=>?_) AllReadyIn.nil))
  .go_simp;refine hK _ _ ?_;clear hK K
   refine rdyI (i:=1) (by kernel_rfl) rfl (fun K hK=>?_)
   go_simp;refine hK _ _ ?_;clear hK K
   refine rdyI (i:=2) (by kernel_rfl) rfl (fun K hK=>?_)
   go_simp;gi_wp2_with (refine ⟨trivial,?_⟩;gi_at_call 189;refine (callsIn_wide.2 (STEPH.out W.drew c0.cell c1.cell c2.cell c2.frozen)).mono ?_;rintro e w' ⟨rfl,rfl⟩)
   refine rdyI (i:=3) (by kernel_rfl) rfl (fun K hK=>?_)
   go_simp;refine hK _ _ ?_;clear hK K
   refine rdyI (i:=4) (by kernel_rfl) rfl (fun K hK=>?_);refine step_append_in rfl (.tmp 35) (.tmp 38) 28 rfl (by rfl) (by rfl) HRUN.out ?_;refine hK _ _ ?_;clear hK K;refine rdyI (i:=5) (by kernel_rfl) rfl (fun K hK=>?_)
   go_simp;refine hK _ _ ?_;clear hK K
   refine wpAnyIn_done (by kernel_rfl) ?_ _
   gi_wp2
   obtain ⟨e1,e2,e3⟩:=HEND.out;rw[hs0]at e2;refine ⟨by simp,.inl ⟨_,_,rfl,run_takeDeferred e2,?_⟩⟩;exact ⟨_,results_tmp rfl _ _ _,_,rfl,ownsRow_putObj e1 _ e2 rfl,e3.grown (grownBy_putObj' _ _ _) e3.size (fun k e=>by cases e;omega)⟩
  .go_simp;refine hK _ _ ?_;clear hK K
   refine wpAnyIn_ready (rs:=[0,2]) (by kernel_rfl) (by simp) (AllReadyIn.cons rfl (fun K hK=>?_) (AllReadyIn.cons rfl (fun K hK=>?_) AllReadyIn.nil))
   .go_simp;refine hK _ _ ?_;clear hK K
    refine rdyI (i:=2) (by kernel_rfl) rfl (fun K hK=>?_)
    go_simp;gi_wp2_with (refine ⟨trivial,?_⟩;gi_at_call 189;refine (callsIn_wide.2 (STEPH.out W.drew c0.cell c1.cell c2.cell c2.frozen)).mono ?_;rintro e w' ⟨rfl,rfl⟩)
    refine rdyI (i:=3) (by kernel_rfl) rfl (fun K hK=>?_)
    go_simp;refine hK _ _ ?_;clear hK K
    refine rdyI (i:=4) (by kernel_rfl) rfl (fun K hK=>?_);refine step_append_in rfl (.tmp 35) (.tmp 38) 28 rfl (by rfl) (by rfl) HRUN.out ?_;refine hK _ _ ?_;clear hK K;refine rdyI (i:=5) (by kernel_rfl) rfl (fun K hK=>?_)
    go_simp;refine hK _ _ ?_;clear hK K
    refine wpAnyIn_done (by kernel_rfl) ?_ _
    gi_wp2
    obtain ⟨e1,e2,e3⟩:=HEND.out;rw[hs0]at e2;refine ⟨by simp,.inl ⟨_,_,rfl,run_takeDeferred e2,?_⟩⟩;exact ⟨_,results_tmp rfl _ _ _,_,rfl,ownsRow_putObj e1 _ e2 rfl,e3.grown (grownBy_putObj' _ _ _) e3.size (fun k e=>by cases e;omega)⟩
   .go_simp;gi_wp2_with (refine ⟨trivial,?_⟩;gi_at_call 189;refine (callsIn_wide.2 (STEPH.out W.drew c0.cell c1.cell c2.cell c2.frozen)).mono ?_;rintro e w' ⟨rfl,rfl⟩)
    refine wpAnyIn_ready (rs:=[0,3]) (by kernel_rfl) (by simp) (AllReadyIn.cons rfl (fun K hK=>?_) (AllReadyIn.cons rfl (fun K hK=>?_) AllReadyIn.nil))
    .go_simp;refine hK _ _ ?_;clear hK K
     refine rdyI (i:=3) (by kernel_rfl) rfl (fun K hK=>?_)
     go_simp;refine hK _ _ ?_;clear hK K
     refine rdyI (i:=4) (by kernel_rfl) rfl (fun K hK=>?_);refine step_append_in rfl (.tmp 35) (.tmp 38) 28 rfl (by rfl) (by rfl) HRUN.out ?_;refine hK _ _ ?_;clear hK K;refine rdyI (i:=5) (by kernel_rfl) rfl (fun K hK=>?_)
     go_simp;refine hK _ _ ?_;clear hK K
     refine wpAnyIn_done (by kernel_rfl) ?_ _
     gi_wp2
     obtain ⟨e1,e2,e3⟩:=HEND.out;rw[hs0]at e2;refine ⟨by simp,.inl ⟨_,_,rfl,run_takeDeferred e2,?_⟩⟩;exact ⟨_,results_tmp rfl _ _ _,_,rfl,ownsRow_putObj e1 _ e2 rfl,e3.grown (grownBy_putObj' _ _ _) e3.size (fun k e=>by cases e;omega)⟩
    .go_simp;refine hK _ _ ?_;clear hK K
     refine rdyI (i:=0) (by kernel_rfl) rfl (fun K hK=>?_)
     go_simp;refine hK _ _ ?_;clear hK K
     refine rdyI (i:=4) (by kernel_rfl) rfl (fun K hK=>?_);refine step_append_in rfl (.tmp 35) (.tmp 38) 28 rfl (by rfl) (by rfl) HRUN.out ?_;refine hK _ _ ?_;clear hK K;refine rdyI (i:=5) (by kernel_rfl) rfl (fun K hK=>?_)
     go_simp;refine hK _ _ ?_;clear hK K
     refine wpAnyIn_done (by kernel_rfl) ?_ _
     gi_wp2
     obtain ⟨e1,e2,e3⟩:=HEND.out;rw[hs0]at e2;refine ⟨by simp,.inl ⟨_,_,rfl,run_takeDeferred e2,?_⟩⟩;exact ⟨_,results_tmp rfl _ _ _,_,rfl,ownsRow_putObj e1 _ e2 rfl,e3.grown (grownBy_putObj' _ _ _) e3.size (fun k e=>by cases e;omega)⟩
 case stop=>exact fun _ _ _ _ h _=>h.elim
end Go.Proofs.YtglhdielkkhefaaGreat

namespace Go.Proofs.YtglhdielkkhefaaGreat
open Go.RowKit Go.Shelf
attribute [local go_sem] Oper.semAt_some
theorem combine_y (q:Int)(hq:q=1∨q=-1)(A A':Option Addr)(c c':Nat)(xs ys:List Nat)(w:World)(hx:Rd .u32 w w.heap.size A xs)(hy:Rd .u32 w w.heap.size A' ys)
  (dx:Dg b32 xs) (dy:Dg b32 ys) (hxl:xs.length<=4294967296) (hyl:ys.length<=4294967296) (hle:xs.length<ys.length) :
  CallsIn Fence.wide 3 Tryz.prog 160 #[.slice A xs.length c,.slice A' ys.length c',.int .i64 1,.int .i64 q] w fun e w'=>∃v,e=.returned v /\
   w'.ownsRow w.heap.size 89 1 v (ys.length+1) (ints .u32 (outs q xs ys (ys.length+1)))/\Below w.heap.size w w':=by
 obtain ⟨i0,hi,hz0,hz1,hz2⟩:=info_parts infoWord;refine callsIn_of_wp_marks Tryz.func160 rfl trivial ?_ rfl;simp only[Tryz.ntmps160,List.size_toArray,List.length_cons,List.length_nil,Nat.reduceAdd,Nat.reduceSub,Array.replicate_succ,Array.replicate_zero,List.push_toArray,List.append_toArray,List.nil_append,List.cons_append]
 gi_wp2_with (first
  | (refine ⟨trivial,?_⟩;gi_at_call 177;refine (callsIn_wide.2 (combiner_any _ _ _)).mono ?_;rintro e w' ⟨rfl,rfl⟩)
  | (refine ⟨trivial,?_⟩;gi_at_call 178;refine (callsIn_wide.2 (pairs_any _ _ _ _ _ _ _)).mono ?_;rintro e w' ⟨rfl,rfl⟩)
  | (gi_at_make;refine wpListIn_make_own _ rfl _ _ 28 rfl w.heap.size 89 i0 (.int .u32 0) 1 Tryz.underlying28 hi hz0 hz1 .i64 .i64 _ (ys.length+1) rfl rfl (by omega) (by rw[hz2];omega) (by unfold maxLen;omega) (by simp;omega) ?_;intro w4 hown4 hgrow4))
 obtain ⟨W3,hW3⟩:∃W3,W3=(((w.alloc (.cells #[.int .i64 1] 2)).alloc (.cells #[.int .i64 q] 2)).alloc (.cells #[.int .i64 0] 2)).alloc (.cells #[.func (.func 189) #[] #[.pointer (some ⟨w.heap.size,0,none⟩),.pointer (some ⟨w.heap.size+1,0,none⟩),.pointer (some ⟨w.heap.size+1+1,0,none⟩)]] 153):=⟨_,rfl⟩
 have b0:Boxed W3 w.heap.size 2 (.int .i64 1):=by rw[hW3];exact (((Boxed.new w _ _).alloc _).alloc _).alloc _
 have b1:Boxed W3 (w.heap.size+1) 2 (.int .i64 q):=by
  have h:=Boxed.new (w.alloc (.cells #[.int .i64 1] 2)) 2 (.int .i64 q);rw[szA]at h;rw[hW3];exact (h.alloc _).alloc _
 have b2:Boxed W3 (w.heap.size+1+1) 2 (.int .i64 0):=by
  have h:=Boxed.new ((w.alloc (.cells #[.int .i64 1] 2)).alloc (.cells #[.int .i64 q] 2)) 2 (.int .i64 0);rw[szA,szA]at h;rw[hW3];exact h.alloc _
 have b3:Boxed W3 (w.heap.size+1+1+1) 153 (.func (.func 189) #[] #[.pointer (some ⟨w.heap.size,0,none⟩),.pointer (some ⟨w.heap.size+1,0,none⟩),.pointer (some ⟨w.heap.size+1+1,0,none⟩)]):=by
  have h:=Boxed.new (((w.alloc (.cells #[.int .i64 1] 2)).alloc (.cells #[.int .i64 q] 2)).alloc (.cells #[.int .i64 0] 2)) 153 (.func (.func 189) #[] #[.pointer (some ⟨w.heap.size,0,none⟩),.pointer (some ⟨w.heap.size+1,0,none⟩),.pointer (some ⟨w.heap.size+1+1,0,none⟩)]);rw[szA,szA,szA]at h;rw[hW3];exact h
 have hb3:Below w.heap.size w W3:=by rw[hW3];exact ((bRR.alloc (by simp) _).alloc (by simp;omega) _).alloc (by simp;omega) _
 have hs3:W3.heap.size=w.heap.size+4:=by rw[hW3];simp
 rw[<-hW3]at hgrow4;clear hW3;have hs4:w.heap.size+4<=w4.heap.size:=by have:=hgrow4.size;omega
 replace b0:=b0.kept hgrow4 (by simp);replace b1:=b1.kept hgrow4 (by simp);replace b2:=b2.kept hgrow4 (by simp);replace b3:=b3.kept hgrow4 (by simp);have hb4:Below w.heap.size w w4:=hb3.grown hgrow4 (by omega) (fun k e=>by cases e);clear hb3 hs3 hgrow4;obtain ⟨H,hH⟩:∃H,w4.heap.size=H:=⟨_,rfl⟩
 rw[hH]at hs4 ⊢;obtain ⟨W0,hW0⟩:∃W0,W0=((w4.alloc (.cells #[.slice (some ⟨w.heap.size+1+1+1+1,0,none⟩) 0 (ys.length+1)] 28)).alloc (.cells #[.slice A xs.length c] 28)).alloc (.cells #[.slice A' ys.length c'] 28):=⟨_,rfl⟩
 rw[<-hW0];replace b0:Boxed W0 w.heap.size 2 (.int .i64 1):=by rw[hW0];exact ((b0.alloc _).alloc _).alloc _
 replace b1:Boxed W0 (w.heap.size+1) 2 (.int .i64 q):=by rw[hW0];exact ((b1.alloc _).alloc _).alloc _
 replace b2:Boxed W0 (w.heap.size+1+1) 2 (.int .i64 0):=by rw[hW0];exact ((b2.alloc _).alloc _).alloc _
 replace b3:Boxed W0 (w.heap.size+1+1+1) 153 (.func (.func 189) #[] #[.pointer (some ⟨w.heap.size,0,none⟩),.pointer (some ⟨w.heap.size+1,0,none⟩),.pointer (some ⟨w.heap.size+1+1,0,none⟩)]):=by rw[hW0];exact ((b3.alloc _).alloc _).alloc _
 have bW:Boxed W0 H 28 (.slice (some ⟨w.heap.size+1+1+1+1,0,none⟩) 0 (ys.length+1)):=by
  have h:=Boxed.new w4 28 (.slice (some ⟨w.heap.size+1+1+1+1,0,none⟩) 0 (ys.length+1));rw[hH]at h;rw[hW0];exact (h.alloc _).alloc _
 have bX:Boxed W0 (H+1) 28 (.slice A xs.length c):=by
  have h:=Boxed.new (w4.alloc (.cells #[.slice (some ⟨w.heap.size+1+1+1+1,0,none⟩) 0 (ys.length+1)] 28)) 28 (.slice A xs.length c);rw[szA,hH]at h;rw[hW0];exact h.alloc _
 have bY:Boxed W0 (H+1+1) 28 (.slice A' ys.length c'):=by
  have h:=Boxed.new ((w4.alloc (.cells #[.slice (some ⟨w.heap.size+1+1+1+1,0,none⟩) 0 (ys.length+1)] 28)).alloc (.cells #[.slice A xs.length c] 28)) 28 (.slice A' ys.length c');rw[szA,szA,hH]at h;rw[hW0];exact h
 have hown0:W0.ownsRow w.heap.size 89 1 (.slice (some ⟨w.heap.size+1+1+1+1,0,none⟩) 0 (ys.length+1)) 0 []:=by
  have h:=hown4;simp only[szA]at h;rw[hW0];exact ((h.alloc _).alloc _).alloc _
 have hb0:Below w.heap.size w W0:=by rw[hW0];exact ((hb4.alloc (by omega) _).alloc (by simp;omega) _).alloc (by simp;omega) _
 have hs0:W0.heap.size=H+3:=by rw[hW0];simp[hH]
 clear hW0 hH hown4 hb4
 refine wp_rounds (gf:=190) (lb:=#[.pointer (some ⟨H+1,0,none⟩),.pointer (some ⟨H+1+1,0,none⟩)]) ?hg (enters_of Tryz.func190 (by kernel_rfl) rfl)
  (N:=ys.length) (enc:=pairE xs ys) (Keep:=fun _=>KeepAt (pairS (H+1) (H+1+1) w.heap.size))
  (fun W hW=>by
   have h:=pairs_gives (H+1) (H+1+1) w.heap.size c c' A A' xs ys (by omega) (by omega) W ((hW.cell (p:=⟨H+1,0,none⟩) (by show H+1<_;omega)).trans bX.cell) ((hW.cell (p:=⟨H+1+1,0,none⟩) (by show H+1+1<_;omega)).trans bY.cell)
    (hx.below (hb0.trans (hW.mono (by omega)))) (hy.below (hb0.trans (hW.mono (by omega))))
   rwa [show max xs.length ys.length=ys.length from by omega]at h)
  (fun k A₁ B₁ o o' _ h=>keepAt_round (pairS_lt (by omega) (by omega) (by omega)) o o' h)
  ?hps
  (fun k W=>(∃v,Boxed W H 28 v/\W.ownsRow w.heap.size 89 1 v k (ints .u32 (outs q xs ys k))/\True)/\Boxed W w.heap.size 2 (.int .i64 1)/\Boxed W (w.heap.size+1) 2 (.int .i64 q)/\Boxed W (w.heap.size+1+1) 2 (.int .i64 (crr q xs ys k)) /\
   Boxed W (w.heap.size+1+1+1) 153 (.func (.func 189) #[] #[.pointer (some ⟨w.heap.size,0,none⟩),.pointer (some ⟨w.heap.size+1,0,none⟩),.pointer (some ⟨w.heap.size+1+1,0,none⟩)])/\Boxed W (H+1) 28 (.slice A xs.length c)/\Boxed W (H+1+1) 28 (.slice A' ys.length c')/\Below w.heap.size w W)
  (fun _ _ _=>False)
  ?hI ?hIx ⟨⟨_,bW,hown0,trivial⟩,b0,b1,b2,b3,bX,bY,hb0⟩
  (fun k=>{ tmps:=#[.slice A xs.length c,.slice A' ys.length c',.int .i64 1,.int .i64 q,undef,undef,undef,undef,.slice none 0 0,.pointer (some ⟨w.heap.size+1+1+1,0,none⟩),.pointer (some ⟨H,0,none⟩),.int .u32 ((xs.getD k 0:Nat):Int),.int .u32 ((ys.getD k 0:Nat):Int),
   .int .i64 1,.int .i64 q,.func (.func 189) #[] #[.pointer (some ⟨w.heap.size,0,none⟩),.pointer (some ⟨w.heap.size+1,0,none⟩),.pointer (some ⟨w.heap.size+1+1,0,none⟩)],.slice A xs.length c,.int .i64 (xs.length:Nat),.slice A' ys.length c',.int .i64 (ys.length:Nat),.int .i64 (ys.length:Nat),.int .i64 ((ys.length:Nat)+1),.slice (some ⟨w.heap.size+1+1+1+1,0,none⟩) 0 (ys.length+1),
   .slice A xs.length c,.slice A' ys.length c',.func (.func 190) #[] #[.pointer (some ⟨H+1,0,none⟩),.pointer (some ⟨H+1+1,0,none⟩)],.int .u32 ((xs.getD k 0:Nat):Int),.int .u32 ((ys.getD k 0:Nat):Int),undef,undef,undef,undef,undef,undef,undef,undef,undef,undef,undef,undef],defers:=[] }) ?assign ?body ?done ?stop
 case hg=>rfl
 case hps=>exact fun _=>rfl
 case hI =>
  exact OwnFrom.and (Own.from (holdsRow_own w.heap.size H 28 89 1 (fun k=>k) (fun k=>ints .u32 (outs q xs ys k)) (fun _ _=>True)) _) (OwnFrom.and (Own.from (boxed_own _ _ _) _) (OwnFrom.and (Own.from (boxed_own _ _ _) _) (OwnFrom.and (Own.from (boxed_own _ _ _) _) (OwnFrom.and (Own.from (boxed_own _ _ _) _) (OwnFrom.and (Own.from (boxed_own _ _ _) _) (OwnFrom.and (Own.from (boxed_own _ _ _) _) (ownFrom_below (Nat.le_refl _) (by omega))))))))
 case hIx=>exact fun _ _ _ _ _ h _ _=>h
 case assign =>
  intro l k W K hK;unfold pairE
  gi_wp2
  exact hK
 case body =>
  rintro l k W hlt ⟨⟨v,bW1,hown1,_⟩,c0,c1,c2,c3,cX,cY,hb1⟩ hk;have hu:=getD_dg (by decide) dx k;have hv:=getD_dg (by decide) dy k;obtain ⟨hr1,hr2⟩:=crr_bounds hq dx dy k;have HD:=Hd (outD_cast q xs ys k);have HC:Hid (crr q xs ys (k+1)=((xs.getD k 0:Nat)+q*(ys.getD k 0:Nat)+crr q xs ys k) / 4294967296):=rfl;unfold b32 at hu hv;obtain ⟨u,eu⟩:∃u,Hid (xs.getD k 0=u):=⟨_,rfl⟩
  obtain ⟨z,ez⟩:∃z,Hid (ys.getD k 0=z):=⟨_,rfl⟩
  obtain ⟨r,er⟩:∃r,Hid (crr q xs ys k=r):=⟨_,rfl⟩
  rw[eu.out]at hu HD HC ⊢;rw[ez.out]at hv HD HC ⊢;rw[er.out]at hr1 hr2 HD HC c2;obtain ⟨d,ed⟩:∃d,Hid (outD q xs ys k=d):=⟨_,rfl⟩
  obtain ⟨r',er'⟩:∃r',Hid (crr q xs ys (k+1)=r'):=⟨_,rfl⟩
  rw[ed.out]at HD;rw[er'.out]at HC ⊢
  have STEP:∀V:World,V.cell? ⟨w.heap.size,0,none⟩=some (.int .i64 1)->V.cell? ⟨w.heap.size+1,0,none⟩=some (.int .i64 q)->V.cell? ⟨w.heap.size+1+1,0,none⟩=some (.int .i64 r)->V.frozen? ⟨w.heap.size+1+1,0,none⟩=false ->
    Calls Tryz.prog 189 #[.int .u32 (u:Nat),.int .u32 (z:Nat),.pointer (some ⟨w.heap.size,0,none⟩),.pointer (some ⟨w.heap.size+1,0,none⟩),.pointer (some ⟨w.heap.size+1+1,0,none⟩)] V fun e V'=>e=.returned (.int .u32 (d:Nat))/\V'=V.setCell ⟨w.heap.size+1+1,0,none⟩ (.int .i64 r'):=by
   intro V v0 v1 v2 f2
   have hqz:q*(z:Int)=z∨q*(z:Int)=-z:=by rcases hq with rfl|rfl<;>omega
   refine (combiner1_any 1 q r u z _ _ _ V hu hv v0 v1 v2 f2 (by omega) (by omega) (by omega) (by omega) (by omega) (by omega) (by omega) (by omega)).mono ?_;rintro e V' ⟨rfl,rfl⟩;rw[HD.out,HC.out,Int.one_mul];exact ⟨rfl,rfl⟩
  have STEPH:=Hd STEP;clear STEP;have hs1:=hb1.size;have hn0:w.heap.size<=(W.drew.setCell ⟨w.heap.size+1+1,0,none⟩ (.int .i64 r')).heap.size:=by simpa [World.setCell]using hs1
  have hownC:(W.drew.setCell ⟨w.heap.size+1+1,0,none⟩ (.int .i64 r')).ownsRow w.heap.size 89 1 v k (ints .u32 (outs q xs ys k)):=ownsRow_setCell_other (w:=W.drew) hown1.drew (Ne.symm (c2.not_row (by decide) hown1)) _;have bWC:Boxed (W.drew.setCell ⟨w.heap.size+1+1,0,none⟩ (.int .i64 r')) H 28 v:=Boxed.other (W:=W.drew) bW1 (by omega) _;have c2C:Boxed (W.drew.setCell ⟨w.heap.size+1+1,0,none⟩ (.int .i64 r')) (w.heap.size+1+1) 2 (.int .i64 r'):=Boxed.set (W:=W.drew) _ c2;have c0C:Boxed (W.drew.setCell ⟨w.heap.size+1+1,0,none⟩ (.int .i64 r')) w.heap.size 2 (.int .i64 1):=Boxed.other (W:=W.drew) c0 (by omega) _;have c1C:Boxed (W.drew.setCell ⟨w.heap.size+1+1,0,none⟩ (.int .i64 r')) (w.heap.size+1) 2 (.int .i64 q):=Boxed.other (W:=W.drew) c1 (by omega) _;have c3C:=Boxed.other (W:=W.drew) c3 (B':=w.heap.size+1+1) (by omega) (.int .i64 r');have hbC:Below w.heap.size w (W.drew.setCell ⟨w.heap.size+1+1,0,none⟩ (.int .i64 r')):=hb1.drew.setCell (p:=⟨w.heap.size+1+1,0,none⟩) (by show w.heap.size<=w.heap.size+1+1;omega) _;have cXC:=Boxed.other (W:=W.drew) cX (B':=w.heap.size+1+1) (by omega) (.int .i64 r');have cYC:=Boxed.other (W:=W.drew) cY (B':=w.heap.size+1+1) (by omega) (.int .i64 r')
  obtain ⟨v',w1,hrun,hown',hgrow,_,_⟩:=run_append_own_at (P:=Tryz.prog) ((W.drew.setCell ⟨w.heap.size+1+1,0,none⟩ (.int .i64 r')).alloc (.cells #[.int .u32 (d:Nat)] 89)) w.heap.size 28 28 89 i0 (.int .u32 0) 1 4
   Tryz.underlying28 hi hz0 hz1 hz2 rfl (by decide) v k _ (hownC.alloc _) ⟨W.heap.size,0,none⟩ 1 1 [.int .u32 (d:Nat)] rfl (by
    intro j u' hj
    match j,hj with
    | 0,hj =>
     simp at hj;subst hj;have h:=(Boxed.new (W.drew.setCell ⟨w.heap.size+1+1,0,none⟩ (.int .i64 r')) 89 (.int .u32 (d:Nat))).cell
     simpa [Addr.add,World.setCell]using h) (by simp[Value.oneCell']) (by unfold maxLen;omega) (by omega) (by simp;omega)
  obtain ⟨g',cap',rfl⟩:=ownsRow_succ hown';obtain ⟨hv1,hv2,hr2',hk2,hb2⟩:=bWC.appended (by decide) hownC hn0 (by omega) hown' hgrow;have HRUN:=Hd hrun
  have FIN:leftBy W0.heap.size (KeepAt (pairS (H+1) (H+1+1) w.heap.size)) (fun W=>(∃v,Boxed W H 28 v/\W.ownsRow w.heap.size 89 1 v (k+1) (ints .u32 (outs q xs ys (k+1)))/\True)/\Boxed W w.heap.size 2 (.int .i64 1)/\Boxed W (w.heap.size+1) 2 (.int .i64 q)/\Boxed W (w.heap.size+1+1) 2 (.int .i64 r') /\
    Boxed W (w.heap.size+1+1+1) 153 (.func (.func 189) #[] #[.pointer (some ⟨w.heap.size,0,none⟩),.pointer (some ⟨w.heap.size+1,0,none⟩),.pointer (some ⟨w.heap.size+1+1,0,none⟩)])/\Boxed W (H+1) 28 (.slice A xs.length c)/\Boxed W (H+1+1) 28 (.slice A' ys.length c')/\Below w.heap.size w W) (fun _ _=>False) W .normal { tmps:=#[],defers:=[] } (w1.setCell ⟨H,0,none⟩ (.slice (some ⟨g',0,none⟩) (k+1) cap')):=by
   have dX:=((cXC.alloc _).kept hgrow (cXC.not_row (by decide) hownC)).other (B':=H) (by omega) (.slice (some ⟨g',0,none⟩) (k+1) cap');have dY:=((cYC.alloc _).kept hgrow (cYC.not_row (by decide) hownC)).other (B':=H) (by omega) (.slice (some ⟨g',0,none⟩) (k+1) cap');refine ⟨(((KeepsOthers.drew W).trans (KeepsOthers.setCell _ _ _)).trans hk2).from _,?_,⟨_,hv2,?_,trivial⟩,?_,?_,?_,?_,dX,dY,hbC.trans hb2⟩
   .rintro p (rfl|rfl|hp)
    .rw[dX.cell,cX.cell]
    .rw[dY.cell,cY.cell]
    .exact ((Below.refl _ W).drew.setCell (p:=⟨w.heap.size+1+1,0,none⟩) (by show w.heap.size<=w.heap.size+1+1;omega) _ |>.trans hb2).cell hp
   .have h:=hr2';rw[outs,ed.out]
    simpa [ints]using h
   .exact ((c0C.alloc _).kept hgrow (c0C.not_row (by decide) hownC)).other (by omega) (.slice (some ⟨g',0,none⟩) (k+1) cap')
   .exact ((c1C.alloc _).kept hgrow (c1C.not_row (by decide) hownC)).other (by omega) (.slice (some ⟨g',0,none⟩) (k+1) cap')
   .exact ((c2C.alloc _).kept hgrow (c2C.not_row (by decide) hownC)).other (by omega) (.slice (some ⟨g',0,none⟩) (k+1) cap')
   .exact ((c3C.alloc _).kept hgrow (c3C.not_row (by decide) hownC)).other (by omega) (.slice (some ⟨g',0,none⟩) (k+1) cap')
  have FINH:=Hd FIN;clear FIN hv2 hr2' hk2 hb2 hown' hgrow hownC bWC c2C c0C c1C c3C cXC cYC hbC cX cY hrun bX bY hb0 b0 b1 b2 b3 bW hown0;have cAL:=((bW1.other (B':=w.heap.size+1+1) (by omega) (.int .i64 r')).alloc (.cells #[.int .u32 (d:Nat)] 89)).cell;have cW:=bW1.cell;have cF:=c3.cell;have cW1:=hv1.cell;have fW1:=hv1.frozen
  gi_wp2_with fail
  refine region_round follows (by kernel_rfl) ?_;refine wpAnyIn_take (i:=2) (v:=.int .u32 (u:Nat)) rfl rfl (by kernel_rfl) (by kernel_rfl) (by kernel_rfl) (fun _ _ _ h=>h) ⟨Or.inl ⟨by rfl,fun w=>by go_simp⟩,fun _=>rfl⟩ ?_;refine wpAnyIn_take (i:=3) (v:=.int .u32 (z:Nat)) rfl rfl (by kernel_rfl) (by kernel_rfl) (by kernel_rfl) (fun _ _ _ h=>h) ⟨Or.inl ⟨by rfl,fun w=>by go_simp⟩,fun _=>rfl⟩ ?_;refine wpAnyIn_ready (rs:=[0,1]) (by kernel_rfl) (by simp) (AllReadyIn.cons rfl (fun K hK=>?_) (AllReadyIn.cons rfl (fun K hK=>?_) AllReadyIn.nil))
  .go_simp;refine hK _ _ ?_;clear hK K
   refine rdyI (i:=1) (by kernel_rfl) rfl (fun K hK=>?_)
   go_simp;refine hK _ _ ?_;clear hK K
   refine rdyI (i:=4) (by kernel_rfl) rfl (fun K hK=>?_)
   go_simp;gi_wp2_with (refine ⟨trivial,?_⟩;gi_at_call 189;refine (callsIn_wide.2 (STEPH.out W.drew c0.cell c1.cell c2.cell c2.frozen)).mono ?_;rintro e w' ⟨rfl,rfl⟩)
   refine rdyI (i:=5) (by kernel_rfl) rfl (fun K hK=>?_)
   go_simp;refine hK _ _ ?_;clear hK K
   refine rdyI (i:=6) (by kernel_rfl) rfl (fun K hK=>?_);refine step_append_in rfl (.tmp 28) (.tmp 33) 28 rfl (by rfl) (by rfl) HRUN.out ?_;refine hK _ _ ?_;clear hK K;refine rdyI (i:=7) (by kernel_rfl) rfl (fun K hK=>?_)
   go_simp;refine hK _ _ ?_;clear hK K
   refine wpAnyIn_done (by kernel_rfl) ?_ _;exact FINH.out
  .go_simp;refine hK _ _ ?_;clear hK K
   refine wpAnyIn_ready (rs:=[0,4]) (by kernel_rfl) (by simp) (AllReadyIn.cons rfl (fun K hK=>?_) (AllReadyIn.cons rfl (fun K hK=>?_) AllReadyIn.nil))
   .go_simp;refine hK _ _ ?_;clear hK K
    refine rdyI (i:=4) (by kernel_rfl) rfl (fun K hK=>?_)
    go_simp;gi_wp2_with (refine ⟨trivial,?_⟩;gi_at_call 189;refine (callsIn_wide.2 (STEPH.out W.drew c0.cell c1.cell c2.cell c2.frozen)).mono ?_;rintro e w' ⟨rfl,rfl⟩)
    refine rdyI (i:=5) (by kernel_rfl) rfl (fun K hK=>?_)
    go_simp;refine hK _ _ ?_;clear hK K
    refine rdyI (i:=6) (by kernel_rfl) rfl (fun K hK=>?_);refine step_append_in rfl (.tmp 28) (.tmp 33) 28 rfl (by rfl) (by rfl) HRUN.out ?_;refine hK _ _ ?_;clear hK K;refine rdyI (i:=7) (by kernel_rfl) rfl (fun K hK=>?_)
    go_simp;refine hK _ _ ?_;clear hK K
    refine wpAnyIn_done (by kernel_rfl) ?_ _;exact FINH.out
   .go_simp;gi_wp2_with (refine ⟨trivial,?_⟩;gi_at_call 189;refine (callsIn_wide.2 (STEPH.out W.drew c0.cell c1.cell c2.cell c2.frozen)).mono ?_;rintro e w' ⟨rfl,rfl⟩)
    refine wpAnyIn_ready (rs:=[0,5]) (by kernel_rfl) (by simp) (AllReadyIn.cons rfl (fun K hK=>?_) (AllReadyIn.cons rfl (fun K hK=>?_) AllReadyIn.nil))
    .go_simp;refine hK _ _ ?_;clear hK K
     refine rdyI (i:=5) (by kernel_rfl) rfl (fun K hK=>?_)
     go_simp;refine hK _ _ ?_;clear hK K
     refine rdyI (i:=6) (by kernel_rfl) rfl (fun K hK=>?_);refine step_append_in rfl (.tmp 28) (.tmp 33) 28 rfl (by rfl) (by rfl) HRUN.out ?_;refine hK _ _ ?_;clear hK K;refine rdyI (i:=7) (by kernel_rfl) rfl (fun K hK=>?_)
     go_simp;refine hK _ _ ?_;clear hK K
     refine wpAnyIn_done (by kernel_rfl) ?_ _;exact FINH.out
    .go_simp;refine hK _ _ ?_;clear hK K
     refine rdyI (i:=0) (by kernel_rfl) rfl (fun K hK=>?_)
     go_simp;refine hK _ _ ?_;clear hK K
     refine rdyI (i:=6) (by kernel_rfl) rfl (fun K hK=>?_);refine step_append_in rfl (.tmp 28) (.tmp 33) 28 rfl (by rfl) (by rfl) HRUN.out ?_;refine hK _ _ ?_;clear hK K;refine rdyI (i:=7) (by kernel_rfl) rfl (fun K hK=>?_)
     go_simp;refine hK _ _ ?_;clear hK K
     refine wpAnyIn_done (by kernel_rfl) ?_ _;exact FINH.out
 case done =>
  rintro W ⟨⟨v,bW1,hown1,_⟩,c0,c1,c2,c3,cX,cY,hb1⟩ hK;obtain ⟨hr1,hr2⟩:=crr_bounds hq dx dy ys.length;have HD:=Hd (outD_cast q xs ys ys.length);have HC:Hid (crr q xs ys (ys.length+1)=((xs.getD ys.length 0:Nat)+q*(ys.getD ys.length 0:Nat)+crr q xs ys ys.length) / 4294967296):=rfl;obtain ⟨u,eu⟩:∃u,Hid (xs.getD ys.length 0=u):=⟨_,rfl⟩
  obtain ⟨z,ez⟩:∃z,Hid (ys.getD ys.length 0=z):=⟨_,rfl⟩
  obtain ⟨r,er⟩:∃r,Hid (crr q xs ys ys.length=r):=⟨_,rfl⟩
  rw[eu.out]at HD HC;rw[ez.out]at HD HC;have hu0:u=0:=by rw[<-eu.out];exact getD_over (Nat.le_of_lt hle)
  have hz0':z=0:=by rw[<-ez.out];exact getD_over (Nat.le_refl _)
  subst hu0 hz0';rw[er.out]at hr1 hr2 HD HC c2;obtain ⟨d,ed⟩:∃d,Hid (outD q xs ys ys.length=d):=⟨_,rfl⟩
  obtain ⟨r',er'⟩:∃r',Hid (crr q xs ys (ys.length+1)=r'):=⟨_,rfl⟩
  rw[ed.out]at HD;rw[er'.out]at HC
  have STEP:∀V:World,V.cell? ⟨w.heap.size,0,none⟩=some (.int .i64 1)->V.cell? ⟨w.heap.size+1,0,none⟩=some (.int .i64 q)->V.cell? ⟨w.heap.size+1+1,0,none⟩=some (.int .i64 r)->V.frozen? ⟨w.heap.size+1+1,0,none⟩=false ->
    Calls Tryz.prog 189 #[.int .u32 0,.int .u32 0,.pointer (some ⟨w.heap.size,0,none⟩),.pointer (some ⟨w.heap.size+1,0,none⟩),.pointer (some ⟨w.heap.size+1+1,0,none⟩)] V fun e V'=>e=.returned (.int .u32 (d:Nat))/\V'=V.setCell ⟨w.heap.size+1+1,0,none⟩ (.int .i64 r'):=by
   intro V v0 v1 v2 f2;have hqz:q*((0:Nat):Int)=0:=by simp
   refine (combiner1_any 1 q r 0 0 _ _ _ V (by omega) (by omega) v0 v1 v2 f2 (by omega) (by omega) (by omega) (by omega) (by omega) (by omega) (by omega) (by omega)).mono ?_;rintro e V' ⟨rfl,rfl⟩;rw[HD.out,HC.out,Int.one_mul];exact ⟨rfl,rfl⟩
  have STEPH:=Hd STEP;clear STEP;have hs1:=hb1.size;have hn0:w.heap.size<=(W.drew.setCell ⟨w.heap.size+1+1,0,none⟩ (.int .i64 r')).heap.size:=by simpa [World.setCell]using hs1
  have hownC:(W.drew.setCell ⟨w.heap.size+1+1,0,none⟩ (.int .i64 r')).ownsRow w.heap.size 89 1 v ys.length (ints .u32 (outs q xs ys ys.length)):=ownsRow_setCell_other (w:=W.drew) hown1.drew (Ne.symm (c2.not_row (by decide) hown1)) _;have bWC:Boxed (W.drew.setCell ⟨w.heap.size+1+1,0,none⟩ (.int .i64 r')) H 28 v:=Boxed.other (W:=W.drew) bW1 (by omega) _;have c2C:Boxed (W.drew.setCell ⟨w.heap.size+1+1,0,none⟩ (.int .i64 r')) (w.heap.size+1+1) 2 (.int .i64 r'):=Boxed.set (W:=W.drew) _ c2;have c0C:Boxed (W.drew.setCell ⟨w.heap.size+1+1,0,none⟩ (.int .i64 r')) w.heap.size 2 (.int .i64 1):=Boxed.other (W:=W.drew) c0 (by omega) _;have c1C:Boxed (W.drew.setCell ⟨w.heap.size+1+1,0,none⟩ (.int .i64 r')) (w.heap.size+1) 2 (.int .i64 q):=Boxed.other (W:=W.drew) c1 (by omega) _;have c3C:=Boxed.other (W:=W.drew) c3 (B':=w.heap.size+1+1) (by omega) (.int .i64 r');have hbC:Below w.heap.size w (W.drew.setCell ⟨w.heap.size+1+1,0,none⟩ (.int .i64 r')):=hb1.drew.setCell (p:=⟨w.heap.size+1+1,0,none⟩) (by show w.heap.size<=w.heap.size+1+1;omega) _;have cXC:=Boxed.other (W:=W.drew) cX (B':=w.heap.size+1+1) (by omega) (.int .i64 r');have cYC:=Boxed.other (W:=W.drew) cY (B':=w.heap.size+1+1) (by omega) (.int .i64 r')
  obtain ⟨v',w1,hrun,hown',hgrow,_,_⟩:=run_append_own_at (P:=Tryz.prog) ((W.drew.setCell ⟨w.heap.size+1+1,0,none⟩ (.int .i64 r')).alloc (.cells #[.int .u32 (d:Nat)] 89)) w.heap.size 28 28 89 i0 (.int .u32 0) 1 4
   Tryz.underlying28 hi hz0 hz1 hz2 rfl (by decide) v ys.length _ (hownC.alloc _) ⟨W.heap.size,0,none⟩ 1 1 [.int .u32 (d:Nat)] rfl (by
    intro j u' hj
    match j,hj with
    | 0,hj =>
     simp at hj;subst hj;have h:=(Boxed.new (W.drew.setCell ⟨w.heap.size+1+1,0,none⟩ (.int .i64 r')) 89 (.int .u32 (d:Nat))).cell
     simpa [Addr.add,World.setCell]using h) (by simp[Value.oneCell']) (by unfold maxLen;omega) (by omega) (by simp;omega)
  obtain ⟨g',cap',rfl⟩:=ownsRow_succ hown';obtain ⟨hv1,hv2,hr2',hk2,hb2⟩:=bWC.appended (by decide) hownC hn0 (by omega) hown' hgrow;have HRUN:=Hd hrun
  have hres:(w1.ownsRow w.heap.size 89 1 (.slice (some ⟨g',0,none⟩) (ys.length+1) cap') (ys.length+1) (ints .u32 (outs q xs ys (ys.length+1)))):=by
   rw[outs,ed.out]
   simpa [ints]using hown'
  have hsame:w1.heap[W0.heap.size]?=some (.deferred (some [])):=by
   have h1:(W.drew.setCell ⟨w.heap.size+1+1,0,none⟩ (.int .i64 r')).heap[W0.heap.size]?=some (.deferred (some [])):=(KeepsOthers.setCell W.drew _ _).same _ _ hK rfl;have h2:=(KeepsOthers.alloc (W.drew.setCell ⟨w.heap.size+1+1,0,none⟩ (.int .i64 r')) (.cells #[.int .u32 (d:Nat)] 89)).same _ _ h1 rfl;refine (hgrow.block _ (Array.getElem?_eq_some_iff.1 h2).1 ?_).trans h2;intro e
   rcases hownC.2 with ⟨rfl,_⟩|⟨g,cap,cur,rfl,_,hg,_⟩
   .simp[Value.ownBlock]at e
   .obtain rfl:W0.heap.size=g:=by simpa [Value.ownBlock]using e
    rw[hg]at h1;cases h1
  have hbW:Below w.heap.size w w1:=(hbC.alloc hn0 _).grown hgrow (by simp;omega) (fun j e=>by
   rcases hownC.2 with ⟨rfl,_⟩|⟨g,cap,cur,rfl,hb,_,_⟩
   .simp[Value.ownBlock]at e
   .obtain rfl:g=j:=by simpa [Value.ownBlock]using e
    exact hb)
  have HEND:Hid (w1.ownsRow w.heap.size 89 1 (.slice (some ⟨g',0,none⟩) (ys.length+1) cap') (ys.length+1) (ints .u32 (outs q xs ys (ys.length+1)))/\w1.heap[W0.heap.size]?=some (.deferred (some []))/\Below w.heap.size w w1):=⟨hres,hsame,hbW⟩
  have cAL:=((bW1.other (B':=w.heap.size+1+1) (by omega) (.int .i64 r')).alloc (.cells #[.int .u32 (d:Nat)] 89)).cell;have cW:=bW1.cell;have cF:=c3.cell;have HRUN:=Hd hrun;clear hres hsame hbW hv2 hr2' hk2 hb2 hown' hgrow hownC bWC c2C c0C c1C c3C cXC cYC hbC cX cY hrun bX bY hb0 b0 b1 b2 b3 bW hown0 hK
  gi_wp2_with fail
  refine wpIn_region_any follows ?_;refine (show wpAnyIn _ _ _ _ _ _ _ _ _ (World.drew _) from ?_);refine wpAnyIn_ready (rs:=[0,1]) (by kernel_rfl) (by simp) (AllReadyIn.cons rfl (fun K hK=>?_) (AllReadyIn.cons rfl (fun K hK=>?_) AllReadyIn.nil))
  .go_simp;refine hK _ _ ?_;clear hK K
   refine rdyI (i:=1) (by kernel_rfl) rfl (fun K hK=>?_)
   go_simp;refine hK _ _ ?_;clear hK K
   refine rdyI (i:=2) (by kernel_rfl) rfl (fun K hK=>?_)
   go_simp;gi_wp2_with (refine ⟨trivial,?_⟩;gi_at_call 189;refine (callsIn_wide.2 (STEPH.out W.drew c0.cell c1.cell c2.cell c2.frozen)).mono ?_;rintro e w' ⟨rfl,rfl⟩)
   refine rdyI (i:=3) (by kernel_rfl) rfl (fun K hK=>?_)
   go_simp;refine hK _ _ ?_;clear hK K
   refine rdyI (i:=4) (by kernel_rfl) rfl (fun K hK=>?_);refine step_append_in rfl (.tmp 35) (.tmp 38) 28 rfl (by rfl) (by rfl) HRUN.out ?_;refine hK _ _ ?_;clear hK K;refine rdyI (i:=5) (by kernel_rfl) rfl (fun K hK=>?_)
   go_simp;refine hK _ _ ?_;clear hK K
   refine wpAnyIn_done (by kernel_rfl) ?_ _
   gi_wp2
   obtain ⟨e1,e2,e3⟩:=HEND.out;rw[hs0]at e2;refine ⟨by simp,.inl ⟨_,_,rfl,run_takeDeferred e2,?_⟩⟩;exact ⟨_,results_tmp rfl _ _ _,_,rfl,ownsRow_putObj e1 _ e2 rfl,e3.grown (grownBy_putObj' _ _ _) e3.size (fun k e=>by cases e;omega)⟩
  .go_simp;refine hK _ _ ?_;clear hK K
   refine wpAnyIn_ready (rs:=[0,2]) (by kernel_rfl) (by simp) (AllReadyIn.cons rfl (fun K hK=>?_) (AllReadyIn.cons rfl (fun K hK=>?_) AllReadyIn.nil))
   .go_simp;refine hK _ _ ?_;clear hK K
    refine rdyI (i:=2) (by kernel_rfl) rfl (fun K hK=>?_)
    go_simp;gi_wp2_with (refine ⟨trivial,?_⟩;gi_at_call 189;refine (callsIn_wide.2 (STEPH.out W.drew c0.cell c1.cell c2.cell c2.frozen)).mono ?_;rintro e w' ⟨rfl,rfl⟩)
    refine rdyI (i:=3) (by kernel_rfl) rfl (fun K hK=>?_)
    go_simp;refine hK _ _ ?_;clear hK K
    refine rdyI (i:=4) (by kernel_rfl) rfl (fun K hK=>?_);refine step_append_in rfl (.tmp 35) (.tmp 38) 28 rfl (by rfl) (by rfl) HRUN.out ?_;refine hK _ _ ?_;clear hK K;refine rdyI (i:=5) (by kernel_rfl) rfl (fun K hK=>?_)
    go_simp;refine hK _ _ ?_;clear hK K
    refine wpAnyIn_done (by kernel_rfl) ?_ _
    gi_wp2
    obtain ⟨e1,e2,e3⟩:=HEND.out;rw[hs0]at e2;refine ⟨by simp,.inl ⟨_,_,rfl,run_takeDeferred e2,?_⟩⟩;exact ⟨_,results_tmp rfl _ _ _,_,rfl,ownsRow_putObj e1 _ e2 rfl,e3.grown (grownBy_putObj' _ _ _) e3.size (fun k e=>by cases e;omega)⟩
   .go_simp;gi_wp2_with (refine ⟨trivial,?_⟩;gi_at_call 189;refine (callsIn_wide.2 (STEPH.out W.drew c0.cell c1.cell c2.cell c2.frozen)).mono ?_;rintro e w' ⟨rfl,rfl⟩)
    refine wpAnyIn_ready (rs:=[0,3]) (by kernel_rfl) (by simp) (AllReadyIn.cons rfl (fun K hK=>?_) (AllReadyIn.cons rfl (fun K hK=>?_) AllReadyIn.nil))
    .go_simp;refine hK _ _ ?_;clear hK K
     refine rdyI (i:=3) (by kernel_rfl) rfl (fun K hK=>?_)
     go_simp;refine hK _ _ ?_;clear hK K
     refine rdyI (i:=4) (by kernel_rfl) rfl (fun K hK=>?_);refine step_append_in rfl (.tmp 35) (.tmp 38) 28 rfl (by rfl) (by rfl) HRUN.out ?_;refine hK _ _ ?_;clear hK K;refine rdyI (i:=5) (by kernel_rfl) rfl (fun K hK=>?_)
     go_simp;refine hK _ _ ?_;clear hK K
     refine wpAnyIn_done (by kernel_rfl) ?_ _
     gi_wp2
     obtain ⟨e1,e2,e3⟩:=HEND.out;rw[hs0]at e2;refine ⟨by simp,.inl ⟨_,_,rfl,run_takeDeferred e2,?_⟩⟩;exact ⟨_,results_tmp rfl _ _ _,_,rfl,ownsRow_putObj e1 _ e2 rfl,e3.grown (grownBy_putObj' _ _ _) e3.size (fun k e=>by cases e;omega)⟩
    .go_simp;refine hK _ _ ?_;clear hK K
     refine rdyI (i:=0) (by kernel_rfl) rfl (fun K hK=>?_)
     go_simp;refine hK _ _ ?_;clear hK K
     refine rdyI (i:=4) (by kernel_rfl) rfl (fun K hK=>?_);refine step_append_in rfl (.tmp 35) (.tmp 38) 28 rfl (by rfl) (by rfl) HRUN.out ?_;refine hK _ _ ?_;clear hK K;refine rdyI (i:=5) (by kernel_rfl) rfl (fun K hK=>?_)
     go_simp;refine hK _ _ ?_;clear hK K
     refine wpAnyIn_done (by kernel_rfl) ?_ _
     gi_wp2
     obtain ⟨e1,e2,e3⟩:=HEND.out;rw[hs0]at e2;refine ⟨by simp,.inl ⟨_,_,rfl,run_takeDeferred e2,?_⟩⟩;exact ⟨_,results_tmp rfl _ _ _,_,rfl,ownsRow_putObj e1 _ e2 rfl,e3.grown (grownBy_putObj' _ _ _) e3.size (fun k e=>by cases e;omega)⟩
 case stop=>exact fun _ _ _ _ h _=>h.elim
end Go.Proofs.YtglhdielkkhefaaGreat

namespace Go.Proofs.YtglhdielkkhefaaGreat
open Go.RowKit Go.Shelf
theorem Sl.of_own {kd:IntKind}{w:World}{base:Nat}{e:TypeId}{v:Value}{n:Nat}{xs:List Nat}(h:w.ownsRow base e 1 v n (ints kd xs)):Sl kd w w.heap.size v xs:=by
 have hn:xs.length=n:=by have:=h.1;simp[ints]at this;omega
 have h':=h
 rcases h'.2 with ⟨rfl,h0⟩|⟨g,cap,cur,rfl,_,_,hc,hm,_⟩
 .have:xs=[]:=List.eq_nil_of_length_eq_zero (by omega);subst this;exact ⟨none,0,rfl,Rd.nil,by simp,by omega⟩
 .subst hn;exact ⟨_,cap,rfl,Rd.of_own h (Nat.le_refl _),hc,by simpa [maxLen]using hm⟩
theorem combine_any (q:Int)(hq:q=1∨q=-1)(A A':Option Addr)(c c':Nat)(xs ys:List Nat)(w:World)(hx:Rd .u32 w w.heap.size A xs)(hy:Rd .u32 w w.heap.size A' ys)
  (dx:Dg b32 xs) (dy:Dg b32 ys) (hxl:xs.length<=4294967296) (hyl:ys.length<=4294967296) (h0:0<=((val b32 xs:Nat):Int)+q*(val b32 ys:Nat)) :
  Calls Tryz.prog 160 #[.slice A xs.length c,.slice A' ys.length c',.int .i64 1,.int .i64 q] w fun e w'=>∃v zs,e=.returned v /\
   Sl .u32 w' w'.heap.size v zs/\Dg b32 zs/\zs.length<=max xs.length ys.length+1/\((val b32 zs:Nat):Int)=(val b32 xs:Nat)+q*(val b32 ys:Nat)/\Below w.heap.size w w':=by
 rcases Nat.lt_or_ge xs.length ys.length with hle|hle
 .refine (callsIn_wide.1 (combine_y q hq A A' c c' xs ys w hx hy dx dy hxl hyl hle)).mono ?_;rintro e w' ⟨v,rfl,hown,hb⟩;exact ⟨v,_,rfl,Sl.of_own hown,outs_dg q xs ys _,by rw[outs_length];omega,outs_all hq dx dy h0 (Nat.le_of_lt hle) (Nat.le_refl _),hb⟩
 .refine (callsIn_wide.1 (combine_x q hq A A' c c' xs ys w hx hy dx dy hxl hyl hle)).mono ?_;rintro e w' ⟨v,rfl,hown,hb⟩;exact ⟨v,_,rfl,Sl.of_own hown,outs_dg q xs ys _,by rw[outs_length];omega,outs_all hq dx dy h0 (Nat.le_refl _) hle,hb⟩
def zof (neg:Bool)(n:Nat):Int:=if neg then -(n:Int) else n
def Zs (w:World)(B:Nat)(v:Value)(z:Int):Prop:=∃sv,v=.agg #[.bool (decide (z<0)),sv]/\Sl .u32 w B sv (dig b32 z.natAbs)
theorem zof_abs (neg:Bool)(n:Nat):(zof neg n).natAbs=n:=by cases neg<;>simp[zof]
theorem zof_neg (neg:Bool){n:Nat}(h:n≠0):decide (zof neg n<0)=neg:=by cases neg<;>simp[zof]<;>omega
theorem zof_zero (neg:Bool):zof neg 0=0:=by cases neg<;>rfl
theorem integer_any (neg:Bool)(A:Option Addr)(c:Nat)(xs:List Nat)(w:World)(hx:Rd .u32 w w.heap.size A xs)(dx:Dg b32 xs)(hc:xs.length<=c)(hc':c<=9223372036854775807) :
  Calls Tryz.prog 151 #[.bool neg,.slice A xs.length c] w fun e w'=>∃v,e=.returned v/\Zs w' w'.heap.size v (zof neg (val b32 xs))/\Below w.heap.size w w':=by
 have hsl:=Sl.trim b32_one hx dx hc hc';have hn:=trimN_zero' (b:=b32) (by decide) (xs:=xs);have HSL:=Hd hsl;have HX:=Hd hx;have HT:=Hd hn;clear hsl hn hx
 by_cases h0:trimN xs=0
 .have hz:val b32 xs=0:=HT.out.1 h0;rw[hz,zof_zero];have HZ:=Hd hz;have H0:=Hd h0;clear hz h0;have h1:(((trimN xs:Nat):Int)==0)=true:=by rw[H0.out];rfl
  go_enter Tryz.func151,Tryz.ntmps151
  go_wp2_with (go_at_call 119;refine (trim_any A c _ xs _ (HX.out.to bRR) hc hc').mono ?_;rintro e w' ⟨rfl,rfl⟩)
  refine bodyPost_ret (v:=.agg #[.bool false,.slice none 0 0]) (by simp[results,Tryz.f151,go_sem]) rfl ⟨_,rfl,⟨_,rfl,none,0,rfl,Rd.nil,by simp[dig_zero],by omega⟩,bRR⟩
 .have hz:val b32 xs≠0:=fun h=>h0 (HT.out.2 h)
  have HZ:=Hd hz;have h1:(((trimN xs:Nat):Int)==0)=false:=by simp[h0]
  have ht0:trimN xs<=c:=Nat.le_trans (trimN_le xs) hc;clear hz h0
  go_enter Tryz.func151,Tryz.ntmps151
  go_wp2_with (go_at_call 119;refine (trim_any A c _ xs _ (HX.out.to bRR) hc hc').mono ?_;rintro e w' ⟨rfl,rfl⟩)
  refine bodyPost_ret (v:=.agg #[.bool neg,.slice A (trimN xs) c]) (by simp[results,Tryz.f151,go_sem]) rfl ⟨_,rfl,⟨_,by rw[zof_neg neg HZ.out],?_⟩,bRR⟩;rw[zof_abs];have hb:Below w.heap.size w (w.alloc (.cells #[.bool neg,.slice A (trimN xs) c] 30)):=bRR;exact HSL.out.to hb
end Go.Proofs.YtglhdielkkhefaaGreat
