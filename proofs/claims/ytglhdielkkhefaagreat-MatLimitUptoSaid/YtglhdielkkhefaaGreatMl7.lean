/- Parts: 5. -/
import Derived.Test.YtglhdielkkhefaaGreatMl1
import Derived.Test.YtglhdielkkhefaaGreatMl4
import Derived.Test.YtglhdielkkhefaaGreatMl5
import Derived.Test.YtglhdielkkhefaaGreatMl6
import Derived.Laws.IdiomStrings
set_option linter.unusedVariables false
set_option linter.unusedSimpArgs false
set_option maxRecDepth 100000
set_option maxHeartbeats 40000000

namespace Go.Proofs.YtglhdielkkhefaaGreat
open Go.RowKit Go.Shelf
attribute [local go_sem] Oper.semAt_some
theorem wpListIn_made {F:Fence}{n:Nat}{P:Program}(w:World){ops:Array Oper}{rest:List Oper}{o:Oper}{a:Act}{Q:Exit->Act->World->Prop}
  (hg:o.guard=none) (l c:Operand) (t:TypeId) (hop:o.op=Op.makeSlice t l c)
  (base:Nat) (e:TypeId) (i:TypeInfo) (z:Value) (size:Nat) (h1:P.underlying t=some (.slice e)) (h2:P.info? e=some i) (h3:i.zero=some z) (h4:i.size=size)
  (kl kc:IntKind) (L C:Int) (m:Nat) (hl:a.eval l=.int kl L) (hc:a.eval c=.int kc C) (hL:L=(m:Int)) (hC:C=(m:Int)) (b2:i.bytes*m<=281474976710656) (b3:m<=maxLen) (b4:base<=w.heap.size)
  (hK:∀w',w'.ownsRow base e size (.slice (some ⟨w.heap.size,0,none⟩) m m) m (madeCells z.cells (m*size)).toList->w.grownBy w' none->wpListIn F n P ops Q rest (a.put o.dst (.slice (some ⟨w.heap.size,0,none⟩) m m)) w') :
  wpListIn F n P ops Q (o::rest) a w:=by
 refine wpListIn_plain hg fun K hK'=>?_
 obtain ⟨w',hrun,r1,r2⟩:=run_make_full (P:=P) w base t e i z size h1 h2 h3 h4 kl kc m b2 b3 b4;subst hL;subst hC;unfold Oper.wpIn;refine ⟨?_,?_⟩
 .simp[Oper.about,hop]
 .rw[Oper.semAt_plain F _ _ (by rw[hop];intro c hc';cases hc')];simp[execOp,hop,hl,hc,hrun,Result.andThen];exact hK' _ _ (hK w' r1 r2)
theorem boxed_onto {W V:World}{B k:Nat}{t:TypeId}{v:Value}(h:Boxed W B t v)(hb:Below k W V)(hk:B<k):Boxed V B t v:=(hb.block B hk).trans h
theorem Buf.onto {kd:IntKind}{ty:TypeId}{g sz k:Nat}{xs:List Nat}{W V:World}(h:Buf kd ty g sz xs W)(hb:Below k W V)(hk:g<k):Buf kd ty g sz xs V:=by
 obtain ⟨cur,h1,h2,h3⟩:=h;exact ⟨cur,(hb.block g hk).trans h1,h2,h3⟩
theorem Buf.shorter {kd:IntKind}{ty:TypeId}{g sz:Nat}{xs:List Nat}{W:World}(h:Buf kd ty g sz xs W)(n:Nat):Buf kd ty g sz (xs.take n) W:=by
 obtain ⟨cur,h1,h2,h3⟩:=h;refine ⟨cur,h1,h2,?_⟩;have h4:=congrArg (List.take n) h3;rw[List.take_take]at h4;rw[List.length_take,h4];simp[ints,List.map_take]
def LongI (w:World)(h2 h3 h5 rl N nD Dl:Nat)(ds:List Nat)(X0 i:Nat)(W:World):Prop:=∃R Q:List Nat,(R.length=rl/\Dg b32 R/\Q.length=N/\Dg b32 Q/\val b32 (R.drop i)<val b32 ds/\X0=val b32 R+b32 ^ i*(val b32 ds*val b32 (Q.drop i))) /\
 Buf .u32 89 (w.heap.size+2) rl R W/\Buf .u32 89 h2 Dl ds W/\Buf .u32 89 (h3+1) N Q W/\Boxed W w.heap.size 28 (.slice (some ⟨h3+1,0,none⟩) N N)/\Boxed W (w.heap.size+1) 28 (.slice (some ⟨w.heap.size+2,0,none⟩) rl rl) /\
 Boxed W h3 28 (.slice (some ⟨h2,0,none⟩) nD Dl)/\Boxed W h5 28 (.slice (some ⟨h3+1,0,none⟩) N N)/\Below w.heap.size w W
theorem longI_own {w:World}{h2 h3 h5 rl N nD Dl X0 B:Nat}{ds:List Nat}(hB:w.heap.size<=B):OwnFrom B (fun (k:Nat) W=>LongI w h2 h3 h5 rl N nD Dl ds X0 (N-k) W):=by
 intro k X Y row hs hg hr;obtain ⟨R,Q,h0,h1,h2',h3',h4,h5',h6,h7,h8⟩:=hs;refine ⟨R,Q,h0,?_,?_,?_,?_,?_,?_,?_,?_⟩
 .exact (Own.from (buf_own .u32 89 (w.heap.size+2) rl (fun _:Unit=>R)) B) () X Y row h1 hg hr
 .exact (Own.from (buf_own .u32 89 h2 Dl (fun _:Unit=>ds)) B) () X Y row h2' hg hr
 .exact (Own.from (buf_own .u32 89 (h3+1) N (fun _:Unit=>Q)) B) () X Y row h3' hg hr
 .exact (Own.from (boxed_own (β:=Unit) (w.heap.size) _ (fun _=>_)) B) () X Y row h4 hg hr
 .exact (Own.from (boxed_own (β:=Unit) (w.heap.size+1) _ (fun _=>_)) B) () X Y row h5' hg hr
 .exact (Own.from (boxed_own (β:=Unit) (h3) _ (fun _=>_)) B) () X Y row h6 hg hr
 .exact (Own.from (boxed_own (β:=Unit) (h5) _ (fun _=>_)) B) () X Y row h7 hg hr
 .exact (ownFrom_below (Nat.le_refl _) hB) () X Y row h8 hg hr
theorem Below.free {W V:World}(h:Below W.heap.size W V)(row:Option Nat):W.grownBy V row:=⟨h.os,h.tape,h.output,h.size,fun k hk _=>h.block k hk⟩
theorem Buf.rdAt {kd:IntKind}{ty:TypeId}{g sz B:Nat}{xs:List Nat}{W:World}(h:Buf kd ty g sz xs W)(hB:g<B)(m n:Nat):Rd kd W B (some ⟨g,m,none⟩) ((xs.drop m).take n):=fun k hk=>by
 have hk2:m+k<xs.length:=by simp only[List.length_take,List.length_drop]at hk;omega
 refine ⟨g,m,rfl,hB,?_⟩;rw[h.cell hk2];simp
theorem long_fin {w W Wn:World}{h2 h3 h5 rl N nD Dl X0 m q B:Nat}{ds RR2 QQ:List Nat}{a:Act}(hQl:QQ.length=N)(hQd:Dg b32 QQ)(bD:Buf .u32 89 h2 Dl ds W)(bQ:Buf .u32 89 (h3+1) N QQ W)(b4:Boxed W w.heap.size 28 (.slice (some ⟨h3+1,0,none⟩) N N))(b5:Boxed W (w.heap.size+1) 28 (.slice (some ⟨w.heap.size+2,0,none⟩) rl rl))
  (b7:Boxed W h3 28 (.slice (some ⟨h2,0,none⟩) nD Dl)) (bB:Boxed W h5 28 (.slice (some ⟨h3+1,0,none⟩) N N)) (hb:Below w.heap.size w W) (G:W.grownBy Wn (some (w.heap.size+2)))
  (bR2:Buf .u32 89 (w.heap.size+2) rl RR2 Wn) (hl2:RR2.length=rl) (hd2:Dg b32 RR2) (hv2:val b32 (RR2.drop m)<val b32 ds) (hX2:X0=val b32 RR2+b32 ^ m*(val b32 ds*(q+b32*val b32 (QQ.drop (m+1)))))
  (hq:q<b32) (hm:m<N) (o1:w.heap.size+2<h2) (o2:h2<h3) (o3:h3+1<=h5) (o3':h3+1<h5) (o4:h5+1<=B) :
  leftBy B (KeepAt (backS h5 (some ⟨h3+1,0,none⟩) m)) (fun V=>LongI w h2 h3 h5 rl N nD Dl ds X0 m V) (fun _ _=>False) W .normal a (Wn.setCell ⟨h3+1,m,none⟩ (.int .u32 (q:Nat))):=by
 have G2:=grownBy_at Wn (h3+1) m (.int .u32 (q:Nat));have n0:=G.size;have bBf:=(bB.kept G (by simp;omega)).kept G2 (by simp;omega);have bQf:=(bQ.kept G (by simp;omega)).set m q;refine ⟨(KeepsFrom.of_grownBy G (by rintro j h;cases h;omega)).trans (KeepsFrom.of_grownBy G2 (by rintro j h;cases h;omega)),?_,RR2,QQ.set m q,⟨hl2,hd2,by rw[List.length_set];exact hQl,hQd.set _ hq,hv2,?_⟩,bR2.kept G2 (by simp;omega),(bD.kept G (by simp;omega)).kept G2 (by simp;omega),bQf,(b4.kept G (by simp)).kept G2 (by simp;omega),(b5.kept G (by simp)).kept G2 (by simp;omega),(b7.kept G (by simp;omega)).kept G2 (by simp),bBf,(hb.trans (Grown.below G (by omega) hb.size)).setCell (p:=⟨h3+1,m,none⟩) (by show w.heap.size<=h3+1;omega) _⟩
 .rintro p (rfl|⟨b,o,j,e1,hj,rfl⟩)
  .rw[bBf.cell,bB.cell]
  .simp only[Option.some.injEq,Addr.mk.injEq]at e1;obtain ⟨rfl,rfl,_⟩:=e1;have hj2:j<QQ.length:=by omega
   rw[Nat.zero_add,bQ.cell hj2,bQf.cell (by simpa using hj2)];simp[Nat.ne_of_gt hj]
 .rw[hX2]
  congr 3
  have hml:m<(QQ.set m q).length:=by rw[List.length_set];omega
  have e1:=val_drop_step b32 (QQ.set m q) m hml;rw[getD_at hml,List.getElem_set_self,List.drop_set_of_lt (show m<m+1 by omega)]at e1;exact e1.symm
theorem divideLong_any {A A':Option Addr}{c c':Nat}{xs ys:List Nat}{w:World}(hx:Arg w A c xs)(hy:Arg w A' c' ys)(n2:Nat)(ly:ys.length=n2+2)(lx:ys.length<=xs.length)(htop:ys.getD (n2+1) 0≠0) :
  CallsIn Fence.wide 3 Tryz.prog 175 #[.slice A xs.length c,.slice A' ys.length c'] w fun e w'=>∃(g1 g2:Nat) (qs rs:List Nat),e=.returned (.tuple #[.slice (some ⟨g1,0,none⟩) qs.length qs.length,.slice (some ⟨g2,0,none⟩) rs.length rs.length]) /\
   Buf .u32 89 g1 qs.length qs w'/\Buf .u32 89 g2 rs.length rs w'/\Dg b32 qs/\Dg b32 rs/\rs.length=xs.length+1/\qs.length<=xs.length/\val b32 qs=val b32 xs / val b32 ys/\val b32 rs=val b32 xs % val b32 ys/\w.heap.size<=g1/\w.heap.size<=g2/\g1≠g2/\Below w.heap.size w w':=by
 obtain ⟨i0,hi',hz0,hz1,hz2⟩:=info_parts infoWord;have HX:=Hd hx;have HY:=Hd hy;have hxl:=hx.small;have hyl:=hy.small;obtain ⟨W1,hW1⟩:∃W1,W1=(w.alloc (.cells #[.slice none 0 0] 28)).alloc (.cells #[.slice none 0 0] 28):=⟨_,rfl⟩
 have hb1:Below w.heap.size w W1:=by rw[hW1];exact bRR.alloc (by simp) _
 have hs1:W1.heap.size=w.heap.size+2:=by rw[hW1];simp
 have B4:Boxed W1 w.heap.size 28 (.slice none 0 0):=by rw[hW1];exact (Boxed.new w _ _).alloc _
 have B5:Boxed W1 (w.heap.size+1) 28 (.slice none 0 0):=by
  have h:=Boxed.new (w.alloc (.cells #[.slice none 0 0] 28)) 28 (.slice none 0 0);rw[szA]at h;rw[hW1];exact h
 have HW1:=Hd hW1;obtain ⟨by_,oy,eA,_,hcy⟩:=(HY.out.to hb1).rd.at_ (k:=n2+1) (by omega);have cy:=hcy (n2+1) (by omega);rw[<-getD_at (by omega)]at cy;have hty:=getD_dg (by decide) HY.out.dg (n2+1);obtain ⟨t,et⟩:∃t,Hid (ys.getD (n2+1) 0=t):=⟨_,rfl⟩
 rw[et.out]at cy hty htop;have HEA:=Hd eA;have ely:=Hd ly;have i1:(0:Int)<=(ys.length:Int)-1:=by omega
 have i2:((ys.length:Int)-1).toNat=n2+1:=by omega
 rw[hW1]at cy;clear hx hy hW1 hcy eA ly;refine callsIn_of_wp_marks Tryz.func175 rfl trivial ?_ rfl;simp only[Tryz.ntmps175,List.size_toArray,List.length_cons,List.length_nil,Nat.reduceAdd,Nat.reduceSub,Array.replicate_succ,Array.replicate_zero,List.push_toArray,List.append_toArray,List.nil_append,List.cons_append];rw[HEA.out]
 gi_wp2_with fail
 rw[<-HW1.out];refine ⟨trivial,?_⟩;refine (callsIn_wide.2 (lz_any t hty (by omega) _)).mono ?_;rintro e w' ⟨s,rfl,hs,hs1',hs2',ew⟩;subst ew;have HS1:=Hd hs1';have HS2:=Hd hs2';have HTT:=Hd htop;have HTY:=Hd hty;clear cy hs1' hs2' htop hty
 gi_wp2_with fail
 refine ⟨trivial,?_⟩;refine (callsIn_wide.2 (shiftLeft_any (HX.out.to hb1) hs)).mono ?_;rintro e w2 ⟨R0,rfl,bR2,lR0',dR0,vR0',hb2⟩;have lR0:=Hd lR0';have vR0:=Hd vR0';clear lR0' vR0'
 gi_wp2_with fail
 rw[<-HEA.out];refine ⟨trivial,?_⟩;refine (callsIn_wide.2 (shiftLeft_any ((HY.out.to hb1).to hb2) hs)).mono ?_;rintro e w3 ⟨D0,rfl,bD3,lD0',dD0,vD0',hb3⟩;have lD0:=Hd lD0';have vD0:=Hd vD0';have hD0c:D0.length<=9223372036854775807:=by omega
 clear lD0' vD0'
 gi_wp2_with fail
 refine ⟨trivial,?_⟩;refine (callsIn_wide.2 (trim_any _ _ w3.heap.size D0 _ (bD3.rd bD3.lt) (Nat.le_refl _) hD0c)).mono ?_;rintro e w4 ⟨rfl,ew4⟩;subst ew4;have hD:=shifted_top hs ely.out HY.out.dg et.out HS1.out HS2.out vD0.out
 have hTD:trimN D0=ys.length:=by
  rw[<-trimL_length,trimL_dig b32_one dD0,ely.out];exact dig_len_eq b32_one (Nat.le_trans (Nat.le_mul_of_pos_right _ (by decide)) hD.1) hD.2
 have HTD:=Hd hTD;obtain ⟨N,eN⟩:∃N,Hid (N+ys.length=xs.length+1):=⟨xs.length+1-ys.length,by show _=_;omega⟩
 have hNL:=Hd (show (R0.length:Int)-(trimN D0:Int)=(N:Int) by have h1:=lR0.out;have h2:=eN.out;omega);have hNle:N<=4294967296:=by have:=eN.out;omega
 have hR0l:R0.length<=4294967296:=by have h1:=lR0.out;omega
 have hTDl:trimN D0<=R0.length:=by have h1:=lR0.out;omega
 have hs2:=hb2.size;have hs3:=hb3.size;have hsR:=bR2.lt;have hsD:=bD3.lt;have b4_3:=boxed_onto (boxed_onto B4 hb2 (by omega)) hb3 (by omega);have b5_3:=boxed_onto (boxed_onto B5 hb2 (by omega)) hb3 (by omega);have bR_3:=bR2.onto hb3 hsR;rw[hs1]at bR_3 hs2 hsR;have hb13:=Bxb hb1 hb2;have hb133:=Bxb hb13 hb3;have b4a:=b4_3.alloc (.cells #[.slice none 0 0] 28);have b5a:=b5_3.alloc (.cells #[.slice none 0 0] 28);have b7a:=Boxed.new w3 28 (.slice none 0 0);have bRa:=bR_3.kept (World.grownBy_alloc w3 (.cells #[.slice none 0 0] 28) none) (by simp);have bDa:=bD3.kept (World.grownBy_alloc w3 (.cells #[.slice none 0 0] 28) none) (by simp);have c5a:=b5a.cell;have f5a:=b5a.frozen;have c7a:=b7a.cell;have b5b:=b5a.set (.slice (some ⟨w.heap.size+2,0,none⟩) R0.length R0.length);have b4b:=b4a.other (B':=w.heap.size+1) (by omega) (.slice (some ⟨w.heap.size+2,0,none⟩) R0.length R0.length);have b7b:=b7a.other (B':=w.heap.size+1) (by omega) (.slice (some ⟨w.heap.size+2,0,none⟩) R0.length R0.length);have bRb:=bRa.kept (grownBy_setCell' _ (w.heap.size+1) (.slice (some ⟨w.heap.size+2,0,none⟩) R0.length R0.length)) (by simp);have bDb:=bDa.kept (grownBy_setCell' _ (w.heap.size+1) (.slice (some ⟨w.heap.size+2,0,none⟩) R0.length R0.length)) (by simp;omega);have c7b:=b7b.cell;have f7b:=b7b.frozen;have f7a:=b7a.frozen;have b7c:=b7b.set (.slice (some ⟨w2.heap.size,0,none⟩) (trimN D0) D0.length);have b4c:=b4b.other (B':=w3.heap.size) (by omega) (.slice (some ⟨w2.heap.size,0,none⟩) (trimN D0) D0.length);have b5c:=b5b.other (B':=w3.heap.size) (by omega) (.slice (some ⟨w2.heap.size,0,none⟩) (trimN D0) D0.length);have bRc:=bRb.kept (grownBy_setCell' _ w3.heap.size (.slice (some ⟨w2.heap.size,0,none⟩) (trimN D0) D0.length)) (by simp;omega);have bDc:=bDb.kept (grownBy_setCell' _ w3.heap.size (.slice (some ⟨w2.heap.size,0,none⟩) (trimN D0) D0.length)) (by simp;omega);have c7c:=b7c.cell;have c5c:=b5c.cell;have hb0c:=((hb133.alloc (o:=(.cells #[.slice none 0 0] 28)) (by omega)).setCell (p:=⟨w.heap.size+1,0,none⟩) (by show w.heap.size<=w.heap.size+1;omega) (.slice (some ⟨w.heap.size+2,0,none⟩) R0.length R0.length)).setCell (p:=⟨w3.heap.size,0,none⟩) (by show w.heap.size<=w3.heap.size;omega) (.slice (some ⟨w2.heap.size,0,none⟩) (trimN D0) D0.length);have BR:=Hd bRc;have BD:=Hd bDc;have B4C:=Hd b4c;have B5C:=Hd b5c;have B7C:=Hd b7c;have HB0:=Hd hb0c;clear b4_3 b5_3 bR_3 bD3 bR2 B4 B5 b4a b5a b7a bRa bDa b5b b4b b7b bRb bDb b4c b5c b7c bRc bDc hb0c hb13 hb133 hb1 hb2 hb3 hs1 hTD hD
 gi_wp2_with (first
  | (gi_at_make;refine wpListIn_made _ rfl _ _ 28 rfl (w3.heap.size+1) 89 i0 (.int .u32 0) 1 Tryz.underlying28 hi' hz0 hz1 .i64 .i64 _ _ N rfl rfl hNL.out hNL.out (by have:=eN.out;rw[hz2];omega) (by have:=eN.out;unfold maxLen;omega) (by simp[World.setCell]) ?_;intro w5 hown5 hgrow5;rw[show (((w3.alloc (.cells #[.slice none 0 0] 28)).setCell ⟨w.heap.size+1,0,none⟩ (.slice (some ⟨w.heap.size+2,0,none⟩) R0.length R0.length)).setCell ⟨w3.heap.size,0,none⟩ (.slice (some ⟨w2.heap.size,0,none⟩) (trimN D0) D0.length)).heap.size=w3.heap.size+1 from by simp[World.setCell]]at hown5 ⊢;have hsz5:w3.heap.size+1<=w5.heap.size:=Nat.le_trans (by simp[World.setCell]) hgrow5.size;have b4d:=(B4C.out.kept hgrow5 (by simp));have c4d:=b4d.cell;have f4d:=b4d.frozen;have b4e:=b4d.set (.slice (some ⟨w3.heap.size+1,0,none⟩) N N);have c4e:=b4e.cell)
  | (refine ⟨trivial,?_⟩;gi_at_call 169;refine (callsIn_wide.2 (backward_any _ _ _ _)).mono ?_;rintro e w7 ⟨rfl,ew7⟩;subst ew7))
 have b5d:=B5C.out.kept hgrow5 (by simp);have b7d:=B7C.out.kept hgrow5 (by simp);have bRd:=BR.out.kept hgrow5 (by simp);have bDd:=BD.out.kept hgrow5 (by simp)
 have bQd:Buf .u32 89 (w3.heap.size+1) N (List.replicate N 0) w5:=by
  refine Buf.from_own (base:=w3.heap.size+1) (xs:=List.replicate N 0) (List.length_replicate ..) ?_;have h:=hown5;rw[Nat.mul_one,show (Value.int .u32 0).cells=#[.int .u32 0] from rfl,toList_madeCells_one]at h
  simpa [ints]using h
 have hq5:=bQd.lt;have hb5:Below w.heap.size w w5:=HB0.out.grown hgrow5 HB0.out.size (fun k e=>by cases e);have G6:=grownBy_setCell' w5 w.heap.size (.slice (some ⟨w3.heap.size+1,0,none⟩) N N);obtain ⟨W0,hW0⟩:∃W0,W0=(w5.setCell ⟨w.heap.size,0,none⟩ (.slice (some ⟨w3.heap.size+1,0,none⟩) N N)).alloc (.cells #[(.slice (some ⟨w3.heap.size+1,0,none⟩) N N)] 28):=⟨_,rfl⟩
 have hgx:∀o:Obj,(w5.setCell ⟨w.heap.size,0,none⟩ (.slice (some ⟨w3.heap.size+1,0,none⟩) N N)).grownBy ((w5.setCell ⟨w.heap.size,0,none⟩ (.slice (some ⟨w3.heap.size+1,0,none⟩) N N)).alloc o) none:=fun o=>World.grownBy_alloc _ _ none
 have b40:Boxed W0 w.heap.size 28 (.slice (some ⟨w3.heap.size+1,0,none⟩) N N):=by rw[hW0];exact b4e.alloc _
 have b50:Boxed W0 (w.heap.size+1) 28 (.slice (some ⟨w.heap.size+2,0,none⟩) R0.length R0.length):=by rw[hW0];exact (b5d.kept G6 (by simp)).alloc _
 have b70:Boxed W0 w3.heap.size 28 (.slice (some ⟨w2.heap.size,0,none⟩) (trimN D0) D0.length):=by rw[hW0];exact (b7d.kept G6 (by simp;omega)).alloc _
 have bB0:Boxed W0 w5.heap.size 28 (.slice (some ⟨w3.heap.size+1,0,none⟩) N N):=by
  have h:=Boxed.new (w5.setCell ⟨w.heap.size,0,none⟩ (.slice (some ⟨w3.heap.size+1,0,none⟩) N N)) 28 (.slice (some ⟨w3.heap.size+1,0,none⟩) N N);rw[show (w5.setCell ⟨w.heap.size,0,none⟩ (.slice (some ⟨w3.heap.size+1,0,none⟩) N N)).heap.size=w5.heap.size from by simp[World.setCell]]at h;rw[hW0];exact h
 have bR0:Buf .u32 89 (w.heap.size+2) R0.length R0 W0:=by rw[hW0];exact (bRd.kept G6 (by simp)).kept (hgx _) (by simp)
 have bD0:Buf .u32 89 w2.heap.size D0.length (trimL D0) W0:=by rw[hW0];exact ((bDd.kept G6 (by simp;omega)).kept (hgx _) (by simp)).shorter _
 have bQ0:Buf .u32 89 (w3.heap.size+1) N (List.replicate N 0) W0:=by rw[hW0];exact (bQd.kept G6 (by simp;omega)).kept (hgx _) (by simp)
 have hb0:Below w.heap.size w W0:=by rw[hW0];exact (hb5.setCell (p:=⟨w.heap.size,0,none⟩) (Nat.le_refl _) _).alloc (by simp[World.setCell];omega) _
 have hs0:W0.heap.size=w5.heap.size+1:=by rw[hW0];simp[World.setCell]
 have hvD:val b32 (trimL D0)=val b32 D0:=val_trimL D0;have hzq:val b32 ((List.replicate N 0).drop N)=0:=by rw[List.drop_of_length_le (by simp)];rfl
 have hRN:val b32 (R0.drop N)<val b32 (trimL D0):=by
  rw[hvD];have h3:=shifted_top hs ely.out HY.out.dg et.out HS1.out HS2.out vD0.out;have h4:=lR0.out;have h5:=eN.out;have h6:=ely.out;have h2s:2 ^ s<=2147483648:=Nat.pow_le_pow_right (n:=2) (by decide) (show s<=31 by omega);refine start_lt (n:=n2+1) (m:=0) (by decide) (by omega) vR0.out ?_ (Nat.le_trans (Nat.mul_le_mul_left _ h2s) h3.1) (Nat.pow_pos (by decide));have h7:=val_lt HX.out.dg
  rwa [show xs.length=N+(n2+1) by omega]at h7
 have hdg0:Dg b32 (List.replicate N 0):=fun d hd=>by rw[List.eq_of_mem_replicate hd];decide
 have I0:LongI w w2.heap.size w3.heap.size w5.heap.size R0.length N (trimN D0) D0.length (trimL D0) (val b32 R0) N W0 :=
  ⟨R0,List.replicate N 0,⟨rfl,dR0,List.length_replicate ..,hdg0,hRN,by rw[hzq];simp⟩,bR0,bD0,bQ0,b40,b50,b70,bB0,hb0⟩
 rw[<-hW0];have hrd0:=bQ0.rd bQ0.lt;rw[hs0]at hrd0;have hlq:(List.replicate N 0).length=N:=List.length_replicate ..;have HI0:=Hd I0;clear hW0 c5a f5a c7a c7b f7b f7a c7c c5c BR BD B4C B5C B7C HB0 hown5 hgrow5 b4d c4d f4d b4e c4e b5d b7d bRd bDd bQd hb5 G6 hgx b40 b50 b70 bR0 bD0 hb0 I0 hRN hzq
 refine wp_rounds (gf:=179) (lb:=#[.pointer (some ⟨w5.heap.size,0,none⟩)]) ?hg (enters_of Tryz.func179 (by kernel_rfl) rfl)
  (N:=N) (enc:=backE (List.replicate N 0)) (Keep:=fun k=>KeepAt (backS w5.heap.size (some ⟨w3.heap.size+1,0,none⟩) (N-1-k)))
  (fun W hW=>by
   have h:=backward_gives w5.heap.size (w5.heap.size+1) N (some ⟨w3.heap.size+1,0,none⟩) (List.replicate N 0) (by rw[hlq];exact Nat.le_refl _) (by omega) W (by rw[hlq];exact (hW.cell (p:=⟨w5.heap.size,0,none⟩) (by show w5.heap.size<_;omega)).trans bB0.cell) (hrd0.below (by rw[<-hs0];exact hW))
   rwa [hlq]at h)
  (fun k A₁ B₁ o o' _ h=>keepAt_round (backS_lt hrd0 (by rw[hlq];omega) (by omega) (by omega)) o o' h)
  ?hps
  (fun k W=>LongI w w2.heap.size w3.heap.size w5.heap.size R0.length N (trimN D0) D0.length (trimL D0) (val b32 R0) (N-k) W)
  (fun _ _ _=>False)
  ?hI ?hIx HI0.out
  (fun k=>{ tmps:=#[.slice A xs.length c,.slice A' ys.length c',undef,undef,.pointer (some ⟨w.heap.size,0,none⟩),.pointer (some ⟨w.heap.size+1,0,none⟩),.int .i64 (s:Nat),.pointer (some ⟨w3.heap.size,0,none⟩),.int .i64 ((N-1-k:Nat):Int),undef,undef,
   .slice A' ys.length c',.slice A' ys.length c',.int .i64 (ys.length:Nat),.int .i64 ((ys.length:Int)-1),.pointer (some ⟨by_,oy+(n2+1),none⟩),.int .u32 (t:Nat),.int .i64 (s:Nat),.slice A xs.length c,.int .i64 (s:Nat),(.slice (some ⟨w.heap.size+2,0,none⟩) R0.length R0.length),.slice A' ys.length c',.int .i64 (s:Nat),.slice (some ⟨w2.heap.size,0,none⟩) D0.length D0.length,(.slice (some ⟨w2.heap.size,0,none⟩) (trimN D0) D0.length),(.slice (some ⟨w.heap.size+2,0,none⟩) R0.length R0.length),.int .i64 (R0.length:Nat),(.slice (some ⟨w2.heap.size,0,none⟩) (trimN D0) D0.length),.int .i64 (trimN D0:Nat),.int .i64 ((R0.length:Int)-(trimN D0:Nat)),(.slice (some ⟨w3.heap.size+1,0,none⟩) N N),(.slice (some ⟨w3.heap.size+1,0,none⟩) N N),.func (.func 179) #[] #[.pointer (some ⟨w5.heap.size,0,none⟩)],.int .i64 ((N-1-k:Nat):Int),.int .u32 (((List.replicate N 0).getD (N-1-k) 0:Nat):Int),
   undef,undef,undef,undef,undef,undef,undef,undef,undef,undef,undef,undef,undef,undef,undef,undef,undef,undef,undef,undef,undef,undef,undef,undef,undef,undef,undef,undef,undef],defers:=[] }) ?assign ?body ?done ?stop
 case hg=>rfl
 case hps=>exact fun _=>rfl
 case hI=>exact longI_own (by omega)
 case hIx=>exact fun _ _ _ _ _ h _ _=>h
 case assign =>
  intro l k W K hK;unfold backE;rw[hlq]
  gi_wp2
  exact hK
 case body =>
  rintro l k W hlt hI hk;obtain ⟨m,hm⟩:∃m,N-1-k=m:=⟨_,rfl⟩
  have hm1:N-k=m+1:=by omega
  have hm2:N-(k+1)=m:=by omega
  simp only[hm,hm1,hm2]at hI ⊢;obtain ⟨RR,QQ,⟨hRl,hRd,hQl,hQd,hpre,hX⟩,bR,bD,bQ,b4,b5,b7,bB,hb⟩:=hI;have c4:=b4.cell;have c5:=b5.cell;have c7:=b7.cell;have hmn:m+trimN D0+1<=R0.length:=by have h1:=eN.out;have h2:=HTD.out;have h3:=lR0.out;omega
  have lds:(trimL D0).length=n2+2:=by rw[trimL_length,HTD.out,ely.out]
  have hds:Dg b32 (trimL D0):=dD0.take _;have hsv:=shifted_top hs ely.out HY.out.dg et.out HS1.out HS2.out vD0.out;rw[<-hvD]at hsv;have hDlt:val b32 (trimL D0)<b32 ^ (n2+2):=hsv.2;have hD0':0<val b32 (trimL D0):=Nat.lt_of_lt_of_le (Nat.mul_pos (Nat.pow_pos (by decide)) (by decide)) hsv.1
  have htop:0<(trimL D0).getD (n2+1) 0:=by
   have e1:=top_one b32 (trimL D0) (n2+1) lds
   have l1:val b32 ((trimL D0).take (n2+1))<b32 ^ (n2+1):=by
    have:=val_lt (hds.take (n2+1))
    rwa [List.length_take,Nat.min_eq_left (by omega)]at this
   refine Nat.pos_of_ne_zero fun h=>?_
   rw[h,Nat.mul_zero,Nat.add_zero]at e1;have h2:b32 ^ (n2+1)*1<=b32 ^ (n2+1)*2147483648:=Nat.mul_le_mul_left _ (by decide);omega
  have htn:trimN D0=n2+2:=by rw[HTD.out,ely.out]
  have lps:((RR.drop m).take (n2+3)).length=n2+3:=by rw[List.length_take,List.length_drop];omega
  have hps:Dg b32 ((RR.drop m).take (n2+3)):=fun d hd=>hRd d (List.mem_of_mem_drop (List.mem_of_mem_take hd))
  have hz:=above_zero (n:=n2+2) (by decide) (by omega) hDlt hpre;have hpv:=part_val (n:=n2+2) (by omega) hz
  have hUlt:val b32 (RR.drop m)<b32*val b32 (trimL D0):=by
   rw[val_drop_step b32 RR m (by omega)];have h1:RR.getD m 0<b32:=getD_dg (by decide) hRd m;have h2:=Nat.mul_le_mul_left b32 hpre;rw[Nat.succ_eq_add_one,Nat.mul_add,Nat.mul_one]at h2;omega
  have hlR:=bR.lt;have hlD:=bD.lt;have HG:=guessWord_any (c:=R0.length-m) (c':=D0.length) (bR.rdAt hlR m (n2+3)) (bD.rd hlD) hps hds lps lds (by have:=eN.out;omega) htop;rw[lps,lds]at HG;have HGH:=Hd HG;clear HG;rw[htn]at c7 b7 ⊢
  gi_wp2_with fail
  rw[show m+(n2+2)+1-m=n2+3 from by omega];refine ⟨trivial,?_⟩;refine (callsIn_wide.2 HGH.out).mono ?_;rintro e w6 ⟨g,rfl,hgb,hgg,hgall,hb6⟩;obtain ⟨hg1,hg2⟩:=guess_both (by decide) hps hds lps lds htop (by rw[hpv];exact hUlt) hgb hgg hgall;rw[hpv]at hg1 hg2;have bR6:=bR.onto hb6 hlR;have bD6:=bD.onto hb6 hlD;have b7_6:=boxed_onto b7 hb6 b7.lt;have c7_6:=b7_6.cell;have HGA:=Hd hg1;have HGB:=Hd hg2;have HS6:=Hd (subMul_any (c2:=D0.length) (cap:=R0.length-m) (o:=m) bR6 hRd bD6 hds (by omega) (by rw[lds,hRl];omega) hgb (by omega) (by rw[lds];omega) (by omega));rw[lds]at HS6;clear hg1 hg2 hgg hgall HGH c7
  gi_wp2_with fail
  refine ⟨trivial,?_⟩;refine (callsIn_wide.2 HS6.out).mono ?_;rintro e w8 ⟨R1,cc,rfl,hcc,hl1,hd1,hout1,hval1,bR8,hg8⟩;obtain ⟨hc0,hc1⟩:=round_one (n:=n2+2) (by decide) (by omega) hd1 (by omega) hout1 hDlt hD0' hpre hval1 hcc HGA.out HGB.out;have G8:=Grown.trans (Below.free hb6 (some (w.heap.size+2))) hg8;have b4_8:=b4.kept G8 (by simp);have b7_8:=b7.kept G8 (by simp;omega);have bQ8:=bQ.kept G8 (by simp;omega);have c4_8:=b4_8.cell;have c7_8:=b7_8.cell;have hmN:m<N:=by omega
  have hmN':(m:Int)<(N:Int):=by omega
  have hmQ:m<QQ.length:=by omega
  have hqb:val b32 (RR.drop m) / val b32 (trimL D0)<b32:=by rw[Nat.div_lt_iff_lt_mul hD0'];exact hUlt
  have hrlt:val b32 (RR.drop m) % val b32 (trimL D0)<val b32 (trimL D0):=Nat.mod_lt _ hD0';have hUsz:R0.length<=4294967296:=hR0l
  rcases Nat.le_one_iff_eq_zero_or_eq_one.1 hcc with rfl|rfl
  .obtain ⟨rfl,hr1⟩:=hc0 rfl;have hXe:=round_end (R:=RR) (R2:=R1) (i:=m) (by omega) (by omega) (take_out hout1 hl1) hX hr1;have cQ:=bQ8.cell hmQ;have fQ:=bQ8.frozen m;obtain ⟨ov,eov⟩:∃ov,QQ[m]=ov:=⟨_,rfl⟩
   rw[eov]at cQ;have FIN:=Hd (fun (a:Act)=>long_fin (a:=a) (B:=W0.heap.size) hQl hQd bD bQ b4 b5 b7 bB hb G8 bR8 (by omega) hd1 (by rw[hr1];exact hrlt) hXe hqb hmN (by omega) (by omega) (by omega) (by omega) (by omega));obtain ⟨q,eq⟩:∃q,Hid (val b32 (RR.drop m) / val b32 (trimL D0)=q):=⟨_,rfl⟩
   rw[eq.out]at FIN hqb ⊢;clear hXe hr1 hX hval1 hc0 hc1 eov HGA HGB HS6 bR8 bQ8 b4_8 b7_8 b7_6 bD6 bR6 hUlt hrlt hpv
   gi_wp2_with fail
   exact FIN.out _
  .obtain ⟨rfl,hr1⟩:=hc1 rfl;have hbs:R1.length=R0.length:=by omega
   have HA8:=Hd (addBack_any (c2:=D0.length) (cap:=R0.length-m) (o:=m) bR8 hd1 (bD.kept G8 (by simp;omega)) hds (by omega) (by rw[lds,hbs];omega) (by omega) (by rw[lds];omega) (by omega));rw[lds]at HA8;obtain ⟨q,eq⟩:∃q,val b32 (RR.drop m) / val b32 (trimL D0)=q:=⟨_,rfl⟩
   have EQ:=Hd eq;rw[eq]at hqb ⊢;have hwq:IntKind.u32.wrap (q:Int)=(q:Int):=IntWalk.u32_in _ (by unfold b32 at hqb;omega);have hwq2:IntKind.u32.wrap (((q+1:Nat):Int)-1)=(q:Int):=by rw[show ((q+1:Nat):Int)-1=(q:Int) from by omega];exact hwq
   clear hc0 hc1 HGA HGB HS6 b7_6 bD6 bR6 hUlt hpv eq
   gi_wp2_with fail
   refine ⟨trivial,?_⟩;refine (callsIn_wide.2 HA8.out).mono ?_;rintro e w9 ⟨R2,c2,⟨v9,rfl⟩,hcc2,hl2,hd2,hout2,hval2,bR9,hg9⟩;have hz1:val b32 (R1.drop (m+(n2+2+1)))=0:=by rw[drop_out hout1 hl1];exact hz
   have hr2:=round_two (n:=n2+2) (by decide) (by omega) hd2 hl2 hout2 hz1 hval2 hcc2 hr1;have ht2:R2.take m=RR.take m:=(take_out hout2 hl2).trans (take_out hout1 hl1);have hXe:=round_end (R:=RR) (R2:=R2) (i:=m) (by omega) (by omega) ht2 hX hr2;rw[EQ.out]at hXe;have G9:=Grown.trans G8 hg9;have b4_9:=b4.kept G9 (by simp);have bQ9:=bQ.kept G9 (by simp;omega);have c4_9:=b4_9.cell;have cQ:=bQ9.cell hmQ;have fQ:=bQ9.frozen m;obtain ⟨ov,eov⟩:∃ov,QQ[m]=ov:=⟨_,rfl⟩
   rw[eov]at cQ;have FIN:=Hd (fun (a:Act)=>long_fin (a:=a) (B:=W0.heap.size) hQl hQd bD bQ b4 b5 b7 bB hb G9 bR9 (by omega) hd2 (by rw[hr2];exact hrlt) hXe hqb hmN (by omega) (by omega) (by omega) (by omega) (by omega));clear hXe hr1 hr2 hX hval1 hval2 eov bR8 bR9 bQ8 bQ9 b4_8 b4_9 b7_8 hrlt
   gi_wp2_with fail
   exact FIN.out _
 case done =>
  rintro W hI hK;rw[Nat.sub_self]at hI;obtain ⟨RR,QQ,⟨hRl,hRd,hQl,hQd,hpre,hX⟩,bR,bD,bQ,b4,b5,b7,bB,hb⟩:=hI;rw[List.drop_zero]at hpre hX;rw[Nat.pow_zero,Nat.one_mul,hvD,vR0.out,vD0.out]at hX;rw[hvD,vD0.out]at hpre;obtain ⟨hq,hr⟩:=long_end hX hpre;have c4:=b4.cell;have c5:=b5.cell;have SR:=Hd (shiftRight_any (w.heap.size+2) R0.length R0.length s RR W bR hRd hs (by omega) (by omega));rw[hRl]at SR
  gi_wp2_with fail
  refine ⟨trivial,?_⟩;refine (callsIn_wide.2 (callsIn_wide.1 SR.out)).mono ?_;rintro e w9 ⟨⟨v9,rfl⟩,bR9,hg9⟩;have b4_9:=b4.kept hg9 (by simp);have b5_9:=b5.kept hg9 (by simp);have bQ9:=bQ.kept hg9 (by simp;omega);have c4_9:=b4_9.cell;have c5_9:=b5_9.cell;have f4_9:=b4_9.frozen;have f5_9:=b5_9.frozen;have K9:w9.heap[W0.heap.size]?=some (.deferred (some [])):=(hg9.block _ (Array.getElem?_eq_some_iff.1 hK).1 (by simp;omega)).trans hK;have b5x:=b5_9.other (B':=w.heap.size) (by omega) (.slice (some ⟨w3.heap.size+1,0,none⟩) N N);have b5x5:=b5x.cell;have b5xf:=b5x.frozen
  gi_wp2_with fail
  refine wpIn_region_any follows ?_;refine wpAnyIn_ready (rs:=[0,1]) (by kernel_rfl) (by simp) (AllReadyIn.cons rfl (fun K hK=>?_) (AllReadyIn.cons rfl (fun K hK=>?_) (AllReadyIn.nil)))
  .go_simp;refine hK _ _ ?_;clear hK K
   refine wpAnyIn_ready (rs:=[1,2]) (by kernel_rfl) (by simp) (AllReadyIn.cons rfl (fun K hK=>?_) (AllReadyIn.cons rfl (fun K hK=>?_) (AllReadyIn.nil)))
   .go_simp;refine hK _ _ ?_;clear hK K
    refine wpAnyIn_ready (rs:=[2]) (by kernel_rfl) (by simp) (AllReadyIn.cons rfl (fun K hK=>?_) (AllReadyIn.nil))
    go_simp;refine hK _ _ ?_;clear hK K
    refine wpAnyIn_ready (rs:=[3]) (by kernel_rfl) (by simp) (AllReadyIn.cons rfl (fun K hK=>?_) (AllReadyIn.nil))
    go_simp;refine hK _ _ ?_;clear hK K
    refine wpAnyIn_done (by kernel_rfl) ?_ _
    gi_wp2_with fail
    have b4f:Boxed (World.drew ((w9.setCell ⟨w.heap.size,0,none⟩ (.slice (some ⟨w3.heap.size+1,0,none⟩) N N)).setCell ⟨w.heap.size+1,0,none⟩ (.slice (some ⟨w.heap.size+2,0,none⟩) R0.length R0.length))) w.heap.size 28 (.slice (some ⟨w3.heap.size+1,0,none⟩) N N):=(b4_9.set _).other (B':=w.heap.size+1) (by omega) _;have b5f:Boxed (World.drew ((w9.setCell ⟨w.heap.size,0,none⟩ (.slice (some ⟨w3.heap.size+1,0,none⟩) N N)).setCell ⟨w.heap.size+1,0,none⟩ (.slice (some ⟨w.heap.size+2,0,none⟩) R0.length R0.length))) (w.heap.size+1) 28 (.slice (some ⟨w.heap.size+2,0,none⟩) R0.length R0.length):=b5x.set _;have bQf:Buf .u32 89 (w3.heap.size+1) N QQ (World.drew ((w9.setCell ⟨w.heap.size,0,none⟩ (.slice (some ⟨w3.heap.size+1,0,none⟩) N N)).setCell ⟨w.heap.size+1,0,none⟩ (.slice (some ⟨w.heap.size+2,0,none⟩) R0.length R0.length))):=(bQ9.kept (grownBy_setCell' w9 w.heap.size (.slice (some ⟨w3.heap.size+1,0,none⟩) N N)) (by simp;omega)).kept (Grown.drew (grownBy_setCell' _ (w.heap.size+1) _)) (by simp;omega);have bRf:Buf .u32 89 (w.heap.size+2) R0.length (shrRow s RR) (World.drew ((w9.setCell ⟨w.heap.size,0,none⟩ (.slice (some ⟨w3.heap.size+1,0,none⟩) N N)).setCell ⟨w.heap.size+1,0,none⟩ (.slice (some ⟨w.heap.size+2,0,none⟩) R0.length R0.length))):=(bR9.kept (grownBy_setCell' w9 w.heap.size (.slice (some ⟨w3.heap.size+1,0,none⟩) N N)) (by simp)).kept (Grown.drew (grownBy_setCell' _ (w.heap.size+1) _)) (by simp);have Kf:(World.drew ((w9.setCell ⟨w.heap.size,0,none⟩ (.slice (some ⟨w3.heap.size+1,0,none⟩) N N)).setCell ⟨w.heap.size+1,0,none⟩ (.slice (some ⟨w.heap.size+2,0,none⟩) R0.length R0.length))).heap[W0.heap.size]?=some (.deferred (some [])):=(KeepsOthers.setCell _ _ _).same _ _ ((KeepsOthers.setCell _ _ _).same _ _ K9 rfl) rfl;have hbf:Below w.heap.size w (World.drew ((w9.setCell ⟨w.heap.size,0,none⟩ (.slice (some ⟨w3.heap.size+1,0,none⟩) N N)).setCell ⟨w.heap.size+1,0,none⟩ (.slice (some ⟨w.heap.size+2,0,none⟩) R0.length R0.length))):=(((hb.trans (Grown.below hg9 (by omega) hb.size)).setCell (p:=⟨w.heap.size,0,none⟩) (Nat.le_refl _) _).setCell (p:=⟨w.heap.size+1,0,none⟩) (by show w.heap.size<=w.heap.size+1;omega) _).drew;rw[hs0]at Kf;refine ⟨by simp,.inl ⟨_,_,rfl,run_takeDeferred Kf,?_⟩⟩;have G7:=grownBy_putObj' (World.drew ((w9.setCell ⟨w.heap.size,0,none⟩ (.slice (some ⟨w3.heap.size+1,0,none⟩) N N)).setCell ⟨w.heap.size+1,0,none⟩ (.slice (some ⟨w.heap.size+2,0,none⟩) R0.length R0.length))) (w5.heap.size+1) (.deferred none);have b4g:=b4f.kept G7 (by simp;omega)
    have b5g:=b5f.kept G7 (by simp;omega);have bQg:=bQf.kept G7 (by simp;omega);have bRg:=bRf.kept G7 (by simp;omega);have hbg:Below w.heap.size w _:=hbf.trans (Grown.below G7 (by omega) hbf.size);refine ⟨.tuple #[.slice (some ⟨w3.heap.size+1,0,none⟩) N N,.slice (some ⟨w.heap.size+2,0,none⟩) R0.length R0.length],?_,?_⟩
    .have g1:=b4g.cell;have g2:=b5g.cell;simp[results,Tryz.f175,go_sem,g1,g2]
    .have hsl:(shrRow s RR).length=R0.length:=by rw[shrRow_length];exact hRl
     refine ⟨w3.heap.size+1,w.heap.size+2,QQ,shrRow s RR,by rw[hQl,hsl],by rw[hQl];exact bQg,by rw[hsl];exact bRg,hQd,Dg_shrRow _ _,by rw[hsl];exact lR0.out,by have:=eN.out;omega,hq,by rw[val_shrRow hs hRd];exact hr,by omega,by omega,by omega,hbg⟩
   .go_simp;refine hK _ _ ?_;clear hK K
    refine wpAnyIn_ready (rs:=[1]) (by kernel_rfl) (by simp) (AllReadyIn.cons rfl (fun K hK=>?_) (AllReadyIn.nil))
    go_simp;refine hK _ _ ?_;clear hK K
    refine wpAnyIn_ready (rs:=[3]) (by kernel_rfl) (by simp) (AllReadyIn.cons rfl (fun K hK=>?_) (AllReadyIn.nil))
    go_simp;refine hK _ _ ?_;clear hK K
    refine wpAnyIn_done (by kernel_rfl) ?_ _
    gi_wp2_with fail
    have b4f:Boxed (World.drew ((w9.setCell ⟨w.heap.size,0,none⟩ (.slice (some ⟨w3.heap.size+1,0,none⟩) N N)).setCell ⟨w.heap.size+1,0,none⟩ (.slice (some ⟨w.heap.size+2,0,none⟩) R0.length R0.length))) w.heap.size 28 (.slice (some ⟨w3.heap.size+1,0,none⟩) N N):=(b4_9.set _).other (B':=w.heap.size+1) (by omega) _;have b5f:Boxed (World.drew ((w9.setCell ⟨w.heap.size,0,none⟩ (.slice (some ⟨w3.heap.size+1,0,none⟩) N N)).setCell ⟨w.heap.size+1,0,none⟩ (.slice (some ⟨w.heap.size+2,0,none⟩) R0.length R0.length))) (w.heap.size+1) 28 (.slice (some ⟨w.heap.size+2,0,none⟩) R0.length R0.length):=b5x.set _;have bQf:Buf .u32 89 (w3.heap.size+1) N QQ (World.drew ((w9.setCell ⟨w.heap.size,0,none⟩ (.slice (some ⟨w3.heap.size+1,0,none⟩) N N)).setCell ⟨w.heap.size+1,0,none⟩ (.slice (some ⟨w.heap.size+2,0,none⟩) R0.length R0.length))):=(bQ9.kept (grownBy_setCell' w9 w.heap.size (.slice (some ⟨w3.heap.size+1,0,none⟩) N N)) (by simp;omega)).kept (Grown.drew (grownBy_setCell' _ (w.heap.size+1) _)) (by simp;omega);have bRf:Buf .u32 89 (w.heap.size+2) R0.length (shrRow s RR) (World.drew ((w9.setCell ⟨w.heap.size,0,none⟩ (.slice (some ⟨w3.heap.size+1,0,none⟩) N N)).setCell ⟨w.heap.size+1,0,none⟩ (.slice (some ⟨w.heap.size+2,0,none⟩) R0.length R0.length))):=(bR9.kept (grownBy_setCell' w9 w.heap.size (.slice (some ⟨w3.heap.size+1,0,none⟩) N N)) (by simp)).kept (Grown.drew (grownBy_setCell' _ (w.heap.size+1) _)) (by simp);have Kf:(World.drew ((w9.setCell ⟨w.heap.size,0,none⟩ (.slice (some ⟨w3.heap.size+1,0,none⟩) N N)).setCell ⟨w.heap.size+1,0,none⟩ (.slice (some ⟨w.heap.size+2,0,none⟩) R0.length R0.length))).heap[W0.heap.size]?=some (.deferred (some [])):=(KeepsOthers.setCell _ _ _).same _ _ ((KeepsOthers.setCell _ _ _).same _ _ K9 rfl) rfl;have hbf:Below w.heap.size w (World.drew ((w9.setCell ⟨w.heap.size,0,none⟩ (.slice (some ⟨w3.heap.size+1,0,none⟩) N N)).setCell ⟨w.heap.size+1,0,none⟩ (.slice (some ⟨w.heap.size+2,0,none⟩) R0.length R0.length))):=(((hb.trans (Grown.below hg9 (by omega) hb.size)).setCell (p:=⟨w.heap.size,0,none⟩) (Nat.le_refl _) _).setCell (p:=⟨w.heap.size+1,0,none⟩) (by show w.heap.size<=w.heap.size+1;omega) _).drew;rw[hs0]at Kf;refine ⟨by simp,.inl ⟨_,_,rfl,run_takeDeferred Kf,?_⟩⟩;have G7:=grownBy_putObj' (World.drew ((w9.setCell ⟨w.heap.size,0,none⟩ (.slice (some ⟨w3.heap.size+1,0,none⟩) N N)).setCell ⟨w.heap.size+1,0,none⟩ (.slice (some ⟨w.heap.size+2,0,none⟩) R0.length R0.length))) (w5.heap.size+1) (.deferred none);have b4g:=b4f.kept G7 (by simp;omega)
    have b5g:=b5f.kept G7 (by simp;omega);have bQg:=bQf.kept G7 (by simp;omega);have bRg:=bRf.kept G7 (by simp;omega);have hbg:Below w.heap.size w _:=hbf.trans (Grown.below G7 (by omega) hbf.size);refine ⟨.tuple #[.slice (some ⟨w3.heap.size+1,0,none⟩) N N,.slice (some ⟨w.heap.size+2,0,none⟩) R0.length R0.length],?_,?_⟩
    .have g1:=b4g.cell;have g2:=b5g.cell;simp[results,Tryz.f175,go_sem,g1,g2]
    .have hsl:(shrRow s RR).length=R0.length:=by rw[shrRow_length];exact hRl
     refine ⟨w3.heap.size+1,w.heap.size+2,QQ,shrRow s RR,by rw[hQl,hsl],by rw[hQl];exact bQg,by rw[hsl];exact bRg,hQd,Dg_shrRow _ _,by rw[hsl];exact lR0.out,by have:=eN.out;omega,hq,by rw[val_shrRow hs hRd];exact hr,by omega,by omega,by omega,hbg⟩
  .go_simp;refine hK _ _ ?_;clear hK K
   refine wpAnyIn_ready (rs:=[0]) (by kernel_rfl) (by simp) (AllReadyIn.cons rfl (fun K hK=>?_) (AllReadyIn.nil))
   go_simp;refine hK _ _ ?_;clear hK K
   refine wpAnyIn_ready (rs:=[2]) (by kernel_rfl) (by simp) (AllReadyIn.cons rfl (fun K hK=>?_) (AllReadyIn.nil))
   go_simp;refine hK _ _ ?_;clear hK K
   refine wpAnyIn_ready (rs:=[3]) (by kernel_rfl) (by simp) (AllReadyIn.cons rfl (fun K hK=>?_) (AllReadyIn.nil))
   go_simp;refine hK _ _ ?_;clear hK K
   refine wpAnyIn_done (by kernel_rfl) ?_ _
   gi_wp2_with fail
   have b4f:Boxed (World.drew ((w9.setCell ⟨w.heap.size,0,none⟩ (.slice (some ⟨w3.heap.size+1,0,none⟩) N N)).setCell ⟨w.heap.size+1,0,none⟩ (.slice (some ⟨w.heap.size+2,0,none⟩) R0.length R0.length))) w.heap.size 28 (.slice (some ⟨w3.heap.size+1,0,none⟩) N N):=(b4_9.set _).other (B':=w.heap.size+1) (by omega) _;have b5f:Boxed (World.drew ((w9.setCell ⟨w.heap.size,0,none⟩ (.slice (some ⟨w3.heap.size+1,0,none⟩) N N)).setCell ⟨w.heap.size+1,0,none⟩ (.slice (some ⟨w.heap.size+2,0,none⟩) R0.length R0.length))) (w.heap.size+1) 28 (.slice (some ⟨w.heap.size+2,0,none⟩) R0.length R0.length):=b5x.set _;have bQf:Buf .u32 89 (w3.heap.size+1) N QQ (World.drew ((w9.setCell ⟨w.heap.size,0,none⟩ (.slice (some ⟨w3.heap.size+1,0,none⟩) N N)).setCell ⟨w.heap.size+1,0,none⟩ (.slice (some ⟨w.heap.size+2,0,none⟩) R0.length R0.length))):=(bQ9.kept (grownBy_setCell' w9 w.heap.size (.slice (some ⟨w3.heap.size+1,0,none⟩) N N)) (by simp;omega)).kept (Grown.drew (grownBy_setCell' _ (w.heap.size+1) _)) (by simp;omega);have bRf:Buf .u32 89 (w.heap.size+2) R0.length (shrRow s RR) (World.drew ((w9.setCell ⟨w.heap.size,0,none⟩ (.slice (some ⟨w3.heap.size+1,0,none⟩) N N)).setCell ⟨w.heap.size+1,0,none⟩ (.slice (some ⟨w.heap.size+2,0,none⟩) R0.length R0.length))):=(bR9.kept (grownBy_setCell' w9 w.heap.size (.slice (some ⟨w3.heap.size+1,0,none⟩) N N)) (by simp)).kept (Grown.drew (grownBy_setCell' _ (w.heap.size+1) _)) (by simp);have Kf:(World.drew ((w9.setCell ⟨w.heap.size,0,none⟩ (.slice (some ⟨w3.heap.size+1,0,none⟩) N N)).setCell ⟨w.heap.size+1,0,none⟩ (.slice (some ⟨w.heap.size+2,0,none⟩) R0.length R0.length))).heap[W0.heap.size]?=some (.deferred (some [])):=(KeepsOthers.setCell _ _ _).same _ _ ((KeepsOthers.setCell _ _ _).same _ _ K9 rfl) rfl;have hbf:Below w.heap.size w (World.drew ((w9.setCell ⟨w.heap.size,0,none⟩ (.slice (some ⟨w3.heap.size+1,0,none⟩) N N)).setCell ⟨w.heap.size+1,0,none⟩ (.slice (some ⟨w.heap.size+2,0,none⟩) R0.length R0.length))):=(((hb.trans (Grown.below hg9 (by omega) hb.size)).setCell (p:=⟨w.heap.size,0,none⟩) (Nat.le_refl _) _).setCell (p:=⟨w.heap.size+1,0,none⟩) (by show w.heap.size<=w.heap.size+1;omega) _).drew;rw[hs0]at Kf;refine ⟨by simp,.inl ⟨_,_,rfl,run_takeDeferred Kf,?_⟩⟩;have G7:=grownBy_putObj' (World.drew ((w9.setCell ⟨w.heap.size,0,none⟩ (.slice (some ⟨w3.heap.size+1,0,none⟩) N N)).setCell ⟨w.heap.size+1,0,none⟩ (.slice (some ⟨w.heap.size+2,0,none⟩) R0.length R0.length))) (w5.heap.size+1) (.deferred none);have b4g:=b4f.kept G7 (by simp;omega)
   have b5g:=b5f.kept G7 (by simp;omega);have bQg:=bQf.kept G7 (by simp;omega);have bRg:=bRf.kept G7 (by simp;omega);have hbg:Below w.heap.size w _:=hbf.trans (Grown.below G7 (by omega) hbf.size);refine ⟨.tuple #[.slice (some ⟨w3.heap.size+1,0,none⟩) N N,.slice (some ⟨w.heap.size+2,0,none⟩) R0.length R0.length],?_,?_⟩
   .have g1:=b4g.cell;have g2:=b5g.cell;simp[results,Tryz.f175,go_sem,g1,g2]
   .have hsl:(shrRow s RR).length=R0.length:=by rw[shrRow_length];exact hRl
    refine ⟨w3.heap.size+1,w.heap.size+2,QQ,shrRow s RR,by rw[hQl,hsl],by rw[hQl];exact bQg,by rw[hsl];exact bRg,hQd,Dg_shrRow _ _,by rw[hsl];exact lR0.out,by have:=eN.out;omega,hq,by rw[val_shrRow hs hRd];exact hr,by omega,by omega,by omega,hbg⟩
 case stop=>exact fun _ _ _ _ h _=>h.elim
end Go.Proofs.YtglhdielkkhefaaGreat

namespace Go.Proofs.YtglhdielkkhefaaGreat
open Go.RowKit Go.Shelf
def revK (xs:List Nat)(k:Nat):List Nat:=(List.range xs.length).map fun i=>if i<k∨xs.length-1-i<k then xs.getD (xs.length-1-i) 0 else xs.getD i 0
end Go.Proofs.YtglhdielkkhefaaGreat

namespace Go.Proofs.YtglhdielkkhefaaGreat
def low (v:Nat):Nat->List Nat
  | 0=>[]
  | n+1=>low v n++[v / 10 ^ n % 10]
def revB (neg:Bool)(ds:List Nat):List Nat:=ds.map (48+·)++(if neg then [45] else [])
open Go.RowKit Go.Shelf
def decB (neg:Bool)(m:Nat):List Nat:=if m=0 then [48] else (revB neg (dig 10 m)).reverse
def decS (neg:Bool)(m:Nat):ByteArray:=⟨((decB neg m).map UInt8.ofNat).toArray⟩
theorem Buf.of_own {kd:IntKind}{w:World}{base:Nat}{e:TypeId}{g n cap:Nat}{xs:List Nat}(hn:xs.length=n)(h:w.ownsRow base e 1 (.slice (some ⟨g,0,none⟩) n cap) n (ints kd xs)):Buf kd e g cap xs w/\base<=g/\n<=cap/\cap<=9223372036854775807:=by
 rcases h.2 with ⟨e,_⟩|⟨g',cap',cur,e,hb,hg,h1,h2,h3,h4⟩
 .cases e
 .injection e with e1 e2 e3
  injection e1 with e1
  injection e1 with e1
  subst e1 e3 hn;exact ⟨⟨cur,hg,by omega,by rw[<-h4,Nat.mul_one]⟩,hb,h1,by simpa [maxLen]using h2⟩
def tx (V n:Nat):List Nat:=(low V n).map (48+·)
def lenV : Value->Nat
 | .slice _ n _=>n
 | _=>0
def DivRet2 (w:World)(q m:Nat)(e:Ending)(w':World):Prop:=∃A1 c1 qs A2 c2 rs,e=.returned (.tuple #[.slice A1 qs.length c1,.slice A2 rs.length c2])/\Arg w' A1 c1 qs/\Arg w' A2 c2 rs/\val b32 qs=q/\val b32 rs=m/\Below w.heap.size w w'
theorem DivRet.two {w:World}{q m k:Nat}{e:Ending}{w':World}(h:DivRet w q m e w')(hq:q<b32 ^ k)(hk:k<=4294967295):DivRet2 w q m e w':=by
 obtain ⟨A1,c1,rs,A2,c2,rfl,r1,r2,r3,r4,r5,r6,r7,r8,r9,hb⟩:=h;have:=dig_length_le b32_one hq;exact ⟨A1,c1,dig b32 q,A2,c2,rs,rfl,⟨r1,Dg_dig b32_one _,r5,r6,by omega⟩,⟨r2,r3,r7,r8,r9⟩,val_dig b32_one q,r4,hb⟩
theorem divide_word {A A':Option Addr}{c c':Nat}{xs:List Nat}{d:Nat}{w:World}(hx:Arg w A c xs)(hy:Arg w A' c' [d])(tx:trimL xs=xs)(ty:trimL [d]=[d])(hd0:0<d)(hlt:val b32 [d]<=val b32 xs)(hl:2<xs.length) :
  Calls Tryz.prog 157 #[.slice A xs.length c,.slice A' 1 c'] w (DivRet2 w (val b32 xs / d) (val b32 xs % d)):=by
 have HC:=Hd (compare_l hx hy);rw[tx,ty]at HC;obtain ⟨cv,hcv,hcv0⟩:∃cv,cmpN (val b32 xs) (val b32 [d])=cv/\0<=cv:=⟨_,rfl,by unfold cmpN;split<;>(try split)<;>omega⟩
 rw[hcv]at HC;have HX:=Hd hx;have HY:=Hd hy;have hd:d<4294967296:=hy.dg d (by simp);have hxs:=hx.small;clear hcv hx hy tx ty hlt
 go_enter Tryz.func157,Tryz.ntmps157
 go_wp2_with fail
 refine HC.out.mono ?_;rintro e w0 ⟨rfl,hb0⟩;have HCL:=Hd (clone_any c (HX.out.to hb0).rd (by omega))
 go_wp2_with fail
 refine HCL.out.mono ?_;rintro e w1 ⟨v,rfl,hown,hb1⟩;obtain ⟨j,hj⟩:∃j,xs.length=j+1:=⟨xs.length-1,by omega⟩
 have hown2:=hown;rw[hj]at hown2;obtain ⟨g,cap,rfl⟩:=ownsRow_succ hown2;rw[<-hj]at hown2;obtain ⟨hbf,hg1,hg2,hg3⟩:=Buf.of_own rfl hown2;obtain ⟨b2,o2,eA,_,hc2⟩:=((HY.out.to hb0).to hb1).rd.at_ (k:=0) (by simp);have cy:=hc2 0 (by simp);simp only[List.getElem_cons_zero,Nat.add_zero]at cy;have HD:=Hd (callsIn_wide.1 (divWord_any g cap cap d xs w1 hbf HX.out.dg hd0 hd hbf.le hg3));have hb01:=Bxb hb0 hb1;rw[eA];have HB:=Hd hb01;have hszg:w.heap.size<=g:=Nat.le_trans hb0.size hg1;rw[<-hj];clear hown hown2 hc2 eA HCL hb0 hb1 hj hb01
 go_wp2_with fail
 refine HD.out.mono ?_;rintro e w2 ⟨rfl,hbf2,hg⟩;have hdl:(divs d xs).1.length=xs.length:=divs_length d xs;have hb2:=HB.out.trans (Grown.below hg hszg HB.out.size);obtain ⟨hq1,hq3⟩:=divs_quot hd0 xs;have hdd:=divs_dg hd0 HX.out.dg;have hq2:=divs_lt hd0 xs;obtain ⟨r,er⟩:∃r,(divs d xs).2=r:=⟨_,rfl⟩
 rw[er]at hq2 hq3 ⊢;have hA1:Arg w2 (some ⟨g,0,none⟩) cap (divs d xs).1:=⟨hbf2.rd hbf2.lt,hdd,hbf2.le,hg3,by rw[hdl];exact hxs⟩
 have hnew:=Rd.new .u32 w2 89 [r]
 have HRES:Hid (DivRet2 w (val b32 xs / d) (val b32 xs % d) (.returned (.tuple #[.slice (some ⟨g,0,none⟩) xs.length cap,.slice (some ⟨w2.heap.size,0,none⟩) 1 1])) (w2.alloc (.cells #[.int .u32 (r:Nat)] 89))) :=
  ⟨some ⟨g,0,none⟩,cap,(divs d xs).1,some ⟨w2.heap.size,0,none⟩,1,[r],by rw[hdl];rfl,hA1.to bRR,⟨hnew.more (by simp),Dg.one (by unfold b32;omega),by simp,by omega,by simp⟩,hq1,by simp[val,hq3],hb2.alloc hb2.size _⟩
 clear hA1 hnew hbf2 hg hbf hdl hq1 hq3 hdd hb2 er;go_wp2
 go_ret2
 exact HRES.out
theorem divide_far {A A':Option Addr}{c c':Nat}{xs ys:List Nat}{w:World}(hx:Arg w A c xs)(hy:Arg w A' c' ys)(tx:trimL xs=xs)(ty:trimL ys=ys)(hlt:val b32 ys<=val b32 xs)(hl:2<xs.length)(n2:Nat)(hl2:ys.length=n2+2)(hle:ys.length<=xs.length)(htop:ys.getD (n2+1) 0≠0)(hsm:xs.length<=4294967294) :
  Calls Tryz.prog 157 #[.slice A xs.length c,.slice A' ys.length c'] w (DivRet2 w (val b32 xs / val b32 ys) (val b32 xs % val b32 ys)):=by
 have HC:=Hd (compare_l hx hy);rw[tx,ty]at HC;obtain ⟨cv,hcv,hcv0⟩:∃cv,cmpN (val b32 xs) (val b32 ys)=cv/\0<=cv:=⟨_,rfl,by unfold cmpN;split<;>(try split)<;>omega⟩
 rw[hcv]at HC;have HX:=Hd hx;have HY:=Hd hy;have hly:2<=ys.length:=by omega
 have HL2:=Hd hl2;clear hcv hx hy tx ty hlt hl2
 go_enter Tryz.func157,Tryz.ntmps157
 go_wp2_with fail
 refine HC.out.mono ?_;rintro e w0 ⟨rfl,hb0⟩;have HD:=Hd (callsIn_wide.1 (divideLong_any (HX.out.to hb0) (HY.out.to hb0) n2 HL2.out hle htop));have HB:=Hd hb0;clear hb0
 go_wp2_with fail
 refine HD.out.mono ?_;rintro e w1 ⟨g1,g2,qs,rs,rfl,b1,b2,d1,d2,l2,l1,v1,v2,o1,o2,hne,hb1⟩
 have HRES:Hid (DivRet2 w (val b32 xs / val b32 ys) (val b32 xs % val b32 ys) (.returned (.tuple #[.slice (some ⟨g1,0,none⟩) qs.length qs.length,.slice (some ⟨g2,0,none⟩) rs.length rs.length])) w1) :=
  ⟨some ⟨g1,0,none⟩,_,qs,some ⟨g2,0,none⟩,_,rs,rfl,⟨b1.rd b1.lt,d1,Nat.le_refl _,by omega,by omega⟩,⟨b2.rd b2.lt,d2,Nat.le_refl _,by omega,by omega⟩,v1,v2,HB.out.trans (hb1.mono HB.out.size)⟩
 clear b1 b2 d1 d2 v1 v2 hb1 l1 l2;go_wp2
 go_ret2
 exact HRES.out
theorem trimmed_top {xs:List Nat}{n:Nat}(hd:Dg b32 xs)(ht:trimL xs=xs)(hn:xs.length=n+1):xs.getD n 0≠0:=by
 intro h0;have e1:=top_one b32 xs n hn;rw[h0,Nat.mul_zero,Nat.add_zero]at e1
 have l1:val b32 (xs.take n)<b32 ^ n:=by
  have:=val_lt (hd.take n)
  rwa [List.length_take,Nat.min_eq_left (by omega)]at this
 have h2:=dig_length_le b32_one (show val b32 xs<b32 ^ n by omega);rw[<-trimL_dig b32_one hd,ht]at h2;omega
theorem divide_all {A A':Option Addr}{c c':Nat}{xs ys:List Nat}{w:World}(hx:Arg w A c xs)(hy:Arg w A' c' ys)(h0:0<val b32 ys)(hsm:xs.length<=4294967294) :
  Calls Tryz.prog 157 #[.slice A (trimL xs).length c,.slice A' (trimL ys).length c'] w (DivRet2 w (val b32 xs / val b32 ys) (val b32 xs % val b32 ys)):=by
 have tt:∀{zs:List Nat},Dg b32 zs->trimL (trimL zs)=trimL zs:=fun h=>by rw[trimL_dig b32_one h,trimL_of_dig b32_one]
 have hxt:=hx.trim;have hyt:=hy.trim;have txx:=tt hx.dg;have tyy:=tt hy.dg;have hsm2:(trimL xs).length<=4294967294:=Nat.le_trans (trimL_le xs) hsm;rw[<-val_trimL (b:=b32) xs,<-val_trimL (b:=b32) ys];rw[<-val_trimL (b:=b32) ys]at h0;generalize trimL xs=us at *;generalize trimL ys=vs at *;have hq:val b32 us / val b32 vs<b32 ^ us.length:=Nat.lt_of_le_of_lt (Nat.div_le_self _ _) (val_lt hxt.dg)
 rcases Nat.lt_or_ge (val b32 us) (val b32 vs) with h|h
 .exact (divide_less hxt hyt txx tyy h).mono fun e w' hh=>hh.two hq hxt.small
 .have hle:vs.length<=us.length:=by
   have h1:=val_lt hxt.dg;rw[<-tyy,trimL_dig b32_one hyt.dg];exact dig_length_le b32_one (by omega)
  rcases Nat.lt_or_ge 2 us.length with hl|hl
  .match vs,hyt,tyy,h0,hle with
   | [],_,_,h0,_=>simp[val]at h0
   | [d],hyt,tyy,h0,_ =>
    have e1:val b32 [d]=d:=by simp[val]
    have:=divide_word hxt hyt txx tyy (by rw[<-e1];exact h0) h hl;rw[e1];exact this
   | d::e::t,hyt,tyy,h0,hle =>
    refine divide_far hxt hyt txx tyy h hl t.length (by simp) hle (trimmed_top hyt.dg tyy (by simp)) hsm2
  .exact (divide_two hxt hyt txx tyy h h0 hl (by omega)).mono fun e w' hh=>hh.two hq hxt.small
end Go.Proofs.YtglhdielkkhefaaGreat
