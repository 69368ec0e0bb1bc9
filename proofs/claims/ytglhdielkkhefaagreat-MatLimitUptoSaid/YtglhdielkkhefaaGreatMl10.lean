/- Parts: 14. -/
import Derived.Test.YtglhdielkkhefaaGreatMl3
import Derived.Test.YtglhdielkkhefaaGreatMl4
import Derived.Test.YtglhdielkkhefaaGreatMl5
import Derived.Test.YtglhdielkkhefaaGreatMl7
import Derived.Test.YtglhdielkkhefaaGreatMl9
import Derived.Deep.AppendSrc
import Derived.Deep.Upon
import Derived.Laws.CopyOwn
set_option linter.unusedVariables false
set_option linter.unusedSimpArgs false
set_option maxRecDepth 100000
set_option maxHeartbeats 40000000

namespace Go.Proofs.YtglhdielkkhefaaGreat
open Go.RowKit Go.Shelf
def RedI (w:World)(G M:Nat)(u v:Value)(W:World):Prop:=∃(gx sx cx gy sy cy:Nat) (xs ys:List Nat),u=.slice (some ⟨gx,0,none⟩) xs.length cx/\v=.slice (some ⟨gy,0,none⟩) ys.length cy/\Buf .u32 89 gx sx xs W/\Buf .u32 89 gy sy ys W/\gx≠gy/\w.heap.size<=gx/\w.heap.size<=gy /\
 ys.length=xs.length/\Dg b32 xs/\Dg b32 ys/\trimL xs=xs/\val b32 ys<=val b32 xs/\Hid (Nat.gcd (val b32 xs) (val b32 ys)=G)/\xs.length<=M/\xs.length<=cx/\cx<=9223372036854775807/\ys.length<=cy/\cy<=9223372036854775807/\Below w.heap.size w W
theorem magW_drewN (V:World)(n:Nat)(v:Value):magW (V.drewN n) v=magW V v:=rfl
theorem RedI.drewN {w:World}{G M:Nat}{u v:Value}{W:World}(h:RedI w G M u v W)(n:Nat):RedI w G M u v (W.drewN n):=by
 obtain ⟨gx,sx,cx,gy,sy,cy,xs,ys,e1,e2,h1,h2,h3,h4,h5,h6,h7,h8,h9,h10,h11,h12,h13,h14,h15,h16,h17⟩:=h;exact ⟨gx,sx,cx,gy,sy,cy,xs,ys,e1,e2,h1,h2,h3,h4,h5,h6,h7,h8,h9,h10,h11,h12,h13,h14,h15,h16,bel_drewN h17 n⟩
theorem op_made {P:Program}{w:World}{d:Option Tmp}{ty:TypeId}{pos:String}{after:Array Edge}{guard:Option (Nat×Bool)}{a:Act}{K:Act->World->Prop}{Q:Exit->Act->World->Prop}
  (l c:Operand) (t:TypeId) (base:Nat) (e:TypeId) (i:TypeInfo) (z:Value) (size:Nat) (h1:P.underlying t=some (.slice e)) (h2:P.info? e=some i) (h3:i.zero=some z) (h4:i.size=size)
  (kl kc:IntKind) (m:Nat) (hl:a.eval l=.int kl (m:Nat)) (hc:a.eval c=.int kc (m:Nat)) (b2:i.bytes*m<=281474976710656) (b3:m<=maxLen) (b4:base<=w.heap.size)
  (hK:∀w',w'.ownsRow base e size (.slice (some ⟨w.heap.size,0,none⟩) m m) m (madeCells z.cells (m*size)).toList->w.grownBy w' none->K (a.put d (.slice (some ⟨w.heap.size,0,none⟩) m m)) w') :
  Oper.wp P ⟨d,.makeSlice t l c,ty,pos,after,guard⟩ a w K Q:=by
 obtain ⟨w',hrun,r1,r2⟩:=run_make_full (P:=P) w base t e i z size h1 h2 h3 h4 kl kc m b2 b3 b4;unfold Oper.wp;simp[execOp,hl,hc,hrun,Result.andThen];exact hK w' r1 r2
theorem reduce_any {A A':Option Addr}{c c' G:Nat}{xs ys:List Nat}{w:World}(hx:Arg w A c xs)(hy:Arg w A' c' ys)(tx:trimL xs=xs)(hly:2<ys.length)(hle:ys.length<=xs.length)(hval:val b32 ys<=val b32 xs)(hG:Nat.gcd (val b32 xs) (val b32 ys)=G)(hsm:xs.length<=4294967293) :
  Calls Tryz.prog 155 #[.slice A xs.length c,.slice A' ys.length c'] w fun e w'=>∃A1 c1 us A2 c2 vs,e=.returned (.tuple #[.slice A1 us.length c1,.slice A2 vs.length c2])/\Arg w' A1 c1 us/\Arg w' A2 c2 vs/\trimL us=us/\trimL vs=vs/\vs.length<=2/\val b32 vs<=val b32 us/\Nat.gcd (val b32 us) (val b32 vs)=G/\us.length<=xs.length/\Below w.heap.size w w':=by
 obtain ⟨i0,hi',hz0,hz1,hz2⟩:=info_parts infoWord;have HX:=Hd hx;have HY:=Hd hy;have HG:=Hd hG;have hxl:=hx.small;have hsome:0<xs.length:=by omega
 clear hx hy hG
 go_enter Tryz.func155,Tryz.ntmps155
 go_wp2_with fail
 refine wp_cut (fun _ a' w'=>∃(gx sx cx gy:Nat),a'={ tmps:=#[(.slice A xs.length c),(.slice A' ys.length c'),undef,undef,(.slice (some ⟨gx,0,none⟩) xs.length cx),(.slice (some ⟨gy,0,none⟩) xs.length xs.length),undef,undef,undef,undef,(.slice A xs.length c),(.slice (some ⟨gx,0,none⟩) xs.length cx),(.slice A xs.length c),(.int .i64 (xs.length:Nat)),(.slice (some ⟨gy,0,none⟩) xs.length xs.length),undef,undef,undef,undef,undef,undef,undef,undef,undef,undef,undef,undef,undef,undef,undef,undef,undef,undef,undef,undef,undef,undef,undef,undef,undef,undef,undef,undef,undef,undef,undef,undef,undef,undef,undef,undef,undef,undef,undef,undef,undef,undef],defers:=[] }/\Buf .u32 89 gx sx xs w'/\Buf .u32 89 gy xs.length (List.replicate xs.length 0) w'/\gx≠gy/\w.heap.size<=gx/\w.heap.size<=gy/\xs.length<=cx/\cx<=9223372036854775807/\Below w.heap.size w w') ?_ ?_
 .refine wp_region_planTo (S:=fun w'=>Below w.heap.size w w') [(0,true),(2,true),(3,true)] #[true,false,true,true,false,false,false] 4 (by kernel_rfl) (by kernel_rfl) (Below.refl _ _).drew ?_
  repeat (refine plan_take (v:=?_) rfl (by rfl) ?_ ?_;rotate_left;(focus (intro w' hS;go_simp;try with_reducible rfl));simp only[Act.put,pqA,pqB,pqC])
  intro HB;refine wpAnyH_ready (rs:=[1,4]) (by kernel_rfl) (by simp) (ready_cons rfl (by rfl) (fun K hK=>?_) (ready_cons rfl (by rfl) (fun K hK=>?_) AllReadyH.nil))
  .go_simp
   refine (clone_any c (HX.out.to HB).rd (by omega)).mono ?_;rintro e V ⟨v,rfl,hown0,hb0⟩;obtain ⟨j,hj⟩:∃j,xs.length=j+1:=⟨xs.length-1,by omega⟩
   have hown1:=hown0;rw[hj]at hown1;obtain ⟨gx,cx,rfl⟩:=ownsRow_succ hown1;rw[<-hj]at hown1 hown0;obtain ⟨bx,hg1,hg2,hg3⟩:=Buf.of_own rfl hown1;have hgV:=bx.lt;have hgw:w.heap.size<=gx:=Nat.le_trans HB.size hg1;rw[<-hj];replace HB:=Bxb HB hb0;refine hK.out _ _ HB ?_;clear hK K hown0 hown1 hj hb0
   try simp only[Act.put,pqA,pqB,pqC]
   refine wpAnyH_take (i:=5) (v:=(.slice (some ⟨gx,0,none⟩) xs.length cx)) rfl (by kernel_rfl) (by kernel_rfl) (by kernel_rfl) (fun _ _ _ h=>h) (Or.inl ⟨by rfl,fun w' _=>by go_simp⟩) HB ?_
   try simp only[Act.put,pqA,pqB,pqC]
   refine rdy1 (i:=4) (by kernel_rfl) rfl (by rfl) (fun K hK=>?_);refine op_made (.tmp 13) (.tmp 13) 28 (w.heap.size) 89 i0 (.int .u32 0) 1 Tryz.underlying28 hi' hz0 hz1 .i64 .i64 xs.length rfl rfl (by rw[hz2];omega) (by unfold maxLen;omega) HB.size ?_;intro w5 hown hgrow;have by5:Buf .u32 89 V.heap.size xs.length (List.replicate xs.length 0) w5:=(by refine Buf.from_own (base:=w.heap.size) (xs:=List.replicate xs.length 0) (List.length_replicate ..) ?_;have h:=hown;rw[Nat.mul_one,show (Value.int .u32 0).cells=#[.int .u32 0] from rfl,toList_madeCells_one]at h;simpa [ints]using h)
   have bx5:=bx.kept hgrow (by simp);have hgs:=HB.size;replace HB:=HB.grown hgrow HB.size (fun k e=>by cases e);refine hK.out _ _ HB ?_;clear hK K
   try simp only[Act.put,pqA,pqB,pqC]
   refine wpAnyH_take (i:=6) (v:=(.slice (some ⟨V.heap.size,0,none⟩) xs.length xs.length)) rfl (by kernel_rfl) (by kernel_rfl) (by kernel_rfl) (fun _ _ _ h=>h) (Or.inl ⟨by rfl,fun w' _=>by go_simp⟩) HB ?_
   try simp only[Act.put,pqA,pqB,pqC]
   refine wpAnyH_done (by kernel_rfl) ?_ _;exact ⟨rfl,gx,cx,cx,V.heap.size,rfl,bx5,by5,by omega,hgw,hgs,hg2,hg3,HB⟩
  .refine op_made (.tmp 13) (.tmp 13) 28 (w.heap.size) 89 i0 (.int .u32 0) 1 Tryz.underlying28 hi' hz0 hz1 .i64 .i64 xs.length rfl rfl (by rw[hz2];omega) (by unfold maxLen;omega) HB.size ?_;intro w5 hown hgrow;have hgs:=HB.size;obtain ⟨gy,egy⟩:∃gy,w.drew.heap.size=gy:=⟨_,rfl⟩
   have by5:Buf .u32 89 w.drew.heap.size xs.length (List.replicate xs.length 0) w5:=(by refine Buf.from_own (base:=w.heap.size) (xs:=List.replicate xs.length 0) (List.length_replicate ..) ?_;have h:=hown;rw[Nat.mul_one,show (Value.int .u32 0).cells=#[.int .u32 0] from rfl,toList_madeCells_one]at h;simpa [ints]using h)
   rw[egy]at by5 hgs ⊢;replace HB:=HB.grown hgrow HB.size (fun k e=>by cases e);refine hK.out _ _ HB ?_;clear hK K
   try simp only[Act.put,pqA,pqB,pqC]
   have hgy5:=by5.lt;refine rdy1 (i:=1) (by kernel_rfl) rfl (by rfl) (fun K hK=>?_);go_simp
   refine (clone_any c (HX.out.to HB).rd (by omega)).mono ?_;rintro e V ⟨v,rfl,hown0,hb0⟩;obtain ⟨j,hj⟩:∃j,xs.length=j+1:=⟨xs.length-1,by omega⟩
   have hown1:=hown0;rw[hj]at hown1;obtain ⟨gx,cx,rfl⟩:=ownsRow_succ hown1;rw[<-hj]at hown1 hown0;obtain ⟨bx,hg1,hg2,hg3⟩:=Buf.of_own rfl hown1;have hgw:w.heap.size<=gx:=Nat.le_trans HB.size hg1;have by6:=by5.onto hb0 hgy5;rw[<-hj];replace HB:=Bxb HB hb0;refine hK.out _ _ HB ?_;clear hK K hown0 hown1 hj hb0
   try simp only[Act.put,pqA,pqB,pqC]
   refine wpAnyH_take (i:=5) (v:=(.slice (some ⟨gx,0,none⟩) xs.length cx)) rfl (by kernel_rfl) (by kernel_rfl) (by kernel_rfl) (fun _ _ _ h=>h) (Or.inl ⟨by rfl,fun w' _=>by go_simp⟩) HB ?_
   try simp only[Act.put,pqA,pqB,pqC]
   refine wpAnyH_take (i:=6) (v:=(.slice (some ⟨gy,0,none⟩) xs.length xs.length)) rfl (by kernel_rfl) (by kernel_rfl) (by kernel_rfl) (fun _ _ _ h=>h) (Or.inl ⟨by rfl,fun w' _=>by go_simp⟩) HB ?_
   try simp only[Act.put,pqA,pqB,pqC]
   refine wpAnyH_done (by kernel_rfl) ?_ _;exact ⟨rfl,gx,cx,cx,gy,rfl,bx,by6,by omega,hgw,hgs,hg2,hg3,HB⟩
 .rintro a' V ⟨gx,sx,cx,gy,rfl,bx,by0,hne,hgx,hgy,hcx1,hcx2,hb0⟩;have HBX:=Hd bx;have HB0:=Hd hb0;obtain ⟨cur,hcur1,hcur2,hcur3⟩:=by0;obtain ⟨LL,hLL⟩:∃LL,cur=LL.toArray:=⟨cur.toList,by simp⟩
  rw[hLL]at hcur1;have hlen:LL.length=xs.length:=by rw[hLL]at hcur2;simpa using hcur2
  have hLLz:LL=ints .u32 (List.replicate xs.length 0):=by
   rw[hLL,show (List.replicate xs.length 0).length=xs.length from List.length_replicate ..,List.take_of_length_le (by simp;omega)]at hcur3
   simpa using hcur3
  obtain ⟨ax,hax,_,hcell⟩:∃ax,A'=some ax/\True/\∀j v,(ints .u32 ys)[j]?=some v->V.cell? (ax.add j)=some v:=by
   cases A' with
   | none=>obtain ⟨b,o,e,_⟩:=HY.out.rd 0 (by omega);cases e
   | some ax=>exact ⟨ax,rfl,trivial,Rd.news HY.out.rd (hb0)⟩
  clear hLL hcur2 hcur3 hb0 bx;have hbv:=HB0.out;rw[hax];have hcs:(ints .u32 ys).length=ys.length:=by simp[ints]
  obtain ⟨cells,ecells⟩:∃cells:Array Value,cells=((LL.toArray).toList.take 0++(ints .u32 ys++(LL.toArray).toList.drop (0+(ints .u32 ys).length))).toArray:=⟨_,rfl⟩
  have hzs:cells.toList=ints .u32 (ys++List.replicate (xs.length-ys.length) 0):=by
   rw[ecells,hLLz,hcs];simp[ints,List.map_append,List.drop_replicate]
  have c1:(V.setRow gy cells).heap[gy]?=some (.cells cells 89 (0,0)):=setRow_heap V gy _ cells _ _ hcur1;have c2:∀k,k≠gy->(V.setRow gy cells).heap[k]?=V.heap[k]?:=fun k hk=>setRow_other V gy k cells hk
  have bx2:Buf .u32 89 gx sx xs (V.setRow gy cells):=by
   obtain ⟨cu,h1,h2,h3⟩:=HBX.out;exact ⟨cu,(c2 gx hne).trans h1,h2,h3⟩
  have hzl:(ys++List.replicate (xs.length-ys.length) 0).length=xs.length:=by simp;omega
  have by2:Buf .u32 89 gy xs.length (ys++List.replicate (xs.length-ys.length) 0) (V.setRow gy cells):=by
   refine ⟨cells,c1,?_,?_⟩
   .have h:=congrArg List.length hzs;rw[show (ints .u32 (ys++List.replicate (xs.length-ys.length) 0)).length=xs.length from by simp only[ints,List.length_map];exact hzl]at h
    simpa using h
   .rw[hzl,List.take_of_length_le (by rw[hzs];simp only[ints,List.length_map];omega)];exact hzs
  have hb2:Below w.heap.size w (V.setRow gy cells):=below_setRow hbv hgy cells;have HBX2:=Hd bx2;have HBY2:=Hd by2;have HB2:=Hd hb2;have EC:=Hd ecells;clear bx2 by2 hb2 c1 c2 hbv HBX HB0 hzs ecells
  go_wp2_with (refine wpList_copy_own rfl (.tmp 15) (.tmp 16) 28 28 rfl 89 Tryz.underlying28 (by rw[hi'];simp[hz1]) gy 0 xs.length xs.length ax ys.length c' rfl rfl LL.toArray 89 hcur1 (ints .u32 ys) (by rw[hcs];exact (Nat.min_eq_left hle).symm) hcell (by rw[hcs];simp;omega) (by intro u hu;simp only[ints,List.mem_map]at hu;obtain ⟨n,_,rfl⟩:=hu;rfl) ?_;rw[<-EC.out];generalize V.setRow gy cells=V2 at HBX2 HBY2 HB2 ⊢)
  have hv0:val b32 (ys++List.replicate (xs.length-ys.length) 0)=val b32 ys:=by rw[val_append,val_zeros,Nat.mul_zero,Nat.add_zero]
  have I0:RedI w G xs.length (.slice (some ⟨gx,0,none⟩) xs.length cx) (.slice (some ⟨gy,0,none⟩) xs.length xs.length) V2 :=
   ⟨gx,sx,cx,gy,xs.length,xs.length,xs,ys++List.replicate (xs.length-ys.length) 0,rfl,by rw[hzl],HBX2.out,HBY2.out,hne,hgx,hgy,hzl,HX.out.dg,HY.out.dg.app (fun d hd=>by rw[List.eq_of_mem_replicate hd];decide),tx,by rw[hv0];exact hval,by show _=_;rw[hv0];exact HG.out,Nat.le_refl _,hcx1,hcx2,by rw[hzl];exact Nat.le_refl _,by omega,HB2.out⟩
  have HI0:=Hd I0;obtain ⟨M,eM⟩:∃M,Hid (xs.length=M):=⟨_,rfl⟩
  have hM:M<=4294967293:=by rw[<-eM.out];exact hsm
  rw[eM.out]at HI0;clear I0 hv0 hzl hcs hLLz hlen hcur1 HBX2 HBY2 HB2 EC hcell hax hne hgx hgy hcx1 hcx2 HX HY HG hsome hxl
  go_loopw [4,5] (fun u v wr=>RedI w G M u v wr) (fun u v wr=>magW wr u+magW wr v)
  case atStart=>rw[eM.out];exact HI0.out
  case round =>
   obtain ⟨gx,sx,cx,gy,sy,cy,xs',ys',rfl,rfl,bx,by2,hne,hgx,hgy,hyl,dx,dy,txx,hle2,hG2,hM2,hcx1,hcx2,hcy1,hcy2,hb⟩:=hrel;clear HI0 cells;have MX:=Hd (magW_eq (c:=cx) (bx.rd bx.lt));have MY:=Hd (magW_eq (c:=cy) (by2.rd by2.lt));have TR:=Hd (trim_any (some ⟨gy,0,none⟩) cy wr.heap.size ys' wr (by2.rd by2.lt) hcy1 hcy2);have HBX:=Hd bx;have HBY:=Hd by2;have HB:=Hd hb;have HYL:=Hd hyl;have hlx:=bx.lt;have hly2:=by2.lt;clear bx by2 hb
   by_cases h3:trimN ys'<=2
   .clear hyl
    go_wp2_with fail
    refine TR.out.mono ?_;rintro e V ⟨rfl,eV⟩;subst eV
    go_wp2_with fail
    refine TR.out.mono ?_;rintro e V ⟨rfl,eV⟩;subst eV;have AX:Arg wr (some ⟨gx,0,none⟩) cx xs':=⟨HBX.out.rd hlx,dx,hcx1,hcx2,by omega⟩
    have AY:Arg wr (some ⟨gy,0,none⟩) cy (trimL ys'):=(⟨HBY.out.rd hly2,dy,hcy1,hcy2,by have:=HYL.out;omega⟩:Arg wr (some ⟨gy,0,none⟩) cy ys').trim;have HAX:=Hd AX;have HAY:=Hd AY;clear AX AY;go_wp2
    go_ret2
    exact ⟨some ⟨gx,0,none⟩,cx,xs',some ⟨gy,0,none⟩,cy,trimL ys',by rw[trimL_length];rfl,HAX.out,HAY.out,txx,by rw[trimL_dig b32_one dy,trimL_of_dig b32_one],by rw[trimL_length];exact h3,by rw[val_trimL];exact hle2,by rw[val_trimL];exact hG2.out,by rw[eM.out];exact hM2,HB.out⟩
   .have hty:=trimN_le ys';obtain ⟨f,ef⟩:∃f,xs'.length=f+3:=⟨xs'.length-3,by omega⟩
    have EF:=Hd ef
    have hY0:0<val b32 ys':=by
     refine Nat.pos_of_ne_zero fun h=>?_
     have:=(trimN_zero' (b:=b32) (by decide)).2 h;omega
    have htop:=trimmed_top (n:=f+2) dx txx ef;have htl:=top_le (n:=f+2) dx ef (by omega) hle2;have LB:=Hd (leadingBits_any (c:=cx) (c':=cy) (f:=f) (HBX.out.rd hlx) (HBY.out.rd hly2) dx dy ef (by omega) hcx1 hcy1 (by omega) hcx2 hcy2 htop htl);have H3:=Hd h3;have h3i:(2:Int)<(trimN ys':Int):=by omega
    clear ef htop htl h3 hty hyl
    go_wp2_with fail
    refine TR.out.mono ?_;rintro e V ⟨rfl,eV⟩;subst eV
    go_wp2_with fail
    refine LB.out.mono ?_;rintro e V ⟨T,hT,rfl,h63,hbV⟩;have HT:=Hd hT;have H63:=Hd h63;obtain ⟨a0,ea⟩:∃a0,Hid (val b32 xs' / T=a0):=⟨_,rfl⟩
    obtain ⟨b0,eb⟩:∃b0,Hid (val b32 ys' / T=b0):=⟨_,rfl⟩
    have LS:=Hd (leadingSteps_any a0 b0 (by rw[<-ea.out,<-eb.out];exact Nat.div_le_div_right hle2) (by rw[<-ea.out];exact h63) V);rw[ea.out,eb.out];have HBV:=Hd hbV;clear hT h63 hbV
    go_wp2_with fail
    refine LS.out.mono ?_;rintro e V3 ⟨p,q,r,s,rfl,hb3,hret⟩;have HRET:=Hd hret;have HB3:=Hxb HBV hb3;have hbs3:=Hd hb3.size;have st:=St4.new V3 (.int .i64 p) (.int .i64 q) (.int .i64 r) (.int .i64 s) 147;have z0:=st.c0;have z1:=st.c1;have z2:=st.c2;have z3:=st.c3;clear hret hb3 st;obtain ⟨W4,hW4⟩:∃W4,W4=V3.alloc (.cells #[.int .i64 p,.int .i64 q,.int .i64 r,.int .i64 s] 147):=⟨_,rfl⟩
    have hbw:Below wr.heap.size wr W4:=by rw[hW4];exact HB3.out.alloc HB3.out.size _
    have HBW:=Hd hbw;have HW4:=Hd hW4;have bx4:=HBX.out.onto hbw hlx;have by4:=HBY.out.onto hbw hly2;have hb4:Below w.heap.size w W4:=HB.out.trans (hbw.mono HB.out.size);have BX4:=Hd bx4;have BY4:=Hd by4;have HBB:=Hd hb4;clear hbw hW4 bx4 by4 hb4
    by_cases hq:q=0
    .subst hq;have TR4:=Hd (trim_any (some ⟨gy,0,none⟩) cy W4.heap.size ys' W4 (BY4.out.rd BY4.out.lt) hcy1 hcy2);have hty:=trimN_le ys';obtain ⟨n2,en2⟩:∃n2,trimN ys'=n2+2:=⟨trimN ys'-2,by have:=H3.out;omega⟩
     have lyt:(trimL ys').length=n2+2:=by rw[trimL_length];exact en2
     have tyy:trimL (trimL ys')=trimL ys':=by rw[trimL_dig b32_one dy,trimL_of_dig b32_one]
     have topy:=trimmed_top (n:=n2+1) (dy.take _) tyy lyt;have AX:Arg W4 (some ⟨gx,0,none⟩) cx xs':=⟨BX4.out.rd BX4.out.lt,dx,hcx1,hcx2,by omega⟩
     have AY:Arg W4 (some ⟨gy,0,none⟩) cy (trimL ys'):=(⟨BY4.out.rd BY4.out.lt,dy,hcy1,hcy2,by have:=HYL.out;omega⟩:Arg W4 (some ⟨gy,0,none⟩) cy ys').trim;have DL:=Hd (callsIn_wide.1 (divideLong_any AX AY n2 lyt (by rw[trimL_length];have:=HYL.out;omega) topy));rw[trimL_length]at DL;have EN2:=Hd en2;clear AX AY topy tyy lyt hty en2
     go_wp2_with fail
     rw[<-HW4.out];refine TR4.out.mono ?_;rintro e V ⟨rfl,eV⟩;subst eV
     go_wp2_with fail
     refine DL.out.mono ?_;rintro e V5 ⟨g1,g2,qs,rs,rfl,b1,b2,d1,d2,l2,l1,v1,v2,o1,o2,hne2,hb5⟩;have hyt:trimN ys'<=rs.length:=by have h1:=trimN_le ys';have h2:=HYL.out;omega
     have hyti:(trimN ys':Int)<=(rs.length:Int):=by omega
     have by5:=BY4.out.onto hb5 BY4.out.lt;have hvy:val b32 (trimL ys')=val b32 ys':=val_trimL ys';have hmod:=Nat.mod_lt (val b32 xs') hY0
     have hyb:val b32 ys'<b32 ^ trimN ys':=by
      have h1:=val_lt (dy.take (trimN ys'));rw[show ys'.take (trimN ys')=trimL ys' from rfl,hvy,trimL_length]at h1;exact h1
     rw[hvy]at v2
     have hvt:val b32 (rs.take (trimN ys'))=val b32 xs' % val b32 ys':=by
      rw[val_take_small hyt (by rw[v2];omega),v2]
     have hg:Hid (Nat.gcd (val b32 (trimL ys')) (val b32 (rs.take (trimN ys')))=G):=by
      show _=_
      rw[hvy,hvt,<-hG2.out,Nat.gcd_comm,<-Nat.gcd_rec,Nat.gcd_comm]
     have INEXT:RedI w G M (.slice (some ⟨gy,0,none⟩) (trimN ys') cy) (.slice (some ⟨g2,0,none⟩) (trimN ys') rs.length) V5 :=
      ⟨gy,sy,cy,g2,rs.length,rs.length,trimL ys',rs.take (trimN ys'),by rw[trimL_length],by rw[List.length_take,Nat.min_eq_left hyt],by5.shorter _,b2.shorter _,by have:=BY4.out.lt;omega,hgy,Nat.le_trans HBB.out.size o2,by rw[List.length_take,Nat.min_eq_left hyt,trimL_length],dy.take _,d2.take _,by rw[trimL_dig b32_one dy,trimL_of_dig b32_one],by rw[hvy,hvt];omega,hg,by rw[trimL_length];have h1:=trimN_le ys';have h2:=HYL.out;omega,by rw[trimL_length];have h1:=trimN_le ys';omega,hcy2,by rw[List.length_take,Nat.min_eq_left hyt];exact hyt,by omega,HBB.out.trans (hb5.mono HBB.out.size)⟩
     have MSR:Hid (magW V5 (.slice (some ⟨gy,0,none⟩) (trimN ys') cy)+magW V5 (.slice (some ⟨g2,0,none⟩) (trimN ys') rs.length)<magW wr (.slice (some ⟨gx,0,none⟩) xs'.length cx)+magW wr (.slice (some ⟨gy,0,none⟩) ys'.length cy)):=by
      show _<_
      have e1:=magW_eq (c:=cy) ((by5.shorter (trimN ys')).rd by5.lt);have e2:=magW_eq (c:=rs.length) ((b2.shorter (trimN ys')).rd b2.lt);rw[show (ys'.take (trimN ys')).length=trimN ys' from trimL_length ys',show ys'.take (trimN ys')=trimL ys' from rfl,hvy]at e1;rw[List.length_take,Nat.min_eq_left hyt,hvt]at e2;rw[MX.out,MY.out,e1,e2];omega
     have INX:=Hd INEXT;clear INEXT b1 b2 d1 d2 l2 l1 v1 v2 by5 hvy hmod hyb hvt hb5
     go_wp2_with fail
     go_quiet (fail)
     go_wp2_with fail
     go_roundw
     case rel=>exact INX.out.drewN _
     case measure=>rw[magW_drewN,magW_drewN];exact MSR.out
    .have hqb:(q==0)=false:=by simp[hq]
     have hret:=HRET.out;rw[<-ea.out,<-eb.out]at hret;obtain ⟨X',Y',hpq,hrs,hXe,hYe,hX'n,hlt,hgg,hless⟩:=steps_use HT.out hle2 H63.out hret hq (val_lt dx) hY0;have AP:=apply_any (w0:=w) (K:=w.heap.size) (cx:=cx) (cy:=cy) BX4.out BY4.out dx dy rfl HYL.out hne (by omega) HBB.out hgx hgy hpq hrs hXe hYe hX'n (by omega);rw[show Value.slice (some ⟨gy,0,none⟩) xs'.length cy=.slice (some ⟨gy,0,none⟩) ys'.length cy from by rw[HYL.out]]at AP;have APH:=Hd AP;have HLT:=Hd hlt;have HLESS:=Hd hless;have HGG:=Hd hgg;clear AP hret hpq hrs hXe hYe hX'n hlt hgg hless
     go_wp2_with fail
     rw[<-HW4.out];refine APH.out.mono ?_;rintro e V5 ⟨⟨v5,rfl⟩,Zx,Zy,lzx,lzy,dzx,dzy,vzx,vzy,bzx,bzy,hb5⟩;have TRX:=Hd (trim_any (some ⟨gx,0,none⟩) cx V5.heap.size Zx V5 (bzx.rd bzx.lt) (by omega) hcx2);rw[lzx]at TRX;have htz:=trimN_le Zx;have htzl:trimN Zx<=Zy.length:=by omega
     have htzi:(trimN Zx:Int)<=(ys'.length:Int):=by have:=HYL.out;omega
     have htzc:(trimN Zx:Int)<=(cy:Int):=by have:=HYL.out;omega
     have hvx:val b32 (trimL Zx)=X':=by rw[val_trimL];exact vzx
     have hxb:X'<b32 ^ trimN Zx:=by
      have h1:=val_lt (dzx.take (trimN Zx));rw[show Zx.take (trimN Zx)=trimL Zx from rfl,hvx,trimL_length]at h1;exact h1
     have hvt:val b32 (Zy.take (trimN Zx))=Y':=by
      rw[val_take_small htzl (by rw[vzy];have:=HLT.out;omega),vzy]
     have hg:Hid (Nat.gcd (val b32 (trimL Zx)) (val b32 (Zy.take (trimN Zx)))=G):=by
      show _=_
      rw[hvx,hvt,HGG.out,hG2.out]
     have INEXT:RedI w G M (.slice (some ⟨gx,0,none⟩) (trimN Zx) cx) (.slice (some ⟨gy,0,none⟩) (trimN Zx) cy) V5 :=
      ⟨gx,sx,cx,gy,sy,cy,trimL Zx,Zy.take (trimN Zx),by rw[trimL_length],by rw[List.length_take,Nat.min_eq_left htzl],bzx.shorter _,bzy.shorter _,hne,hgx,hgy,by rw[List.length_take,Nat.min_eq_left htzl,trimL_length],dzx.take _,dzy.take _,by rw[trimL_dig b32_one dzx,trimL_of_dig b32_one],by rw[hvx,hvt];have:=HLT.out;omega,hg,by rw[trimL_length];omega,by rw[trimL_length];omega,hcx2,by rw[List.length_take,Nat.min_eq_left htzl];have:=HYL.out;omega,hcy2,hb5⟩
     have MSR:Hid (magW V5 (.slice (some ⟨gx,0,none⟩) (trimN Zx) cx)+magW V5 (.slice (some ⟨gy,0,none⟩) (trimN Zx) cy)<magW wr (.slice (some ⟨gx,0,none⟩) xs'.length cx)+magW wr (.slice (some ⟨gy,0,none⟩) ys'.length cy)):=by
      show _<_
      have e1:=magW_eq (c:=cx) ((bzx.shorter (trimN Zx)).rd bzx.lt);have e2:=magW_eq (c:=cy) ((bzy.shorter (trimN Zx)).rd bzy.lt);rw[show (Zx.take (trimN Zx)).length=trimN Zx from trimL_length Zx,show Zx.take (trimN Zx)=trimL Zx from rfl,hvx]at e1;rw[List.length_take,Nat.min_eq_left htzl,hvt]at e2;rw[MX.out,MY.out,e1,e2];exact HLESS.out
     have INX:=Hd INEXT;clear INEXT lzx lzy dzx dzy vzx vzy bzx bzy hvx hxb hvt hb5 htz htzl z0 z1 z2 z3
     go_wp2_with fail
     refine TRX.out.mono ?_;rintro e V6 ⟨rfl,eV⟩;subst eV
     go_wp2_with fail
     go_roundw
     case rel=>exact INX.out
     case measure=>exact MSR.out
theorem gm (a b:Nat):Nat.gcd b (a % b)=Nat.gcd a b:=by rw[Nat.gcd_comm b (a % b),<-Nat.gcd_rec,Nat.gcd_comm]
theorem toU64_arg {A:Option Addr}{c:Nat}{xs:List Nat}{w:World}(h:Arg w A c xs)(hv:val b32 xs<18446744073709551616) :
  Calls Tryz.prog 159 #[.slice A xs.length c] w fun e w'=>e=.returned (.int .u64 (val b32 xs:Nat))/\w=w':=toU64_any h.rd h.dg hv (by have:=h.small;omega)
theorem gx_zf (na nb:Bool){A A':Option Addr}{c c':Nat}{xs ys:List Nat}{w:World}(hx:Arg w A c xs)(hy:Arg w A' c' ys)(hsx:xs.length<=4294967293)(hsy:ys.length<=4294967293)(hlt:val b32 ys<=val b32 xs)(hz:val b32 ys=0) :
  Calls Tryz.prog 122 #[.agg #[.bool na,.slice A xs.length c],.agg #[.bool nb,.slice A' ys.length c']] w (ZRet w (Nat.gcd (val b32 xs) (val b32 ys):Nat)):=by
 have HX:=Hd hx;have HY:=Hd hy;have HLT:=Hd hlt;clear hx hy hlt;obtain ⟨W0,hW0⟩:∃W0,W0=((w.alloc (.cells #[.bool na,.slice A xs.length c] 30)).alloc (.cells #[.bool nb,.slice A' ys.length c'] 30)).alloc (.cells #[.bool false,.slice none 0 0] 30):=⟨_,rfl⟩
 have hb:Below w.heap.size w W0:=by rw[hW0];exact (bRR.alloc (by simp) _).alloc (by simp;omega) _
 have tX:Zat W0 w.heap.size (.bool na) (.slice A xs.length c):=by rw[hW0];exact ((Zat.new w _ _).alloc _).alloc _
 have tY:Zat W0 (w.heap.size+1) (.bool nb) (.slice A' ys.length c'):=by
  have h:=Zat.new (w.alloc (.cells #[.bool na,.slice A xs.length c] 30)) (.bool nb) (.slice A' ys.length c');rw[szA]at h;rw[hW0];exact h.alloc _
 have tR:Zat W0 (w.heap.size+1+1) (.bool false) (.slice none 0 0):=by
  have h:=Zat.new ((w.alloc (.cells #[.bool na,.slice A xs.length c] 30)).alloc (.cells #[.bool nb,.slice A' ys.length c'] 30)) (.bool false) (.slice none 0 0);rw[szA,szA]at h;rw[hW0];exact h
 have q1:=tX.two.c1;have q2:=tY.two.c1;have HW0:=Hd hW0;clear hW0
 go_enter Tryz.func122,Tryz.ntmps122
 go_wp2_with fail
 rw[<-HW0.out]
 go_quiet ((first|(go_at_call 119;with_reducible exact Calls.quiet_of_same (trim_q (HX.out.to (hb.trans (bel_drewN (Below.refl _ _) _)))))|(go_at_call 119;with_reducible exact Calls.quiet_of_same (trim_q (HY.out.to (hb.trans (bel_drewN (Below.refl _ _) _)))))))
 rename_i nq
 have hb1:Below w.heap.size w (W0.drewN nq):=bel_drewN hb _;have tR1:Zat (W0.drewN nq) (w.heap.size+1+1) (.bool false) (.slice none 0 0):=tR;generalize W0.drewN nq=W1 at hb1 tR1 ⊢;clear q1 q2 tX tY tR hb HW0
 go_wp2_with fail
 refine (compare_l (HX.out.to hb1) (HY.out.to hb1)).mono ?_;obtain ⟨cv,hcv,hcv0⟩:∃cv,cmpN (val b32 xs) (val b32 ys)=cv/\0<=cv:=⟨_,rfl,by have:=HLT.out;unfold cmpN;split<;>(try split)<;>omega⟩
 rw[hcv];clear hcv;rintro e w1 ⟨rfl,hb2⟩;have hb3:=Bxb hb1 hb2;have tR3:Two w1 (w.heap.size+1+1) _ _:=tR1.two.to hb2;clear hb1 tR1 hb2;have ttx:trimL (trimL xs)=trimL xs:=by rw[trimL_dig b32_one HX.out.dg,trimL_of_dig b32_one]
 have tty:trimL (trimL ys)=trimL ys:=by rw[trimL_dig b32_one HY.out.dg,trimL_of_dig b32_one]
 have AX:=Hd (HX.out.to hb3).trim;have AY:=Hd (HY.out.to hb3).trim;have hs0:(trimL ys).length=0:=by rw[trimL_dig b32_one HY.out.dg,hz];rfl
 have hsi:¬((2:Int)<((trimL ys).length:Nat)):=by omega
 have hsq:((((trimL ys).length:Nat):Int)==0)=true:=by rw[hs0];rfl
 have HZ:=Hd hz;clear hz hs0;obtain ⟨g,eg⟩:∃g:Nat,Hid (Nat.gcd (val b32 xs) (val b32 ys)=g):=⟨_,rfl⟩
 have HGZ:Hid (zof false (val b32 (trimL xs))=((g:Nat):Int)):=by
  show _=_
  rw[<-eg.out,val_trimL,HZ.out,Nat.gcd_zero_right];rfl
 have aU:=AX.out;have dU:=aU.dg;have TRK:=Hd tR3;have HBK:=Hd hb3
 go_wp2_with fail
 refine (clone_l aU).mono ?_;rintro e w8 ⟨A8,c8,rfl,r1,r2,r3,hb8⟩;have HI:=Hd (integer_l false r1 dU r2 r3);rw[HGZ.out]at HI;have tRZ:=TRK.out.to hb8;have HBZ:=Hxb HBK hb8;clear r1 hb8;obtain ⟨z,ez⟩:∃z:Int,Hid (((g:Nat):Int)=z):=⟨_,rfl⟩
 rw[ez.out]at HI
 go_wp2_with fail
 refine HI.out.mono ?_;rintro e w9 ⟨A9,c9,rfl,s1,s2,s3,hb9⟩;obtain ⟨q1,q2,q3,q4,q5⟩:=tRZ.to hb9;have S2:=Hd s1;have HB3:=Hxb HBZ hb9;clear s1 hb9 tRZ;go_wp2
 have tF:=(⟨q1,q2,q3,q4,q5⟩:Two w9 (w.heap.size+1+1) _ _).set (.bool (decide (z<0))) (.slice A9 (dig b32 z.natAbs).length c9);refine bodyPost_ret (v:=.agg #[.bool (decide (z<0)),.slice A9 (dig b32 z.natAbs).length c9]) (by simp[results,Tryz.f122,go_sem,tF.c0,tF.c1]) rfl ?_;rw[eg.out,ez.out];exact zret_stored ⟨q1,q2,q3,q4,q5⟩ (by omega) S2.out s2 s3 HB3.out
theorem gx_zt (na nb:Bool){A A':Option Addr}{c c':Nat}{xs ys:List Nat}{w:World}(hx:Arg w A c xs)(hy:Arg w A' c' ys)(hsx:xs.length<=4294967293)(hsy:ys.length<=4294967293)(hlt:val b32 xs<val b32 ys)(hz:val b32 xs=0) :
  Calls Tryz.prog 122 #[.agg #[.bool na,.slice A xs.length c],.agg #[.bool nb,.slice A' ys.length c']] w (ZRet w (Nat.gcd (val b32 xs) (val b32 ys):Nat)):=by
 have HX:=Hd hx;have HY:=Hd hy;have HLT:=Hd hlt;clear hx hy hlt;obtain ⟨W0,hW0⟩:∃W0,W0=((w.alloc (.cells #[.bool na,.slice A xs.length c] 30)).alloc (.cells #[.bool nb,.slice A' ys.length c'] 30)).alloc (.cells #[.bool false,.slice none 0 0] 30):=⟨_,rfl⟩
 have hb:Below w.heap.size w W0:=by rw[hW0];exact (bRR.alloc (by simp) _).alloc (by simp;omega) _
 have tX:Zat W0 w.heap.size (.bool na) (.slice A xs.length c):=by rw[hW0];exact ((Zat.new w _ _).alloc _).alloc _
 have tY:Zat W0 (w.heap.size+1) (.bool nb) (.slice A' ys.length c'):=by
  have h:=Zat.new (w.alloc (.cells #[.bool na,.slice A xs.length c] 30)) (.bool nb) (.slice A' ys.length c');rw[szA]at h;rw[hW0];exact h.alloc _
 have tR:Zat W0 (w.heap.size+1+1) (.bool false) (.slice none 0 0):=by
  have h:=Zat.new ((w.alloc (.cells #[.bool na,.slice A xs.length c] 30)).alloc (.cells #[.bool nb,.slice A' ys.length c'] 30)) (.bool false) (.slice none 0 0);rw[szA,szA]at h;rw[hW0];exact h
 have q1:=tX.two.c1;have q2:=tY.two.c1;have HW0:=Hd hW0;clear hW0
 go_enter Tryz.func122,Tryz.ntmps122
 go_wp2_with fail
 rw[<-HW0.out]
 go_quiet ((first|(go_at_call 119;with_reducible exact Calls.quiet_of_same (trim_q (HX.out.to (hb.trans (bel_drewN (Below.refl _ _) _)))))|(go_at_call 119;with_reducible exact Calls.quiet_of_same (trim_q (HY.out.to (hb.trans (bel_drewN (Below.refl _ _) _)))))))
 rename_i nq
 have hb1:Below w.heap.size w (W0.drewN nq):=bel_drewN hb _;have tR1:Zat (W0.drewN nq) (w.heap.size+1+1) (.bool false) (.slice none 0 0):=tR;generalize W0.drewN nq=W1 at hb1 tR1 ⊢;clear q1 q2 tX tY tR hb HW0
 go_wp2_with fail
 refine (compare_l (HX.out.to hb1) (HY.out.to hb1)).mono ?_;obtain ⟨cv,hcv,hcv0⟩:∃cv,cmpN (val b32 xs) (val b32 ys)=cv/\cv<0:=⟨_,rfl,by have:=HLT.out;unfold cmpN;split<;>(try split)<;>omega⟩
 rw[hcv];clear hcv;rintro e w1 ⟨rfl,hb2⟩;have hb3:=Bxb hb1 hb2;have tR3:Two w1 (w.heap.size+1+1) _ _:=tR1.two.to hb2;clear hb1 tR1 hb2;have ttx:trimL (trimL xs)=trimL xs:=by rw[trimL_dig b32_one HX.out.dg,trimL_of_dig b32_one]
 have tty:trimL (trimL ys)=trimL ys:=by rw[trimL_dig b32_one HY.out.dg,trimL_of_dig b32_one]
 have AX:=Hd (HX.out.to hb3).trim;have AY:=Hd (HY.out.to hb3).trim;have hs0:(trimL xs).length=0:=by rw[trimL_dig b32_one HX.out.dg,hz];rfl
 have hsi:¬((2:Int)<((trimL xs).length:Nat)):=by omega
 have hsq:((((trimL xs).length:Nat):Int)==0)=true:=by rw[hs0];rfl
 have HZ:=Hd hz;clear hz hs0;obtain ⟨g,eg⟩:∃g:Nat,Hid (Nat.gcd (val b32 xs) (val b32 ys)=g):=⟨_,rfl⟩
 have HGZ:Hid (zof false (val b32 (trimL ys))=((g:Nat):Int)):=by
  show _=_
  rw[<-eg.out,val_trimL,HZ.out,Nat.gcd_zero_left];rfl
 have aU:=AY.out;have dU:=aU.dg;have TRK:=Hd tR3;have HBK:=Hd hb3
 go_wp2_with fail
 refine (clone_l aU).mono ?_;rintro e w8 ⟨A8,c8,rfl,r1,r2,r3,hb8⟩;have HI:=Hd (integer_l false r1 dU r2 r3);rw[HGZ.out]at HI;have tRZ:=TRK.out.to hb8;have HBZ:=Hxb HBK hb8;clear r1 hb8;obtain ⟨z,ez⟩:∃z:Int,Hid (((g:Nat):Int)=z):=⟨_,rfl⟩
 rw[ez.out]at HI
 go_wp2_with fail
 refine HI.out.mono ?_;rintro e w9 ⟨A9,c9,rfl,s1,s2,s3,hb9⟩;obtain ⟨q1,q2,q3,q4,q5⟩:=tRZ.to hb9;have S2:=Hd s1;have HB3:=Hxb HBZ hb9;clear s1 hb9 tRZ;go_wp2
 have tF:=(⟨q1,q2,q3,q4,q5⟩:Two w9 (w.heap.size+1+1) _ _).set (.bool (decide (z<0))) (.slice A9 (dig b32 z.natAbs).length c9);refine bodyPost_ret (v:=.agg #[.bool (decide (z<0)),.slice A9 (dig b32 z.natAbs).length c9]) (by simp[results,Tryz.f122,go_sem,tF.c0,tF.c1]) rfl ?_;rw[eg.out,ez.out];exact zret_stored ⟨q1,q2,q3,q4,q5⟩ (by omega) S2.out s2 s3 HB3.out
theorem gx_df (na nb:Bool){A A':Option Addr}{c c':Nat}{xs ys:List Nat}{w:World}(hx:Arg w A c xs)(hy:Arg w A' c' ys)(hsx:xs.length<=4294967293)(hsy:ys.length<=4294967293)(hlt:val b32 ys<=val b32 xs)(hz:0<val b32 ys)(hl:2<(trimL xs).length)(hs:(trimL ys).length<=2) :
  Calls Tryz.prog 122 #[.agg #[.bool na,.slice A xs.length c],.agg #[.bool nb,.slice A' ys.length c']] w (ZRet w (Nat.gcd (val b32 xs) (val b32 ys):Nat)):=by
 have HX:=Hd hx;have HY:=Hd hy;have HLT:=Hd hlt;clear hx hy hlt;obtain ⟨W0,hW0⟩:∃W0,W0=((w.alloc (.cells #[.bool na,.slice A xs.length c] 30)).alloc (.cells #[.bool nb,.slice A' ys.length c'] 30)).alloc (.cells #[.bool false,.slice none 0 0] 30):=⟨_,rfl⟩
 have hb:Below w.heap.size w W0:=by rw[hW0];exact (bRR.alloc (by simp) _).alloc (by simp;omega) _
 have tX:Zat W0 w.heap.size (.bool na) (.slice A xs.length c):=by rw[hW0];exact ((Zat.new w _ _).alloc _).alloc _
 have tY:Zat W0 (w.heap.size+1) (.bool nb) (.slice A' ys.length c'):=by
  have h:=Zat.new (w.alloc (.cells #[.bool na,.slice A xs.length c] 30)) (.bool nb) (.slice A' ys.length c');rw[szA]at h;rw[hW0];exact h.alloc _
 have tR:Zat W0 (w.heap.size+1+1) (.bool false) (.slice none 0 0):=by
  have h:=Zat.new ((w.alloc (.cells #[.bool na,.slice A xs.length c] 30)).alloc (.cells #[.bool nb,.slice A' ys.length c'] 30)) (.bool false) (.slice none 0 0);rw[szA,szA]at h;rw[hW0];exact h
 have q1:=tX.two.c1;have q2:=tY.two.c1;have HW0:=Hd hW0;clear hW0
 go_enter Tryz.func122,Tryz.ntmps122
 go_wp2_with fail
 rw[<-HW0.out]
 go_quiet ((first|(go_at_call 119;with_reducible exact Calls.quiet_of_same (trim_q (HX.out.to (hb.trans (bel_drewN (Below.refl _ _) _)))))|(go_at_call 119;with_reducible exact Calls.quiet_of_same (trim_q (HY.out.to (hb.trans (bel_drewN (Below.refl _ _) _)))))))
 rename_i nq
 have hb1:Below w.heap.size w (W0.drewN nq):=bel_drewN hb _;have tR1:Zat (W0.drewN nq) (w.heap.size+1+1) (.bool false) (.slice none 0 0):=tR;generalize W0.drewN nq=W1 at hb1 tR1 ⊢;clear q1 q2 tX tY tR hb HW0
 go_wp2_with fail
 refine (compare_l (HX.out.to hb1) (HY.out.to hb1)).mono ?_;obtain ⟨cv,hcv,hcv0⟩:∃cv,cmpN (val b32 xs) (val b32 ys)=cv/\0<=cv:=⟨_,rfl,by have:=HLT.out;unfold cmpN;split<;>(try split)<;>omega⟩
 rw[hcv];clear hcv;rintro e w1 ⟨rfl,hb2⟩;have hb3:=Bxb hb1 hb2;have tR3:Two w1 (w.heap.size+1+1) _ _:=tR1.two.to hb2;clear hb1 tR1 hb2;have ttx:trimL (trimL xs)=trimL xs:=by rw[trimL_dig b32_one HX.out.dg,trimL_of_dig b32_one]
 have tty:trimL (trimL ys)=trimL ys:=by rw[trimL_dig b32_one HY.out.dg,trimL_of_dig b32_one]
 have AX:=Hd (HX.out.to hb3).trim;have AY:=Hd (HY.out.to hb3).trim
 have hs0:(trimL ys).length≠0:=fun h=>by
  rw[trimL_dig b32_one HY.out.dg]at h;have:=(dig_nil b32_one).1 (List.eq_nil_of_length_eq_zero h);omega
 have hsi:¬((2:Int)<((trimL ys).length:Nat)):=by omega
 have hsq:((((trimL ys).length:Nat):Int)==0)=false:=by rw[beq_eq_false_iff_ne];omega
 have hli:(2:Int)<((trimL xs).length:Nat):=by omega
 have ly64:=two_lt HY.out.dg hs;have HD:=Hd (divide_all (HX.out.to hb3) (HY.out.to hb3) hz (by omega));have HZ:=Hd hz;have LY:=Hd ly64;clear hz hs0 hl hs ly64
 go_wp2_with fail
 refine HD.out.mono ?_;rintro e w4 ⟨A5,c5,qs,A6,c6,rs,rfl,AQ,AR,vq,vr,hbd⟩;have hb4:=Bxb hb3 hbd;have tR4:=tR3.to hbd;have AR4:=Hd AR;have VR:=Hd vr;have aS4:=Hd (HY.out.to hb4).trim;clear AQ AR vq vr hbd hb3 tR3;have hp64:val b32 (trimL ys)<18446744073709551616:=LY.out;have hq64:val b32 rs<18446744073709551616:=by rw[VR.out];have h1:=Nat.mod_lt (val b32 xs) HZ.out;have h2:=LY.out;rw[val_trimL]at h2;omega
 have aP:=aS4.out;have aQ:=AR4.out;have U1:=Hd (toU64_arg aP hp64);have U2:=Hd (toU64_arg aQ hq64);have HG1:Hid (Nat.gcd (val b32 (trimL ys)) (val b32 rs)=Nat.gcd (val b32 xs) (val b32 ys)):=by show _=_;rw[VR.out,val_trimL];exact gm _ _
 have HG0:=gcd_lt hp64 hq64;have S1:=Hd (smallGCD_any _ _ w4 hp64 hq64);rw[HG1.out]at S1 HG0;obtain ⟨g,eg⟩:∃g:Nat,Hid (Nat.gcd (val b32 xs) (val b32 ys)=g):=⟨_,rfl⟩
 rw[eg.out]at S1 HG0;have TRK:=Hd tR4;have HBK:=Hd hb4;clear HG1 hp64 hq64 aP aQ
 go_wp2_with fail
 refine U1.out.mono ?_;rintro e w' ⟨rfl,rfl⟩
 go_wp2_with fail
 refine U2.out.mono ?_;rintro e w' ⟨rfl,rfl⟩
 go_wp2_with fail
 refine S1.out.mono ?_;rintro e w' ⟨rfl,dn,rfl⟩
 go_wp2_with fail
 refine (toWords_l g HG0 _).mono ?_;rintro e w8 ⟨A8,c8,rfl,r1,r2,r3,hb8⟩;have HI:=Hd (integer_l false r1 (Dg_dig b32_one g) r2 r3);rw[val_dig b32_one,show zof false g=((g:Nat):Int) from rfl]at HI;have tRZ:=(TRK.out.to (bel_drewN (Below.refl _ _) dn)).to hb8;have HBZ:=Hd ((bel_drewN HBK.out dn).trans (hb8.mono HBK.out.size));clear r1 hb8;obtain ⟨z,ez⟩:∃z:Int,Hid (((g:Nat):Int)=z):=⟨_,rfl⟩
 rw[ez.out]at HI
 go_wp2_with fail
 refine HI.out.mono ?_;rintro e w9 ⟨A9,c9,rfl,s1,s2,s3,hb9⟩;obtain ⟨q1,q2,q3,q4,q5⟩:=tRZ.to hb9;have S2:=Hd s1;have HB3:=Hxb HBZ hb9;clear s1 hb9 tRZ;go_wp2
 have tF:=(⟨q1,q2,q3,q4,q5⟩:Two w9 (w.heap.size+1+1) _ _).set (.bool (decide (z<0))) (.slice A9 (dig b32 z.natAbs).length c9);refine bodyPost_ret (v:=.agg #[.bool (decide (z<0)),.slice A9 (dig b32 z.natAbs).length c9]) (by simp[results,Tryz.f122,go_sem,tF.c0,tF.c1]) rfl ?_;rw[eg.out,ez.out];exact zret_stored ⟨q1,q2,q3,q4,q5⟩ (by omega) S2.out s2 s3 HB3.out
theorem gx_dt (na nb:Bool){A A':Option Addr}{c c':Nat}{xs ys:List Nat}{w:World}(hx:Arg w A c xs)(hy:Arg w A' c' ys)(hsx:xs.length<=4294967293)(hsy:ys.length<=4294967293)(hlt:val b32 xs<val b32 ys)(hz:0<val b32 xs)(hl:2<(trimL ys).length)(hs:(trimL xs).length<=2) :
  Calls Tryz.prog 122 #[.agg #[.bool na,.slice A xs.length c],.agg #[.bool nb,.slice A' ys.length c']] w (ZRet w (Nat.gcd (val b32 xs) (val b32 ys):Nat)):=by
 have HX:=Hd hx;have HY:=Hd hy;have HLT:=Hd hlt;clear hx hy hlt;obtain ⟨W0,hW0⟩:∃W0,W0=((w.alloc (.cells #[.bool na,.slice A xs.length c] 30)).alloc (.cells #[.bool nb,.slice A' ys.length c'] 30)).alloc (.cells #[.bool false,.slice none 0 0] 30):=⟨_,rfl⟩
 have hb:Below w.heap.size w W0:=by rw[hW0];exact (bRR.alloc (by simp) _).alloc (by simp;omega) _
 have tX:Zat W0 w.heap.size (.bool na) (.slice A xs.length c):=by rw[hW0];exact ((Zat.new w _ _).alloc _).alloc _
 have tY:Zat W0 (w.heap.size+1) (.bool nb) (.slice A' ys.length c'):=by
  have h:=Zat.new (w.alloc (.cells #[.bool na,.slice A xs.length c] 30)) (.bool nb) (.slice A' ys.length c');rw[szA]at h;rw[hW0];exact h.alloc _
 have tR:Zat W0 (w.heap.size+1+1) (.bool false) (.slice none 0 0):=by
  have h:=Zat.new ((w.alloc (.cells #[.bool na,.slice A xs.length c] 30)).alloc (.cells #[.bool nb,.slice A' ys.length c'] 30)) (.bool false) (.slice none 0 0);rw[szA,szA]at h;rw[hW0];exact h
 have q1:=tX.two.c1;have q2:=tY.two.c1;have HW0:=Hd hW0;clear hW0
 go_enter Tryz.func122,Tryz.ntmps122
 go_wp2_with fail
 rw[<-HW0.out]
 go_quiet ((first|(go_at_call 119;with_reducible exact Calls.quiet_of_same (trim_q (HX.out.to (hb.trans (bel_drewN (Below.refl _ _) _)))))|(go_at_call 119;with_reducible exact Calls.quiet_of_same (trim_q (HY.out.to (hb.trans (bel_drewN (Below.refl _ _) _)))))))
 rename_i nq
 have hb1:Below w.heap.size w (W0.drewN nq):=bel_drewN hb _;have tR1:Zat (W0.drewN nq) (w.heap.size+1+1) (.bool false) (.slice none 0 0):=tR;generalize W0.drewN nq=W1 at hb1 tR1 ⊢;clear q1 q2 tX tY tR hb HW0
 go_wp2_with fail
 refine (compare_l (HX.out.to hb1) (HY.out.to hb1)).mono ?_;obtain ⟨cv,hcv,hcv0⟩:∃cv,cmpN (val b32 xs) (val b32 ys)=cv/\cv<0:=⟨_,rfl,by have:=HLT.out;unfold cmpN;split<;>(try split)<;>omega⟩
 rw[hcv];clear hcv;rintro e w1 ⟨rfl,hb2⟩;have hb3:=Bxb hb1 hb2;have tR3:Two w1 (w.heap.size+1+1) _ _:=tR1.two.to hb2;clear hb1 tR1 hb2;have ttx:trimL (trimL xs)=trimL xs:=by rw[trimL_dig b32_one HX.out.dg,trimL_of_dig b32_one]
 have tty:trimL (trimL ys)=trimL ys:=by rw[trimL_dig b32_one HY.out.dg,trimL_of_dig b32_one]
 have AX:=Hd (HX.out.to hb3).trim;have AY:=Hd (HY.out.to hb3).trim
 have hs0:(trimL xs).length≠0:=fun h=>by
  rw[trimL_dig b32_one HX.out.dg]at h;have:=(dig_nil b32_one).1 (List.eq_nil_of_length_eq_zero h);omega
 have hsi:¬((2:Int)<((trimL xs).length:Nat)):=by omega
 have hsq:((((trimL xs).length:Nat):Int)==0)=false:=by rw[beq_eq_false_iff_ne];omega
 have hli:(2:Int)<((trimL ys).length:Nat):=by omega
 have ly64:=two_lt HX.out.dg hs;have HD:=Hd (divide_all (HY.out.to hb3) (HX.out.to hb3) hz (by omega));have HZ:=Hd hz;have LY:=Hd ly64;clear hz hs0 hl hs ly64
 go_wp2_with fail
 refine HD.out.mono ?_;rintro e w4 ⟨A5,c5,qs,A6,c6,rs,rfl,AQ,AR,vq,vr,hbd⟩;have hb4:=Bxb hb3 hbd;have tR4:=tR3.to hbd;have AR4:=Hd AR;have VR:=Hd vr;have aS4:=Hd (HX.out.to hb4).trim;clear AQ AR vq vr hbd hb3 tR3;have hp64:val b32 (trimL xs)<18446744073709551616:=LY.out;have hq64:val b32 rs<18446744073709551616:=by rw[VR.out];have h1:=Nat.mod_lt (val b32 ys) HZ.out;have h2:=LY.out;rw[val_trimL]at h2;omega
 have aP:=aS4.out;have aQ:=AR4.out;have U1:=Hd (toU64_arg aP hp64);have U2:=Hd (toU64_arg aQ hq64);have HG1:Hid (Nat.gcd (val b32 (trimL xs)) (val b32 rs)=Nat.gcd (val b32 xs) (val b32 ys)):=by show _=_;rw[VR.out,val_trimL];exact (gm _ _).trans (Nat.gcd_comm _ _)
 have HG0:=gcd_lt hp64 hq64;have S1:=Hd (smallGCD_any _ _ w4 hp64 hq64);rw[HG1.out]at S1 HG0;obtain ⟨g,eg⟩:∃g:Nat,Hid (Nat.gcd (val b32 xs) (val b32 ys)=g):=⟨_,rfl⟩
 rw[eg.out]at S1 HG0;have TRK:=Hd tR4;have HBK:=Hd hb4;clear HG1 hp64 hq64 aP aQ
 go_wp2_with fail
 refine U1.out.mono ?_;rintro e w' ⟨rfl,rfl⟩
 go_wp2_with fail
 refine U2.out.mono ?_;rintro e w' ⟨rfl,rfl⟩
 go_wp2_with fail
 refine S1.out.mono ?_;rintro e w' ⟨rfl,dn,rfl⟩
 go_wp2_with fail
 refine (toWords_l g HG0 _).mono ?_;rintro e w8 ⟨A8,c8,rfl,r1,r2,r3,hb8⟩;have HI:=Hd (integer_l false r1 (Dg_dig b32_one g) r2 r3);rw[val_dig b32_one,show zof false g=((g:Nat):Int) from rfl]at HI;have tRZ:=(TRK.out.to (bel_drewN (Below.refl _ _) dn)).to hb8;have HBZ:=Hd ((bel_drewN HBK.out dn).trans (hb8.mono HBK.out.size));clear r1 hb8;obtain ⟨z,ez⟩:∃z:Int,Hid (((g:Nat):Int)=z):=⟨_,rfl⟩
 rw[ez.out]at HI
 go_wp2_with fail
 refine HI.out.mono ?_;rintro e w9 ⟨A9,c9,rfl,s1,s2,s3,hb9⟩;obtain ⟨q1,q2,q3,q4,q5⟩:=tRZ.to hb9;have S2:=Hd s1;have HB3:=Hxb HBZ hb9;clear s1 hb9 tRZ;go_wp2
 have tF:=(⟨q1,q2,q3,q4,q5⟩:Two w9 (w.heap.size+1+1) _ _).set (.bool (decide (z<0))) (.slice A9 (dig b32 z.natAbs).length c9);refine bodyPost_ret (v:=.agg #[.bool (decide (z<0)),.slice A9 (dig b32 z.natAbs).length c9]) (by simp[results,Tryz.f122,go_sem,tF.c0,tF.c1]) rfl ?_;rw[eg.out,ez.out];exact zret_stored ⟨q1,q2,q3,q4,q5⟩ (by omega) S2.out s2 s3 HB3.out
theorem gx_rf (na nb:Bool){A A':Option Addr}{c c':Nat}{xs ys:List Nat}{w:World}(hx:Arg w A c xs)(hy:Arg w A' c' ys)(hsx:xs.length<=4294967293)(hsy:ys.length<=4294967293)(hlt:val b32 ys<=val b32 xs)(hs:2<(trimL ys).length) :
  Calls Tryz.prog 122 #[.agg #[.bool na,.slice A xs.length c],.agg #[.bool nb,.slice A' ys.length c']] w (ZRet w (Nat.gcd (val b32 xs) (val b32 ys):Nat)):=by
 have HX:=Hd hx;have HY:=Hd hy;have HLT:=Hd hlt;clear hx hy hlt;obtain ⟨W0,hW0⟩:∃W0,W0=((w.alloc (.cells #[.bool na,.slice A xs.length c] 30)).alloc (.cells #[.bool nb,.slice A' ys.length c'] 30)).alloc (.cells #[.bool false,.slice none 0 0] 30):=⟨_,rfl⟩
 have hb:Below w.heap.size w W0:=by rw[hW0];exact (bRR.alloc (by simp) _).alloc (by simp;omega) _
 have tX:Zat W0 w.heap.size (.bool na) (.slice A xs.length c):=by rw[hW0];exact ((Zat.new w _ _).alloc _).alloc _
 have tY:Zat W0 (w.heap.size+1) (.bool nb) (.slice A' ys.length c'):=by
  have h:=Zat.new (w.alloc (.cells #[.bool na,.slice A xs.length c] 30)) (.bool nb) (.slice A' ys.length c');rw[szA]at h;rw[hW0];exact h.alloc _
 have tR:Zat W0 (w.heap.size+1+1) (.bool false) (.slice none 0 0):=by
  have h:=Zat.new ((w.alloc (.cells #[.bool na,.slice A xs.length c] 30)).alloc (.cells #[.bool nb,.slice A' ys.length c'] 30)) (.bool false) (.slice none 0 0);rw[szA,szA]at h;rw[hW0];exact h
 have q1:=tX.two.c1;have q2:=tY.two.c1;have HW0:=Hd hW0;clear hW0
 go_enter Tryz.func122,Tryz.ntmps122
 go_wp2_with fail
 rw[<-HW0.out]
 go_quiet ((first|(go_at_call 119;with_reducible exact Calls.quiet_of_same (trim_q (HX.out.to (hb.trans (bel_drewN (Below.refl _ _) _)))))|(go_at_call 119;with_reducible exact Calls.quiet_of_same (trim_q (HY.out.to (hb.trans (bel_drewN (Below.refl _ _) _)))))))
 rename_i nq
 have hb1:Below w.heap.size w (W0.drewN nq):=bel_drewN hb _;have tR1:Zat (W0.drewN nq) (w.heap.size+1+1) (.bool false) (.slice none 0 0):=tR;generalize W0.drewN nq=W1 at hb1 tR1 ⊢;clear q1 q2 tX tY tR hb HW0
 go_wp2_with fail
 refine (compare_l (HX.out.to hb1) (HY.out.to hb1)).mono ?_;obtain ⟨cv,hcv,hcv0⟩:∃cv,cmpN (val b32 xs) (val b32 ys)=cv/\0<=cv:=⟨_,rfl,by have:=HLT.out;unfold cmpN;split<;>(try split)<;>omega⟩
 rw[hcv];clear hcv;rintro e w1 ⟨rfl,hb2⟩;have hb3:=Bxb hb1 hb2;have tR3:Two w1 (w.heap.size+1+1) _ _:=tR1.two.to hb2;clear hb1 tR1 hb2;have ttx:trimL (trimL xs)=trimL xs:=by rw[trimL_dig b32_one HX.out.dg,trimL_of_dig b32_one]
 have tty:trimL (trimL ys)=trimL ys:=by rw[trimL_dig b32_one HY.out.dg,trimL_of_dig b32_one]
 have AX:=Hd (HX.out.to hb3).trim;have AY:=Hd (HY.out.to hb3).trim;have hsi:(2:Int)<((trimL ys).length:Nat):=by omega
 have hll:(trimL ys).length<=(trimL xs).length:=by
  have h1:=val_lt AX.out.dg;rw[val_trimL]at h1;have h2:=HLT.out;rw[trimL_dig b32_one HY.out.dg];exact dig_length_le b32_one (by omega)
 have RD:=Hd (reduce_any (G:=Nat.gcd (val b32 xs) (val b32 ys)) AX.out AY.out ttx hs hll (by rw[val_trimL,val_trimL];have:=HLT.out;omega) (by rw[val_trimL,val_trimL]) (Nat.le_trans (trimL_le _) (by assumption)));clear hs hll
 go_wp2_with fail
 refine RD.out.mono ?_;rintro e w4 ⟨A5,c5,us,A6,c6,vs,rfl,AU,AV,tu,tv,hv2,hvu,hgg,hul,hbd⟩;have hb4:=Bxb hb3 hbd;have tR4:=tR3.to hbd;have AU4:=Hd AU;have AV4:=Hd AV;have HGG:=Hd hgg;have hus:us.length<=4294967293:=by have:=trimL_le xs;omega
 clear AU AV hgg hul hbd hb3 tR3 RD
 rcases Nat.eq_zero_or_pos (val b32 vs) with hz|hz
 .have hs0:vs.length=0:=by rw[<-tv,trimL_dig b32_one AV4.out.dg,hz];rfl
  have hsq:(((vs.length:Nat):Int)==0)=true:=by rw[hs0];rfl
  have HZ:=Hd hz;clear hz hs0 hv2 hvu;obtain ⟨g,eg⟩:∃g:Nat,Hid (Nat.gcd (val b32 xs) (val b32 ys)=g):=⟨_,rfl⟩
  have HGZ:Hid (zof false (val b32 us)=((g:Nat):Int)):=by
   show _=_
   rw[<-eg.out,<-HGG.out,HZ.out,Nat.gcd_zero_right];rfl
  have aU:=AU4.out;have dU:=aU.dg;have TRK:=Hd tR4;have HBK:=Hd hb4
  go_wp2_with fail
  refine (clone_l aU).mono ?_;rintro e w8 ⟨A8,c8,rfl,r1,r2,r3,hb8⟩;have HI:=Hd (integer_l false r1 dU r2 r3);rw[HGZ.out]at HI;have tRZ:=TRK.out.to hb8;have HBZ:=Hxb HBK hb8;clear r1 hb8;obtain ⟨z,ez⟩:∃z:Int,Hid (((g:Nat):Int)=z):=⟨_,rfl⟩
  rw[ez.out]at HI
  go_wp2_with fail
  refine HI.out.mono ?_;rintro e w9 ⟨A9,c9,rfl,s1,s2,s3,hb9⟩;obtain ⟨q1,q2,q3,q4,q5⟩:=tRZ.to hb9;have S2:=Hd s1;have HB3:=Hxb HBZ hb9;clear s1 hb9 tRZ;go_wp2
  have tF:=(⟨q1,q2,q3,q4,q5⟩:Two w9 (w.heap.size+1+1) _ _).set (.bool (decide (z<0))) (.slice A9 (dig b32 z.natAbs).length c9);refine bodyPost_ret (v:=.agg #[.bool (decide (z<0)),.slice A9 (dig b32 z.natAbs).length c9]) (by simp[results,Tryz.f122,go_sem,tF.c0,tF.c1]) rfl ?_;rw[eg.out,ez.out];exact zret_stored ⟨q1,q2,q3,q4,q5⟩ (by omega) S2.out s2 s3 HB3.out
 .have hs0:vs.length≠0:=fun h=>by
   have:vs=[]:=List.eq_nil_of_length_eq_zero h;rw[this]at hz;simp[val]at hz
  have hsq:(((vs.length:Nat):Int)==0)=false:=by rw[beq_eq_false_iff_ne];omega
  have lv64:=two_lt AV4.out.dg (by rw[tv];exact hv2);rw[tv]at lv64;have LV:=Hd lv64;have HZ:=Hd hz
  by_cases hl:us.length<=2
  .have hli:¬((2:Int)<(us.length:Nat)):=by omega
   have lu64:=two_lt AU4.out.dg (by rw[tu];exact hl);rw[tu]at lu64;have LU:=Hd lu64;clear hz hs0 hv2 hvu hl lv64 lu64;have hp64:val b32 us<18446744073709551616:=LU.out;have hq64:val b32 vs<18446744073709551616:=LV.out;have aP:=AU4.out;have aQ:=AV4.out;have U1:=Hd (toU64_arg aP hp64);have U2:=Hd (toU64_arg aQ hq64);have HG1:Hid (Nat.gcd (val b32 us) (val b32 vs)=Nat.gcd (val b32 xs) (val b32 ys)):=HGG;have HG0:=gcd_lt hp64 hq64;have S1:=Hd (smallGCD_any _ _ w4 hp64 hq64);rw[HG1.out]at S1 HG0;obtain ⟨g,eg⟩:∃g:Nat,Hid (Nat.gcd (val b32 xs) (val b32 ys)=g):=⟨_,rfl⟩
   rw[eg.out]at S1 HG0;have TRK:=Hd tR4;have HBK:=Hd hb4;clear HG1 hp64 hq64 aP aQ
   go_wp2_with fail
   refine U1.out.mono ?_;rintro e w' ⟨rfl,rfl⟩
   go_wp2_with fail
   refine U2.out.mono ?_;rintro e w' ⟨rfl,rfl⟩
   go_wp2_with fail
   refine S1.out.mono ?_;rintro e w' ⟨rfl,dn,rfl⟩
   go_wp2_with fail
   refine (toWords_l g HG0 _).mono ?_;rintro e w8 ⟨A8,c8,rfl,r1,r2,r3,hb8⟩;have HI:=Hd (integer_l false r1 (Dg_dig b32_one g) r2 r3);rw[val_dig b32_one,show zof false g=((g:Nat):Int) from rfl]at HI;have tRZ:=(TRK.out.to (bel_drewN (Below.refl _ _) dn)).to hb8;have HBZ:=Hd ((bel_drewN HBK.out dn).trans (hb8.mono HBK.out.size));clear r1 hb8;obtain ⟨z,ez⟩:∃z:Int,Hid (((g:Nat):Int)=z):=⟨_,rfl⟩
   rw[ez.out]at HI
   go_wp2_with fail
   refine HI.out.mono ?_;rintro e w9 ⟨A9,c9,rfl,s1,s2,s3,hb9⟩;obtain ⟨q1,q2,q3,q4,q5⟩:=tRZ.to hb9;have S2:=Hd s1;have HB3:=Hxb HBZ hb9;clear s1 hb9 tRZ;go_wp2
   have tF:=(⟨q1,q2,q3,q4,q5⟩:Two w9 (w.heap.size+1+1) _ _).set (.bool (decide (z<0))) (.slice A9 (dig b32 z.natAbs).length c9);refine bodyPost_ret (v:=.agg #[.bool (decide (z<0)),.slice A9 (dig b32 z.natAbs).length c9]) (by simp[results,Tryz.f122,go_sem,tF.c0,tF.c1]) rfl ?_;rw[eg.out,ez.out];exact zret_stored ⟨q1,q2,q3,q4,q5⟩ (by omega) S2.out s2 s3 HB3.out
  .have hli:(2:Int)<(us.length:Nat):=by omega
   have HD:=divide_all AU4.out AV4.out hz (by omega);rw[tu,tv]at HD;have HDH:=Hd HD;clear hz hs0 hv2 hvu hl lv64 HD
   go_wp2_with fail
   refine HDH.out.mono ?_;rintro e w5 ⟨A7,c7,qs,A10,c10,rs,rfl,AQ,AR,vq,vr,hbe⟩;have hb5:=Bxb hb4 hbe;have tR5:=tR4.to hbe;have AR5:=Hd AR;have VR:=Hd vr;have AV5:=Hd (AV4.out.to hbe);clear AQ AR vq vr hbe hb4 tR4;have hp64:val b32 vs<18446744073709551616:=LV.out;have hq64:val b32 rs<18446744073709551616:=by rw[VR.out];have h1:=Nat.mod_lt (val b32 us) HZ.out;have h2:=LV.out;omega
   have aP:=AV5.out;have aQ:=AR5.out;have U1:=Hd (toU64_arg aP hp64);have U2:=Hd (toU64_arg aQ hq64);have HG1:Hid (Nat.gcd (val b32 vs) (val b32 rs)=Nat.gcd (val b32 xs) (val b32 ys)):=by show _=_;rw[VR.out,gm];exact HGG.out
   have HG0:=gcd_lt hp64 hq64;have S1:=Hd (smallGCD_any _ _ w5 hp64 hq64);rw[HG1.out]at S1 HG0;obtain ⟨g,eg⟩:∃g:Nat,Hid (Nat.gcd (val b32 xs) (val b32 ys)=g):=⟨_,rfl⟩
   rw[eg.out]at S1 HG0;have TRK:=Hd tR5;have HBK:=Hd hb5;clear HG1 hp64 hq64 aP aQ
   go_wp2_with fail
   refine U1.out.mono ?_;rintro e w' ⟨rfl,rfl⟩
   go_wp2_with fail
   refine U2.out.mono ?_;rintro e w' ⟨rfl,rfl⟩
   go_wp2_with fail
   refine S1.out.mono ?_;rintro e w' ⟨rfl,dn,rfl⟩
   go_wp2_with fail
   refine (toWords_l g HG0 _).mono ?_;rintro e w8 ⟨A8,c8,rfl,r1,r2,r3,hb8⟩;have HI:=Hd (integer_l false r1 (Dg_dig b32_one g) r2 r3);rw[val_dig b32_one,show zof false g=((g:Nat):Int) from rfl]at HI;have tRZ:=(TRK.out.to (bel_drewN (Below.refl _ _) dn)).to hb8;have HBZ:=Hd ((bel_drewN HBK.out dn).trans (hb8.mono HBK.out.size));clear r1 hb8;obtain ⟨z,ez⟩:∃z:Int,Hid (((g:Nat):Int)=z):=⟨_,rfl⟩
   rw[ez.out]at HI
   go_wp2_with fail
   refine HI.out.mono ?_;rintro e w9 ⟨A9,c9,rfl,s1,s2,s3,hb9⟩;obtain ⟨q1,q2,q3,q4,q5⟩:=tRZ.to hb9;have S2:=Hd s1;have HB3:=Hxb HBZ hb9;clear s1 hb9 tRZ;go_wp2
   have tF:=(⟨q1,q2,q3,q4,q5⟩:Two w9 (w.heap.size+1+1) _ _).set (.bool (decide (z<0))) (.slice A9 (dig b32 z.natAbs).length c9);refine bodyPost_ret (v:=.agg #[.bool (decide (z<0)),.slice A9 (dig b32 z.natAbs).length c9]) (by simp[results,Tryz.f122,go_sem,tF.c0,tF.c1]) rfl ?_;rw[eg.out,ez.out];exact zret_stored ⟨q1,q2,q3,q4,q5⟩ (by omega) S2.out s2 s3 HB3.out
theorem gx_rt (na nb:Bool){A A':Option Addr}{c c':Nat}{xs ys:List Nat}{w:World}(hx:Arg w A c xs)(hy:Arg w A' c' ys)(hsx:xs.length<=4294967293)(hsy:ys.length<=4294967293)(hlt:val b32 xs<val b32 ys)(hs:2<(trimL xs).length) :
  Calls Tryz.prog 122 #[.agg #[.bool na,.slice A xs.length c],.agg #[.bool nb,.slice A' ys.length c']] w (ZRet w (Nat.gcd (val b32 xs) (val b32 ys):Nat)):=by
 have HX:=Hd hx;have HY:=Hd hy;have HLT:=Hd hlt;clear hx hy hlt;obtain ⟨W0,hW0⟩:∃W0,W0=((w.alloc (.cells #[.bool na,.slice A xs.length c] 30)).alloc (.cells #[.bool nb,.slice A' ys.length c'] 30)).alloc (.cells #[.bool false,.slice none 0 0] 30):=⟨_,rfl⟩
 have hb:Below w.heap.size w W0:=by rw[hW0];exact (bRR.alloc (by simp) _).alloc (by simp;omega) _
 have tX:Zat W0 w.heap.size (.bool na) (.slice A xs.length c):=by rw[hW0];exact ((Zat.new w _ _).alloc _).alloc _
 have tY:Zat W0 (w.heap.size+1) (.bool nb) (.slice A' ys.length c'):=by
  have h:=Zat.new (w.alloc (.cells #[.bool na,.slice A xs.length c] 30)) (.bool nb) (.slice A' ys.length c');rw[szA]at h;rw[hW0];exact h.alloc _
 have tR:Zat W0 (w.heap.size+1+1) (.bool false) (.slice none 0 0):=by
  have h:=Zat.new ((w.alloc (.cells #[.bool na,.slice A xs.length c] 30)).alloc (.cells #[.bool nb,.slice A' ys.length c'] 30)) (.bool false) (.slice none 0 0);rw[szA,szA]at h;rw[hW0];exact h
 have q1:=tX.two.c1;have q2:=tY.two.c1;have HW0:=Hd hW0;clear hW0
 go_enter Tryz.func122,Tryz.ntmps122
 go_wp2_with fail
 rw[<-HW0.out]
 go_quiet ((first|(go_at_call 119;with_reducible exact Calls.quiet_of_same (trim_q (HX.out.to (hb.trans (bel_drewN (Below.refl _ _) _)))))|(go_at_call 119;with_reducible exact Calls.quiet_of_same (trim_q (HY.out.to (hb.trans (bel_drewN (Below.refl _ _) _)))))))
 rename_i nq
 have hb1:Below w.heap.size w (W0.drewN nq):=bel_drewN hb _;have tR1:Zat (W0.drewN nq) (w.heap.size+1+1) (.bool false) (.slice none 0 0):=tR;generalize W0.drewN nq=W1 at hb1 tR1 ⊢;clear q1 q2 tX tY tR hb HW0
 go_wp2_with fail
 refine (compare_l (HX.out.to hb1) (HY.out.to hb1)).mono ?_;obtain ⟨cv,hcv,hcv0⟩:∃cv,cmpN (val b32 xs) (val b32 ys)=cv/\cv<0:=⟨_,rfl,by have:=HLT.out;unfold cmpN;split<;>(try split)<;>omega⟩
 rw[hcv];clear hcv;rintro e w1 ⟨rfl,hb2⟩;have hb3:=Bxb hb1 hb2;have tR3:Two w1 (w.heap.size+1+1) _ _:=tR1.two.to hb2;clear hb1 tR1 hb2;have ttx:trimL (trimL xs)=trimL xs:=by rw[trimL_dig b32_one HX.out.dg,trimL_of_dig b32_one]
 have tty:trimL (trimL ys)=trimL ys:=by rw[trimL_dig b32_one HY.out.dg,trimL_of_dig b32_one]
 have AX:=Hd (HX.out.to hb3).trim;have AY:=Hd (HY.out.to hb3).trim;have hsi:(2:Int)<((trimL xs).length:Nat):=by omega
 have hll:(trimL xs).length<=(trimL ys).length:=by
  have h1:=val_lt AY.out.dg;rw[val_trimL]at h1;have h2:=HLT.out;rw[trimL_dig b32_one HX.out.dg];exact dig_length_le b32_one (by omega)
 have RD:=Hd (reduce_any (G:=Nat.gcd (val b32 xs) (val b32 ys)) AY.out AX.out tty hs hll (by rw[val_trimL,val_trimL];have:=HLT.out;omega) (by rw[val_trimL,val_trimL];exact Nat.gcd_comm _ _) (Nat.le_trans (trimL_le _) (by assumption)));clear hs hll
 go_wp2_with fail
 refine RD.out.mono ?_;rintro e w4 ⟨A5,c5,us,A6,c6,vs,rfl,AU,AV,tu,tv,hv2,hvu,hgg,hul,hbd⟩;have hb4:=Bxb hb3 hbd;have tR4:=tR3.to hbd;have AU4:=Hd AU;have AV4:=Hd AV;have HGG:=Hd hgg;have hus:us.length<=4294967293:=by have:=trimL_le ys;omega
 clear AU AV hgg hul hbd hb3 tR3 RD
 rcases Nat.eq_zero_or_pos (val b32 vs) with hz|hz
 .have hs0:vs.length=0:=by rw[<-tv,trimL_dig b32_one AV4.out.dg,hz];rfl
  have hsq:(((vs.length:Nat):Int)==0)=true:=by rw[hs0];rfl
  have HZ:=Hd hz;clear hz hs0 hv2 hvu;obtain ⟨g,eg⟩:∃g:Nat,Hid (Nat.gcd (val b32 xs) (val b32 ys)=g):=⟨_,rfl⟩
  have HGZ:Hid (zof false (val b32 us)=((g:Nat):Int)):=by
   show _=_
   rw[<-eg.out,<-HGG.out,HZ.out,Nat.gcd_zero_right];rfl
  have aU:=AU4.out;have dU:=aU.dg;have TRK:=Hd tR4;have HBK:=Hd hb4
  go_wp2_with fail
  refine (clone_l aU).mono ?_;rintro e w8 ⟨A8,c8,rfl,r1,r2,r3,hb8⟩;have HI:=Hd (integer_l false r1 dU r2 r3);rw[HGZ.out]at HI;have tRZ:=TRK.out.to hb8;have HBZ:=Hxb HBK hb8;clear r1 hb8;obtain ⟨z,ez⟩:∃z:Int,Hid (((g:Nat):Int)=z):=⟨_,rfl⟩
  rw[ez.out]at HI
  go_wp2_with fail
  refine HI.out.mono ?_;rintro e w9 ⟨A9,c9,rfl,s1,s2,s3,hb9⟩;obtain ⟨q1,q2,q3,q4,q5⟩:=tRZ.to hb9;have S2:=Hd s1;have HB3:=Hxb HBZ hb9;clear s1 hb9 tRZ;go_wp2
  have tF:=(⟨q1,q2,q3,q4,q5⟩:Two w9 (w.heap.size+1+1) _ _).set (.bool (decide (z<0))) (.slice A9 (dig b32 z.natAbs).length c9);refine bodyPost_ret (v:=.agg #[.bool (decide (z<0)),.slice A9 (dig b32 z.natAbs).length c9]) (by simp[results,Tryz.f122,go_sem,tF.c0,tF.c1]) rfl ?_;rw[eg.out,ez.out];exact zret_stored ⟨q1,q2,q3,q4,q5⟩ (by omega) S2.out s2 s3 HB3.out
 .have hs0:vs.length≠0:=fun h=>by
   have:vs=[]:=List.eq_nil_of_length_eq_zero h;rw[this]at hz;simp[val]at hz
  have hsq:(((vs.length:Nat):Int)==0)=false:=by rw[beq_eq_false_iff_ne];omega
  have lv64:=two_lt AV4.out.dg (by rw[tv];exact hv2);rw[tv]at lv64;have LV:=Hd lv64;have HZ:=Hd hz
  by_cases hl:us.length<=2
  .have hli:¬((2:Int)<(us.length:Nat)):=by omega
   have lu64:=two_lt AU4.out.dg (by rw[tu];exact hl);rw[tu]at lu64;have LU:=Hd lu64;clear hz hs0 hv2 hvu hl lv64 lu64;have hp64:val b32 us<18446744073709551616:=LU.out;have hq64:val b32 vs<18446744073709551616:=LV.out;have aP:=AU4.out;have aQ:=AV4.out;have U1:=Hd (toU64_arg aP hp64);have U2:=Hd (toU64_arg aQ hq64);have HG1:Hid (Nat.gcd (val b32 us) (val b32 vs)=Nat.gcd (val b32 xs) (val b32 ys)):=HGG;have HG0:=gcd_lt hp64 hq64;have S1:=Hd (smallGCD_any _ _ w4 hp64 hq64);rw[HG1.out]at S1 HG0;obtain ⟨g,eg⟩:∃g:Nat,Hid (Nat.gcd (val b32 xs) (val b32 ys)=g):=⟨_,rfl⟩
   rw[eg.out]at S1 HG0;have TRK:=Hd tR4;have HBK:=Hd hb4;clear HG1 hp64 hq64 aP aQ
   go_wp2_with fail
   refine U1.out.mono ?_;rintro e w' ⟨rfl,rfl⟩
   go_wp2_with fail
   refine U2.out.mono ?_;rintro e w' ⟨rfl,rfl⟩
   go_wp2_with fail
   refine S1.out.mono ?_;rintro e w' ⟨rfl,dn,rfl⟩
   go_wp2_with fail
   refine (toWords_l g HG0 _).mono ?_;rintro e w8 ⟨A8,c8,rfl,r1,r2,r3,hb8⟩;have HI:=Hd (integer_l false r1 (Dg_dig b32_one g) r2 r3);rw[val_dig b32_one,show zof false g=((g:Nat):Int) from rfl]at HI;have tRZ:=(TRK.out.to (bel_drewN (Below.refl _ _) dn)).to hb8;have HBZ:=Hd ((bel_drewN HBK.out dn).trans (hb8.mono HBK.out.size));clear r1 hb8;obtain ⟨z,ez⟩:∃z:Int,Hid (((g:Nat):Int)=z):=⟨_,rfl⟩
   rw[ez.out]at HI
   go_wp2_with fail
   refine HI.out.mono ?_;rintro e w9 ⟨A9,c9,rfl,s1,s2,s3,hb9⟩;obtain ⟨q1,q2,q3,q4,q5⟩:=tRZ.to hb9;have S2:=Hd s1;have HB3:=Hxb HBZ hb9;clear s1 hb9 tRZ;go_wp2
   have tF:=(⟨q1,q2,q3,q4,q5⟩:Two w9 (w.heap.size+1+1) _ _).set (.bool (decide (z<0))) (.slice A9 (dig b32 z.natAbs).length c9);refine bodyPost_ret (v:=.agg #[.bool (decide (z<0)),.slice A9 (dig b32 z.natAbs).length c9]) (by simp[results,Tryz.f122,go_sem,tF.c0,tF.c1]) rfl ?_;rw[eg.out,ez.out];exact zret_stored ⟨q1,q2,q3,q4,q5⟩ (by omega) S2.out s2 s3 HB3.out
  .have hli:(2:Int)<(us.length:Nat):=by omega
   have HD:=divide_all AU4.out AV4.out hz (by omega);rw[tu,tv]at HD;have HDH:=Hd HD;clear hz hs0 hv2 hvu hl lv64 HD
   go_wp2_with fail
   refine HDH.out.mono ?_;rintro e w5 ⟨A7,c7,qs,A10,c10,rs,rfl,AQ,AR,vq,vr,hbe⟩;have hb5:=Bxb hb4 hbe;have tR5:=tR4.to hbe;have AR5:=Hd AR;have VR:=Hd vr;have AV5:=Hd (AV4.out.to hbe);clear AQ AR vq vr hbe hb4 tR4;have hp64:val b32 vs<18446744073709551616:=LV.out;have hq64:val b32 rs<18446744073709551616:=by rw[VR.out];have h1:=Nat.mod_lt (val b32 us) HZ.out;have h2:=LV.out;omega
   have aP:=AV5.out;have aQ:=AR5.out;have U1:=Hd (toU64_arg aP hp64);have U2:=Hd (toU64_arg aQ hq64);have HG1:Hid (Nat.gcd (val b32 vs) (val b32 rs)=Nat.gcd (val b32 xs) (val b32 ys)):=by show _=_;rw[VR.out,gm];exact HGG.out
   have HG0:=gcd_lt hp64 hq64;have S1:=Hd (smallGCD_any _ _ w5 hp64 hq64);rw[HG1.out]at S1 HG0;obtain ⟨g,eg⟩:∃g:Nat,Hid (Nat.gcd (val b32 xs) (val b32 ys)=g):=⟨_,rfl⟩
   rw[eg.out]at S1 HG0;have TRK:=Hd tR5;have HBK:=Hd hb5;clear HG1 hp64 hq64 aP aQ
   go_wp2_with fail
   refine U1.out.mono ?_;rintro e w' ⟨rfl,rfl⟩
   go_wp2_with fail
   refine U2.out.mono ?_;rintro e w' ⟨rfl,rfl⟩
   go_wp2_with fail
   refine S1.out.mono ?_;rintro e w' ⟨rfl,dn,rfl⟩
   go_wp2_with fail
   refine (toWords_l g HG0 _).mono ?_;rintro e w8 ⟨A8,c8,rfl,r1,r2,r3,hb8⟩;have HI:=Hd (integer_l false r1 (Dg_dig b32_one g) r2 r3);rw[val_dig b32_one,show zof false g=((g:Nat):Int) from rfl]at HI;have tRZ:=(TRK.out.to (bel_drewN (Below.refl _ _) dn)).to hb8;have HBZ:=Hd ((bel_drewN HBK.out dn).trans (hb8.mono HBK.out.size));clear r1 hb8;obtain ⟨z,ez⟩:∃z:Int,Hid (((g:Nat):Int)=z):=⟨_,rfl⟩
   rw[ez.out]at HI
   go_wp2_with fail
   refine HI.out.mono ?_;rintro e w9 ⟨A9,c9,rfl,s1,s2,s3,hb9⟩;obtain ⟨q1,q2,q3,q4,q5⟩:=tRZ.to hb9;have S2:=Hd s1;have HB3:=Hxb HBZ hb9;clear s1 hb9 tRZ;go_wp2
   have tF:=(⟨q1,q2,q3,q4,q5⟩:Two w9 (w.heap.size+1+1) _ _).set (.bool (decide (z<0))) (.slice A9 (dig b32 z.natAbs).length c9);refine bodyPost_ret (v:=.agg #[.bool (decide (z<0)),.slice A9 (dig b32 z.natAbs).length c9]) (by simp[results,Tryz.f122,go_sem,tF.c0,tF.c1]) rfl ?_;rw[eg.out,ez.out];exact zret_stored ⟨q1,q2,q3,q4,q5⟩ (by omega) S2.out s2 s3 HB3.out
theorem gcd_all (na nb:Bool){A A':Option Addr}{c c':Nat}{xs ys:List Nat}{w:World}(hx:Arg w A c xs)(hy:Arg w A' c' ys)(hsx:xs.length<=4294967293)(hsy:ys.length<=4294967293) :
  Calls Tryz.prog 122 #[.agg #[.bool na,.slice A xs.length c],.agg #[.bool nb,.slice A' ys.length c']] w (ZRet w (Nat.gcd (val b32 xs) (val b32 ys):Nat)):=by
 have mono:∀{us vs:List Nat},Dg b32 us->Dg b32 vs->val b32 us<=val b32 vs->(trimL us).length<=(trimL vs).length:=fun {us vs} du dv h=>by
  have h1:=val_lt (dv.take (trimN vs));rw[show vs.take (trimN vs)=trimL vs from rfl,val_trimL]at h1;rw[trimL_dig b32_one du];exact dig_length_le b32_one (by omega)
 rcases Nat.lt_or_ge (val b32 xs) (val b32 ys) with h|h
 .rcases Nat.eq_zero_or_pos (val b32 xs) with h0|h0
  .exact gx_zt na nb hx hy hsx hsy h h0
  .rcases Nat.lt_or_ge 2 (trimL xs).length with h2|h2
   .exact gx_rt na nb hx hy hsx hsy h h2
   .rcases Nat.lt_or_ge 2 (trimL ys).length with h3|h3
    .exact gx_dt na nb hx hy hsx hsy h h0 h3 h2
    .exact gcd_small na nb hx hy h2 h3
 .rcases Nat.eq_zero_or_pos (val b32 ys) with h0|h0
  .exact gx_zf na nb hx hy hsx hsy h h0
  .rcases Nat.lt_or_ge 2 (trimL ys).length with h2|h2
   .exact gx_rf na nb hx hy hsx hsy h h2
   .rcases Nat.lt_or_ge 2 (trimL xs).length with h3|h3
    .exact gx_df na nb hx hy hsx hsy h h0 h3 h2
    .exact gcd_small na nb hx hy h3 h2
theorem wpList_append_run {P:Program}{ops:Array Oper}{Q:Exit->Act->World->Prop}{rest:List Oper}{o:Oper}{a:Act}{w w':World}{v u v':Value}
  (hgd:o.guard=none) (s x:Operand) (t:TypeId) (ho:o.op=.call { callee:=.builtin .append,args:=#[s,x],argTypes:=#[t,t] })
  (hs:a.eval s=v) (hx:a.eval x=u) (hrun:(Builtin.append_ #[t,t] o.type #[v,u]).run P w=.ok v' w') (h:wpList P ops Q rest (a.put o.dst v') w'):wpList P ops Q (o::rest) a w :=
 wpList_step fun _ hK=>step_append_out hgd s x t ho hs hx hrun (hK _ _ h)
end Go.Proofs.YtglhdielkkhefaaGreat
