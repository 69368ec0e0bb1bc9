/- Parts: 4. -/
import Derived.Test.YtglhdielkkhefaaGreatMl14
import Derived.Test.YtglhdielkkhefaaGreatMl15
import Derived.Test.YtglhdielkkhefaaGreatMl16
import Derived.Test.YtglhdielkkhefaaGreatMl17
import Derived.Deep.Slices
set_option linter.unusedVariables false
set_option linter.unusedSimpArgs false
set_option maxRecDepth 100000
set_option maxHeartbeats 40000000

namespace Go.Proofs.YtglhdielkkhefaaGreat
open Go.RowKit Go.Shelf
attribute [local go_sem] Oper.semAt_some
theorem wpListIn_makes {F:Fence}{n:Nat}(w:World){ops:Array Oper}{rest:List Oper}{o:Oper}{a:Act}{Q:Exit->Act->World->Prop}
  (hg:o.guard=none) (l c:Operand) (hop:o.op=Op.makeSlice 22 l c) (N C:Nat) {L D:Int} (hl:a.eval l=.int .i64 L) (hc:a.eval c=.int .i64 D) (hL:L=(N:Int)) (hC:D=(C:Int)) (h1:N<=C) (h2:C<=4398046511104)
  (hK:wpListIn F n Tryz.prog ops Q rest (a.put o.dst (.slice (some ⟨w.heap.size,0,none⟩) N C)) (w.alloc (.cells (zrow C) 38))) :
  wpListIn F n Tryz.prog ops Q (o::rest) a w:=by
 refine wpListIn_plain hg fun K hK'=>?_
 have hrun:=make_s w N C h1 h2;subst hL;subst hC;unfold Oper.wpIn;refine ⟨?_,?_⟩
 .simp[Oper.about,hop]
 .rw[Oper.semAt_plain F _ _ (by rw[hop];intro c hc';cases hc')];simp[execOp,hop,hl,hc,hrun,Result.andThen];exact hK' _ _ hK
theorem rpairs_any (A A':Option Addr)(n n' c c':Nat)(w:World) :
  Calls Tryz.prog 57 #[.slice A n c,.slice A' n' c'] w fun e w'=>e=.returned (.func (.func 101) #[] #[.pointer (some ⟨w.heap.size,0,none⟩),.pointer (some ⟨w.heap.size+1,0,none⟩)]) /\
   w'=(w.alloc (.cells #[.slice A n c] 22)).alloc (.cells #[.slice A' n' c'] 22):=by
 go_enter Tryz.func57,Tryz.ntmps57
 go_wp2
 go_ret
 exact ⟨rfl,rfl⟩
section
variable {W V : World} {A : Option Addr} {c : Nat} {es : List E4} {rs : List Rat}
theorem Vc.off (hv:Vc W A c es rs)(kw:Kw W V)(hb:∀(p:Addr) (n:Bool),W.cell? p=some (.bool n)->V.heap[p.block]?=W.heap[p.block]?):Vc V A c es rs :=
 ⟨fun k hk=>by
  obtain ⟨b,o,e,hb',h0,h1,h2,h3⟩:=hv.row k hk;obtain ⟨⟨n1,A1,j1,m1,e1,e2⟩,_⟩:=hv.fq _ (List.getElem_mem hk);have hu:=hb ⟨b,_,none⟩ n1 (by rw[h0,e1]);have hw:∀j,V.cell? ⟨b,j,none⟩=W.cell? ⟨b,j,none⟩:=fun j=>World.cell?_of_block (a:=⟨b,j,none⟩) hu
  exact ⟨b,o,e,Nat.lt_of_lt_of_le hb' kw.size,(hw _).trans h0,(hw _).trans h1,(hw _).trans h2,(hw _).trans h3⟩,hv.len,fun i=>kw.qc (hv.el i),hv.fq,hv.cap,hv.c63⟩
theorem Vc.grown {row:Option Nat}(hv:Vc W A c es rs)(hg:W.grownBy V row)(hr:∀r,row=some r->∃o:Obj,W.heap[r]?=some o/\o.isCells=false):Vc V A c es rs :=
 ⟨fun k hk=>by
  obtain ⟨b,o,e,hb',h0,h1,h2,h3⟩:=hv.row k hk
  exact ⟨b,o,e,Nat.lt_of_lt_of_le hb' hg.size,cell_kept h0 hg hr,cell_kept h1 hg hr,cell_kept h2 hg hr,cell_kept h3 hg hr⟩,hv.len,fun i=>(Kw.grown hg hr).qc (hv.el i),hv.fq,hv.cap,hv.c63⟩
theorem box_bool {g:Nat}{a:Option Addr}{b d:Nat}{t:TypeId}(h:Hp W g (.cells #[.slice a b d] t (0,0))){p:Addr}{n:Bool}(hc:W.cell? p=some (.bool n)):p.block≠g:=by
 intro e;obtain ⟨b',j,f⟩:=p;obtain rfl:b'=g:=e;have h':W.heap[b']?=some (.cells #[.slice a b d] t (0,0)):=h;unfold World.cell? at hc;simp only[h']at hc
 cases f with
 | none=>rcases j with _|j<;>simp at hc
 | some f=>simp at hc
end
structure AccS (W:World)(H g N k:Nat)(rs:Nat->List Rat):Prop where
 box:Hp W H (.cells #[.slice (some ⟨g,0,none⟩) k N] 22 (0,0))
 row:∃fl,RowS W g fl/\fl.length=N/\∀i,i<k->Vs rs W i (fl.getD i (.slice none 0 0))
section
variable {W V : World} {H g N k : Nat} {rs : Nat -> List Rat}
theorem AccS.to (h:AccS W H g N k rs)(hb:Below W.heap.size W V):AccS V H g N k rs:=by
 obtain ⟨fl,h1,h2,h3⟩:=h.row;exact ⟨h.box.to hb,fl,h1.to hb,h2,fun i hi=>(Vs.kept rs).to hb (h3 i hi)⟩
theorem AccS.grown {row:Option Nat}(h:AccS W H g N k rs)(hg:W.grownBy V row)(hr:∀r,row=some r->∃o:Obj,W.heap[r]?=some o/\o.isCells=false):AccS V H g N k rs:=by
 obtain ⟨fl,h1,h2,h3⟩:=h.row;refine ⟨h.box.grown hg hr rfl,fl,⟨(grownBy_keeps_cells hg hr h1.heap rfl).trans h1.heap,h1.sl⟩,h2,fun i hi=>?_⟩;obtain ⟨A,c,es,e,hv⟩:=h3 i hi;exact ⟨A,c,es,e,hv.grown hg hr⟩
theorem AccS.more (h:AccS W H g N k rs)(hk:k<N)(hne:H≠g){x:Value}(hx:IsS x)(hq:Vs rs W k x){a:Addr}{c:Nat}(h0:W.cell? (a.add 0)=some x)(ty:TypeId) :
  ∃X,(Builtin.append_ #[22,22] ty #[.slice (some ⟨g,0,none⟩) k N,.slice (some a) 1 c]).run Tryz.prog W=.ok (.slice (some ⟨g,0,none⟩) (k+1) N) X /\
   Hp X H (.cells #[.slice (some ⟨g,0,none⟩) k N] 22 (0,0)) /\
   AccS (X.setCell ⟨H,0,none⟩ (.slice (some ⟨g,0,none⟩) (k+1) N)) H g N (k+1) rs /\
   (X.setCell ⟨H,0,none⟩ (.slice (some ⟨g,0,none⟩) (k+1) N)).heap.size=W.heap.size /\
   (∀j,j≠g->j≠H->(X.setCell ⟨H,0,none⟩ (.slice (some ⟨g,0,none⟩) (k+1) N)).heap[j]?=W.heap[j]?) /\
   (∀B,B<=g->B<=H->Below B W (X.setCell ⟨H,0,none⟩ (.slice (some ⟨g,0,none⟩) (k+1) N))):=by
 obtain ⟨fl,r1,rfl,r3⟩:=h.row;obtain ⟨i0,hi,hz0,hz1,hz2⟩:=info_parts infoS
 have hr0:=run_append_room (P:=Tryz.prog) W 22 ty 38 i0 Tryz.underlying22 hi g k fl.length _ r1.heap a 1 c [x] (by rw[hz1];rfl)
  (fun j u hj=>by
   match j,hj with
   | 0,hj=>simp at hj;subst hj;exact h0)
  (fun u hu=>by rw[List.mem_singleton.1 hu];obtain ⟨A,m,d,rfl⟩:=hx;rfl) (by omega) (by rw[hz1];simp;omega)
 rw[hz1]at hr0;have e1:fl.set k x=fl.take k++x::fl.drop (k+1):=by rw[List.set_eq_take_append_cons_drop,if_pos hk]
 have hr:(Builtin.append_ #[22,22] ty #[.slice (some ⟨g,0,none⟩) k fl.length,.slice (some a) 1 c]).run Tryz.prog W=.ok (.slice (some ⟨g,0,none⟩) (k+1) fl.length) (W.setRow g (fl.set k x).toArray):=by
  rw[hr0,e1];simp
 have hrow:=r1.app (n:=k) hx;have kw1:Kw W (W.setRow g (fl.set k x).toArray):=r1.kw;obtain ⟨X,hX⟩:∃X,W.setRow g (fl.set k x).toArray=X:=⟨_,rfl⟩
 have hsz:X.heap.size=W.heap.size:=by rw[<-hX,setRow_size]
 have hoth:∀j,j≠g->X.heap[j]?=W.heap[j]?:=fun j hj=>by rw[<-hX,setRow_other _ _ _ _ hj]
 have hbel:∀B,B<=g->Below B W X:=fun B hB=>by rw[<-hX];exact below_setRow (Below.refl _ _) hB _
 rw[hX]at hr hrow kw1;have hbox:Hp X H (.cells #[.slice (some ⟨g,0,none⟩) k fl.length] 22 (0,0)):=(hoth H hne).trans h.box;have hset:∀j,j≠H->(X.setCell ⟨H,0,none⟩ (.slice (some ⟨g,0,none⟩) (k+1) fl.length)).heap[j]?=X.heap[j]?:=fun j hj=>Below.heap_setCell X ⟨H,0,none⟩ _ j hj
 have kw2:Kw W (X.setCell ⟨H,0,none⟩ (.slice (some ⟨g,0,none⟩) (k+1) fl.length)):=kw1.setCell hbox.one (fun n hn=>by cases hn) _
 have hall:∀i v,Vs rs W i v->Vs rs (X.setCell ⟨H,0,none⟩ (.slice (some ⟨g,0,none⟩) (k+1) fl.length)) i v:=fun i v hv=>by
  obtain ⟨A,d,es,e,hv⟩:=hv;refine ⟨A,d,es,e,hv.off kw2 fun p n hp=>?_⟩
  have n1:p.block≠g:=fun e=>by
   obtain ⟨A,m,c,e2⟩:=r1.slice e hp;cases e2
  have n2:=box_bool h.box hp;exact (hset _ n2).trans (hoth _ n1)
 refine ⟨X,hr,hbox,⟨Boxed.set (W:=X) _ hbox,fl.set k x,⟨(hset g (Ne.symm hne)).trans hrow.heap,hrow.sl⟩,by simp,fun i hi=>?_⟩,by simpa [World.setCell]using hsz,fun j h1 h2=>(hset j h2).trans (hoth j h1),fun B h1 h2=>(hbel B h1).setCell (p:=⟨H,0,none⟩) h2 _⟩
 by_cases hik:i=k
 .subst hik;rw[show (fl.set i x).getD i (.slice none 0 0)=x from by simp[List.getD,hk]];exact hall _ _ hq
 .rw[show (fl.set k x).getD i (.slice none 0 0)=fl.getD i (.slice none 0 0) from by simp[List.getD,List.getElem?_set,Ne.symm hik]];exact hall _ _ (r3 i (by omega))
end
theorem RowS.new (W:World)(N:Nat):RowS (W.alloc (.cells (zrow N) 38)) W.heap.size (List.replicate N (.slice none 0 0)) :=
 ⟨World.alloc_heap_new W _,fun v hv=>by rw[List.eq_of_mem_replicate hv];exact ⟨_,_,_,rfl⟩⟩
structure CombM (w:World)(FV VX VY:Value)(N k:Nat)(rs:Nat->List Rat)(W:World):Prop where
 acc:AccS W (w.heap.size+1+1) (w.heap.size+1) N k rs
 fn:Hp W w.heap.size (.cells #[FV] 80 (0,0))
 bx:Hp W (w.heap.size+1+1+1) (.cells #[VX] 22 (0,0))
 by':Hp W (w.heap.size+1+1+1+1) (.cells #[VY] 22 (0,0))
 bel:Below w.heap.size w W
theorem CombM.to {w:World}{FV VX VY:Value}{N k:Nat}{rs:Nat->List Rat}{W V:World}(h:CombM w FV VX VY N k rs W)(hb:Below W.heap.size W V):CombM w FV VX VY N k rs V :=
 ⟨h.acc.to hb,h.fn.to hb,h.bx.to hb,h.by'.to hb,h.bel.trans (hb.mono h.bel.size)⟩
theorem CombM.grown {w:World}{FV VX VY:Value}{N k:Nat}{rs:Nat->List Rat}{W V:World}{row:Option Nat}{B:Nat}(h:CombM w FV VX VY N k rs W)(hB:w.heap.size<=B)(hg:W.grownBy V row)
  (hr:∀r,row=some r->B<=r/\∃o:Obj,W.heap[r]?=some o/\o.isCells=false):CombM w FV VX VY N k rs V :=
 have hr':=fun r e=>(hr r e).2
 ⟨h.acc.grown hg hr',h.fn.grown hg hr' rfl,h.bx.grown hg hr' rfl,h.by'.grown hg hr' rfl,h.bel.grown hg h.bel.size (fun k e=>Nat.le_trans hB (hr k e).1)⟩
theorem combm_start (w:World)(FV VX VY:Value)(N:Nat)(rs:Nat->List Rat) :
  CombM w FV VX VY N 0 rs (((((w.alloc (.cells #[FV] 80)).alloc (.cells (zrow N) 38)).alloc (.cells #[.slice (some ⟨w.heap.size+1,0,none⟩) 0 N] 22)).alloc (.cells #[VX] 22)).alloc (.cells #[VY] 22)):=by
 have b1:Below w.heap.size w (w.alloc (.cells #[FV] 80)):=bRR;have z1:(w.alloc (.cells #[FV] 80)).heap.size=w.heap.size+1:=szA ..;have a1:=Hp.new w #[FV] 80;generalize w.alloc (.cells #[FV] 80)=w1 at a1 z1 b1 ⊢;have b2:=b1.alloc (by omega) (.cells (zrow N) 38);have a2:=RowS.new w1 N;replace a1:=a1.alloc (.cells (zrow N) 38);have z2:(w1.alloc (.cells (zrow N) 38)).heap.size=w.heap.size+1+1:=by rw[szA,z1]
 rw[z1]at a2;generalize w1.alloc (.cells (zrow N) 38)=w2 at a1 a2 z2 b2 ⊢;have b3:=b2.alloc (by omega) (.cells #[.slice (some ⟨w.heap.size+1,0,none⟩) 0 N] 22);have a3:=Hp.new w2 #[.slice (some ⟨w.heap.size+1,0,none⟩) 0 N] 22;replace a1:=a1.alloc (.cells #[.slice (some ⟨w.heap.size+1,0,none⟩) 0 N] 22);replace a2:=a2.to ((Below.refl _ w2).alloc (Nat.le_refl _) (.cells #[.slice (some ⟨w.heap.size+1,0,none⟩) 0 N] 22));have z3:(w2.alloc (.cells #[.slice (some ⟨w.heap.size+1,0,none⟩) 0 N] 22)).heap.size=w.heap.size+1+1+1:=by rw[szA,z2]
 rw[z2]at a3;generalize w2.alloc (.cells #[.slice (some ⟨w.heap.size+1,0,none⟩) 0 N] 22)=w3 at a1 a2 a3 z3 b3 ⊢;have b4:=b3.alloc (by omega) (.cells #[VX] 22);have a4:=Hp.new w3 #[VX] 22;replace a1:=a1.alloc (.cells #[VX] 22);replace a2:=a2.to ((Below.refl _ w3).alloc (Nat.le_refl _) (.cells #[VX] 22));replace a3:=a3.alloc (.cells #[VX] 22);have z4:(w3.alloc (.cells #[VX] 22)).heap.size=w.heap.size+1+1+1+1:=by rw[szA,z3]
 rw[z3]at a4;generalize w3.alloc (.cells #[VX] 22)=w4 at a1 a2 a3 a4 z4 b4 ⊢;have a5:=Hp.new w4 #[VY] 22;rw[z4]at a5;exact ⟨⟨a3.alloc _,_,a2.to ((Below.refl _ w4).alloc (Nat.le_refl _) _),by simp,fun i hi=>by omega⟩,a1.alloc _,a4.alloc _,a5,b4.alloc (by omega) _⟩
def cm1 (A A':Option Addr)(c c' L1 L2:Nat)(w:World)(ga gb:Nat)(V8 V9 X Y s21 s22 s23 s24 s25 s26:Value):Act :=
 ⟨#[.slice A L1 c,.slice A' L2 c',.func (.func 80) #[] #[.pointer (some ⟨ga,0,none⟩),.pointer (some ⟨gb,0,none⟩)],undef,undef,.pointer (some ⟨w.heap.size,0,none⟩),.slice none 0 0,.pointer (some ⟨w.heap.size+1+1,0,none⟩),V8,V9,.slice A L1 c,.int .i64 (L1:Int),.slice A' L2 c',.int .i64 (L2:Int),.int .i64 (max (L1:Int) (L2:Int)),.slice (some ⟨w.heap.size+1,0,none⟩) 0 (max L1 L2),.slice A L1 c,.slice A' L2 c',
  .func (.func 101) #[] #[.pointer (some ⟨w.heap.size+1+1+1,0,none⟩),.pointer (some ⟨w.heap.size+1+1+1+1,0,none⟩)],X,Y,s21,s22,s23,s24,s25,s26,undef,undef],[]⟩
theorem comb_cat {rs:Nat->List Rat}{A A':Option Addr}{c c' L1 L2:Nat}{vs us:Nat->Value}{ga gb:Nat}{w:World}(hx:Rw w w.heap.size A L1 vs)(hy:Rw w w.heap.size A' L2 us)(qx:∀i,IsS (vs i))(qy:∀i,IsS (us i))
  (hx63:L1<=4398046511104) (hy63:L2<=4398046511104)
  (hF:∀(V:World),Below w.heap.size w V->∀i,i<max L1 L2->Calls Tryz.prog 80 #[rvA L1 vs i,rvA L2 us i,.pointer (some ⟨ga,0,none⟩),.pointer (some ⟨gb,0,none⟩)] V (VR V (rs i))) :
  Calls Tryz.prog 74 #[.slice A L1 c,.slice A' L2 c',.func (.func 80) #[] #[.pointer (some ⟨ga,0,none⟩),.pointer (some ⟨gb,0,none⟩)]] w (MR w (max L1 L2) rs):=by
 have HF:=Hd hF;have HX63:=Hd hx63;have HY63:=Hd hy63;have RX:=Hd hx;have RY:=Hd hy;have QX:=Hd qx;have QY:=Hd qy;have hN63:max L1 L2<=4398046511104:=by omega
 have HN:=Hd hN63;clear hF hx hy qx qy;refine (callsIn_wide (n:=3)).1 ?_;refine callsIn_of_wp_marks Tryz.func74 rfl trivial ?_ rfl;simp only[Tryz.ntmps74,List.size_toArray,List.length_cons,List.length_nil,Nat.reduceAdd,Nat.reduceSub,Array.replicate_succ,Array.replicate_zero,List.push_toArray,List.append_toArray,List.nil_append,List.cons_append]
 gi_wp2_with (first
  | (refine ⟨trivial,?_⟩;gi_at_call 57;refine (callsIn_wide.2 (rpairs_any _ _ _ _ _ _ _)).mono ?_;rintro e w' ⟨rfl,rfl⟩)
  | (gi_at_make;refine wpListIn_makes _ rfl _ _ rfl 0 (max L1 L2) rfl rfl (by omega) (by omega) (Nat.zero_le _) HN.out ?_))
 obtain ⟨W0,hW0⟩:∃W0,W0=((((w.alloc (.cells #[.func (.func 80) #[] #[.pointer (some ⟨ga,0,none⟩),.pointer (some ⟨gb,0,none⟩)]] 80)).alloc (.cells (zrow (max L1 L2)) 38)).alloc (.cells #[.slice (some ⟨w.heap.size+1,0,none⟩) 0 (max L1 L2)] 22)).alloc (.cells #[.slice A L1 c] 22)).alloc (.cells #[.slice A' L2 c'] 22):=⟨_,rfl⟩
 have hI0:CombM w (.func (.func 80) #[] #[.pointer (some ⟨ga,0,none⟩),.pointer (some ⟨gb,0,none⟩)]) (.slice A L1 c) (.slice A' L2 c') (max L1 L2) 0 rs W0:=by rw[hW0];exact combm_start _ _ _ _ _ _
 have hs0:W0.heap.size=w.heap.size+1+1+1+1+1:=by rw[hW0];simp
 rw[<-hW0];clear hW0
 refine wp_roundsB (gf:=101) (lb:=#[.pointer (some ⟨w.heap.size+1+1+1,0,none⟩),.pointer (some ⟨w.heap.size+1+1+1+1,0,none⟩)]) ?hg (enters_of Tryz.func101 (by kernel_rfl) rfl)
  (N:=max L1 L2) (enc:=rowE L1 L2 vs us) (S:=pairS (w.heap.size+1+1+1) (w.heap.size+1+1+1+1) w.heap.size) (pairS_lt (by omega) (by omega) (by omega))
  (fun W hW=>by
   have h:=hI0.to hW
   exact rpairs_gives (w.heap.size+1+1+1) (w.heap.size+1+1+1+1) w.heap.size c c' L1 L2 A A' vs us (by have:=HX63.out;omega) (by have:=HY63.out;omega) W h.bx.one h.by'.one (RX.out.below h.bel) (RY.out.below h.bel) QX.out QY.out)
  ?hps
  (fun k W=>CombM w (.func (.func 80) #[] #[.pointer (some ⟨ga,0,none⟩),.pointer (some ⟨gb,0,none⟩)]) (.slice A L1 c) (.slice A' L2 c') (max L1 L2) k rs W)
  (fun k a1 W=>a1=(cm1 A A' c c' L1 L2 w ga gb (rvA L1 vs k) (rvA L2 us k) (rvA L1 vs k) (rvA L2 us k) undef undef undef undef undef undef)/\CombM w (.func (.func 80) #[] #[.pointer (some ⟨ga,0,none⟩),.pointer (some ⟨gb,0,none⟩)]) (.slice A L1 c) (.slice A' L2 c') (max L1 L2) k rs W)
  (fun _ _ _=>False) ?hI ?hI1 ?hIb ?hIx hI0 ?assign ?body ?done ?stop
 case hg=>rfl
 case hps=>exact fun _=>rfl
 case hI=>exact fun k W V row h hg hr=>h.grown (by omega) hg hr
 case hI1 =>
  rintro ⟨k,a1⟩ W V row ⟨h1,h2⟩ hg hr;exact ⟨h1,h2.grown (by omega) hg hr⟩
 case hIb=>exact fun k W V h hb=>h.to hb
 case hIx=>exact fun _ _ _ _ _ h _ _=>h
 case assign =>
  intro l k W K hlt hI hk hK;have HK:=Hd hK;clear hK;unfold rowE;have fx:=rvA_s (N:=L1) QX.out k;have fy:=rvA_s (N:=L2) QY.out k;generalize rvA L1 vs k=X at HK fx ⊢;generalize rvA L2 us k=Y at HK fy ⊢;obtain ⟨A1,n1,m1,rfl⟩:=fx;obtain ⟨A2,n2,m2,rfl⟩:=fy
  gi_wp2
  exact HK.out _ _ (Below.refl _ _) ⟨rfl,hI⟩
 case body =>
  rintro l k a1 W hlt ⟨rfl,hI⟩ hk;unfold cm1;have HFK:=Hd fun (V:World) (hV:Below w.heap.size w V)=>HF.out V hV k hk
  have fx:=rvA_s (N:=L1) QX.out k;have fy:=rvA_s (N:=L2) QY.out k;generalize rvA L1 vs k=X at HFK fx ⊢;generalize rvA L2 us k=Y at HFK fy ⊢;obtain ⟨A1,n1,m1,rfl⟩:=fx;obtain ⟨A2,n2,m2,rfl⟩:=fy;have hbI:=hI.bel;have CA:=Hd fun (V:World) (hV:Below W.heap.size W V)=>(hI.acc.to hV).box.one
  have CF:=Hd fun (V:World) (hV:Below W.heap.size W V)=>(hI.fn.to hV).one
  have HC:=Hd fun (V:World) (hV:Below W.heap.size W V)=>HFK.out V (Bxb hbI hV)
  have HI:=Hd hI;have HK:=Hd hk;have HS:Hid (w.heap.size+1+1+1+1+1<W.heap.size):=by show _<_;omega
  clear hI hbI HFK HF hI0 RX RY QX QY hk
  gi_wp2_with fail
  refine region_round follows (by kernel_rfl) ?_;refine wpAnyIn_take (i:=2) (v:=.slice A1 n1 m1) rfl rfl (by kernel_rfl) (by kernel_rfl) (by kernel_rfl) (fun _ _ _ h=>h) ⟨Or.inl ⟨by rfl,fun w=>by go_simp⟩,fun _=>rfl⟩ ?_;refine wpAnyIn_take (i:=3) (v:=.slice A2 n2 m2) rfl rfl (by kernel_rfl) (by kernel_rfl) (by kernel_rfl) (fun _ _ _ h=>h) ⟨Or.inl ⟨by rfl,fun w=>by go_simp⟩,fun _=>rfl⟩ ?_;refine dagInE 6 #[false,false,true,true,false,false,false,false] (cm1 A A' c c' L1 L2 w ga gb (.slice A1 n1 m1) (.slice A2 n2 m2) (.slice A1 n1 m1) (.slice A2 n2 m2) undef undef (.slice A1 n1 m1) (.slice A2 n2 m2) undef undef) (by kernel_rfl) (by kernel_rfl) (by rfl) (fun G up dn=>?_)
  have S0145:∀(V:World) (hV:Below W.heap.size W V) (A3:Option Addr) (c3:Nat) (es:List E4) (hQ:Vc V A3 c3 es (rs k)) (g5:Nat) (hG:Hp V g5 (.cells #[.slice A3 (rs k).length c3] 38 (0,0))),G 2 #[true,true,true,true,true,true,false,false] (cm1 A A' c c' L1 L2 w ga gb (.slice A1 n1 m1) (.slice A2 n2 m2) (.slice A1 n1 m1) (.slice A2 n2 m2) (.slice (some ⟨w.heap.size+1,0,none⟩) k (max L1 L2)) (.func (.func 80) #[] #[.pointer (some ⟨ga,0,none⟩),.pointer (some ⟨gb,0,none⟩)]) (.slice A1 n1 m1) (.slice A2 n2 m2) (.slice A3 (rs k).length c3) (.slice (some ⟨g5,0,none⟩) 1 1)) V:=by
   intro V hV A3 c3 es hQ g5 hG;refine up ?_;unfold cm1;refine rdyI (i:=6) (by kernel_rfl) rfl (fun K hK=>?_);have hacc:=HI.out.acc.to hV;obtain ⟨U,hrun,hbox,hacc',hsz,hoth,hbel⟩:=hacc.more HK.out (by omega) (x:=.slice A3 (rs k).length c3) ⟨_,_,_,rfl⟩ ⟨A3,c3,es,rfl,hQ⟩ (a:=⟨g5,0,none⟩) (c:=1) hG.one 22;have HRUN:=Hd hrun
   have FIN:leftBy W0.heap.size (KeepAt (pairS (w.heap.size+1+1+1) (w.heap.size+1+1+1+1) w.heap.size)) (fun W=>CombM w (.func (.func 80) #[] #[.pointer (some ⟨ga,0,none⟩),.pointer (some ⟨gb,0,none⟩)]) (.slice A L1 c) (.slice A' L2 c') (max L1 L2) (k+1) rs W) (fun _ _=>False) W .normal { tmps:=#[],defers:=[] } (U.setCell ⟨w.heap.size+1+1,0,none⟩ (.slice (some ⟨w.heap.size+1,0,none⟩) (k+1) (max L1 L2))):=by
    have hsame:∀j,j<W.heap.size->j≠w.heap.size+1->j≠w.heap.size+1+1->(U.setCell ⟨w.heap.size+1+1,0,none⟩ (.slice (some ⟨w.heap.size+1,0,none⟩) (k+1) (max L1 L2))).heap[j]?=W.heap[j]?:=fun j h0 h1 h2=>(hoth j h1 h2).trans (hV.block j h0)
    have hS:=HS.out;refine ⟨⟨by rw[hsz];exact hV.size,fun j o hB hj _=>(hsame j (Array.getElem?_eq_some_iff.1 hj).1 (by omega) (by omega)).trans hj⟩,?_,⟨hacc',(hsame _ (by omega) (by omega) (by omega)).trans HI.out.fn,(hsame _ (by omega) (by omega) (by omega)).trans HI.out.bx,(hsame _ (by omega) (by omega) (by omega)).trans HI.out.by',?_⟩⟩
    .rintro p (rfl|rfl|hp)
     .exact World.cell?_of_block (hsame _ (by show w.heap.size+1+1+1<_;omega) (by show w.heap.size+1+1+1≠_;omega) (by show w.heap.size+1+1+1≠_;omega))
     .exact World.cell?_of_block (hsame _ (by show w.heap.size+1+1+1+1<_;omega) (by show w.heap.size+1+1+1+1≠_;omega) (by show w.heap.size+1+1+1+1≠_;omega))
     .exact World.cell?_of_block (hsame _ (by omega) (by omega) (by omega))
    .exact (HI.out.bel.trans (hV.mono HI.out.bel.size)).trans (hbel _ (by omega) (by omega))
   have FINH:=Hd FIN;have cB:=hbox.one;have fB:U.frozen? ⟨w.heap.size+1+1,0,none⟩=false:=Boxed.frozen (t:=22) hbox;clear FIN hoth hbel hsz hacc' hrun hbox hacc;refine step_append_in rfl (.tmp 21) (.tmp 26) 22 rfl (by rfl) (by rfl) HRUN.out ?_;refine hK _ _ ?_;clear hK K;refine rdyI (i:=7) (by kernel_rfl) rfl (fun K hK=>?_);go_simp
   refine hK _ _ ?_;clear hK K;refine wpAnyIn_done (by kernel_rfl) ?_ _;exact FINH.out
  have S014:∀(V:World) (hV:Below W.heap.size W V) (A3:Option Addr) (c3:Nat) (es:List E4) (hQ:Vc V A3 c3 es (rs k)),G 3 #[true,true,true,true,true,false,false,false] (cm1 A A' c c' L1 L2 w ga gb (.slice A1 n1 m1) (.slice A2 n2 m2) (.slice A1 n1 m1) (.slice A2 n2 m2) (.slice (some ⟨w.heap.size+1,0,none⟩) k (max L1 L2)) (.func (.func 80) #[] #[.pointer (some ⟨ga,0,none⟩),.pointer (some ⟨gb,0,none⟩)]) (.slice A1 n1 m1) (.slice A2 n2 m2) (.slice A3 (rs k).length c3) undef) V:=by
   intro V hV A3 c3 es hQ;refine up ?_;unfold cm1;refine rdyI (i:=5) (by kernel_rfl) rfl (fun K hK=>?_);have bb:Below V.heap.size V (V.alloc (.cells #[.slice A3 (rs k).length c3] 38)):=bRR;go_simp
   refine hK _ _ ?_;exact dn (S0145 _ (Bxb hV bb) A3 c3 es (hQ.to bb) V.heap.size (Hp.new _ _ _))
  have S145:∀(V:World) (hV:Below W.heap.size W V) (A3:Option Addr) (c3:Nat) (es:List E4) (hQ:Vc V A3 c3 es (rs k)) (g5:Nat) (hG:Hp V g5 (.cells #[.slice A3 (rs k).length c3] 38 (0,0))),G 3 #[false,true,true,true,true,true,false,false] (cm1 A A' c c' L1 L2 w ga gb (.slice A1 n1 m1) (.slice A2 n2 m2) (.slice A1 n1 m1) (.slice A2 n2 m2) undef (.func (.func 80) #[] #[.pointer (some ⟨ga,0,none⟩),.pointer (some ⟨gb,0,none⟩)]) (.slice A1 n1 m1) (.slice A2 n2 m2) (.slice A3 (rs k).length c3) (.slice (some ⟨g5,0,none⟩) 1 1)) V:=by
   intro V hV A3 c3 es hQ g5 hG;refine up ?_;unfold cm1;refine rdyI (i:=0) (by kernel_rfl) rfl (fun K hK=>?_);have cc:=CA.out V hV;go_simp
   refine hK _ _ ?_;exact dn (S0145 V hV A3 c3 es hQ g5 hG)
  have S01:∀(V:World) (hV:Below W.heap.size W V),G 4 #[true,true,true,true,false,false,false,false] (cm1 A A' c c' L1 L2 w ga gb (.slice A1 n1 m1) (.slice A2 n2 m2) (.slice A1 n1 m1) (.slice A2 n2 m2) (.slice (some ⟨w.heap.size+1,0,none⟩) k (max L1 L2)) (.func (.func 80) #[] #[.pointer (some ⟨ga,0,none⟩),.pointer (some ⟨gb,0,none⟩)]) (.slice A1 n1 m1) (.slice A2 n2 m2) undef undef) V:=by
   intro V hV;refine up ?_;unfold cm1;refine rdyI (i:=4) (by kernel_rfl) rfl (fun K hK=>?_);go_simp
   gi_wp2_with (refine ⟨trivial,?_⟩;gi_at_call 80;refine (callsIn_wide.2 (HC.out V hV)).mono ?_;rintro e w' ⟨A3,c3,es,rfl,hQ,bb⟩)
   exact dn (S014 _ (Bxb hV bb) A3 c3 es hQ)
  have S14:∀(V:World) (hV:Below W.heap.size W V) (A3:Option Addr) (c3:Nat) (es:List E4) (hQ:Vc V A3 c3 es (rs k)),G 4 #[false,true,true,true,true,false,false,false] (cm1 A A' c c' L1 L2 w ga gb (.slice A1 n1 m1) (.slice A2 n2 m2) (.slice A1 n1 m1) (.slice A2 n2 m2) undef (.func (.func 80) #[] #[.pointer (some ⟨ga,0,none⟩),.pointer (some ⟨gb,0,none⟩)]) (.slice A1 n1 m1) (.slice A2 n2 m2) (.slice A3 (rs k).length c3) undef) V:=by
   intro V hV A3 c3 es hQ;refine up ?_;unfold cm1;refine wpAnyIn_ready (rs:=[0,5]) (by kernel_rfl) (by simp) (AllReadyIn.cons rfl (fun K hK=>?_) (AllReadyIn.cons rfl (fun K hK=>?_) AllReadyIn.nil))
   .have cc:=CA.out V hV;go_simp
    refine hK _ _ ?_;exact dn (S014 V hV A3 c3 es hQ)
   .have bb:Below V.heap.size V (V.alloc (.cells #[.slice A3 (rs k).length c3] 38)):=bRR;go_simp
    refine hK _ _ ?_;exact dn (S145 _ (Bxb hV bb) A3 c3 es (hQ.to bb) V.heap.size (Hp.new _ _ _))
  have S0:∀(V:World) (hV:Below W.heap.size W V),G 5 #[true,false,true,true,false,false,false,false] (cm1 A A' c c' L1 L2 w ga gb (.slice A1 n1 m1) (.slice A2 n2 m2) (.slice A1 n1 m1) (.slice A2 n2 m2) (.slice (some ⟨w.heap.size+1,0,none⟩) k (max L1 L2)) undef (.slice A1 n1 m1) (.slice A2 n2 m2) undef undef) V:=by
   intro V hV;refine up ?_;unfold cm1;refine rdyI (i:=1) (by kernel_rfl) rfl (fun K hK=>?_);have cc:=CF.out V hV;go_simp
   refine hK _ _ ?_;exact dn (S01 V hV)
  have S1:∀(V:World) (hV:Below W.heap.size W V),G 5 #[false,true,true,true,false,false,false,false] (cm1 A A' c c' L1 L2 w ga gb (.slice A1 n1 m1) (.slice A2 n2 m2) (.slice A1 n1 m1) (.slice A2 n2 m2) undef (.func (.func 80) #[] #[.pointer (some ⟨ga,0,none⟩),.pointer (some ⟨gb,0,none⟩)]) (.slice A1 n1 m1) (.slice A2 n2 m2) undef undef) V:=by
   intro V hV;refine up ?_;unfold cm1;refine wpAnyIn_ready (rs:=[0,4]) (by kernel_rfl) (by simp) (AllReadyIn.cons rfl (fun K hK=>?_) (AllReadyIn.cons rfl (fun K hK=>?_) AllReadyIn.nil))
   .have cc:=CA.out V hV;go_simp
    refine hK _ _ ?_;exact dn (S01 V hV)
   .go_simp
    gi_wp2_with (refine ⟨trivial,?_⟩;gi_at_call 80;refine (callsIn_wide.2 (HC.out V hV)).mono ?_;rintro e w' ⟨A3,c3,es,rfl,hQ,bb⟩)
    exact dn (S14 _ (Bxb hV bb) A3 c3 es hQ)
  have S:∀(V:World) (hV:Below W.heap.size W V),G 6 #[false,false,true,true,false,false,false,false] (cm1 A A' c c' L1 L2 w ga gb (.slice A1 n1 m1) (.slice A2 n2 m2) (.slice A1 n1 m1) (.slice A2 n2 m2) undef undef (.slice A1 n1 m1) (.slice A2 n2 m2) undef undef) V:=by
   intro V hV;refine up ?_;unfold cm1;refine wpAnyIn_ready (rs:=[0,1]) (by kernel_rfl) (by simp) (AllReadyIn.cons rfl (fun K hK=>?_) (AllReadyIn.cons rfl (fun K hK=>?_) AllReadyIn.nil))
   .have cc:=CA.out V hV;go_simp
    refine hK _ _ ?_;exact dn (S0 V hV)
   .have cc:=CF.out V hV;go_simp
    refine hK _ _ ?_;exact dn (S1 V hV)
  exact S _ (Below.refl _ _).drew
 case done =>
  rintro W hI hK;obtain ⟨fl,r1,r2,r3⟩:=hI.acc.row;have cA:=hI.acc.box.one;have HR:=Hd hI;clear r1 r2 r3 hI
  gi_wp2
  have hg:=grownBy_putObj' W W0.heap.size (.deferred none);have hgr:∀r,some W0.heap.size=some r->∃o:Obj,W.heap[r]?=some o/\o.isCells=false:=fun r e=>by cases e;exact ⟨_,hK,rfl⟩
  refine ⟨by simp,.inl ⟨_,_,rfl,run_takeDeferred hK,?_⟩⟩;obtain ⟨fl,r1,r2,r3⟩:=(HR.out.acc.grown hg hgr).row
  have ht:TotS (Vs rs) (W.putObj W0.heap.size (.deferred none)) (.slice (some ⟨w.heap.size+1,0,none⟩) (max L1 L2) (max L1 L2)) (max L1 L2) w.heap.size :=
   .inr ⟨w.heap.size+1,max L1 L2,fl,rfl,by omega,r1,r2,Nat.le_refl _,by have:=HN.out;omega,r3⟩
  exact ⟨_,results_tmp rfl _ _ _,_,_,rfl,ht.mc,HR.out.bel.grown hg HR.out.bel.size (fun k e=>by cases e;omega)⟩
 case stop=>exact fun _ _ _ _ h _=>h.elim
def cm2 (A A':Option Addr)(c c' L1 L2:Nat)(w:World)(V8 V9 X Y s21 s22 s23 s24 s25 s26:Value):Act :=
 ⟨#[.slice A L1 c,.slice A' L2 c',.func (.func 75) #[] #[],undef,undef,.pointer (some ⟨w.heap.size,0,none⟩),.slice none 0 0,.pointer (some ⟨w.heap.size+1+1,0,none⟩),V8,V9,.slice A L1 c,.int .i64 (L1:Int),.slice A' L2 c',.int .i64 (L2:Int),.int .i64 (max (L1:Int) (L2:Int)),.slice (some ⟨w.heap.size+1,0,none⟩) 0 (max L1 L2),.slice A L1 c,.slice A' L2 c',
  .func (.func 101) #[] #[.pointer (some ⟨w.heap.size+1+1+1,0,none⟩),.pointer (some ⟨w.heap.size+1+1+1+1,0,none⟩)],X,Y,s21,s22,s23,s24,s25,s26,undef,undef],[]⟩
end Go.Proofs.YtglhdielkkhefaaGreat

namespace Go.Proofs.YtglhdielkkhefaaGreat
open Go.RowKit Go.Shelf
theorem Vi.kw {W V:World}{A:Option Addr}{c k:Nat}{es:List E4}{rs:List Rat}(h:Vi W A c es rs k)(hb:Below W.heap.size W V)(kw:Kw W V):Vi V A c es rs k :=
 ⟨h.row.to hb,h.len,fun i=>kw.qi (h.el i),h.fq,h.cap,h.c63⟩
def putK (f:Nat->Rat)(rs:List Rat)(q k i:Nat):Rat:=if q<=i/\i<q+k then rs.getD (i-q) 0 else f i
theorem RowT.put {W:World}{g L j:Nat}{fl:List E4}{F:Nat->Rat}{r:Rat}(h1:Row W g fl)(h2:fl.length=L)(h3:∀i,i<L->Qc W (fl.getD i E4.z).a (fl.getD i E4.z).b (fl.getD i E4.z).c (fl.getD i E4.z).d (F i))(hj:j<L){e:E4}(he:e.fq)(hq:Qc W e.a e.b e.c e.d r) :
  RowT (W.setRow g (flat (fl.set j e)).toArray) g L (fun i=>if i=j then r else F i):=by
 have kw:Kw W (W.setRow g (flat (fl.set j e)).toArray):=h1.kw;refine ⟨fl.set j e,h1.app he,by simpa using h2,fun i hi=>?_⟩
 by_cases hij:i=j
 .subst hij;rw[show (fl.set i e).getD i E4.z=e from by simp[List.getD,show i<fl.length by omega]];dsimp only;rw[if_pos rfl];exact kw.qc hq
 .rw[show (fl.set j e).getD i E4.z=fl.getD i E4.z from by simp[List.getD,List.getElem?_set,Ne.symm hij]];dsimp only;rw[if_neg hij];exact kw.qc (h3 i hi)
theorem write_q {w:World}{g q n c L c' l:Nat}{A:Option Addr}{es:List E4}{rs:List Rat}{f:Nat->Rat}(hT:RowT w g L f)(hX:Rq w g A es)(hV:Vi w A c' es rs l)(hl:l<=10000)(hn:rs.length<=n)(hL:q+rs.length<=L)(hn63:n<=4398046511104) :
  Calls Tryz.prog 81 #[.slice (some ⟨g,q*4,none⟩) n c,.slice A rs.length c'] w fun e w'=>(∃v,e=.returned v)/\RowT w' g L (putK f rs q rs.length)/\Kw w w'/\Below g w w':=by
 have HX:=Hd hX;have HV:=Hd hV;have HLL:=Hd hl;have HTT:=Hd hT;obtain ⟨N,hN⟩:∃N,rs.length=N:=⟨_,rfl⟩
 have HE:Hid (es.length=N):=hV.len.trans hN;rw[hN]at hn hL ⊢;have HL:=Hd hL;have HN63:Hid (N<=4398046511104):=by show _<=_;omega
 have HNN:=Hd hn;have HN0:=Hd hN;clear hX hV hl hT hN hn hL hn63
 go_enter Tryz.func81,Tryz.ntmps81
 go_wp2
 go_loopw [8] (fun i wr=>∃k:Nat,i=.int .i64 k/\k<=N/\Hid (RowT wr g L (putK f rs q k))/\Kw w wr/\Below g w wr) (fun i _=>N-(intOf i).toNat)
 case atStart=>exact ⟨0,rfl,Nat.zero_le _,HTT.out.congr (fun i _=>by unfold putK;rw[if_neg (by omega)]),Kw.refl _,Below.refl _ _⟩
 case round =>
  obtain ⟨k,rfl,hk,hT,hw,hb⟩:=hrel
  by_cases hlt:k<N
  .have hk1:(0:Int)<=(k:Int):=by omega
   have hk2:(k:Int)<(N:Int):=by omega
   have hkn:(k:Int)<(n:Int):=by have:=HNN.out;omega
   have hk3:(k:Int)+1<=9223372036854775807:=by have:=HN63.out;omega
   have hke:k<es.length:=by rw[HE.out];exact hlt
   have hjL:q+k<L:=by have:=HL.out;omega
   obtain ⟨b,o,hA,hbo,g0,g1,g2,g3⟩:=HX.out k hke;have f0:=(hb.cell (p:=⟨b,o+k*4,none⟩) hbo).trans g0;have f1:=(hb.cell (p:=⟨b,o+k*4+1,none⟩) hbo).trans g1;have f2:=(hb.cell (p:=⟨b,o+k*4+2,none⟩) hbo).trans g2;have f3:=(hb.cell (p:=⟨b,o+k*4+3,none⟩) hbo).trans g3;have hqi:=hw.qi (HV.out.el k);rw[getD_at' hke]at hqi;have hf:=HV.out.fq _ (List.getElem_mem hke);generalize es[k]=E at f0 f1 f2 f3 hqi hf;obtain ⟨x1,x2,x3,x4⟩:=E;obtain ⟨⟨n1,A1,j1,m1,e5,e6⟩,⟨n2,A2,j2,m2,e7,e8⟩⟩:=hf;dsimp only at e5 e6 e7 e8 f0 f1 f2 f3 hqi;subst e5 e6 e7 e8;have hgl:g<wr.heap.size:=by obtain ⟨fl,h1,_⟩:=hT.out;exact h1.lt
   have hbw1:Below wr.heap.size wr (wr.alloc (.cells #[.bool n1,.slice A1 j1 m1,.bool n2,.slice A2 j2 m2] 32)):=bRR;have tX:=Four.new wr (.bool n1) (.slice A1 j1 m1) (.bool n2) (.slice A2 j2 m2) 32;have k0:=tX.c0;have k1:=tX.c1;have k2:=tX.c2;have k3:=tX.c3;obtain ⟨r,hr⟩:∃r,rs.getD k 0=r:=⟨_,rfl⟩
   rw[hr]at hqi;have HR:=Hd hr;have hT1:=hT.out.to hbw1;have hq1:=hqi.to hbw1;have HW:=Hd (hw.trans (Kw.of hbw1));have HB:=Hd (hb.trans (hbw1.mono (Nat.le_of_lt hgl)));obtain ⟨W1,hW1⟩:∃W1,W1=wr.alloc (.cells #[.bool n1,.slice A1 j1 m1,.bool n2,.slice A2 j2 m2] 32):=⟨_,rfl⟩
   have hgl1:g<W1.heap.size:=by rw[hW1];exact Nat.lt_of_lt_of_le hgl hbw1.size
   rw[<-hW1]at hT1 hq1 HW HB;have HT1:=Hd hT1;have HC:=Hd (canonical_q hq1 HLL.out);have HW1:=Hd hW1;have HLT:=Hd hlt;have HJL:=Hd hjL;have HGL:=Hd hgl1;clear g0 g1 g2 g3 hqi hT1 hq1 hr hW1 hlt hjL hgl hgl1 hbw1 hT hw hb hk hke hbo tX;subst hA;obtain ⟨gx,hgx⟩:∃gx,wr.heap.size=gx:=⟨_,rfl⟩
   go_wp2_with fail
   rw[<-HW1.out];refine HC.out.mono ?_;rintro e V ⟨y1,y2,y3,y4,rfl,qy,bb⟩;obtain ⟨fl,hrow,hfl,hqs⟩:=HT1.out.to bb;have HROW:=Hd hrow;have HJF:Hid (q+k<fl.length):=by show _<_;rw[hfl];exact HJL.out
   have QF:=Hd qy.fq
   have hTN:Hid (RowT (V.setRow g (flat (fl.set (q+k) ⟨y1,y2,y3,y4⟩)).toArray) g L (putK f rs q (k+1))):=(RowT.put hrow hfl hqs HJL.out (e:=⟨y1,y2,y3,y4⟩) qy.fq qy).congr fun i _=>by
    unfold putK
    by_cases hi:i=q+k
    .subst hi;rw[if_pos rfl,if_pos (by omega),Nat.add_sub_cancel_left,HR.out]
    .rw[if_neg hi];have e:(q<=i/\i<q+(k+1))=(q<=i/\i<q+k):=propext (by omega);simp only[e]
   have HWN:=Hd ((HW.out.trans (Kw.of bb)).trans (hrow.kw (cs:=(flat (fl.set (q+k) ⟨y1,y2,y3,y4⟩)).toArray)));have HBN:=Hd (below_setRow (HB.out.trans (bb.mono (Nat.le_of_lt HGL.out))) (Nat.le_refl g) (flat (fl.set (q+k) ⟨y1,y2,y3,y4⟩)).toArray);clear hrow hfl hqs qy bb HC HT1 HW HB HW1 k0 k1 k2 k3 f0 f1 f2 f3
   go_wp2_with (refine wpList_storeq (k:=q+k) (e:=⟨y1,y2,y3,y4⟩) rfl (.tmp 17) (.tmp 16) rfl (by rw[Nat.add_mul];rfl) (by rfl) HROW.out HJF.out QF.out ?_;clear HROW)
   go_roundw
   case rel=>exact ⟨k+1,by simp,HLT.out,hTN,HWN.out,HBN.out⟩
   case measure=>have:=HLT.out;simp[intOf];omega
  .obtain rfl:k=N:=by omega
   have HW:=Hd hw;have HB:=Hd hb;clear hw hb hlt hk;go_wp2
   go_end0
   exact ⟨⟨_,rfl⟩,hT.out,HW.out,HB.out⟩
def catF (xs ys:List Rat)(l i:Nat):Rat:=if i<l then xs.getD i 0 else ys.getD (i-l) 0
theorem cat1_m {w:World}{ga gb l r c c' m:Nat}{A A':Option Addr}{es fs:List E4}{xs ys:List Rat}(h1:w.cell? ⟨ga,0,none⟩=some (.int .i64 (l:Int)))(h2:w.cell? ⟨gb,0,none⟩=some (.int .i64 (r:Int)))(hX:Vi w A c es xs m)(hY:Vi w A' c' fs ys m)(hm:m<=10000)(hx:xs.length<=l)(hy:ys.length<=r)(hlr:l+r<=4398046511104) :
  Calls Tryz.prog 80 #[.slice A xs.length c,.slice A' ys.length c',.pointer (some ⟨ga,0,none⟩),.pointer (some ⟨gb,0,none⟩)] w (VR w (tab (l+r) (catF xs ys l))):=by
 obtain ⟨N,hN⟩:∃N,l+r=N:=⟨_,rfl⟩
 rw[hN]at hlr ⊢;have S1:IntKind.i64.wrap ((l:Int)+(r:Int))=(N:Int):=by rw[IntKind.wrap_i64];omega
 have HL:=Hd hlr;have l1:=World.block_lt_of_cell? w _ h1;have l2:=World.block_lt_of_cell? w _ h2;obtain ⟨W1,hW1⟩:∃W1,W1=w.alloc (.cells (flat (List.replicate N E4.z)).toArray 32):=⟨_,rfl⟩
 have hbw:Below w.heap.size w W1:=by rw[hW1];exact bRR
 have hT:RowT W1 w.heap.size N (fun _=>0):=by rw[hW1];exact RowT.new
 have q1:=(hbw.cell (p:=⟨ga,0,none⟩) l1).trans h1;have q2:=(hbw.cell (p:=⟨gb,0,none⟩) l2).trans h2;have F1:Hid (∀V,Below w.heap.size w V->V.cell? ⟨ga,0,none⟩=some (.int .i64 (l:Int))):=fun V hV=>(hV.cell (p:=⟨ga,_,none⟩) l1).trans h1
 have HWR:=Hd (write_q (q:=0) (n:=l) (c:=N) (c':=c) hT (hX.row.below hbw) (hX.to hbw) hm hx (by omega) (by omega));have HY:=Hd (fun (V:World) (hV:Below w.heap.size w V) (k:Kw w V) (hT:RowT V w.heap.size N (putK (fun _=>0) xs 0 xs.length))=>write_q (q:=l) (n:=N-l) (c:=N-l) (c':=c') hT (hY.row.below hV) (Vi.kw hY hV k) hm (by omega) (by omega) (by omega));have HY0:=Hd (fun (V:World) (hV:Below w.heap.size w V) (k:Kw w V) (hT:RowT V w.heap.size N (putK (fun _=>0) xs 0 xs.length)) (h0:ys.length=0)=>write_q (q:=0) (n:=0) (c:=0) (c':=c') hT (hY.row.below hV) (Vi.kw hY hV k) hm (by omega) (by omega) (by decide));have hlN:(l:Int)<=(N:Int):=by omega
 have hl0:(0:Int)<=(l:Int):=by omega
 have HXL:=Hd hx;have HYL:=Hd hy;have HN:=Hd hN;have HB:=Hd hbw;have HW1:=Hd hW1;have HKW:=Hd (Kw.of hbw);rw[hW1]at q1 q2;clear hN hlr hW1 hbw hT hX hY hx hy l1 l2 hm
 go_enter Tryz.func80,Tryz.ntmps80
 go_wp2_with (at_make;refine wpList_makeq _ rfl _ _ rfl N N rfl rfl rfl rfl (Nat.le_refl _) HL.out ?_)
 rw[<-HW1.out];clear q1 q2;refine HWR.out.mono ?_;rintro e V ⟨⟨v,rfl⟩,hT,hk,hb⟩;have hbV:=HB.out.trans hb;have q1:=F1.out V hbV;have HYV:=Hd (HY.out V hbV (HKW.out.trans hk) hT);have HY0V:=Hd (HY0.out V hbV (HKW.out.trans hk) hT);have HBV:=Hd hbV;clear hT hk hb hbV HY HY0 HWR HB HW1 HKW
 go_wp2_with fail
 case inl h =>
  subst h;have h0:ys.length=0:=by have:=HYL.out;have:=HN.out;omega
  refine (HY0V.out h0).mono ?_;rintro e V2 ⟨⟨v2,rfl⟩,hT,hk,hb⟩
  have HT2:Hid (RowT V2 w.heap.size N (catF xs ys N)):=hT.congr fun i hi=>by
   unfold putK catF;rw[h0,if_neg (by omega),if_pos hi]
   by_cases hx:i<xs.length
   .rw[if_pos (by omega),Nat.sub_zero]
   .rw[if_neg (by omega),getD_ge (l:=xs) (by omega)]
  have HB2:=Hd (HBV.out.trans hb);clear hT hk hb;go_wp2
  go_ret
  exact HT2.out.vr HL.out HB2.out
 case inr h =>
  refine HYV.out.mono ?_;rintro e V2 ⟨⟨v2,rfl⟩,hT,hk,hb⟩
  have HT2:Hid (RowT V2 w.heap.size N (catF xs ys l)):=hT.congr fun i hi=>by
   have hx:=HXL.out;unfold putK catF
   by_cases hi1:i<l
   .rw[if_neg (by omega),if_pos hi1]
    by_cases hx2:i<xs.length
    .rw[if_pos (by omega),Nat.sub_zero]
    .rw[if_neg (by omega),getD_ge (l:=xs) (by omega)]
   .rw[if_neg hi1]
    by_cases hy2:i<l+ys.length
    .rw[if_pos (by omega)]
    .rw[if_neg (by omega),if_neg (by omega),getD_ge (l:=ys) (by omega)]
  have HB2:=Hd (HBV.out.trans hb);clear hT hk hb;go_wp2
  go_ret
  exact HT2.out.vr HL.out HB2.out
def rowL (rs:Nat->List Rat)(N i:Nat):List Rat:=if i<N then rs i else []
theorem mi_vals {w:World}{P:Option Addr}{N C m:Nat}{rs:Nat->List Rat}(h:Mi w P N C rs m) :
  ∃vs:Nat->Value,Rw w w.heap.size P N vs/\(∀i,IsS (vs i))/\∀i,∃A c es,rvA N vs i=.slice A (rowL rs N i).length c/\Vi w A c es (rowL rs N i) m:=by
 have each:∀k,k<N->∃v:Value,(∃b o,P=some ⟨b,o,none⟩/\b<w.heap.size/\w.cell? ⟨b,o+k,none⟩=some v)/\∃A c es,v=.slice A (rs k).length c/\Vi w A c es (rs k) m:=fun k hk=>by
  obtain ⟨b,o,A,c,es,e,h1,h2,h3⟩:=h.row k hk;exact ⟨_,⟨b,o,e,h1,h2⟩,A,c,es,rfl,h3⟩
 obtain ⟨v0,hv⟩:=Go.Deep.choose_lt each;have e1:∀k,k<N->rvA N v0 k=v0 k:=fun k hk=>if_pos hk
 have e2:∀k,rvA N (rvA N v0) k=rvA N v0 k:=fun k=>by
  unfold rvA
  split
  .rfl
  .rfl
 have key:∀i,∃A c es,rvA N v0 i=.slice A (rowL rs N i).length c/\Vi w A c es (rowL rs N i) m:=fun i=>by
  unfold rowL
  by_cases hi:i<N
  .rw[e1 i hi,if_pos hi];exact (hv i hi).2
  .rw[if_neg hi,show rvA N v0 i=.slice none 0 0 from if_neg hi];exact ⟨none,0,[],rfl,Vi.nil w (by decide)⟩
 refine ⟨rvA N v0,fun k hk=>?_,fun i=>?_,fun i=>?_⟩
 .obtain ⟨b,o,e,h1,h2⟩:=(hv k hk).1;exact ⟨b,o,e,h1,by rw[e1 k hk];exact h2⟩
 .obtain ⟨A,c,es,e,_⟩:=key i;exact ⟨_,_,_,e⟩
 .rw[e2];exact key i
theorem rowL_le {rs:Nat->List Rat}{N M:Nat}(h:∀k,k<N->(rs k).length<=M)(i:Nat):(rowL rs N i).length<=M:=by
 unfold rowL
 split
 .rename_i hi;exact h i hi
 .exact Nat.zero_le _
theorem rowL_cols (rs:Nat->List Rat)(N i:Nat):(rowL rs N i).length<=colsN rs N:=rowL_le (fun _ hk=>colsN_ge rs hk) i
theorem cat_m {w:World}{P Q:Option Addr}{N C M D m:Nat}{rs ss:Nat->List Rat}(hM:Mi w P N C rs m)(hB:Mi w Q M D ss m)(hm:m<=10000)(hN:N<=4398046511104)(hMM:M<=4398046511104)(hr:∀k,k<N->(rs k).length<=1000000)(hs:∀k,k<M->(ss k).length<=1000000) :
  Calls Tryz.prog 35 #[.slice P N C,.slice Q M D] w (MR w (max N M) (fun i=>tab (colsN rs N+colsN ss M) (catF (rowL rs N i) (rowL ss M i) (colsN rs N)))):=by
 have hc1:colsN rs N<=1000000:=colsN_le hr;have hc2:colsN ss M<=1000000:=colsN_le hs;obtain ⟨vs,hx,qx,ax⟩:=mi_vals hM;obtain ⟨us,hy,qy,ay⟩:=mi_vals hB;have HA:=Hd (cols_m (C:=C) hM.rs (by omega) (fun k hk=>Nat.le_trans (hr k hk) (by decide)));have HBB:=Hd (fun (V:World) (hV:Below w.heap.size w V)=>cols_m (C:=D) (hB.to hV).rs (by omega) (fun k hk=>Nat.le_trans (hs k hk) (by decide)))
 have HF:=Hd (fun (V:World) (hV:Below w.heap.size w V) (g1 g2:Nat) (h1:Hp V g1 (.cells #[.int .i64 (colsN rs N:Nat)] 3 (0,0))) (h2:Hp V g2 (.cells #[.int .i64 (colsN ss M:Nat)] 3 (0,0))) =>
  comb_cat (rs:=fun i=>tab (colsN rs N+colsN ss M) (catF (rowL rs N i) (rowL ss M i) (colsN rs N))) (ga:=g1) (gb:=g2) (c:=C) (c':=D) (fun k hk=>by
   obtain ⟨b,o,e,h3,h4⟩:=hx.grow hV k hk
   exact ⟨b,o,e,Nat.lt_of_lt_of_le h3 hV.size,h4⟩) (fun k hk=>by
   obtain ⟨b,o,e,h3,h4⟩:=hy.grow hV k hk
   exact ⟨b,o,e,Nat.lt_of_lt_of_le h3 hV.size,h4⟩) qx qy hN hMM (fun U hU i hi=>by
   obtain ⟨A1,c1,es1,e1,v1⟩:=ax i;obtain ⟨A2,c2,es2,e2,v2⟩:=ay i;rw[e1,e2]
   exact cat1_m (h1.to hU).one (h2.to hU).one ((v1.to hV).to hU) ((v2.to hV).to hU) hm (rowL_cols rs N i) (rowL_cols ss M i) (by omega)))
 clear hM hB hm hN hMM hr hs hc1 hc2 hx hy qx qy ax ay
 go_enter Tryz.func35,Tryz.ntmps35
 go_wp2_with fail
 refine HA.out.mono ?_;rintro e V ⟨rfl,bb⟩;have HB:=Hd bb;clear bb HA
 go_wp2_with fail
 refine (HBB.out V HB.out).mono ?_;rintro e V ⟨rfl,bb⟩;replace HB:=Hxb HB bb;clear bb HBB;obtain ⟨W3,hW3⟩:∃W3,W3=(V.alloc (.cells #[.int .i64 (colsN rs N:Nat)] 3)).alloc (.cells #[.int .i64 (colsN ss M:Nat)] 3):=⟨_,rfl⟩
 have hb3:Below V.heap.size V W3:=by rw[hW3];exact bRR.alloc (by simp) _
 have h1:Hp W3 V.heap.size (.cells #[.int .i64 (colsN rs N:Nat)] 3 (0,0)):=by rw[hW3];exact (Hp.new _ _ _).alloc _
 have h2:Hp W3 (V.heap.size+1) (.cells #[.int .i64 (colsN ss M:Nat)] 3 (0,0)):=by
  have h:=Hp.new (V.alloc (.cells #[.int .i64 (colsN rs N:Nat)] 3)) #[.int .i64 (colsN ss M:Nat)] 3;rw[szA]at h;rw[hW3];exact h
 have HFV:=Hd (HF.out W3 (HB.out.trans (hb3.mono HB.out.size)) _ _ h1 h2);have HB3:=Hxb HB hb3;have HW3:=Hd hW3;clear HF hb3 h1 h2 hW3
 go_wp2_with fail
 rw[<-HW3.out];clear HW3;refine HFV.out.mono ?_;rintro e X ⟨P2,C2,rfl,hm2,b2⟩;have HE:=Hxb HB3 b2;clear b2;go_wp2
 go_ret
 exact ⟨P2,C2,rfl,hm2,HE.out⟩
theorem rowAt_l {w:World}{P:Option Addr}{N C m i:Nat}{rs:Nat->List Rat}(hM:Mi w P N C rs m) :
  Calls Tryz.prog 53 #[.slice P N C,.int .i64 (i:Int)] w fun e w'=>∃A c es,e=.returned (.slice A (rowL rs N i).length c)/\Vi w' A c es (rowL rs N i) m/\Below w.heap.size w w':=by
 obtain ⟨vs,h1,h2,h3⟩:=mi_vals hM;refine (rowAt_v h1 h2 hM.n63).mono ?_;rintro e w' ⟨rfl,hb⟩;obtain ⟨A,c,es,e,hv⟩:=h3 i;exact ⟨A,c,es,by rw[e],hv.to hb,hb⟩
theorem resize1_m {w:World}{g1 g2 i:Nat}{P:Option Addr}{N C m L:Nat}{rs:Nat->List Rat}(h1:w.cell? ⟨g1,0,none⟩=some (.slice P N C))(h2:w.cell? ⟨g2,0,none⟩=some (.int .i64 (L:Int)))(hM:Mi w P N C rs m)(hm:m<=10000)(hr:∀i,i<N->(rs i).length<=4398046511104)(hL:L<=1024) :
  Calls Tryz.prog 61 #[.int .i64 (i:Int),.pointer (some ⟨g1,0,none⟩),.pointer (some ⟨g2,0,none⟩)] w (VR w (fitQ (rowL rs N i) (L:Int))):=by
 have l1:=World.block_lt_of_cell? w _ h1;have l2:=World.block_lt_of_cell? w _ h2;have hrl:=rowL_le hr i;obtain ⟨r,hr0⟩:∃r,rowL rs N i=r:=⟨_,rfl⟩
 have F1:Hid (∀V,Below w.heap.size w V->V.cell? ⟨g1,0,none⟩=some (.slice P N C)):=fun V hV=>(hV.cell (p:=⟨g1,_,none⟩) l1).trans h1
 have F2:Hid (∀V,Below w.heap.size w V->V.cell? ⟨g2,0,none⟩=some (.int .i64 (L:Int))):=fun V hV=>(hV.cell (p:=⟨g2,_,none⟩) l2).trans h2
 have HA:=Hd (fun (V:World) (hV:Below w.heap.size w V)=>rowAt_l (i:=i) (hM.to hV));rw[hr0]at HA hrl ⊢;have HR:=Hd (fun (V:World) (A:Option Addr) (c:Nat) (es:List E4) (hv:Vi V A c es r m)=>vresize_v (n:=(L:Int)) hv hm hrl (by omega));clear h1 h2 hM hm hr hL l1 l2 hrl hr0
 go_enter Tryz.func61,Tryz.ntmps61
 go_wp2_with fail
 refine wp_region_plan (S:=fun w'=>Below w.heap.size w w') [(0,true),(1,true),(3,true),(2,false),(4,false),(5,true)] (by kernel_rfl) (by kernel_rfl) (Below.refl w.heap.size w).drew ?_;have hb:=(Below.refl w.heap.size w).drew;refine plan_take (v:=?_) rfl (by rfl) ?_ ?_;rotate_left;(focus (intro w' hS;have k1:=F1.out w' hS;go_simp;try with_reducible rfl));simp only[Act.put,pqA,pqB,pqC];refine plan_take (v:=?_) rfl (by rfl) ?_ ?_;rotate_left;(focus (intro w' _;go_simp;try with_reducible rfl));simp only[Act.put,pqA,pqB,pqC];refine plan_take (v:=?_) rfl (by rfl) ?_ ?_;rotate_left;(focus (intro w' hS;have k1:=F2.out w' hS;go_simp;try with_reducible rfl));simp only[Act.put,pqA,pqB,pqC];refine plan_call rfl (by rfl) (fun K hK=>?_);go_simp
 refine (HA.out _ hb).mono ?_;rintro e V ⟨A2,c2,es2,rfl,hv,bb⟩;replace hb:=Bxb hb bb;refine hK.out _ _ hb ?_;clear hK K bb;refine plan_call rfl (by rfl) (fun K hK=>?_);go_simp
 refine (HR.out _ _ _ _ hv).mono ?_;rintro e V ⟨A3,c3,es3,rfl,hv2,bb⟩;replace hb:=Bxb hb bb;refine hK.out _ _ hb ?_;clear hK K bb;refine plan_take (v:=?_) rfl (by rfl) ?_ ?_;rotate_left;(focus (intro w' _;go_simp;try with_reducible rfl));simp only[Act.put,pqA,pqB,pqC];refine plan_done ?_;have HE:=Hd hb;have HV:=Hd hv2;clear hb hv2 F1 F2 HA HR;go_wp2
 go_ret
 exact ⟨A3,c3,es3,rfl,HV.out,HE.out⟩
theorem resize_m {w:World}{P:Option Addr}{N C m R L:Nat}{rs:Nat->List Rat}{n1 n2:Int}(hM:Mi w P N C rs m)(hm:m<=10000)(hr:∀i,i<N->(rs i).length<=4398046511104)(h1:min (max n1 0) 1024=(R:Int))(h2:min (max n2 0) 1024=(L:Int)) :
  Calls Tryz.prog 21 #[.slice P N C,.int .i64 n1,.int .i64 n2] w (MR w R (fun i=>fitQ (rowL rs N i) (L:Int))):=by
 have hR:R<=1024:=by omega
 have hL:L<=1024:=by omega
 obtain ⟨W0,hW0⟩:∃W0,W0=w.alloc (.cells #[.slice P N C] 22):=⟨_,rfl⟩
 have hbw:Below w.heap.size w W0:=by rw[hW0];exact bRR
 have hp:Hp W0 w.heap.size (.cells #[.slice P N C] 22 (0,0)):=by rw[hW0];exact Hp.new _ _ _
 have HC:=Hd (allowed_z (w:=W0) h2);have HD:=Hd (fun (V:World)=>allowed_z (w:=V) h1);have HF:=Hd (fun (V:World) (g:Nat) (hV:Below W0.heap.size W0 V) (hg:Hp V g (.cells #[.int .i64 (L:Int)] 3 (0,0)))=>fill_m (w:=V) (N:=R) (F:=61) (caps:=#[.pointer (some ⟨w.heap.size,0,none⟩),.pointer (some ⟨g,0,none⟩)]) (rs:=fun i=>fitQ (rowL rs N i) (L:Int)) (by omega) (callf_enter Tryz.func61 (by kernel_rfl) (by kernel_rfl)) (fun U hU i hi=>resize1_m ((hp.to hV).to hU).one (hg.to hU).one (((hM.to hbw).to hV).to hU) hm hr hL));have HW0:=Hd hW0;have HB:=Hd hbw;clear h1 h2 hR hL hM hm hr hp hW0 hbw
 go_enter Tryz.func21,Tryz.ntmps21
 go_wp2_with fail
 rw[<-HW0.out];clear HW0;refine HC.out.mono ?_;rintro e V ⟨rfl,bb⟩;have h3:=Hp.new V #[.int .i64 (L:Int)] 3;have bb1:Below V.heap.size V (V.alloc (.cells #[.int .i64 (L:Int)] 3)):=bRR;have HX:=Hd (Bxb bb bb1);have H3:=Hd h3;clear bb bb1 h3 HC
 go_wp2_with fail
 refine (HD.out _).mono ?_;rintro e X ⟨rfl,b2⟩;have hX2:=HX.out.trans (b2.mono HX.out.size);have HFV:=Hd (HF.out X V.heap.size hX2 (H3.out.to b2));have HB2:=Hxb HB hX2;clear HF HD H3 HX b2 hX2
 go_wp2_with fail
 refine HFV.out.mono ?_;rintro e Y ⟨P2,C2,rfl,hm2,b3⟩;have HE:=Hxb HB2 b3;clear b3;go_wp2
 go_ret
 exact ⟨P2,C2,rfl,hm2,HE.out⟩
theorem pappL {P:World->Nat->E4->Prop}(hP:∀{W V:World} {i:Nat} {e:E4},Kw W V->P W i e->P V i e){W:World}{v:Value}{n:Nat}{B:Nat}(h:TotP P W v n B)(hB:B<=W.heap.size)(hl:n+1<=2000000){e:E4}(he:e.fq)(hq:P W n e){a:Addr}{c:Nat}
  (h0:W.cell? (a.add 0)=some e.a) (h1:W.cell? (a.add 1)=some e.b) (h2:W.cell? (a.add 2)=some e.c) (h3:W.cell? (a.add 3)=some e.d) (ty:TypeId) :
  ∃v' W',(Builtin.append_ #[38,38] ty #[v,.slice (some a) 1 c]).run Tryz.prog W=.ok v' W'/\TotP P W' v' (n+1) B/\Below B W W':=by
 obtain ⟨i0,hi,hz0,hz1,hz2⟩:=info_parts infoQ
 have hnews:∀j u,[e.a,e.b,e.c,e.d][j]?=some u->W.cell? (a.add j)=some u:=fun j u hj=>by
  match j,hj with
  | 0,hj=>simp at hj;subst hj;exact h0
  | 1,hj=>simp at hj;subst hj;exact h1
  | 2,hj=>simp at hj;subst hj;exact h2
  | 3,hj=>simp at hj;subst hj;exact h3
 have last:∀(es:List E4) (k:Nat),es.length=n->∀i,n+1<=i->(es++e::List.replicate k E4.z).getD i E4.z=E4.z:=fun es k hes i hi=>by
  rw[show es++e::List.replicate k E4.z=(es++[e])++List.replicate k E4.z from by simp];simp only[List.getD,List.getElem?_append,List.length_append,List.length_cons,List.length_nil,hes,Nat.zero_add,show ¬i<n+1 by omega,if_false,List.getElem?_replicate]
  split<;>rfl
 have here:∀(es:List E4) (k:Nat),es.length=n->(es++e::List.replicate k E4.z).getD n E4.z=e:=fun es k hes=>by
  simp[List.getD,List.getElem?_append,hes]
 rcases h with ⟨rfl,rfl⟩|⟨g,cap,fl,rfl,hg,hr,rfl,hn,hc,hqs,hz⟩
 .have hrun:=run_append_nil (P:=Tryz.prog) (w:=W) 38 ty 32 i0 _ Tryz.underlying38 hi hz0 a 1 c [e.a,e.b,e.c,e.d] (by rw[hz1];rfl) hnews (by decide) (by decide) (by rw[hz2];decide);have hge:=grownCap_ge W 1 0 32;have hle:=grownCap_le_maxLen W 1 0 32 (by unfold maxLen;omega);unfold maxLen at hle;obtain ⟨C,hC⟩:∃C,grownCap W 1 0 32=C:=⟨_,rfl⟩
  rw[hC]at hrun hge hle;obtain ⟨g1,g2,g3⟩:=grown_row (W:=W.drew) (n:=0) (C:=C) (es:=[]) he (fun x hx=>by cases hx) rfl hge
  have hrun':(Builtin.append_ #[38,38] ty #[.slice none 0 0,.slice (some a) 1 c]).run Tryz.prog W=.ok (.slice (some ⟨W.heap.size,0,none⟩) 1 C) (W.drew.alloc (.cells (flat ([]++e::List.replicate (C-(0+1)) E4.z)).toArray 32)):=by
   rw[g1];exact hrun
  have hbb:Below W.heap.size W (W.drew.alloc (.cells (flat ([]++e::List.replicate (C-(0+1)) E4.z)).toArray 32)):=((Below.refl _ W).drew).alloc (Nat.le_refl _) _;refine ⟨_,_,hrun',?_,hbb.mono hB⟩
  have ht:=tot_rowp (P:=P) (n:=1) (B:=B) (g:=W.heap.size) hB g2 (by rw[g3];exact hge) (by rw[g3];omega) (fun i hi=>by
   obtain rfl:i=0:=by omega
   rw[here [] _ rfl]
   exact hP (Kw.of hbb) hq) (fun i hi=>last [] _ rfl i hi)
  rw[g3]at ht;exact ht
 .by_cases hroom:n<fl.length
  .refine ⟨_,_,append_q hr hroom he h0 h1 h2 h3 (c:=c) ty,?_,below_setRow (Below.refl _ _) hg _⟩;have kw:Kw W (W.setRow g (flat (fl.set n e)).toArray):=hr.kw
   have ht:=tot_rowp (P:=P) (n:=n+1) (B:=B) hg (hr.app (n:=n) he) (by rw[List.length_set];omega) (by rw[List.length_set];exact hc) (fun i hi=>by
    by_cases hin:i=n
    .subst hin;rw[show (fl.set i e).getD i E4.z=e from by simp[List.getD,hroom]];exact hP kw hq
    .rw[show (fl.set n e).getD i E4.z=fl.getD i E4.z from by simp[List.getD,List.getElem?_set,Ne.symm hin]]
     exact hP kw (hqs i (by omega))) (fun i hi=>by
    rw[show (fl.set n e).getD i E4.z=fl.getD i E4.z from by simp[List.getD,List.getElem?_set,show n≠i by omega]]
    exact hz i (by omega))
   rwa [List.length_set]at ht
  .obtain rfl:n=fl.length:=by omega
   have holds:∀j u,(flat fl)[j]?=some u->W.cell? ((⟨g,0,none⟩:Addr).add j)=some u:=fun j u hj=>by
    unfold Addr.add
    by_cases hj0:j=0
    .subst hj0;simpa [World.cell?,hr.heap]using hj
    .simpa [hj0,World.cell?,hr.heap]using hj
   have hrun:=run_append_grow (P:=Tryz.prog) (w:=W) 38 ty 32 i0 _ Tryz.underlying38 hi hz0 ⟨g,0,none⟩ fl.length fl.length (flat fl) (by rw[hz1,flat_length]) holds a 1 c [e.a,e.b,e.c,e.d] (by rw[hz1];rfl) hnews (by omega) (by omega)
    (by rw[hz2];exact growslice_fits (by omega) (by omega))
   have hge:=grownCap_ge W (fl.length+1) fl.length 32;have hle:=grownCap_le_maxLen W (fl.length+1) fl.length 32 (by unfold maxLen;omega);unfold maxLen at hle;obtain ⟨C,hC⟩:∃C,grownCap W (fl.length+1) fl.length 32=C:=⟨_,rfl⟩
   rw[hC]at hrun hge hle;obtain ⟨g1,g2,g3⟩:=grown_row (W:=W.drew) (n:=fl.length) (C:=C) (es:=fl) he hr.fq rfl hge
   have hrun':(Builtin.append_ #[38,38] ty #[.slice (some ⟨g,0,none⟩) fl.length fl.length,.slice (some a) 1 c]).run Tryz.prog W=.ok (.slice (some ⟨W.heap.size,0,none⟩) (fl.length+1) C) (W.drew.alloc (.cells (flat (fl++e::List.replicate (C-(fl.length+1)) E4.z)).toArray 32)):=by
    rw[g1,show (flat fl++[e.a,e.b,e.c,e.d]).toArray=(flat fl).toArray++[e.a,e.b,e.c,e.d].toArray from by simp];exact hrun
   have hbb:Below W.heap.size W (W.drew.alloc (.cells (flat (fl++e::List.replicate (C-(fl.length+1)) E4.z)).toArray 32)):=((Below.refl _ W).drew).alloc (Nat.le_refl _) _;refine ⟨_,_,hrun',?_,hbb.mono hB⟩
   have ht:=tot_rowp (P:=P) (n:=fl.length+1) (B:=B) (g:=W.heap.size) hB g2 (by rw[g3];exact hge) (by rw[g3];omega) (fun i hi=>by
    by_cases hin:i=fl.length
    .subst hin;rw[here fl _ rfl];exact hP (Kw.of hbb) hq
    .rw[show (fl++e::List.replicate (C-(fl.length+1)) E4.z).getD i E4.z=fl.getD i E4.z from by simp[List.getD,List.getElem?_append,show i<fl.length by omega]]
     exact hP (Kw.of hbb) (hqs i (by omega))) (fun i hi=>last fl _ rfl i hi)
   rw[g3]at ht;exact ht
theorem qappL {W:World}{v:Value}{n:Nat}{f:Nat->Rat}{B:Nat}(h:TotV W v n f B)(hB:B<=W.heap.size)(hl:n+1<=2000000){e:E4}(he:e.fq)(hq:Qc W e.a e.b e.c e.d (f n)){a:Addr}{c:Nat}
  (h0:W.cell? (a.add 0)=some e.a) (h1:W.cell? (a.add 1)=some e.b) (h2:W.cell? (a.add 2)=some e.c) (h3:W.cell? (a.add 3)=some e.d) (ty:TypeId) :
  ∃v' W',(Builtin.append_ #[38,38] ty #[v,.slice (some a) 1 c]).run Tryz.prog W=.ok v' W'/\TotV W' v' (n+1) f B/\Below B W W' :=
 pappL (P:=fun W i e=>Qc W e.a e.b e.c e.d (f i)) (fun k h=>k.qc h) h hB hl he hq h0 h1 h2 h3 ty
theorem rintsL_v {w:World}{A:Option Addr}{c:Nat}{ns:List Int}(h:Rn w A ns)(hn:∀n∈ns,-9223372036854775808<=n/\n<=9223372036854775807)(hl:ns.length+1<=2000000) :
  Calls Tryz.prog 50 #[.slice A ns.length c] w (VR w (ratsOf ns)):=by
 have H:=Hd h;have HN:=Hd hn;have HL:=Hd hl;obtain ⟨f,hf⟩:∃f:Nat->Rat,Hid (f=fun i=>(ratsOf ns).getD i 0):=⟨_,rfl⟩
 obtain ⟨N,hN⟩:∃N,ns.length=N:=⟨_,rfl⟩
 have HNN:=Hd hN;rw[hN]at hl HL ⊢;clear h hn hN
 go_enter Tryz.func50,Tryz.ntmps50
 go_wp2
 go_loopw [3,4] (fun v i wr=>∃(k:Nat) (A1:Option Addr) (c1:Nat),v=.slice A1 k c1/\i=.int .i64 k/\k<=N/\Hid (TotV wr (.slice A1 k c1) k f w.heap.size)/\Below w.heap.size w wr) (fun _ i _=>N-(intOf i).toNat)
 case atStart=>exact ⟨0,none,0,rfl,rfl,Nat.zero_le _,.inl ⟨rfl,rfl⟩,Below.refl _ _⟩
 case round =>
  obtain ⟨k,A1,c1,rfl,rfl,hk,hT,hb⟩:=hrel
  by_cases hlt:k<N
  .have hk1:(0:Int)<=(k:Int):=by omega
   have hk2:(k:Int)<(N:Int):=by omega
   have hk3:(k:Int)+1<=9223372036854775807:=by omega
   have hkn:k<ns.length:=by have:=HNN.out;omega
   obtain ⟨b,o,rfl,hc⟩:=H.out k hkn;have hbn:=HN.out _ (List.getElem_mem hkn);have hfk:Hid (f k=((ns[k]:Int):Rat)):=by show _=_;rw[hf.out];simp[ratsOf,List.getD,hkn]
   have cc:=(hb.cell (p:=⟨b,o+k,none⟩) (World.block_lt_of_cell? w _ hc)).trans hc;generalize ns[k]=n at hbn hfk cc;have HB:=Hd hb;have HLT:=Hd hlt;have HBN:=Hd hbn;clear hc hb hkn hbn hlt
   go_wp2_with fail
   refine (rint_q n HBN.out.1 HBN.out.2 wr).mono ?_;rintro e V ⟨x1,x2,x3,x4,rfl,q,bb⟩;have bb2:Below V.heap.size V (V.alloc (.cells #[x1,x2,x3,x4] 32)):=bRR;have c5:=(Hp.new V #[x1,x2,x3,x4] 32).four;have hB1:=HB.out.trans (bb.mono HB.out.size);have hB2:=Bxb hB1 bb2;obtain ⟨v',X,hrun,hT2,hbel⟩:=qappL ((hT.out.to bb).to bb2) hB2.size (by have:=HL.out;have:=HLT.out;omega) (e:=⟨x1,x2,x3,x4⟩) q.fq (by rw[hfk.out];exact q.to bb2) (a:=⟨V.heap.size,0,none⟩) (c:=1) c5.c0 c5.c1 c5.c2 c5.c3 38;obtain ⟨A2,c2,rfl⟩:=hT2.sl;have HRUN:=Hd hrun;have HE:Hid (TotV X (.slice A2 (k+1) c2) (k+1) f w.heap.size/\Below w.heap.size w X):=⟨hT2,hB2.trans hbel⟩
   clear bb2 c5 hbel hrun bb q hT2 hB1 hB2
   go_wp2_with (at_builtin;refine wpList_append_run rfl (.tmp 11) (.tmp 17) 38 rfl (by rfl) (by rfl) HRUN.out ?_;clear HRUN)
   go_roundw
   case rel=>exact ⟨k+1,A2,c2,rfl,by simp,HLT.out,HE.out.1,HE.out.2⟩
   case measure=>have:=HLT.out;simp[intOf];omega
  .obtain rfl:k=N:=by omega
   have HT:=hT;have HB:=Hd hb;clear hT hb hlt;go_wp2
   go_ret
   have h1:=HT.out;have h2:(ratsOf ns).length=k:=by rw[ratsOf_length,HNN.out]
   rw[hf.out]at h1;subst h2;exact h1.vr (by have:=HL.out;omega) HB.out
structure ImL (W:World)(P:Option Addr)(N:Nat)(ns:Nat->List Int):Prop where
 row:∀k,k<N->∃b o A c,P=some ⟨b,o,none⟩/\b<W.heap.size/\W.cell? ⟨b,o+k,none⟩=some (.slice A (ns k).length c)/\Rn W A (ns k)
 bd:∀k,k<N->∀n∈ns k,-9223372036854775808<=n/\n<=9223372036854775807
 le:∀k,k<N->(ns k).length+1<=2000000
theorem ImL.to {W V:World}{P:Option Addr}{N:Nat}{ns:Nat->List Int}(h:ImL W P N ns)(hb:Below W.heap.size W V):ImL V P N ns :=
 ⟨fun k hk=>by
  obtain ⟨b,o,A,c,e,h1,h2,h3⟩:=h.row k hk
  exact ⟨b,o,A,c,e,Nat.lt_of_lt_of_le h1 hb.size,(hb.cell (p:=⟨b,_,none⟩) h1).trans h2,h3.go hb⟩,h.bd,h.le⟩
theorem rints4L_m {w:World}{P:Option Addr}{N C:Nat}{ns:Nat->List Int}(h:ImL w P N ns)(hl:N+1<=1000000) :
  Calls Tryz.prog 42 #[.slice P N C] w (MR w N (fun k=>ratsOf (ns k))):=by
 have HL:=Hd hl;have HI:=Hd (fun (V:World) (hV:Below w.heap.size w V) k (hk:k<N) {A:Option Addr} {c:Nat} (hA:Rn V A (ns k))=>rintsL_v (c:=c) hA (h.bd k hk) (h.le k hk));have HR:=Hd (fun (V:World) (hV:Below w.heap.size w V)=>(h.to hV).row);obtain ⟨rs,hrs⟩:∃rs:Nat->List Rat,rs=fun k=>ratsOf (ns k):=⟨_,rfl⟩
 have hrk:∀k,ratsOf (ns k)=rs k:=fun k=>by rw[hrs]
 simp only[hrk]at HI;rw[<-hrs];have HRL:Hid (∀k,(rs k).length=(ns k).length):=fun k=>by rw[<-hrk,ratsOf_length]
 clear h hrs hrk
 go_enter Tryz.func42,Tryz.ntmps42
 go_wp2
 go_loopw [3,4] (fun v i wr=>∃(k:Nat) (A1:Option Addr) (c1:Nat),v=.slice A1 k c1/\i=.int .i64 k/\k<=N/\Hid (TotS (Vs rs) wr (.slice A1 k c1) k w.heap.size)/\Below w.heap.size w wr) (fun _ i _=>N-(intOf i).toNat)
 case atStart=>exact ⟨0,none,0,rfl,rfl,Nat.zero_le _,.inl ⟨rfl,rfl⟩,Below.refl _ _⟩
 case round =>
  obtain ⟨k,A1,c1,rfl,rfl,hk,hT,hb⟩:=hrel
  by_cases hlt:k<N
  .have hk1:(0:Int)<=(k:Int):=by omega
   have hk2:(k:Int)<(N:Int):=by omega
   have hk3:(k:Int)+1<=9223372036854775807:=by have:=HL.out;omega
   obtain ⟨b,o,A,c,rfl,hb1,cc,hA⟩:=HR.out wr hb k hlt;have HC:=Hd (HI.out wr hb k hlt (c:=c) hA);clear hA hb1;have HB:=Hd hb;have HLT:=Hd hlt;clear hb hlt hk
   go_wp2_with fail
   refine (HC.out).mono ?_;rintro e V ⟨A2,c2,fl2,rfl,hv,bb⟩;have bb2:Below V.heap.size V (V.alloc (.cells #[.slice A2 (rs k).length c2] 38)):=bRR;have c5:=(Hp.new V #[.slice A2 (rs k).length c2] 38).one;have hB1:=HB.out.trans (bb.mono HB.out.size);have hB2:=Bxb hB1 bb2;obtain ⟨v',X,hrun,hT2,hbel⟩:=sapp (Vs.kept rs) ((hT.out.mv (Vs.kept rs) bb).mv (Vs.kept rs) bb2) hB2.size (by have:=HL.out;have:=HLT.out;omega) ⟨_,_,_,rfl⟩ ⟨A2,c2,fl2,rfl,hv.to bb2⟩ (a:=⟨V.heap.size,0,none⟩) (c:=1) c5 22;obtain ⟨A3,c3,rfl⟩:=hT2.sl;have HRUN:=Hd hrun;have HE:Hid (TotS (Vs rs) X (.slice A3 (k+1) c3) (k+1) w.heap.size/\Below w.heap.size w X):=⟨hT2,hB2.trans hbel⟩
   clear bb2 c5 hbel hrun bb hv hT2 hB1 hB2
   go_wp2_with (at_builtin;refine wpList_append_run rfl (.tmp 11) (.tmp 17) 22 rfl (by rfl) (by rfl) HRUN.out ?_;clear HRUN)
   go_roundw
   case rel=>exact ⟨k+1,A3,c3,rfl,by simp,HLT.out,HE.out.1,HE.out.2⟩
   case measure=>have:=HLT.out;simp[intOf];omega
  .obtain rfl:k=N:=by omega
   have HT:=hT;have HB:=Hd hb;clear hT hb hlt hk;go_wp2
   go_ret
   exact ⟨A1,c1,rfl,HT.out.mc,HB.out⟩
theorem fromInts1_m {w:World}{g i:Nat}{P:Option Addr}{N C:Nat}{ns:Nat->List Int}(hg:w.cell? ⟨g,0,none⟩=some (.slice P N C))(hI:ImL w P N ns)(hi:i<N)(hN:N<=1000000) :
  Calls Tryz.prog 85 #[.int .i64 (i:Int),.pointer (some ⟨g,0,none⟩)] w (VR w (ratsOf (ns i))):=by
 obtain ⟨b,o,A,c,rfl,hb1,cc,hA⟩:=hI.row i hi;have HC:=Hd (ints_v (c:=c) hA (hI.bd i hi) (by have:=hI.le i hi;omega));have hi1:(0:Int)<=(i:Int):=by omega
 have hi2:(i:Int)<(N:Int):=by omega
 obtain ⟨L,hL⟩:∃L,(ns i).length=L:=⟨_,rfl⟩
 rw[hL]at cc HC;obtain ⟨rs,hrs⟩:∃rs,ratsOf (ns i)=rs:=⟨_,rfl⟩
 rw[hrs]at HC ⊢;clear hI hi hN hA hb1 hL hrs
 go_enter Tryz.func85,Tryz.ntmps85
 go_wp2_with fail
 refine HC.out.mono ?_;rintro e V ⟨A1,c1,fl,rfl,hv,bb⟩;have HB:=Hd bb;have HV:=Hd hv;clear bb hv hg cc;go_wp2
 go_ret
 exact ⟨A1,c1,fl,rfl,HV.out,HB.out⟩
theorem fromInts_m {w:World}{P:Option Addr}{N C:Nat}{ns:Nat->List Int}(hI:ImL w P N ns)(hN:N+1<=1000000) :
  Calls Tryz.prog 43 #[.slice P N C] w (MR w N (fun i=>ratsOf (ns i))):=by
 obtain ⟨W0,hW0⟩:∃W0,W0=w.alloc (.cells #[.slice P N C] 47):=⟨_,rfl⟩
 have hbw:Below w.heap.size w W0:=by rw[hW0];exact bRR
 have hp:Hp W0 w.heap.size (.cells #[.slice P N C] 47 (0,0)):=by rw[hW0];exact Hp.new _ _ _
 have HF:=Hd (fill_m (w:=W0) (N:=N) (F:=85) (caps:=#[.pointer (some ⟨w.heap.size,0,none⟩)]) (rs:=fun i=>ratsOf (ns i)) hN (callf_enter Tryz.func85 (by kernel_rfl) (by kernel_rfl)) (fun U hU i hi=>fromInts1_m (hp.to hU).one ((hI.to hbw).to hU) hi (by omega)));have q0:=hp.one;have HB:=Hd hbw;have HW0:=Hd hW0;rw[hW0]at q0;clear hI hN hp hW0 hbw
 go_enter Tryz.func43,Tryz.ntmps43
 go_wp2_with fail
 rw[<-HW0.out];clear HW0;refine HF.out.mono ?_;rintro e X ⟨P2,C2,rfl,hm2,b2⟩;have HE:=Hxb HB b2;clear b2 q0 HF;go_wp2
 go_ret
 exact ⟨P2,C2,rfl,hm2,HE.out⟩
end Go.Proofs.YtglhdielkkhefaaGreat
