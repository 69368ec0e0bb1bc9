/- Parts: 7. -/
import Derived.Test.YtglhdielkkhefaaGreatMt17
import Derived.Test.YtglhdielkkhefaaGreatMt18
import Derived.Test.YtglhdielkkhefaaGreatMt19
import Derived.Test.YtglhdielkkhefaaGreatMt20
import Derived.Test.YtglhdielkkhefaaGreatMt23
import Derived.Deep.Slices
set_option linter.unusedVariables false
set_option linter.unusedSimpArgs false
set_option maxRecDepth 100000
set_option maxHeartbeats 40000000

namespace Go.Proofs.YtglhdielkkhefaaGreat
open Go.RowKit Go.Shelf
attribute [local go_sem] Oper.semAt_some
theorem wpListIn_makes {F:Fence}{n:Nat}(w:World){ops:Array Oper}{rest:List Oper}{o:Oper}{a:Act}{Q:Exit->Act->World->Prop}
  (hg:o.guard=none) (l c:Operand) (hop:o.op=Op.makeSlice 22 l c) (N C:Nat) {L D:Int} (hl:a.eval l=.int .i64 L) (hc:a.eval c=.int .i64 D) (hL:L=(N:Int)) (hC:D=(C:Int)) (h1:N<=C) (h2:C<=4398046511104)
  (hK:wpListIn F n Tryz.prog ops Q rest (a.put o.dst (.slice (some ⟨w.heap.size,0,none⟩) N C)) (w.alloc (.cells (zrow C) 38))) :
  wpListIn F n Tryz.prog ops Q (o::rest) a w:=by
 refine wpListIn_plain hg fun K hK'=>?_
 have hrun:=make_s w N C h1 h2;subst hL;subst hC;unfold Oper.wpIn;refine ⟨?_,?_⟩
 .simp[Oper.about,hop]
 .rw[Oper.semAt_plain F _ _ (by rw[hop];intro c hc';cases hc')];simp[execOp,hop,hl,hc,hrun,Result.andThen];exact hK' _ _ hK
theorem rpairs_any (A A':Option Addr)(n n' c c':Nat)(w:World) :
  Calls Tryz.prog 57 #[.slice A n c,.slice A' n' c'] w fun e w'=>e=.returned (.func (.func 101) #[] #[.pointer (some ⟨w.heap.size,0,none⟩),.pointer (some ⟨w.heap.size+1,0,none⟩)]) /\
   w'=(w.alloc (.cells #[.slice A n c] 22)).alloc (.cells #[.slice A' n' c'] 22):=by
 go_enter Tryz.func57,Tryz.ntmps57
 go_wp2
 go_ret
 exact ⟨rfl,rfl⟩
section
variable {W V : World} {A : Option Addr} {c : Nat} {es : List E4} {rs : List Rat}
theorem Vc.off (hv:Vc W A c es rs)(kw:Kw W V)(hb:∀(p:Addr) (n:Bool),W.cell? p=some (.bool n)->V.heap[p.block]?=W.heap[p.block]?):Vc V A c es rs :=
 ⟨fun k hk=>by
  obtain ⟨b,o,e,hb',h0,h1,h2,h3⟩:=hv.row k hk;obtain ⟨⟨n1,A1,j1,m1,e1,e2⟩,_⟩:=hv.fq _ (List.getElem_mem hk);have hu:=hb ⟨b,_,none⟩ n1 (by rw[h0,e1]);have hw:∀j,V.cell? ⟨b,j,none⟩=W.cell? ⟨b,j,none⟩:=fun j=>World.cell?_of_block (a:=⟨b,j,none⟩) hu
  exact ⟨b,o,e,Nat.lt_of_lt_of_le hb' kw.size,(hw _).trans h0,(hw _).trans h1,(hw _).trans h2,(hw _).trans h3⟩,hv.len,fun i=>kw.qc (hv.el i),hv.fq,hv.cap,hv.c63⟩
theorem Vc.grown {row:Option Nat}(hv:Vc W A c es rs)(hg:W.grownBy V row)(hr:∀r,row=some r->∃o:Obj,W.heap[r]?=some o/\o.isCells=false):Vc V A c es rs :=
 ⟨fun k hk=>by
  obtain ⟨b,o,e,hb',h0,h1,h2,h3⟩:=hv.row k hk
  exact ⟨b,o,e,Nat.lt_of_lt_of_le hb' hg.size,cell_kept h0 hg hr,cell_kept h1 hg hr,cell_kept h2 hg hr,cell_kept h3 hg hr⟩,hv.len,fun i=>(Kw.grown hg hr).qc (hv.el i),hv.fq,hv.cap,hv.c63⟩
theorem box_bool {g:Nat}{a:Option Addr}{b d:Nat}{t:TypeId}(h:Hp W g (.cells #[.slice a b d] t (0,0))){p:Addr}{n:Bool}(hc:W.cell? p=some (.bool n)):p.block≠g:=by
 intro e;obtain ⟨b',j,f⟩:=p;obtain rfl:b'=g:=e;have h':W.heap[b']?=some (.cells #[.slice a b d] t (0,0)):=h;unfold World.cell? at hc;simp only[h']at hc
 cases f with
 | none=>rcases j with _|j<;>simp at hc
 | some f=>simp at hc
end
structure AccS (W:World)(H g N k:Nat)(rs:Nat->List Rat):Prop where
 box:Hp W H (.cells #[.slice (some ⟨g,0,none⟩) k N] 22 (0,0))
 row:∃fl,RowS W g fl/\fl.length=N/\∀i,i<k->Vs rs W i (fl.getD i (.slice none 0 0))
section
variable {W V : World} {H g N k : Nat} {rs : Nat -> List Rat}
theorem AccS.to (h:AccS W H g N k rs)(hb:Below W.heap.size W V):AccS V H g N k rs:=by
 obtain ⟨fl,h1,h2,h3⟩:=h.row;exact ⟨h.box.to hb,fl,h1.to hb,h2,fun i hi=>(Vs.kept rs).to hb (h3 i hi)⟩
theorem AccS.grown {row:Option Nat}(h:AccS W H g N k rs)(hg:W.grownBy V row)(hr:∀r,row=some r->∃o:Obj,W.heap[r]?=some o/\o.isCells=false):AccS V H g N k rs:=by
 obtain ⟨fl,h1,h2,h3⟩:=h.row;refine ⟨h.box.grown hg hr rfl,fl,⟨(grownBy_keeps_cells hg hr h1.heap rfl).trans h1.heap,h1.sl⟩,h2,fun i hi=>?_⟩;obtain ⟨A,c,es,e,hv⟩:=h3 i hi;exact ⟨A,c,es,e,hv.grown hg hr⟩
theorem AccS.more (h:AccS W H g N k rs)(hk:k<N)(hne:H≠g){x:Value}(hx:IsS x)(hq:Vs rs W k x){a:Addr}{c:Nat}(h0:W.cell? (a.add 0)=some x)(ty:TypeId) :
  ∃X,(Builtin.append_ #[22,22] ty #[.slice (some ⟨g,0,none⟩) k N,.slice (some a) 1 c]).run Tryz.prog W=.ok (.slice (some ⟨g,0,none⟩) (k+1) N) X /\
   Hp X H (.cells #[.slice (some ⟨g,0,none⟩) k N] 22 (0,0)) /\
   AccS (X.setCell ⟨H,0,none⟩ (.slice (some ⟨g,0,none⟩) (k+1) N)) H g N (k+1) rs /\
   (X.setCell ⟨H,0,none⟩ (.slice (some ⟨g,0,none⟩) (k+1) N)).heap.size=W.heap.size /\
   (∀j,j≠g->j≠H->(X.setCell ⟨H,0,none⟩ (.slice (some ⟨g,0,none⟩) (k+1) N)).heap[j]?=W.heap[j]?) /\
   (∀B,B<=g->B<=H->Below B W (X.setCell ⟨H,0,none⟩ (.slice (some ⟨g,0,none⟩) (k+1) N))):=by
 obtain ⟨fl,r1,rfl,r3⟩:=h.row;obtain ⟨i0,hi,hz0,hz1,hz2⟩:=info_parts infoS
 have hr0:=run_append_room (P:=Tryz.prog) W 22 ty 38 i0 Tryz.underlying22 hi g k fl.length _ r1.heap a 1 c [x] (by rw[hz1];rfl)
  (fun j u hj=>by
   match j,hj with
   | 0,hj=>simp at hj;subst hj;exact h0)
  (fun u hu=>by rw[List.mem_singleton.1 hu];obtain ⟨A,m,d,rfl⟩:=hx;rfl) (by omega) (by rw[hz1];simp;omega)
 rw[hz1]at hr0;have e1:fl.set k x=fl.take k++x::fl.drop (k+1):=by rw[List.set_eq_take_append_cons_drop,if_pos hk]
 have hr:(Builtin.append_ #[22,22] ty #[.slice (some ⟨g,0,none⟩) k fl.length,.slice (some a) 1 c]).run Tryz.prog W=.ok (.slice (some ⟨g,0,none⟩) (k+1) fl.length) (W.setRow g (fl.set k x).toArray):=by
  rw[hr0,e1];simp
 have hrow:=r1.app (n:=k) hx;have kw1:Kw W (W.setRow g (fl.set k x).toArray):=r1.kw;obtain ⟨X,hX⟩:∃X,W.setRow g (fl.set k x).toArray=X:=⟨_,rfl⟩
 have hsz:X.heap.size=W.heap.size:=by rw[<-hX,setRow_size]
 have hoth:∀j,j≠g->X.heap[j]?=W.heap[j]?:=fun j hj=>by rw[<-hX,setRow_other _ _ _ _ hj]
 have hbel:∀B,B<=g->Below B W X:=fun B hB=>by rw[<-hX];exact below_setRow (Below.refl _ _) hB _
 rw[hX]at hr hrow kw1;have hbox:Hp X H (.cells #[.slice (some ⟨g,0,none⟩) k fl.length] 22 (0,0)):=(hoth H hne).trans h.box;have hset:∀j,j≠H->(X.setCell ⟨H,0,none⟩ (.slice (some ⟨g,0,none⟩) (k+1) fl.length)).heap[j]?=X.heap[j]?:=fun j hj=>Below.heap_setCell X ⟨H,0,none⟩ _ j hj
 have kw2:Kw W (X.setCell ⟨H,0,none⟩ (.slice (some ⟨g,0,none⟩) (k+1) fl.length)):=kw1.setCell hbox.one (fun n hn=>by cases hn) _
 have hall:∀i v,Vs rs W i v->Vs rs (X.setCell ⟨H,0,none⟩ (.slice (some ⟨g,0,none⟩) (k+1) fl.length)) i v:=fun i v hv=>by
  obtain ⟨A,d,es,e,hv⟩:=hv;refine ⟨A,d,es,e,hv.off kw2 fun p n hp=>?_⟩
  have n1:p.block≠g:=fun e=>by
   obtain ⟨A,m,c,e2⟩:=r1.slice e hp;cases e2
  have n2:=box_bool h.box hp;exact (hset _ n2).trans (hoth _ n1)
 refine ⟨X,hr,hbox,⟨Boxed.set (W:=X) _ hbox,fl.set k x,⟨(hset g (Ne.symm hne)).trans hrow.heap,hrow.sl⟩,by simp,fun i hi=>?_⟩,by simpa [World.setCell]using hsz,fun j h1 h2=>(hset j h2).trans (hoth j h1),fun B h1 h2=>(hbel B h1).setCell (p:=⟨H,0,none⟩) h2 _⟩
 by_cases hik:i=k
 .subst hik;rw[show (fl.set i x).getD i (.slice none 0 0)=x from by simp[List.getD,hk]];exact hall _ _ hq
 .rw[show (fl.set k x).getD i (.slice none 0 0)=fl.getD i (.slice none 0 0) from by simp[List.getD,List.getElem?_set,Ne.symm hik]];exact hall _ _ (r3 i (by omega))
end
theorem RowS.new (W:World)(N:Nat):RowS (W.alloc (.cells (zrow N) 38)) W.heap.size (List.replicate N (.slice none 0 0)) :=
 ⟨World.alloc_heap_new W _,fun v hv=>by rw[List.eq_of_mem_replicate hv];exact ⟨_,_,_,rfl⟩⟩
structure CombM (w:World)(FV VX VY:Value)(N k:Nat)(rs:Nat->List Rat)(W:World):Prop where
 acc:AccS W (w.heap.size+1+1) (w.heap.size+1) N k rs
 fn:Hp W w.heap.size (.cells #[FV] 80 (0,0))
 bx:Hp W (w.heap.size+1+1+1) (.cells #[VX] 22 (0,0))
 by':Hp W (w.heap.size+1+1+1+1) (.cells #[VY] 22 (0,0))
 bel:Below w.heap.size w W
theorem CombM.to {w:World}{FV VX VY:Value}{N k:Nat}{rs:Nat->List Rat}{W V:World}(h:CombM w FV VX VY N k rs W)(hb:Below W.heap.size W V):CombM w FV VX VY N k rs V :=
 ⟨h.acc.to hb,h.fn.to hb,h.bx.to hb,h.by'.to hb,h.bel.trans (hb.mono h.bel.size)⟩
theorem CombM.grown {w:World}{FV VX VY:Value}{N k:Nat}{rs:Nat->List Rat}{W V:World}{row:Option Nat}{B:Nat}(h:CombM w FV VX VY N k rs W)(hB:w.heap.size<=B)(hg:W.grownBy V row)
  (hr:∀r,row=some r->B<=r/\∃o:Obj,W.heap[r]?=some o/\o.isCells=false):CombM w FV VX VY N k rs V :=
 have hr':=fun r e=>(hr r e).2
 ⟨h.acc.grown hg hr',h.fn.grown hg hr' rfl,h.bx.grown hg hr' rfl,h.by'.grown hg hr' rfl,h.bel.grown hg h.bel.size (fun k e=>Nat.le_trans hB (hr k e).1)⟩
theorem combm_start (w:World)(FV VX VY:Value)(N:Nat)(rs:Nat->List Rat) :
  CombM w FV VX VY N 0 rs (((((w.alloc (.cells #[FV] 80)).alloc (.cells (zrow N) 38)).alloc (.cells #[.slice (some ⟨w.heap.size+1,0,none⟩) 0 N] 22)).alloc (.cells #[VX] 22)).alloc (.cells #[VY] 22)):=by
 have b1:Below w.heap.size w (w.alloc (.cells #[FV] 80)):=bRR;have z1:(w.alloc (.cells #[FV] 80)).heap.size=w.heap.size+1:=szA ..;have a1:=Hp.new w #[FV] 80;generalize w.alloc (.cells #[FV] 80)=w1 at a1 z1 b1 ⊢;have b2:=b1.alloc (by omega) (.cells (zrow N) 38);have a2:=RowS.new w1 N;replace a1:=a1.alloc (.cells (zrow N) 38);have z2:(w1.alloc (.cells (zrow N) 38)).heap.size=w.heap.size+1+1:=by rw[szA,z1]
 rw[z1]at a2;generalize w1.alloc (.cells (zrow N) 38)=w2 at a1 a2 z2 b2 ⊢;have b3:=b2.alloc (by omega) (.cells #[.slice (some ⟨w.heap.size+1,0,none⟩) 0 N] 22);have a3:=Hp.new w2 #[.slice (some ⟨w.heap.size+1,0,none⟩) 0 N] 22;replace a1:=a1.alloc (.cells #[.slice (some ⟨w.heap.size+1,0,none⟩) 0 N] 22);replace a2:=a2.to ((Below.refl _ w2).alloc (Nat.le_refl _) (.cells #[.slice (some ⟨w.heap.size+1,0,none⟩) 0 N] 22));have z3:(w2.alloc (.cells #[.slice (some ⟨w.heap.size+1,0,none⟩) 0 N] 22)).heap.size=w.heap.size+1+1+1:=by rw[szA,z2]
 rw[z2]at a3;generalize w2.alloc (.cells #[.slice (some ⟨w.heap.size+1,0,none⟩) 0 N] 22)=w3 at a1 a2 a3 z3 b3 ⊢;have b4:=b3.alloc (by omega) (.cells #[VX] 22);have a4:=Hp.new w3 #[VX] 22;replace a1:=a1.alloc (.cells #[VX] 22);replace a2:=a2.to ((Below.refl _ w3).alloc (Nat.le_refl _) (.cells #[VX] 22));replace a3:=a3.alloc (.cells #[VX] 22);have z4:(w3.alloc (.cells #[VX] 22)).heap.size=w.heap.size+1+1+1+1:=by rw[szA,z3]
 rw[z3]at a4;generalize w3.alloc (.cells #[VX] 22)=w4 at a1 a2 a3 a4 z4 b4 ⊢;have a5:=Hp.new w4 #[VY] 22;rw[z4]at a5;exact ⟨⟨a3.alloc _,_,a2.to ((Below.refl _ w4).alloc (Nat.le_refl _) _),by simp,fun i hi=>by omega⟩,a1.alloc _,a4.alloc _,a5,b4.alloc (by omega) _⟩
def cm1 (A A':Option Addr)(c c' L1 L2:Nat)(w:World)(ga gb:Nat)(V8 V9 X Y s21 s22 s23 s24 s25 s26:Value):Act :=
 ⟨#[.slice A L1 c,.slice A' L2 c',.func (.func 80) #[] #[.pointer (some ⟨ga,0,none⟩),.pointer (some ⟨gb,0,none⟩)],undef,undef,.pointer (some ⟨w.heap.size,0,none⟩),.slice none 0 0,.pointer (some ⟨w.heap.size+1+1,0,none⟩),V8,V9,.slice A L1 c,.int .i64 (L1:Int),.slice A' L2 c',.int .i64 (L2:Int),.int .i64 (max (L1:Int) (L2:Int)),.slice (some ⟨w.heap.size+1,0,none⟩) 0 (max L1 L2),.slice A L1 c,.slice A' L2 c',
  .func (.func 101) #[] #[.pointer (some ⟨w.heap.size+1+1+1,0,none⟩),.pointer (some ⟨w.heap.size+1+1+1+1,0,none⟩)],X,Y,s21,s22,s23,s24,s25,s26,undef,undef],[]⟩
theorem comb_cat {rs:Nat->List Rat}{A A':Option Addr}{c c' L1 L2:Nat}{vs us:Nat->Value}{ga gb:Nat}{w:World}(hx:Rw w w.heap.size A L1 vs)(hy:Rw w w.heap.size A' L2 us)(qx:∀i,IsS (vs i))(qy:∀i,IsS (us i))
  (hx63:L1<=4398046511104) (hy63:L2<=4398046511104)
  (hF:∀(V:World),Below w.heap.size w V->∀i,i<max L1 L2->Calls Tryz.prog 80 #[rvA L1 vs i,rvA L2 us i,.pointer (some ⟨ga,0,none⟩),.pointer (some ⟨gb,0,none⟩)] V (VR V (rs i))) :
  Calls Tryz.prog 74 #[.slice A L1 c,.slice A' L2 c',.func (.func 80) #[] #[.pointer (some ⟨ga,0,none⟩),.pointer (some ⟨gb,0,none⟩)]] w (MR w (max L1 L2) rs):=by
 have HF:=Hd hF;have HX63:=Hd hx63;have HY63:=Hd hy63;have RX:=Hd hx;have RY:=Hd hy;have QX:=Hd qx;have QY:=Hd qy;have hN63:max L1 L2<=4398046511104:=by omega
 have HN:=Hd hN63;clear hF hx hy qx qy;refine (callsIn_wide (n:=3)).1 ?_;refine callsIn_of_wp_marks Tryz.func74 rfl trivial ?_ rfl;simp only[Tryz.ntmps74,List.size_toArray,List.length_cons,List.length_nil,Nat.reduceAdd,Nat.reduceSub,Array.replicate_succ,Array.replicate_zero,List.push_toArray,List.append_toArray,List.nil_append,List.cons_append]
 gi_wp2_with (first
  | (refine ⟨trivial,?_⟩;gi_at_call 57;refine (callsIn_wide.2 (rpairs_any _ _ _ _ _ _ _)).mono ?_;rintro e w' ⟨rfl,rfl⟩)
  | (gi_at_make;refine wpListIn_makes _ rfl _ _ rfl 0 (max L1 L2) rfl rfl (by omega) (by omega) (Nat.zero_le _) HN.out ?_))
 obtain ⟨W0,hW0⟩:∃W0,W0=((((w.alloc (.cells #[.func (.func 80) #[] #[.pointer (some ⟨ga,0,none⟩),.pointer (some ⟨gb,0,none⟩)]] 80)).alloc (.cells (zrow (max L1 L2)) 38)).alloc (.cells #[.slice (some ⟨w.heap.size+1,0,none⟩) 0 (max L1 L2)] 22)).alloc (.cells #[.slice A L1 c] 22)).alloc (.cells #[.slice A' L2 c'] 22):=⟨_,rfl⟩
 have hI0:CombM w (.func (.func 80) #[] #[.pointer (some ⟨ga,0,none⟩),.pointer (some ⟨gb,0,none⟩)]) (.slice A L1 c) (.slice A' L2 c') (max L1 L2) 0 rs W0:=by rw[hW0];exact combm_start _ _ _ _ _ _
 have hs0:W0.heap.size=w.heap.size+1+1+1+1+1:=by rw[hW0];simp
 rw[<-hW0];clear hW0
 refine wp_roundsB (gf:=101) (lb:=#[.pointer (some ⟨w.heap.size+1+1+1,0,none⟩),.pointer (some ⟨w.heap.size+1+1+1+1,0,none⟩)]) ?hg (enters_of Tryz.func101 (by kernel_rfl) rfl)
  (N:=max L1 L2) (enc:=rowE L1 L2 vs us) (S:=pairS (w.heap.size+1+1+1) (w.heap.size+1+1+1+1) w.heap.size) (pairS_lt (by omega) (by omega) (by omega))
  (fun W hW=>by
   have h:=hI0.to hW
   exact rpairs_gives (w.heap.size+1+1+1) (w.heap.size+1+1+1+1) w.heap.size c c' L1 L2 A A' vs us (by have:=HX63.out;omega) (by have:=HY63.out;omega) W h.bx.one h.by'.one (RX.out.below h.bel) (RY.out.below h.bel) QX.out QY.out)
  ?hps
  (fun k W=>CombM w (.func (.func 80) #[] #[.pointer (some ⟨ga,0,none⟩),.pointer (some ⟨gb,0,none⟩)]) (.slice A L1 c) (.slice A' L2 c') (max L1 L2) k rs W)
  (fun k a1 W=>a1=(cm1 A A' c c' L1 L2 w ga gb (rvA L1 vs k) (rvA L2 us k) (rvA L1 vs k) (rvA L2 us k) undef undef undef undef undef undef)/\CombM w (.func (.func 80) #[] #[.pointer (some ⟨ga,0,none⟩),.pointer (some ⟨gb,0,none⟩)]) (.slice A L1 c) (.slice A' L2 c') (max L1 L2) k rs W)
  (fun _ _ _=>False) ?hI ?hI1 ?hIb ?hIx hI0 ?assign ?body ?done ?stop
 case hg=>rfl
 case hps=>exact fun _=>rfl
 case hI=>exact fun k W V row h hg hr=>h.grown (by omega) hg hr
 case hI1 =>
  rintro ⟨k,a1⟩ W V row ⟨h1,h2⟩ hg hr;exact ⟨h1,h2.grown (by omega) hg hr⟩
 case hIb=>exact fun k W V h hb=>h.to hb
 case hIx=>exact fun _ _ _ _ _ h _ _=>h
 case assign =>
  intro l k W K hlt hI hk hK;have HK:=Hd hK;clear hK;unfold rowE;have fx:=rvA_s (N:=L1) QX.out k;have fy:=rvA_s (N:=L2) QY.out k;generalize rvA L1 vs k=X at HK fx ⊢;generalize rvA L2 us k=Y at HK fy ⊢;obtain ⟨A1,n1,m1,rfl⟩:=fx;obtain ⟨A2,n2,m2,rfl⟩:=fy
  gi_wp2
  exact HK.out _ _ (Below.refl _ _) ⟨rfl,hI⟩
 case body =>
  rintro l k a1 W hlt ⟨rfl,hI⟩ hk;unfold cm1;have HFK:=Hd fun (V:World) (hV:Below w.heap.size w V)=>HF.out V hV k hk
  have fx:=rvA_s (N:=L1) QX.out k;have fy:=rvA_s (N:=L2) QY.out k;generalize rvA L1 vs k=X at HFK fx ⊢;generalize rvA L2 us k=Y at HFK fy ⊢;obtain ⟨A1,n1,m1,rfl⟩:=fx;obtain ⟨A2,n2,m2,rfl⟩:=fy;have hbI:=hI.bel;have CA:=Hd fun (V:World) (hV:Below W.heap.size W V)=>(hI.acc.to hV).box.one
  have CF:=Hd fun (V:World) (hV:Below W.heap.size W V)=>(hI.fn.to hV).one
  have HC:=Hd fun (V:World) (hV:Below W.heap.size W V)=>HFK.out V (Bxb hbI hV)
  have HI:=Hd hI;have HK:=Hd hk;have HS:Hid (w.heap.size+1+1+1+1+1<W.heap.size):=by show _<_;omega
  clear hI hbI HFK HF hI0 RX RY QX QY hk
  gi_wp2_with fail
  refine region_round follows (by kernel_rfl) ?_;refine wpAnyIn_take (i:=2) (v:=.slice A1 n1 m1) rfl rfl (by kernel_rfl) (by kernel_rfl) (by kernel_rfl) (fun _ _ _ h=>h) ⟨Or.inl ⟨by rfl,fun w=>by go_simp⟩,fun _=>rfl⟩ ?_;refine wpAnyIn_take (i:=3) (v:=.slice A2 n2 m2) rfl rfl (by kernel_rfl) (by kernel_rfl) (by kernel_rfl) (fun _ _ _ h=>h) ⟨Or.inl ⟨by rfl,fun w=>by go_simp⟩,fun _=>rfl⟩ ?_;refine dagInE 6 #[false,false,true,true,false,false,false,false] (cm1 A A' c c' L1 L2 w ga gb (.slice A1 n1 m1) (.slice A2 n2 m2) (.slice A1 n1 m1) (.slice A2 n2 m2) undef undef (.slice A1 n1 m1) (.slice A2 n2 m2) undef undef) (by kernel_rfl) (by kernel_rfl) (by rfl) (fun G up dn=>?_)
  have S0145:∀(V:World) (hV:Below W.heap.size W V) (A3:Option Addr) (c3:Nat) (es:List E4) (hQ:Vc V A3 c3 es (rs k)) (g5:Nat) (hG:Hp V g5 (.cells #[.slice A3 (rs k).length c3] 38 (0,0))),G 2 #[true,true,true,true,true,true,false,false] (cm1 A A' c c' L1 L2 w ga gb (.slice A1 n1 m1) (.slice A2 n2 m2) (.slice A1 n1 m1) (.slice A2 n2 m2) (.slice (some ⟨w.heap.size+1,0,none⟩) k (max L1 L2)) (.func (.func 80) #[] #[.pointer (some ⟨ga,0,none⟩),.pointer (some ⟨gb,0,none⟩)]) (.slice A1 n1 m1) (.slice A2 n2 m2) (.slice A3 (rs k).length c3) (.slice (some ⟨g5,0,none⟩) 1 1)) V:=by
   intro V hV A3 c3 es hQ g5 hG;refine up ?_;unfold cm1;refine rdyI (i:=6) (by kernel_rfl) rfl (fun K hK=>?_);have hacc:=HI.out.acc.to hV;obtain ⟨U,hrun,hbox,hacc',hsz,hoth,hbel⟩:=hacc.more HK.out (by omega) (x:=.slice A3 (rs k).length c3) ⟨_,_,_,rfl⟩ ⟨A3,c3,es,rfl,hQ⟩ (a:=⟨g5,0,none⟩) (c:=1) hG.one 22;have HRUN:=Hd hrun
   have FIN:leftBy W0.heap.size (KeepAt (pairS (w.heap.size+1+1+1) (w.heap.size+1+1+1+1) w.heap.size)) (fun W=>CombM w (.func (.func 80) #[] #[.pointer (some ⟨ga,0,none⟩),.pointer (some ⟨gb,0,none⟩)]) (.slice A L1 c) (.slice A' L2 c') (max L1 L2) (k+1) rs W) (fun _ _=>False) W .normal { tmps:=#[],defers:=[] } (U.setCell ⟨w.heap.size+1+1,0,none⟩ (.slice (some ⟨w.heap.size+1,0,none⟩) (k+1) (max L1 L2))):=by
    have hsame:∀j,j<W.heap.size->j≠w.heap.size+1->j≠w.heap.size+1+1->(U.setCell ⟨w.heap.size+1+1,0,none⟩ (.slice (some ⟨w.heap.size+1,0,none⟩) (k+1) (max L1 L2))).heap[j]?=W.heap[j]?:=fun j h0 h1 h2=>(hoth j h1 h2).trans (hV.block j h0)
    have hS:=HS.out;refine ⟨⟨by rw[hsz];exact hV.size,fun j o hB hj _=>(hsame j (Array.getElem?_eq_some_iff.1 hj).1 (by omega) (by omega)).trans hj⟩,?_,⟨hacc',(hsame _ (by omega) (by omega) (by omega)).trans HI.out.fn,(hsame _ (by omega) (by omega) (by omega)).trans HI.out.bx,(hsame _ (by omega) (by omega) (by omega)).trans HI.out.by',?_⟩⟩
    .rintro p (rfl|rfl|hp)
     .exact World.cell?_of_block (hsame _ (by show w.heap.size+1+1+1<_;omega) (by show w.heap.size+1+1+1≠_;omega) (by show w.heap.size+1+1+1≠_;omega))
     .exact World.cell?_of_block (hsame _ (by show w.heap.size+1+1+1+1<_;omega) (by show w.heap.size+1+1+1+1≠_;omega) (by show w.heap.size+1+1+1+1≠_;omega))
     .exact World.cell?_of_block (hsame _ (by omega) (by omega) (by omega))
    .exact (HI.out.bel.trans (hV.mono HI.out.bel.size)).trans (hbel _ (by omega) (by omega))
   have FINH:=Hd FIN;have cB:=hbox.one;have fB:U.frozen? ⟨w.heap.size+1+1,0,none⟩=false:=Boxed.frozen (t:=22) hbox;clear FIN hoth hbel hsz hacc' hrun hbox hacc;refine step_append_in rfl (.tmp 21) (.tmp 26) 22 rfl (by rfl) (by rfl) HRUN.out ?_;refine hK _ _ ?_;clear hK K;refine rdyI (i:=7) (by kernel_rfl) rfl (fun K hK=>?_);go_simp
   refine hK _ _ ?_;clear hK K;refine wpAnyIn_done (by kernel_rfl) ?_ _;exact FINH.out
  have S014:∀(V:World) (hV:Below W.heap.size W V) (A3:Option Addr) (c3:Nat) (es:List E4) (hQ:Vc V A3 c3 es (rs k)),G 3 #[true,true,true,true,true,false,false,false] (cm1 A A' c c' L1 L2 w ga gb (.slice A1 n1 m1) (.slice A2 n2 m2) (.slice A1 n1 m1) (.slice A2 n2 m2) (.slice (some ⟨w.heap.size+1,0,none⟩) k (max L1 L2)) (.func (.func 80) #[] #[.pointer (some ⟨ga,0,none⟩),.pointer (some ⟨gb,0,none⟩)]) (.slice A1 n1 m1) (.slice A2 n2 m2) (.slice A3 (rs k).length c3) undef) V:=by
   intro V hV A3 c3 es hQ;refine up ?_;unfold cm1;refine rdyI (i:=5) (by kernel_rfl) rfl (fun K hK=>?_);have bb:Below V.heap.size V (V.alloc (.cells #[.slice A3 (rs k).length c3] 38)):=bRR;go_simp
   refine hK _ _ ?_;exact dn (S0145 _ (Bxb hV bb) A3 c3 es (hQ.to bb) V.heap.size (Hp.new _ _ _))
  have S145:∀(V:World) (hV:Below W.heap.size W V) (A3:Option Addr) (c3:Nat) (es:List E4) (hQ:Vc V A3 c3 es (rs k)) (g5:Nat) (hG:Hp V g5 (.cells #[.slice A3 (rs k).length c3] 38 (0,0))),G 3 #[false,true,true,true,true,true,false,false] (cm1 A A' c c' L1 L2 w ga gb (.slice A1 n1 m1) (.slice A2 n2 m2) (.slice A1 n1 m1) (.slice A2 n2 m2) undef (.func (.func 80) #[] #[.pointer (some ⟨ga,0,none⟩),.pointer (some ⟨gb,0,none⟩)]) (.slice A1 n1 m1) (.slice A2 n2 m2) (.slice A3 (rs k).length c3) (.slice (some ⟨g5,0,none⟩) 1 1)) V:=by
   intro V hV A3 c3 es hQ g5 hG;refine up ?_;unfold cm1;refine rdyI (i:=0) (by kernel_rfl) rfl (fun K hK=>?_);have cc:=CA.out V hV;go_simp
   refine hK _ _ ?_;exact dn (S0145 V hV A3 c3 es hQ g5 hG)
  have S01:∀(V:World) (hV:Below W.heap.size W V),G 4 #[true,true,true,true,false,false,false,false] (cm1 A A' c c' L1 L2 w ga gb (.slice A1 n1 m1) (.slice A2 n2 m2) (.slice A1 n1 m1) (.slice A2 n2 m2) (.slice (some ⟨w.heap.size+1,0,none⟩) k (max L1 L2)) (.func (.func 80) #[] #[.pointer (some ⟨ga,0,none⟩),.pointer (some ⟨gb,0,none⟩)]) (.slice A1 n1 m1) (.slice A2 n2 m2) undef undef) V:=by
   intro V hV;refine up ?_;unfold cm1;refine rdyI (i:=4) (by kernel_rfl) rfl (fun K hK=>?_);go_simp
   gi_wp2_with (refine ⟨trivial,?_⟩;gi_at_call 80;refine (callsIn_wide.2 (HC.out V hV)).mono ?_;rintro e w' ⟨A3,c3,es,rfl,hQ,bb⟩)
   exact dn (S014 _ (Bxb hV bb) A3 c3 es hQ)
  have S14:∀(V:World) (hV:Below W.heap.size W V) (A3:Option Addr) (c3:Nat) (es:List E4) (hQ:Vc V A3 c3 es (rs k)),G 4 #[false,true,true,true,true,false,false,false] (cm1 A A' c c' L1 L2 w ga gb (.slice A1 n1 m1) (.slice A2 n2 m2) (.slice A1 n1 m1) (.slice A2 n2 m2) undef (.func (.func 80) #[] #[.pointer (some ⟨ga,0,none⟩),.pointer (some ⟨gb,0,none⟩)]) (.slice A1 n1 m1) (.slice A2 n2 m2) (.slice A3 (rs k).length c3) undef) V:=by
   intro V hV A3 c3 es hQ;refine up ?_;unfold cm1;refine wpAnyIn_ready (rs:=[0,5]) (by kernel_rfl) (by simp) (AllReadyIn.cons rfl (fun K hK=>?_) (AllReadyIn.cons rfl (fun K hK=>?_) AllReadyIn.nil))
   .have cc:=CA.out V hV;go_simp
    refine hK _ _ ?_;exact dn (S014 V hV A3 c3 es hQ)
   .have bb:Below V.heap.size V (V.alloc (.cells #[.slice A3 (rs k).length c3] 38)):=bRR;go_simp
    refine hK _ _ ?_;exact dn (S145 _ (Bxb hV bb) A3 c3 es (hQ.to bb) V.heap.size (Hp.new _ _ _))
  have S0:∀(V:World) (hV:Below W.heap.size W V),G 5 #[true,false,true,true,false,false,false,false] (cm1 A A' c c' L1 L2 w ga gb (.slice A1 n1 m1) (.slice A2 n2 m2) (.slice A1 n1 m1) (.slice A2 n2 m2) (.slice (some ⟨w.heap.size+1,0,none⟩) k (max L1 L2)) undef (.slice A1 n1 m1) (.slice A2 n2 m2) undef undef) V:=by
   intro V hV;refine up ?_;unfold cm1;refine rdyI (i:=1) (by kernel_rfl) rfl (fun K hK=>?_);have cc:=CF.out V hV;go_simp
   refine hK _ _ ?_;exact dn (S01 V hV)
  have S1:∀(V:World) (hV:Below W.heap.size W V),G 5 #[false,true,true,true,false,false,false,false] (cm1 A A' c c' L1 L2 w ga gb (.slice A1 n1 m1) (.slice A2 n2 m2) (.slice A1 n1 m1) (.slice A2 n2 m2) undef (.func (.func 80) #[] #[.pointer (some ⟨ga,0,none⟩),.pointer (some ⟨gb,0,none⟩)]) (.slice A1 n1 m1) (.slice A2 n2 m2) undef undef) V:=by
   intro V hV;refine up ?_;unfold cm1;refine wpAnyIn_ready (rs:=[0,4]) (by kernel_rfl) (by simp) (AllReadyIn.cons rfl (fun K hK=>?_) (AllReadyIn.cons rfl (fun K hK=>?_) AllReadyIn.nil))
   .have cc:=CA.out V hV;go_simp
    refine hK _ _ ?_;exact dn (S01 V hV)
   .go_simp
    gi_wp2_with (refine ⟨trivial,?_⟩;gi_at_call 80;refine (callsIn_wide.2 (HC.out V hV)).mono ?_;rintro e w' ⟨A3,c3,es,rfl,hQ,bb⟩)
    exact dn (S14 _ (Bxb hV bb) A3 c3 es hQ)
  have S:∀(V:World) (hV:Below W.heap.size W V),G 6 #[false,false,true,true,false,false,false,false] (cm1 A A' c c' L1 L2 w ga gb (.slice A1 n1 m1) (.slice A2 n2 m2) (.slice A1 n1 m1) (.slice A2 n2 m2) undef undef (.slice A1 n1 m1) (.slice A2 n2 m2) undef undef) V:=by
   intro V hV;refine up ?_;unfold cm1;refine wpAnyIn_ready (rs:=[0,1]) (by kernel_rfl) (by simp) (AllReadyIn.cons rfl (fun K hK=>?_) (AllReadyIn.cons rfl (fun K hK=>?_) AllReadyIn.nil))
   .have cc:=CA.out V hV;go_simp
    refine hK _ _ ?_;exact dn (S0 V hV)
   .have cc:=CF.out V hV;go_simp
    refine hK _ _ ?_;exact dn (S1 V hV)
  exact S _ (Below.refl _ _).drew
 case done =>
  rintro W hI hK;obtain ⟨fl,r1,r2,r3⟩:=hI.acc.row;have cA:=hI.acc.box.one;have HR:=Hd hI;clear r1 r2 r3 hI
  gi_wp2
  have hg:=grownBy_putObj' W W0.heap.size (.deferred none);have hgr:∀r,some W0.heap.size=some r->∃o:Obj,W.heap[r]?=some o/\o.isCells=false:=fun r e=>by cases e;exact ⟨_,hK,rfl⟩
  refine ⟨by simp,.inl ⟨_,_,rfl,run_takeDeferred hK,?_⟩⟩;obtain ⟨fl,r1,r2,r3⟩:=(HR.out.acc.grown hg hgr).row
  have ht:TotS (Vs rs) (W.putObj W0.heap.size (.deferred none)) (.slice (some ⟨w.heap.size+1,0,none⟩) (max L1 L2) (max L1 L2)) (max L1 L2) w.heap.size :=
   .inr ⟨w.heap.size+1,max L1 L2,fl,rfl,by omega,r1,r2,Nat.le_refl _,by have:=HN.out;omega,r3⟩
  exact ⟨_,results_tmp rfl _ _ _,_,_,rfl,ht.mc,HR.out.bel.grown hg HR.out.bel.size (fun k e=>by cases e;omega)⟩
 case stop=>exact fun _ _ _ _ h _=>h.elim
def cm2 (A A':Option Addr)(c c' L1 L2:Nat)(w:World)(V8 V9 X Y s21 s22 s23 s24 s25 s26:Value):Act :=
 ⟨#[.slice A L1 c,.slice A' L2 c',.func (.func 75) #[] #[],undef,undef,.pointer (some ⟨w.heap.size,0,none⟩),.slice none 0 0,.pointer (some ⟨w.heap.size+1+1,0,none⟩),V8,V9,.slice A L1 c,.int .i64 (L1:Int),.slice A' L2 c',.int .i64 (L2:Int),.int .i64 (max (L1:Int) (L2:Int)),.slice (some ⟨w.heap.size+1,0,none⟩) 0 (max L1 L2),.slice A L1 c,.slice A' L2 c',
  .func (.func 101) #[] #[.pointer (some ⟨w.heap.size+1+1+1,0,none⟩),.pointer (some ⟨w.heap.size+1+1+1+1,0,none⟩)],X,Y,s21,s22,s23,s24,s25,s26,undef,undef],[]⟩
theorem comb_addm {rs:Nat->List Rat}{A A':Option Addr}{c c' L1 L2:Nat}{vs us:Nat->Value}{w:World}(hx:Rw w w.heap.size A L1 vs)(hy:Rw w w.heap.size A' L2 us)(qx:∀i,IsS (vs i))(qy:∀i,IsS (us i))
  (hx63:L1<=4398046511104) (hy63:L2<=4398046511104)
  (hF:∀(V:World),Below w.heap.size w V->∀i,i<max L1 L2->Calls Tryz.prog 75 #[rvA L1 vs i,rvA L2 us i] V (VR V (rs i))) :
  Calls Tryz.prog 74 #[.slice A L1 c,.slice A' L2 c',.func (.func 75) #[] #[]] w (MR w (max L1 L2) rs):=by
 have HF:=Hd hF;have HX63:=Hd hx63;have HY63:=Hd hy63;have RX:=Hd hx;have RY:=Hd hy;have QX:=Hd qx;have QY:=Hd qy;have hN63:max L1 L2<=4398046511104:=by omega
 have HN:=Hd hN63;clear hF hx hy qx qy;refine (callsIn_wide (n:=3)).1 ?_;refine callsIn_of_wp_marks Tryz.func74 rfl trivial ?_ rfl;simp only[Tryz.ntmps74,List.size_toArray,List.length_cons,List.length_nil,Nat.reduceAdd,Nat.reduceSub,Array.replicate_succ,Array.replicate_zero,List.push_toArray,List.append_toArray,List.nil_append,List.cons_append]
 gi_wp2_with (first
  | (refine ⟨trivial,?_⟩;gi_at_call 57;refine (callsIn_wide.2 (rpairs_any _ _ _ _ _ _ _)).mono ?_;rintro e w' ⟨rfl,rfl⟩)
  | (gi_at_make;refine wpListIn_makes _ rfl _ _ rfl 0 (max L1 L2) rfl rfl (by omega) (by omega) (Nat.zero_le _) HN.out ?_))
 obtain ⟨W0,hW0⟩:∃W0,W0=((((w.alloc (.cells #[.func (.func 75) #[] #[]] 80)).alloc (.cells (zrow (max L1 L2)) 38)).alloc (.cells #[.slice (some ⟨w.heap.size+1,0,none⟩) 0 (max L1 L2)] 22)).alloc (.cells #[.slice A L1 c] 22)).alloc (.cells #[.slice A' L2 c'] 22):=⟨_,rfl⟩
 have hI0:CombM w (.func (.func 75) #[] #[]) (.slice A L1 c) (.slice A' L2 c') (max L1 L2) 0 rs W0:=by rw[hW0];exact combm_start _ _ _ _ _ _
 have hs0:W0.heap.size=w.heap.size+1+1+1+1+1:=by rw[hW0];simp
 rw[<-hW0];clear hW0
 refine wp_roundsB (gf:=101) (lb:=#[.pointer (some ⟨w.heap.size+1+1+1,0,none⟩),.pointer (some ⟨w.heap.size+1+1+1+1,0,none⟩)]) ?hg (enters_of Tryz.func101 (by kernel_rfl) rfl)
  (N:=max L1 L2) (enc:=rowE L1 L2 vs us) (S:=pairS (w.heap.size+1+1+1) (w.heap.size+1+1+1+1) w.heap.size) (pairS_lt (by omega) (by omega) (by omega))
  (fun W hW=>by
   have h:=hI0.to hW
   exact rpairs_gives (w.heap.size+1+1+1) (w.heap.size+1+1+1+1) w.heap.size c c' L1 L2 A A' vs us (by have:=HX63.out;omega) (by have:=HY63.out;omega) W h.bx.one h.by'.one (RX.out.below h.bel) (RY.out.below h.bel) QX.out QY.out)
  ?hps
  (fun k W=>CombM w (.func (.func 75) #[] #[]) (.slice A L1 c) (.slice A' L2 c') (max L1 L2) k rs W)
  (fun k a1 W=>a1=(cm2 A A' c c' L1 L2 w (rvA L1 vs k) (rvA L2 us k) (rvA L1 vs k) (rvA L2 us k) undef undef undef undef undef undef)/\CombM w (.func (.func 75) #[] #[]) (.slice A L1 c) (.slice A' L2 c') (max L1 L2) k rs W)
  (fun _ _ _=>False) ?hI ?hI1 ?hIb ?hIx hI0 ?assign ?body ?done ?stop
 case hg=>rfl
 case hps=>exact fun _=>rfl
 case hI=>exact fun k W V row h hg hr=>h.grown (by omega) hg hr
 case hI1 =>
  rintro ⟨k,a1⟩ W V row ⟨h1,h2⟩ hg hr;exact ⟨h1,h2.grown (by omega) hg hr⟩
 case hIb=>exact fun k W V h hb=>h.to hb
 case hIx=>exact fun _ _ _ _ _ h _ _=>h
 case assign =>
  intro l k W K hlt hI hk hK;have HK:=Hd hK;clear hK;unfold rowE;have fx:=rvA_s (N:=L1) QX.out k;have fy:=rvA_s (N:=L2) QY.out k;generalize rvA L1 vs k=X at HK fx ⊢;generalize rvA L2 us k=Y at HK fy ⊢;obtain ⟨A1,n1,m1,rfl⟩:=fx;obtain ⟨A2,n2,m2,rfl⟩:=fy
  gi_wp2
  exact HK.out _ _ (Below.refl _ _) ⟨rfl,hI⟩
 case body =>
  rintro l k a1 W hlt ⟨rfl,hI⟩ hk;unfold cm2;have HFK:=Hd fun (V:World) (hV:Below w.heap.size w V)=>HF.out V hV k hk
  have fx:=rvA_s (N:=L1) QX.out k;have fy:=rvA_s (N:=L2) QY.out k;generalize rvA L1 vs k=X at HFK fx ⊢;generalize rvA L2 us k=Y at HFK fy ⊢;obtain ⟨A1,n1,m1,rfl⟩:=fx;obtain ⟨A2,n2,m2,rfl⟩:=fy;have hbI:=hI.bel;have CA:=Hd fun (V:World) (hV:Below W.heap.size W V)=>(hI.acc.to hV).box.one
  have CF:=Hd fun (V:World) (hV:Below W.heap.size W V)=>(hI.fn.to hV).one
  have HC:=Hd fun (V:World) (hV:Below W.heap.size W V)=>HFK.out V (Bxb hbI hV)
  have HI:=Hd hI;have HK:=Hd hk;have HS:Hid (w.heap.size+1+1+1+1+1<W.heap.size):=by show _<_;omega
  clear hI hbI HFK HF hI0 RX RY QX QY hk
  gi_wp2_with fail
  refine region_round follows (by kernel_rfl) ?_;refine wpAnyIn_take (i:=2) (v:=.slice A1 n1 m1) rfl rfl (by kernel_rfl) (by kernel_rfl) (by kernel_rfl) (fun _ _ _ h=>h) ⟨Or.inl ⟨by rfl,fun w=>by go_simp⟩,fun _=>rfl⟩ ?_;refine wpAnyIn_take (i:=3) (v:=.slice A2 n2 m2) rfl rfl (by kernel_rfl) (by kernel_rfl) (by kernel_rfl) (fun _ _ _ h=>h) ⟨Or.inl ⟨by rfl,fun w=>by go_simp⟩,fun _=>rfl⟩ ?_;refine dagInE 6 #[false,false,true,true,false,false,false,false] (cm2 A A' c c' L1 L2 w (.slice A1 n1 m1) (.slice A2 n2 m2) (.slice A1 n1 m1) (.slice A2 n2 m2) undef undef (.slice A1 n1 m1) (.slice A2 n2 m2) undef undef) (by kernel_rfl) (by kernel_rfl) (by rfl) (fun G up dn=>?_)
  have S0145:∀(V:World) (hV:Below W.heap.size W V) (A3:Option Addr) (c3:Nat) (es:List E4) (hQ:Vc V A3 c3 es (rs k)) (g5:Nat) (hG:Hp V g5 (.cells #[.slice A3 (rs k).length c3] 38 (0,0))),G 2 #[true,true,true,true,true,true,false,false] (cm2 A A' c c' L1 L2 w (.slice A1 n1 m1) (.slice A2 n2 m2) (.slice A1 n1 m1) (.slice A2 n2 m2) (.slice (some ⟨w.heap.size+1,0,none⟩) k (max L1 L2)) (.func (.func 75) #[] #[]) (.slice A1 n1 m1) (.slice A2 n2 m2) (.slice A3 (rs k).length c3) (.slice (some ⟨g5,0,none⟩) 1 1)) V:=by
   intro V hV A3 c3 es hQ g5 hG;refine up ?_;unfold cm2;refine rdyI (i:=6) (by kernel_rfl) rfl (fun K hK=>?_);have hacc:=HI.out.acc.to hV;obtain ⟨U,hrun,hbox,hacc',hsz,hoth,hbel⟩:=hacc.more HK.out (by omega) (x:=.slice A3 (rs k).length c3) ⟨_,_,_,rfl⟩ ⟨A3,c3,es,rfl,hQ⟩ (a:=⟨g5,0,none⟩) (c:=1) hG.one 22;have HRUN:=Hd hrun
   have FIN:leftBy W0.heap.size (KeepAt (pairS (w.heap.size+1+1+1) (w.heap.size+1+1+1+1) w.heap.size)) (fun W=>CombM w (.func (.func 75) #[] #[]) (.slice A L1 c) (.slice A' L2 c') (max L1 L2) (k+1) rs W) (fun _ _=>False) W .normal { tmps:=#[],defers:=[] } (U.setCell ⟨w.heap.size+1+1,0,none⟩ (.slice (some ⟨w.heap.size+1,0,none⟩) (k+1) (max L1 L2))):=by
    have hsame:∀j,j<W.heap.size->j≠w.heap.size+1->j≠w.heap.size+1+1->(U.setCell ⟨w.heap.size+1+1,0,none⟩ (.slice (some ⟨w.heap.size+1,0,none⟩) (k+1) (max L1 L2))).heap[j]?=W.heap[j]?:=fun j h0 h1 h2=>(hoth j h1 h2).trans (hV.block j h0)
    have hS:=HS.out;refine ⟨⟨by rw[hsz];exact hV.size,fun j o hB hj _=>(hsame j (Array.getElem?_eq_some_iff.1 hj).1 (by omega) (by omega)).trans hj⟩,?_,⟨hacc',(hsame _ (by omega) (by omega) (by omega)).trans HI.out.fn,(hsame _ (by omega) (by omega) (by omega)).trans HI.out.bx,(hsame _ (by omega) (by omega) (by omega)).trans HI.out.by',?_⟩⟩
    .rintro p (rfl|rfl|hp)
     .exact World.cell?_of_block (hsame _ (by show w.heap.size+1+1+1<_;omega) (by show w.heap.size+1+1+1≠_;omega) (by show w.heap.size+1+1+1≠_;omega))
     .exact World.cell?_of_block (hsame _ (by show w.heap.size+1+1+1+1<_;omega) (by show w.heap.size+1+1+1+1≠_;omega) (by show w.heap.size+1+1+1+1≠_;omega))
     .exact World.cell?_of_block (hsame _ (by omega) (by omega) (by omega))
    .exact (HI.out.bel.trans (hV.mono HI.out.bel.size)).trans (hbel _ (by omega) (by omega))
   have FINH:=Hd FIN;have cB:=hbox.one;have fB:U.frozen? ⟨w.heap.size+1+1,0,none⟩=false:=Boxed.frozen (t:=22) hbox;clear FIN hoth hbel hsz hacc' hrun hbox hacc;refine step_append_in rfl (.tmp 21) (.tmp 26) 22 rfl (by rfl) (by rfl) HRUN.out ?_;refine hK _ _ ?_;clear hK K;refine rdyI (i:=7) (by kernel_rfl) rfl (fun K hK=>?_);go_simp
   refine hK _ _ ?_;clear hK K;refine wpAnyIn_done (by kernel_rfl) ?_ _;exact FINH.out
  have S014:∀(V:World) (hV:Below W.heap.size W V) (A3:Option Addr) (c3:Nat) (es:List E4) (hQ:Vc V A3 c3 es (rs k)),G 3 #[true,true,true,true,true,false,false,false] (cm2 A A' c c' L1 L2 w (.slice A1 n1 m1) (.slice A2 n2 m2) (.slice A1 n1 m1) (.slice A2 n2 m2) (.slice (some ⟨w.heap.size+1,0,none⟩) k (max L1 L2)) (.func (.func 75) #[] #[]) (.slice A1 n1 m1) (.slice A2 n2 m2) (.slice A3 (rs k).length c3) undef) V:=by
   intro V hV A3 c3 es hQ;refine up ?_;unfold cm2;refine rdyI (i:=5) (by kernel_rfl) rfl (fun K hK=>?_);have bb:Below V.heap.size V (V.alloc (.cells #[.slice A3 (rs k).length c3] 38)):=bRR;go_simp
   refine hK _ _ ?_;exact dn (S0145 _ (Bxb hV bb) A3 c3 es (hQ.to bb) V.heap.size (Hp.new _ _ _))
  have S145:∀(V:World) (hV:Below W.heap.size W V) (A3:Option Addr) (c3:Nat) (es:List E4) (hQ:Vc V A3 c3 es (rs k)) (g5:Nat) (hG:Hp V g5 (.cells #[.slice A3 (rs k).length c3] 38 (0,0))),G 3 #[false,true,true,true,true,true,false,false] (cm2 A A' c c' L1 L2 w (.slice A1 n1 m1) (.slice A2 n2 m2) (.slice A1 n1 m1) (.slice A2 n2 m2) undef (.func (.func 75) #[] #[]) (.slice A1 n1 m1) (.slice A2 n2 m2) (.slice A3 (rs k).length c3) (.slice (some ⟨g5,0,none⟩) 1 1)) V:=by
   intro V hV A3 c3 es hQ g5 hG;refine up ?_;unfold cm2;refine rdyI (i:=0) (by kernel_rfl) rfl (fun K hK=>?_);have cc:=CA.out V hV;go_simp
   refine hK _ _ ?_;exact dn (S0145 V hV A3 c3 es hQ g5 hG)
  have S01:∀(V:World) (hV:Below W.heap.size W V),G 4 #[true,true,true,true,false,false,false,false] (cm2 A A' c c' L1 L2 w (.slice A1 n1 m1) (.slice A2 n2 m2) (.slice A1 n1 m1) (.slice A2 n2 m2) (.slice (some ⟨w.heap.size+1,0,none⟩) k (max L1 L2)) (.func (.func 75) #[] #[]) (.slice A1 n1 m1) (.slice A2 n2 m2) undef undef) V:=by
   intro V hV;refine up ?_;unfold cm2;refine rdyI (i:=4) (by kernel_rfl) rfl (fun K hK=>?_);go_simp
   gi_wp2_with (refine ⟨trivial,?_⟩;gi_at_call 75;refine (callsIn_wide.2 (HC.out V hV)).mono ?_;rintro e w' ⟨A3,c3,es,rfl,hQ,bb⟩)
   exact dn (S014 _ (Bxb hV bb) A3 c3 es hQ)
  have S14:∀(V:World) (hV:Below W.heap.size W V) (A3:Option Addr) (c3:Nat) (es:List E4) (hQ:Vc V A3 c3 es (rs k)),G 4 #[false,true,true,true,true,false,false,false] (cm2 A A' c c' L1 L2 w (.slice A1 n1 m1) (.slice A2 n2 m2) (.slice A1 n1 m1) (.slice A2 n2 m2) undef (.func (.func 75) #[] #[]) (.slice A1 n1 m1) (.slice A2 n2 m2) (.slice A3 (rs k).length c3) undef) V:=by
   intro V hV A3 c3 es hQ;refine up ?_;unfold cm2;refine wpAnyIn_ready (rs:=[0,5]) (by kernel_rfl) (by simp) (AllReadyIn.cons rfl (fun K hK=>?_) (AllReadyIn.cons rfl (fun K hK=>?_) AllReadyIn.nil))
   .have cc:=CA.out V hV;go_simp
    refine hK _ _ ?_;exact dn (S014 V hV A3 c3 es hQ)
   .have bb:Below V.heap.size V (V.alloc (.cells #[.slice A3 (rs k).length c3] 38)):=bRR;go_simp
    refine hK _ _ ?_;exact dn (S145 _ (Bxb hV bb) A3 c3 es (hQ.to bb) V.heap.size (Hp.new _ _ _))
  have S0:∀(V:World) (hV:Below W.heap.size W V),G 5 #[true,false,true,true,false,false,false,false] (cm2 A A' c c' L1 L2 w (.slice A1 n1 m1) (.slice A2 n2 m2) (.slice A1 n1 m1) (.slice A2 n2 m2) (.slice (some ⟨w.heap.size+1,0,none⟩) k (max L1 L2)) undef (.slice A1 n1 m1) (.slice A2 n2 m2) undef undef) V:=by
   intro V hV;refine up ?_;unfold cm2;refine rdyI (i:=1) (by kernel_rfl) rfl (fun K hK=>?_);have cc:=CF.out V hV;go_simp
   refine hK _ _ ?_;exact dn (S01 V hV)
  have S1:∀(V:World) (hV:Below W.heap.size W V),G 5 #[false,true,true,true,false,false,false,false] (cm2 A A' c c' L1 L2 w (.slice A1 n1 m1) (.slice A2 n2 m2) (.slice A1 n1 m1) (.slice A2 n2 m2) undef (.func (.func 75) #[] #[]) (.slice A1 n1 m1) (.slice A2 n2 m2) undef undef) V:=by
   intro V hV;refine up ?_;unfold cm2;refine wpAnyIn_ready (rs:=[0,4]) (by kernel_rfl) (by simp) (AllReadyIn.cons rfl (fun K hK=>?_) (AllReadyIn.cons rfl (fun K hK=>?_) AllReadyIn.nil))
   .have cc:=CA.out V hV;go_simp
    refine hK _ _ ?_;exact dn (S01 V hV)
   .go_simp
    gi_wp2_with (refine ⟨trivial,?_⟩;gi_at_call 75;refine (callsIn_wide.2 (HC.out V hV)).mono ?_;rintro e w' ⟨A3,c3,es,rfl,hQ,bb⟩)
    exact dn (S14 _ (Bxb hV bb) A3 c3 es hQ)
  have S:∀(V:World) (hV:Below W.heap.size W V),G 6 #[false,false,true,true,false,false,false,false] (cm2 A A' c c' L1 L2 w (.slice A1 n1 m1) (.slice A2 n2 m2) (.slice A1 n1 m1) (.slice A2 n2 m2) undef undef (.slice A1 n1 m1) (.slice A2 n2 m2) undef undef) V:=by
   intro V hV;refine up ?_;unfold cm2;refine wpAnyIn_ready (rs:=[0,1]) (by kernel_rfl) (by simp) (AllReadyIn.cons rfl (fun K hK=>?_) (AllReadyIn.cons rfl (fun K hK=>?_) AllReadyIn.nil))
   .have cc:=CA.out V hV;go_simp
    refine hK _ _ ?_;exact dn (S0 V hV)
   .have cc:=CF.out V hV;go_simp
    refine hK _ _ ?_;exact dn (S1 V hV)
  exact S _ (Below.refl _ _).drew
 case done =>
  rintro W hI hK;obtain ⟨fl,r1,r2,r3⟩:=hI.acc.row;have cA:=hI.acc.box.one;have HR:=Hd hI;clear r1 r2 r3 hI
  gi_wp2
  have hg:=grownBy_putObj' W W0.heap.size (.deferred none);have hgr:∀r,some W0.heap.size=some r->∃o:Obj,W.heap[r]?=some o/\o.isCells=false:=fun r e=>by cases e;exact ⟨_,hK,rfl⟩
  refine ⟨by simp,.inl ⟨_,_,rfl,run_takeDeferred hK,?_⟩⟩;obtain ⟨fl,r1,r2,r3⟩:=(HR.out.acc.grown hg hgr).row
  have ht:TotS (Vs rs) (W.putObj W0.heap.size (.deferred none)) (.slice (some ⟨w.heap.size+1,0,none⟩) (max L1 L2) (max L1 L2)) (max L1 L2) w.heap.size :=
   .inr ⟨w.heap.size+1,max L1 L2,fl,rfl,by omega,r1,r2,Nat.le_refl _,by have:=HN.out;omega,r3⟩
  exact ⟨_,results_tmp rfl _ _ _,_,_,rfl,ht.mc,HR.out.bel.grown hg HR.out.bel.size (fun k e=>by cases e;omega)⟩
 case stop=>exact fun _ _ _ _ h _=>h.elim
end Go.Proofs.YtglhdielkkhefaaGreat

namespace Go.Proofs.YtglhdielkkhefaaGreat
open Go.RowKit Go.Shelf
theorem Vi.kw {W V:World}{A:Option Addr}{c k:Nat}{es:List E4}{rs:List Rat}(h:Vi W A c es rs k)(hb:Below W.heap.size W V)(kw:Kw W V):Vi V A c es rs k :=
 ⟨h.row.to hb,h.len,fun i=>kw.qi (h.el i),h.fq,h.cap,h.c63⟩
def putK (f:Nat->Rat)(rs:List Rat)(q k i:Nat):Rat:=if q<=i/\i<q+k then rs.getD (i-q) 0 else f i
theorem RowT.put {W:World}{g L j:Nat}{fl:List E4}{F:Nat->Rat}{r:Rat}(h1:Row W g fl)(h2:fl.length=L)(h3:∀i,i<L->Qc W (fl.getD i E4.z).a (fl.getD i E4.z).b (fl.getD i E4.z).c (fl.getD i E4.z).d (F i))(hj:j<L){e:E4}(he:e.fq)(hq:Qc W e.a e.b e.c e.d r) :
  RowT (W.setRow g (flat (fl.set j e)).toArray) g L (fun i=>if i=j then r else F i):=by
 have kw:Kw W (W.setRow g (flat (fl.set j e)).toArray):=h1.kw;refine ⟨fl.set j e,h1.app he,by simpa using h2,fun i hi=>?_⟩
 by_cases hij:i=j
 .subst hij;rw[show (fl.set i e).getD i E4.z=e from by simp[List.getD,show i<fl.length by omega]];dsimp only;rw[if_pos rfl];exact kw.qc hq
 .rw[show (fl.set j e).getD i E4.z=fl.getD i E4.z from by simp[List.getD,List.getElem?_set,Ne.symm hij]];dsimp only;rw[if_neg hij];exact kw.qc (h3 i hi)
theorem write_q {w:World}{g q n c L c' l:Nat}{A:Option Addr}{es:List E4}{rs:List Rat}{f:Nat->Rat}(hT:RowT w g L f)(hX:Rq w g A es)(hV:Vi w A c' es rs l)(hl:l<=10000)(hn:rs.length<=n)(hL:q+rs.length<=L)(hn63:n<=4398046511104) :
  Calls Tryz.prog 81 #[.slice (some ⟨g,q*4,none⟩) n c,.slice A rs.length c'] w fun e w'=>(∃v,e=.returned v)/\RowT w' g L (putK f rs q rs.length)/\Kw w w'/\Below g w w':=by
 have HX:=Hd hX;have HV:=Hd hV;have HLL:=Hd hl;have HTT:=Hd hT;obtain ⟨N,hN⟩:∃N,rs.length=N:=⟨_,rfl⟩
 have HE:Hid (es.length=N):=hV.len.trans hN;rw[hN]at hn hL ⊢;have HL:=Hd hL;have HN63:Hid (N<=4398046511104):=by show _<=_;omega
 have HNN:=Hd hn;have HN0:=Hd hN;clear hX hV hl hT hN hn hL hn63
 go_enter Tryz.func81,Tryz.ntmps81
 go_wp2
 go_loopw [8] (fun i wr=>∃k:Nat,i=.int .i64 k/\k<=N/\Hid (RowT wr g L (putK f rs q k))/\Kw w wr/\Below g w wr) (fun i _=>N-(intOf i).toNat)
 case atStart=>exact ⟨0,rfl,Nat.zero_le _,HTT.out.congr (fun i _=>by unfold putK;rw[if_neg (by omega)]),Kw.refl _,Below.refl _ _⟩
 case round =>
  obtain ⟨k,rfl,hk,hT,hw,hb⟩:=hrel
  by_cases hlt:k<N
  .have hk1:(0:Int)<=(k:Int):=by omega
   have hk2:(k:Int)<(N:Int):=by omega
   have hkn:(k:Int)<(n:Int):=by have:=HNN.out;omega
   have hk3:(k:Int)+1<=9223372036854775807:=by have:=HN63.out;omega
   have hke:k<es.length:=by rw[HE.out];exact hlt
   have hjL:q+k<L:=by have:=HL.out;omega
   obtain ⟨b,o,hA,hbo,g0,g1,g2,g3⟩:=HX.out k hke;have f0:=(hb.cell (p:=⟨b,o+k*4,none⟩) hbo).trans g0;have f1:=(hb.cell (p:=⟨b,o+k*4+1,none⟩) hbo).trans g1;have f2:=(hb.cell (p:=⟨b,o+k*4+2,none⟩) hbo).trans g2;have f3:=(hb.cell (p:=⟨b,o+k*4+3,none⟩) hbo).trans g3;have hqi:=hw.qi (HV.out.el k);rw[getD_at' hke]at hqi;have hf:=HV.out.fq _ (List.getElem_mem hke);generalize es[k]=E at f0 f1 f2 f3 hqi hf;obtain ⟨x1,x2,x3,x4⟩:=E;obtain ⟨⟨n1,A1,j1,m1,e5,e6⟩,⟨n2,A2,j2,m2,e7,e8⟩⟩:=hf;dsimp only at e5 e6 e7 e8 f0 f1 f2 f3 hqi;subst e5 e6 e7 e8;have hgl:g<wr.heap.size:=by obtain ⟨fl,h1,_⟩:=hT.out;exact h1.lt
   have hbw1:Below wr.heap.size wr (wr.alloc (.cells #[.bool n1,.slice A1 j1 m1,.bool n2,.slice A2 j2 m2] 32)):=bRR;have tX:=Four.new wr (.bool n1) (.slice A1 j1 m1) (.bool n2) (.slice A2 j2 m2) 32;have k0:=tX.c0;have k1:=tX.c1;have k2:=tX.c2;have k3:=tX.c3;obtain ⟨r,hr⟩:∃r,rs.getD k 0=r:=⟨_,rfl⟩
   rw[hr]at hqi;have HR:=Hd hr;have hT1:=hT.out.to hbw1;have hq1:=hqi.to hbw1;have HW:=Hd (hw.trans (Kw.of hbw1));have HB:=Hd (hb.trans (hbw1.mono (Nat.le_of_lt hgl)));obtain ⟨W1,hW1⟩:∃W1,W1=wr.alloc (.cells #[.bool n1,.slice A1 j1 m1,.bool n2,.slice A2 j2 m2] 32):=⟨_,rfl⟩
   have hgl1:g<W1.heap.size:=by rw[hW1];exact Nat.lt_of_lt_of_le hgl hbw1.size
   rw[<-hW1]at hT1 hq1 HW HB;have HT1:=Hd hT1;have HC:=Hd (canonical_q hq1 HLL.out);have HW1:=Hd hW1;have HLT:=Hd hlt;have HJL:=Hd hjL;have HGL:=Hd hgl1;clear g0 g1 g2 g3 hqi hT1 hq1 hr hW1 hlt hjL hgl hgl1 hbw1 hT hw hb hk hke hbo tX;subst hA;obtain ⟨gx,hgx⟩:∃gx,wr.heap.size=gx:=⟨_,rfl⟩
   go_wp2_with fail
   rw[<-HW1.out];refine HC.out.mono ?_;rintro e V ⟨y1,y2,y3,y4,rfl,qy,bb⟩;obtain ⟨fl,hrow,hfl,hqs⟩:=HT1.out.to bb;have HROW:=Hd hrow;have HJF:Hid (q+k<fl.length):=by show _<_;rw[hfl];exact HJL.out
   have QF:=Hd qy.fq
   have hTN:Hid (RowT (V.setRow g (flat (fl.set (q+k) ⟨y1,y2,y3,y4⟩)).toArray) g L (putK f rs q (k+1))):=(RowT.put hrow hfl hqs HJL.out (e:=⟨y1,y2,y3,y4⟩) qy.fq qy).congr fun i _=>by
    unfold putK
    by_cases hi:i=q+k
    .subst hi;rw[if_pos rfl,if_pos (by omega),Nat.add_sub_cancel_left,HR.out]
    .rw[if_neg hi];have e:(q<=i/\i<q+(k+1))=(q<=i/\i<q+k):=propext (by omega);simp only[e]
   have HWN:=Hd ((HW.out.trans (Kw.of bb)).trans (hrow.kw (cs:=(flat (fl.set (q+k) ⟨y1,y2,y3,y4⟩)).toArray)));have HBN:=Hd (below_setRow (HB.out.trans (bb.mono (Nat.le_of_lt HGL.out))) (Nat.le_refl g) (flat (fl.set (q+k) ⟨y1,y2,y3,y4⟩)).toArray);clear hrow hfl hqs qy bb HC HT1 HW HB HW1 k0 k1 k2 k3 f0 f1 f2 f3
   go_wp2_with (refine wpList_storeq (k:=q+k) (e:=⟨y1,y2,y3,y4⟩) rfl (.tmp 17) (.tmp 16) rfl (by rw[Nat.add_mul];rfl) (by rfl) HROW.out HJF.out QF.out ?_;clear HROW)
   go_roundw
   case rel=>exact ⟨k+1,by simp,HLT.out,hTN,HWN.out,HBN.out⟩
   case measure=>have:=HLT.out;simp[intOf];omega
  .obtain rfl:k=N:=by omega
   have HW:=Hd hw;have HB:=Hd hb;clear hw hb hlt hk;go_wp2
   go_end0
   exact ⟨⟨_,rfl⟩,hT.out,HW.out,HB.out⟩
def catF (xs ys:List Rat)(l i:Nat):Rat:=if i<l then xs.getD i 0 else ys.getD (i-l) 0
theorem cat1_m {w:World}{ga gb l r c c' m:Nat}{A A':Option Addr}{es fs:List E4}{xs ys:List Rat}(h1:w.cell? ⟨ga,0,none⟩=some (.int .i64 (l:Int)))(h2:w.cell? ⟨gb,0,none⟩=some (.int .i64 (r:Int)))(hX:Vi w A c es xs m)(hY:Vi w A' c' fs ys m)(hm:m<=10000)(hx:xs.length<=l)(hy:ys.length<=r)(hlr:l+r<=4398046511104) :
  Calls Tryz.prog 80 #[.slice A xs.length c,.slice A' ys.length c',.pointer (some ⟨ga,0,none⟩),.pointer (some ⟨gb,0,none⟩)] w (VR w (tab (l+r) (catF xs ys l))):=by
 obtain ⟨N,hN⟩:∃N,l+r=N:=⟨_,rfl⟩
 rw[hN]at hlr ⊢;have S1:IntKind.i64.wrap ((l:Int)+(r:Int))=(N:Int):=by rw[IntKind.wrap_i64];omega
 have HL:=Hd hlr;have l1:=World.block_lt_of_cell? w _ h1;have l2:=World.block_lt_of_cell? w _ h2;obtain ⟨W1,hW1⟩:∃W1,W1=w.alloc (.cells (flat (List.replicate N E4.z)).toArray 32):=⟨_,rfl⟩
 have hbw:Below w.heap.size w W1:=by rw[hW1];exact bRR
 have hT:RowT W1 w.heap.size N (fun _=>0):=by rw[hW1];exact RowT.new
 have q1:=(hbw.cell (p:=⟨ga,0,none⟩) l1).trans h1;have q2:=(hbw.cell (p:=⟨gb,0,none⟩) l2).trans h2;have F1:Hid (∀V,Below w.heap.size w V->V.cell? ⟨ga,0,none⟩=some (.int .i64 (l:Int))):=fun V hV=>(hV.cell (p:=⟨ga,_,none⟩) l1).trans h1
 have HWR:=Hd (write_q (q:=0) (n:=l) (c:=N) (c':=c) hT (hX.row.below hbw) (hX.to hbw) hm hx (by omega) (by omega));have HY:=Hd (fun (V:World) (hV:Below w.heap.size w V) (k:Kw w V) (hT:RowT V w.heap.size N (putK (fun _=>0) xs 0 xs.length))=>write_q (q:=l) (n:=N-l) (c:=N-l) (c':=c') hT (hY.row.below hV) (Vi.kw hY hV k) hm (by omega) (by omega) (by omega));have HY0:=Hd (fun (V:World) (hV:Below w.heap.size w V) (k:Kw w V) (hT:RowT V w.heap.size N (putK (fun _=>0) xs 0 xs.length)) (h0:ys.length=0)=>write_q (q:=0) (n:=0) (c:=0) (c':=c') hT (hY.row.below hV) (Vi.kw hY hV k) hm (by omega) (by omega) (by decide));have hlN:(l:Int)<=(N:Int):=by omega
 have hl0:(0:Int)<=(l:Int):=by omega
 have HXL:=Hd hx;have HYL:=Hd hy;have HN:=Hd hN;have HB:=Hd hbw;have HW1:=Hd hW1;have HKW:=Hd (Kw.of hbw);rw[hW1]at q1 q2;clear hN hlr hW1 hbw hT hX hY hx hy l1 l2 hm
 go_enter Tryz.func80,Tryz.ntmps80
 go_wp2_with (at_make;refine wpList_makeq _ rfl _ _ rfl N N rfl rfl rfl rfl (Nat.le_refl _) HL.out ?_)
 rw[<-HW1.out];clear q1 q2;refine HWR.out.mono ?_;rintro e V ⟨⟨v,rfl⟩,hT,hk,hb⟩;have hbV:=HB.out.trans hb;have q1:=F1.out V hbV;have HYV:=Hd (HY.out V hbV (HKW.out.trans hk) hT);have HY0V:=Hd (HY0.out V hbV (HKW.out.trans hk) hT);have HBV:=Hd hbV;clear hT hk hb hbV HY HY0 HWR HB HW1 HKW
 go_wp2_with fail
 case inl h =>
  subst h;have h0:ys.length=0:=by have:=HYL.out;have:=HN.out;omega
  refine (HY0V.out h0).mono ?_;rintro e V2 ⟨⟨v2,rfl⟩,hT,hk,hb⟩
  have HT2:Hid (RowT V2 w.heap.size N (catF xs ys N)):=hT.congr fun i hi=>by
   unfold putK catF;rw[h0,if_neg (by omega),if_pos hi]
   by_cases hx:i<xs.length
   .rw[if_pos (by omega),Nat.sub_zero]
   .rw[if_neg (by omega),getD_ge (l:=xs) (by omega)]
  have HB2:=Hd (HBV.out.trans hb);clear hT hk hb;go_wp2
  go_ret
  exact HT2.out.vr HL.out HB2.out
 case inr h =>
  refine HYV.out.mono ?_;rintro e V2 ⟨⟨v2,rfl⟩,hT,hk,hb⟩
  have HT2:Hid (RowT V2 w.heap.size N (catF xs ys l)):=hT.congr fun i hi=>by
   have hx:=HXL.out;unfold putK catF
   by_cases hi1:i<l
   .rw[if_neg (by omega),if_pos hi1]
    by_cases hx2:i<xs.length
    .rw[if_pos (by omega),Nat.sub_zero]
    .rw[if_neg (by omega),getD_ge (l:=xs) (by omega)]
   .rw[if_neg hi1]
    by_cases hy2:i<l+ys.length
    .rw[if_pos (by omega)]
    .rw[if_neg (by omega),if_neg (by omega),getD_ge (l:=ys) (by omega)]
  have HB2:=Hd (HBV.out.trans hb);clear hT hk hb;go_wp2
  go_ret
  exact HT2.out.vr HL.out HB2.out
def rowL (rs:Nat->List Rat)(N i:Nat):List Rat:=if i<N then rs i else []
theorem mi_vals {w:World}{P:Option Addr}{N C m:Nat}{rs:Nat->List Rat}(h:Mi w P N C rs m) :
  ∃vs:Nat->Value,Rw w w.heap.size P N vs/\(∀i,IsS (vs i))/\∀i,∃A c es,rvA N vs i=.slice A (rowL rs N i).length c/\Vi w A c es (rowL rs N i) m:=by
 have each:∀k,k<N->∃v:Value,(∃b o,P=some ⟨b,o,none⟩/\b<w.heap.size/\w.cell? ⟨b,o+k,none⟩=some v)/\∃A c es,v=.slice A (rs k).length c/\Vi w A c es (rs k) m:=fun k hk=>by
  obtain ⟨b,o,A,c,es,e,h1,h2,h3⟩:=h.row k hk;exact ⟨_,⟨b,o,e,h1,h2⟩,A,c,es,rfl,h3⟩
 obtain ⟨v0,hv⟩:=Go.Deep.choose_lt each;have e1:∀k,k<N->rvA N v0 k=v0 k:=fun k hk=>if_pos hk
 have e2:∀k,rvA N (rvA N v0) k=rvA N v0 k:=fun k=>by
  unfold rvA
  split
  .rfl
  .rfl
 have key:∀i,∃A c es,rvA N v0 i=.slice A (rowL rs N i).length c/\Vi w A c es (rowL rs N i) m:=fun i=>by
  unfold rowL
  by_cases hi:i<N
  .rw[e1 i hi,if_pos hi];exact (hv i hi).2
  .rw[if_neg hi,show rvA N v0 i=.slice none 0 0 from if_neg hi];exact ⟨none,0,[],rfl,Vi.nil w (by decide)⟩
 refine ⟨rvA N v0,fun k hk=>?_,fun i=>?_,fun i=>?_⟩
 .obtain ⟨b,o,e,h1,h2⟩:=(hv k hk).1;exact ⟨b,o,e,h1,by rw[e1 k hk];exact h2⟩
 .obtain ⟨A,c,es,e,_⟩:=key i;exact ⟨_,_,_,e⟩
 .rw[e2];exact key i
theorem rowL_le {rs:Nat->List Rat}{N M:Nat}(h:∀k,k<N->(rs k).length<=M)(i:Nat):(rowL rs N i).length<=M:=by
 unfold rowL
 split
 .rename_i hi;exact h i hi
 .exact Nat.zero_le _
theorem rowL_cols (rs:Nat->List Rat)(N i:Nat):(rowL rs N i).length<=colsN rs N:=rowL_le (fun _ hk=>colsN_ge rs hk) i
theorem cat_m {w:World}{P Q:Option Addr}{N C M D m:Nat}{rs ss:Nat->List Rat}(hM:Mi w P N C rs m)(hB:Mi w Q M D ss m)(hm:m<=10000)(hN:N<=4398046511104)(hMM:M<=4398046511104)(hr:∀k,k<N->(rs k).length<=1000000)(hs:∀k,k<M->(ss k).length<=1000000) :
  Calls Tryz.prog 35 #[.slice P N C,.slice Q M D] w (MR w (max N M) (fun i=>tab (colsN rs N+colsN ss M) (catF (rowL rs N i) (rowL ss M i) (colsN rs N)))):=by
 have hc1:colsN rs N<=1000000:=colsN_le hr;have hc2:colsN ss M<=1000000:=colsN_le hs;obtain ⟨vs,hx,qx,ax⟩:=mi_vals hM;obtain ⟨us,hy,qy,ay⟩:=mi_vals hB;have HA:=Hd (cols_m (C:=C) hM.rs (by omega) (fun k hk=>Nat.le_trans (hr k hk) (by decide)));have HBB:=Hd (fun (V:World) (hV:Below w.heap.size w V)=>cols_m (C:=D) (hB.to hV).rs (by omega) (fun k hk=>Nat.le_trans (hs k hk) (by decide)))
 have HF:=Hd (fun (V:World) (hV:Below w.heap.size w V) (g1 g2:Nat) (h1:Hp V g1 (.cells #[.int .i64 (colsN rs N:Nat)] 3 (0,0))) (h2:Hp V g2 (.cells #[.int .i64 (colsN ss M:Nat)] 3 (0,0))) =>
  comb_cat (rs:=fun i=>tab (colsN rs N+colsN ss M) (catF (rowL rs N i) (rowL ss M i) (colsN rs N))) (ga:=g1) (gb:=g2) (c:=C) (c':=D) (fun k hk=>by
   obtain ⟨b,o,e,h3,h4⟩:=hx.grow hV k hk
   exact ⟨b,o,e,Nat.lt_of_lt_of_le h3 hV.size,h4⟩) (fun k hk=>by
   obtain ⟨b,o,e,h3,h4⟩:=hy.grow hV k hk
   exact ⟨b,o,e,Nat.lt_of_lt_of_le h3 hV.size,h4⟩) qx qy hN hMM (fun U hU i hi=>by
   obtain ⟨A1,c1,es1,e1,v1⟩:=ax i;obtain ⟨A2,c2,es2,e2,v2⟩:=ay i;rw[e1,e2]
   exact cat1_m (h1.to hU).one (h2.to hU).one ((v1.to hV).to hU) ((v2.to hV).to hU) hm (rowL_cols rs N i) (rowL_cols ss M i) (by omega)))
 clear hM hB hm hN hMM hr hs hc1 hc2 hx hy qx qy ax ay
 go_enter Tryz.func35,Tryz.ntmps35
 go_wp2_with fail
 refine HA.out.mono ?_;rintro e V ⟨rfl,bb⟩;have HB:=Hd bb;clear bb HA
 go_wp2_with fail
 refine (HBB.out V HB.out).mono ?_;rintro e V ⟨rfl,bb⟩;replace HB:=Hxb HB bb;clear bb HBB;obtain ⟨W3,hW3⟩:∃W3,W3=(V.alloc (.cells #[.int .i64 (colsN rs N:Nat)] 3)).alloc (.cells #[.int .i64 (colsN ss M:Nat)] 3):=⟨_,rfl⟩
 have hb3:Below V.heap.size V W3:=by rw[hW3];exact bRR.alloc (by simp) _
 have h1:Hp W3 V.heap.size (.cells #[.int .i64 (colsN rs N:Nat)] 3 (0,0)):=by rw[hW3];exact (Hp.new _ _ _).alloc _
 have h2:Hp W3 (V.heap.size+1) (.cells #[.int .i64 (colsN ss M:Nat)] 3 (0,0)):=by
  have h:=Hp.new (V.alloc (.cells #[.int .i64 (colsN rs N:Nat)] 3)) #[.int .i64 (colsN ss M:Nat)] 3;rw[szA]at h;rw[hW3];exact h
 have HFV:=Hd (HF.out W3 (HB.out.trans (hb3.mono HB.out.size)) _ _ h1 h2);have HB3:=Hxb HB hb3;have HW3:=Hd hW3;clear HF hb3 h1 h2 hW3
 go_wp2_with fail
 rw[<-HW3.out];clear HW3;refine HFV.out.mono ?_;rintro e X ⟨P2,C2,rfl,hm2,b2⟩;have HE:=Hxb HB3 b2;clear b2;go_wp2
 go_ret
 exact ⟨P2,C2,rfl,hm2,HE.out⟩
theorem addm_m {w:World}{P Q:Option Addr}{N C M D m l:Nat}{rs ss:Nat->List Rat}(hM:Mi w P N C rs m)(hB:Mi w Q M D ss l)(hm:0<m)(hl:0<l)(hml:m+l+1<=10000)(hN:N<=4398046511104)(hMM:M<=4398046511104)(hr:∀k,k<N->(rs k).length<=1000000)(hs:∀k,k<M->(ss k).length<=1000000) :
  Calls Tryz.prog 31 #[.slice P N C,.slice Q M D] w (MR w (max N M) (fun i=>ptw (fun r s=>r+s) (rowL rs N i) (rowL ss M i))):=by
 obtain ⟨vs,hx,qx,ax⟩:=mi_vals hM;obtain ⟨us,hy,qy,ay⟩:=mi_vals hB
 have HF:=Hd (comb_addm (w:=w) (rs:=fun i=>ptw (fun r s=>r+s) (rowL rs N i) (rowL ss M i)) (c:=C) (c':=D) hx hy qx qy hN hMM (fun U hU i hi=>by
   obtain ⟨A1,c1,es1,e1,v1⟩:=ax i;obtain ⟨A2,c2,es2,e2,v2⟩:=ay i;rw[e1,e2]
   exact vadd_v (v1.to hU) (v2.to hU) hm hl hml (Nat.le_trans (rowL_le hr i) (by decide)) (Nat.le_trans (rowL_le hs i) (by decide))))
 clear hM hB hm hl hml hN hMM hr hs hx hy qx qy ax ay
 go_enter Tryz.func31,Tryz.ntmps31
 go_wp2_with fail
 refine HF.out.mono ?_;rintro e X ⟨P2,C2,rfl,hm2,b2⟩;have HE:=Hd b2;clear b2;go_wp2
 go_ret
 exact ⟨P2,C2,rfl,hm2,HE.out⟩
theorem rat_in {w:World}{b o n c k:Nat}{n1 n2:Bool}{A1 A2:Option Addr}{j1 m1 j2 m2:Nat}(hk:k<n)(hn:n<=9223372036854775807)(hb:b<w.heap.size)
  (h0:w.cell? ⟨b,o+k*4,none⟩=some (.bool n1)) (h1:w.cell? ⟨b,o+k*4+1,none⟩=some (.slice A1 j1 m1)) (h2:w.cell? ⟨b,o+k*4+2,none⟩=some (.bool n2)) (h3:w.cell? ⟨b,o+k*4+3,none⟩=some (.slice A2 j2 m2)) :
  Calls Tryz.prog 56 #[.slice (some ⟨b,o,none⟩) n c,.int .i64 k] w fun e w'=>e=.returned (.agg #[.bool n1,.slice A1 j1 m1,.bool n2,.slice A2 j2 m2])/\Below w.heap.size w w':=by
 have hbw:Below w.heap.size w (w.alloc (.cells #[.bool false,.slice none 0 0,.bool false,.slice none 0 0] 32)):=bRR;have f0:=(hbw.cell (p:=⟨b,o+k*4,none⟩) hb).trans h0;have f1:=(hbw.cell (p:=⟨b,o+k*4+1,none⟩) hb).trans h1;have f2:=(hbw.cell (p:=⟨b,o+k*4+2,none⟩) hb).trans h2;have f3:=(hbw.cell (p:=⟨b,o+k*4+3,none⟩) hb).trans h3;have hk0:(k:Int)<(n:Int):=by omega
 have hk1:(0:Int)<=(k:Int):=by omega
 clear hbw h0 h1 h2 h3 hb
 go_enter Tryz.func56,Tryz.ntmps56
 go_wp2
 refine bodyPost_ret (v:=.agg #[.bool n1,.slice A1 j1 m1,.bool n2,.slice A2 j2 m2]) (by simp[results,Tryz.f56,go_sem]) rfl ?_;exact ⟨rfl,bRR⟩
theorem rat_out {w:World}{A:Option Addr}{n c k:Nat}(hk:¬k<n) :
  Calls Tryz.prog 56 #[.slice A n c,.int .i64 k] w fun e w'=>e=.returned (.agg #[.bool false,.slice none 0 0,.bool false,.slice none 0 0])/\Below w.heap.size w w':=by
 have hk0:¬(k:Int)<(n:Int):=by omega
 have hk1:(0:Int)<=(k:Int):=by omega
 clear hk
 go_enter Tryz.func56,Tryz.ntmps56
 go_wp2
 refine bodyPost_ret (v:=.agg #[.bool false,.slice none 0 0,.bool false,.slice none 0 0]) (by simp[results,Tryz.f56,go_sem]) rfl ?_;exact ⟨rfl,bRR⟩
theorem rat_v {w:World}{B:Nat}{A:Option Addr}{c k:Nat}{es:List E4}(h:Rq w B A es)(hq:∀e∈es,e.fq)(hl:es.length<=9223372036854775807) :
  Calls Tryz.prog 56 #[.slice A es.length c,.int .i64 k] w fun e w'=>e=.returned (.agg #[(es.getD k E4.z).a,(es.getD k E4.z).b,(es.getD k E4.z).c,(es.getD k E4.z).d])/\Below w.heap.size w w':=by
 by_cases hk:k<es.length
 .obtain ⟨b,o,rfl,hb,h0,h1,h2,h3⟩:=h k hk;rw[getD_at' hk];have hf:=hq _ (List.getElem_mem hk);generalize es[k]=e at h0 h1 h2 h3 hf;obtain ⟨e1,e2,e3,e4⟩:=e;obtain ⟨⟨n1,A1,k1,c1,g1,g2⟩,⟨n2,A2,k2,c2,g3,g4⟩⟩:=hf;dsimp only at g1 g2 g3 g4 h0 h1 h2 h3;subst g1 g2 g3 g4;exact rat_in hk hl (World.block_lt_of_cell? w _ h0) h0 h1 h2 h3
 .rw[getD_out hk];exact rat_out hk
attribute [local go_sem] Oper.semAt_some
structure PairM (w:World)(B:Nat)(VX VY:Value)(W:World):Prop where
 bx:Hp W B (.cells #[VX] 22 (0,0))
 by':Hp W (B+1) (.cells #[VY] 22 (0,0))
 bel:Below w.heap.size w W
def eqM (rs:Nat->List Rat)(N:Nat)(ss:Nat->List Rat)(M:Nat):Bool:=(List.range (max N M)).all fun i=>decide (lexQ (rowL rs N i) (rowL ss M i)=0)
end Go.Proofs.YtglhdielkkhefaaGreat

namespace Go.Proofs.YtglhdielkkhefaaGreat
open Go.RowKit Go.Shelf
def v3 {α:Type}(x y z d:α):Nat->α
 | 0=>x
 | 1=>y
 | 2=>z
 | _=>d
def sum3 (a b c:List Rat):List Rat:=sumV (v3 a b c []) 3
theorem sumF_pad (f:Nat->Rat)(n:Nat)(h:∀i,n<=i->f i=0):∀d,sumF f (n+d)=sumF f n
 | 0=>rfl
 | d+1=>by
  show sumF f (n+d)+f (n+d)=_
  rw[sumF_pad f n h d,h _ (by omega),Rat.add_zero]
def el (rs:Nat->List Rat)(N i j:Nat):Rat:=(rowL rs N i).getD j 0
theorem el_in {rs:Nat->List Rat}{N i j:Nat}(h:i<N):el rs N i j=(rs i).getD j 0:=by unfold el rowL;rw[if_pos h]
theorem el_out {rs:Nat->List Rat}{N i j:Nat}(h:¬i<N):el rs N i j=0:=by unfold el rowL;rw[if_neg h];exact getD_ge (Nat.zero_le _)
theorem sumF_cong {f g:Nat->Rat} : ∀k,(∀i,i<k->f i=g i)->sumF f k=sumF g k
 | 0,_=>rfl
 | k+1,h=>by
  show sumF f k+f k=sumF g k+g k
  rw[sumF_cong k (fun i hi=>h i (by omega)),h k (by omega)]
theorem sumF_to {f:Nat->Rat}{n K:Nat}(hz:∀k,n<=k->f k=0)(hK:n<=K):sumF f n=sumF f K:=by
 have h:=sumF_pad f n hz (K-n);rw[show n+(K-n)=K by omega]at h;exact h.symm
theorem rowMul_el (ys:List Rat)(rs:Nat->List Rat)(N j K:Nat)(hK:min ys.length N<=K):rowMul ys rs N j=sumF (fun k=>ys.getD k 0*el rs N k j) K:=by
 rw[<-sumF_to (n:=min ys.length N) (fun k hk=>?_) hK]
 .exact sumF_cong _ fun i hi=>by rw[el_in (by omega)]
 .by_cases h:k<N
  .rw[getD_ge (l:=ys) (by omega),Rat.zero_mul]
  .rw[el_out h,Rat.mul_zero]
def elI (rs:Nat->List Rat)(N:Nat)(i j:Int):Rat:=if 0<=i/\0<=j then el rs N i.toNat j.toNat else 0
theorem elI_nat (rs:Nat->List Rat)(N i j:Nat):elI rs N (i:Int) (j:Int)=el rs N i j:=by
 unfold elI;rw[if_pos ⟨Int.natCast_nonneg _,Int.natCast_nonneg _⟩,Int.toNat_natCast,Int.toNat_natCast]
theorem elI_out {rs:Nat->List Rat}{N:Nat}{i j:Int}(h:¬(0<=i/\i<(N:Int)/\0<=j)):elI rs N i j=0:=by
 unfold elI
 split
 .exact el_out (by omega)
 .rfl
theorem rat_neg {w:World}{A:Option Addr}{n c:Nat}{k:Int}(hk:k<0) :
  Calls Tryz.prog 56 #[.slice A n c,.int .i64 k] w fun e w'=>e=.returned (.agg #[.bool false,.slice none 0 0,.bool false,.slice none 0 0])/\Below w.heap.size w w':=by
 have hk1:¬(0:Int)<=k:=by omega
 clear hk
 go_enter Tryz.func56,Tryz.ntmps56
 go_wp2
 refine bodyPost_ret (v:=.agg #[.bool false,.slice none 0 0,.bool false,.slice none 0 0]) (by simp[results,Tryz.f56,go_sem]) rfl ?_;exact ⟨rfl,bRR⟩
theorem rat_i {w:World}{A:Option Addr}{c m:Nat}{k:Int}{es:List E4}{rs:List Rat}(h:Vi w A c es rs m) :
  Calls Tryz.prog 56 #[.slice A rs.length c,.int .i64 k] w fun e w'=>∃a b c d,e=.returned (.agg #[a,b,c,d])/\Qi w' a b c d (if 0<=k then rs.getD k.toNat 0 else 0) m/\Below w.heap.size w w':=by
 by_cases hk:0<=k
 .obtain ⟨n,rfl⟩:∃n:Nat,k=(n:Int):=⟨k.toNat,by omega⟩
  have h1:=rat_v (c:=c) (k:=n) h.row h.fq (by have:=h.cap;have:=h.c63;omega);rw[h.len]at h1;refine h1.mono ?_;rintro e w' ⟨rfl,hb⟩;rw[if_pos hk,Int.toNat_natCast];exact ⟨_,_,_,_,rfl,(h.el n).to hb,hb⟩
 .refine (rat_neg (by omega)).mono ?_;rintro e w' ⟨rfl,hb⟩;rw[if_neg hk];exact ⟨_,_,_,_,rfl,Qi.zero _,hb⟩
theorem rat4_in {w:World}{P:Option Addr}{N C m i:Nat}{j:Int}{rs:Nat->List Rat}(hM:Mi w P N C rs m)(hm0:0<m)(hm:m<=10000)(hi:i<N) :
  Calls Tryz.prog 17 #[.slice P N C,.int .i64 (i:Int),.int .i64 j] w (QR w (if 0<=j then (rs i).getD j.toNat 0 else 0)):=by
 have hN:=hM.n63;obtain ⟨r,hr⟩:∃r,rs i=r:=⟨_,rfl⟩
 obtain ⟨b,o,A,c,es,rfl,hb1,hc,hv⟩:=hM.row i hi;rw[hr]at hc hv;rw[hr];obtain ⟨W0,hW0⟩:∃W0,W0=w.alloc (.cells #[.bool false,.slice none 0 0,.bool false,.slice none 0 0] 32):=⟨_,rfl⟩
 have hbw:Below w.heap.size w W0:=by rw[hW0];exact bRR
 have tR:Four W0 w.heap.size (.bool false) (.slice none 0 0) (.bool false) (.slice none 0 0):=by rw[hW0];exact Four.new w _ _ _ _ _
 replace hc:=(hbw.cell (p:=⟨b,_,none⟩) hb1).trans hc;replace hv:=hv.to hbw;have HR:=Hd (rat_i (k:=j) hv);obtain ⟨t,ht⟩:∃t,(if 0<=j then r.getD j.toNat 0 else 0)=t:=⟨_,rfl⟩
 rw[ht]at HR ⊢;have hi0:¬(i:Int)<0:=by omega
 have hi1:¬(N:Int)<=(i:Int):=by omega
 have hi2:(0:Int)<=(i:Int):=by omega
 have hi3:(i:Int)<(N:Int):=by omega
 have HW0:=Hd hW0;have HB:=Hd hbw;rw[hW0]at hc;clear hM hi hb1 hW0 hbw hr hv ht
 go_enter Tryz.func17,Tryz.ntmps17
 go_wp2_with fail
 rw[<-HW0.out];refine HR.out.mono ?_;rintro e V ⟨x1,x2,x3,x4,rfl,qx,bb⟩;replace tR:=tR.to bb;replace HB:=Hxb HB bb;have HC:=Hd (rleast_q qx hm0 hm);clear bb HR HW0 qx hc
 go_wp2_with fail
 refine HC.out.mono ?_;rintro e V2 ⟨y1,y2,y3,y4,rfl,q,bb⟩;replace tR:=tR.to bb;replace HB:=Hxb HB bb;clear bb HC;have RZ:=Hd q;obtain ⟨V99,eV,u,kp⟩:=pack4 tR Fq.nil y1 y2 y3 y4;obtain ⟨⟨n1,A1,k1,m1,rfl,rfl⟩,⟨n2,A2,k2,m2,rfl,rfl⟩⟩:=q.fq;obtain ⟨v0,v1,v2,v3,v4,v5,v6,v7,_⟩:=tR;have EV:=Hd eV;have KP:=Hd kp;have U:=Hd u;clear eV kp u q;go_wp2
 rw[EV.out];refine bodyPost_ret (v:=.agg #[.bool n1,.slice A1 k1 m1,.bool n2,.slice A2 k2 m2]) (by simp[results,Tryz.f17,go_sem,U.out.c0,U.out.c1,U.out.c2,U.out.c3]) rfl ?_;exact ⟨_,_,_,_,rfl,RZ.out.k4 KP.out,KP.out.bel _ _ HB.out (by omega)⟩
theorem rat4_out {w:World}{P:Option Addr}{N C:Nat}{i j:Int}(hi:¬(0<=i/\i<(N:Int))) :
  Calls Tryz.prog 17 #[.slice P N C,.int .i64 i,.int .i64 j] w (QR w 0):=by
 rcases (show i<0∨(¬i<0/\(N:Int)<=i) by omega) with h1|⟨h1,h2⟩
 .clear hi
  go_enter Tryz.func17,Tryz.ntmps17
  go_wp2
  refine bodyPost_ret (v:=.agg #[.bool false,.slice none 0 0,.bool false,.slice none 0 0]) (by simp[results,Tryz.f17,go_sem]) rfl ?_;exact ⟨_,_,_,_,rfl,⟨Zc.zero _,Zc.zero _⟩,bRR⟩
 .clear hi
  go_enter Tryz.func17,Tryz.ntmps17
  go_wp2
  refine bodyPost_ret (v:=.agg #[.bool false,.slice none 0 0,.bool false,.slice none 0 0]) (by simp[results,Tryz.f17,go_sem]) rfl ?_;exact ⟨_,_,_,_,rfl,⟨Zc.zero _,Zc.zero _⟩,bRR⟩
theorem rat4_i {w:World}{P:Option Addr}{N C m:Nat}{i j:Int}{rs:Nat->List Rat}(hM:Mi w P N C rs m)(hm0:0<m)(hm:m<=10000) :
  Calls Tryz.prog 17 #[.slice P N C,.int .i64 i,.int .i64 j] w (QR w (elI rs N i j)):=by
 by_cases hi:0<=i/\i<(N:Int)
 .obtain ⟨n,rfl⟩:∃n:Nat,i=(n:Int):=⟨i.toNat,by omega⟩
  have hn:n<N:=by omega
  have h:=rat4_in (j:=j) hM hm0 hm hn
  have e:(if 0<=j then (rs n).getD j.toNat 0 else 0)=elI rs N (n:Int) j:=by
   unfold elI
   by_cases hj:0<=j
   .rw[if_pos hj,if_pos ⟨hi.1,hj⟩,Int.toNat_natCast,el_in hn]
   .rw[if_neg hj,if_neg (fun h=>hj h.2)]
  rwa [e]at h
 .rw[elI_out (by omega)];exact rat4_out hi
end Go.Proofs.YtglhdielkkhefaaGreat
