/- Parts: 3. -/
import Derived.Test.YtglhdielkkhefaaGreatMt16
set_option linter.unusedVariables false
set_option linter.unusedSimpArgs false
set_option maxRecDepth 100000
set_option maxHeartbeats 40000000

namespace Go.Proofs.YtglhdielkkhefaaGreat
open Go.RowKit Go.Shelf
attribute [local go_sem] Oper.semAt_some
theorem wpListIn_makeq {F:Fence}{n:Nat}(w:World){ops:Array Oper}{rest:List Oper}{o:Oper}{a:Act}{Q:Exit->Act->World->Prop}
  (hg:o.guard=none) (l c:Operand) (hop:o.op=Op.makeSlice 38 l c) (N C:Nat) {L D:Int} (hl:a.eval l=.int .i64 L) (hc:a.eval c=.int .i64 D) (hL:L=(N:Int)) (hC:D=(C:Int)) (h1:N<=C) (h2:C<=4398046511104)
  (hK:wpListIn F n Tryz.prog ops Q rest (a.put o.dst (.slice (some ⟨w.heap.size,0,none⟩) N C)) (w.alloc (.cells (flat (List.replicate C E4.z)).toArray 32))) :
  wpListIn F n Tryz.prog ops Q (o::rest) a w:=by
 refine wpListIn_plain hg fun K hK'=>?_
 have hrun:=make_q w N C h1 h2;subst hL;subst hC;unfold Oper.wpIn;refine ⟨?_,?_⟩
 .simp[Oper.about,hop]
 .rw[Oper.semAt_plain F _ _ (by rw[hop];intro c hc';cases hc')];simp[execOp,hop,hl,hc,hrun,Result.andThen];exact hK' _ _ hK
theorem wpList_makeq (w:World){ops:Array Oper}{rest:List Oper}{o:Oper}{a:Act}{Q:Exit->Act->World->Prop}
  (hg:o.guard=none) (l c:Operand) (hop:o.op=Op.makeSlice 38 l c) (N C:Nat) {L D:Int} (hl:a.eval l=.int .i64 L) (hc:a.eval c=.int .i64 D) (hL:L=(N:Int)) (hC:D=(C:Int)) (h1:N<=C) (h2:C<=4398046511104)
  (hK:wpList Tryz.prog ops Q rest (a.put o.dst (.slice (some ⟨w.heap.size,0,none⟩) N C)) (w.alloc (.cells (flat (List.replicate C E4.z)).toArray 32))) :
  wpList Tryz.prog ops Q (o::rest) a w:=by
 refine wpList_plain hg fun K hK'=>?_
 have hrun:=make_q w N C h1 h2;subst hL;subst hC;unfold Oper.wp;simp[execOp,hop,hl,hc,hrun,Result.andThen];exact hK' _ _ hK
def Hp (W:World)(g:Nat)(o:Obj):Prop:=W.heap[g]?=some o
section
variable {W V : World} {g : Nat} {o : Obj}
theorem Hp.lt (h:Hp W g o):g<W.heap.size:=(Array.getElem?_eq_some_iff.1 h).1
theorem Hp.to (h:Hp W g o)(hb:Below W.heap.size W V):Hp V g o:=(hb.block g h.lt).trans h
theorem Hp.new (W:World)(cs:Array Value)(t:TypeId):Hp (W.alloc (.cells cs t)) W.heap.size (.cells cs t (0,0)):=World.alloc_heap_new W _
theorem Hp.alloc (h:Hp W g o)(p:Obj):Hp (W.alloc p) g o:=h.to bRR
theorem Hp.four {a b c d:Value}{t:TypeId}(h:Hp W g (.cells #[a,b,c,d] t (0,0))):Four W g a b c d:=Four.of h
theorem Hp.one {a:Value}{t:TypeId}(h:Hp W g (.cells #[a] t (0,0))):W.cell? ⟨g,0,none⟩=some a:=Boxed.cell (t:=t) h
theorem Hp.grown {row:Option Nat}(h:Hp W g o)(hg:W.grownBy V row)(hr:∀r,row=some r->∃o:Obj,W.heap[r]?=some o/\o.isCells=false)(ho:o.isCells=true):Hp V g o :=
 (grownBy_keeps_cells hg hr h ho).trans h
theorem Kw.grown {row:Option Nat}(hg:W.grownBy V row)(hr:∀r,row=some r->∃o:Obj,W.heap[r]?=some o/\o.isCells=false):Kw W V :=
 ⟨hg.size,fun _ _ hp=>cell_kept hp hg hr⟩
theorem Row.grown {es:List E4}{row:Option Nat}(h:Row W g es)(hg:W.grownBy V row)(hr:∀r,row=some r->∃o:Obj,W.heap[r]?=some o/\o.isCells=false):Row V g es :=
 ⟨(grownBy_keeps_cells hg hr h.heap rfl).trans h.heap,h.fq⟩
end
structure Acc (W:World)(H g N k:Nat)(f:Nat->Rat):Prop where
 box:Hp W H (.cells #[.slice (some ⟨g,0,none⟩) k N] 38 (0,0))
 row:∃fl,Row W g fl/\fl.length=N/\∀i,i<k->Qc W (fl.getD i E4.z).a (fl.getD i E4.z).b (fl.getD i E4.z).c (fl.getD i E4.z).d (f i)
section
variable {W V : World} {H g N k : Nat} {f : Nat -> Rat}
theorem Acc.to (h:Acc W H g N k f)(hb:Below W.heap.size W V):Acc V H g N k f:=by
 obtain ⟨fl,h1,h2,h3⟩:=h.row;exact ⟨h.box.to hb,fl,h1.to hb,h2,fun i hi=>(h3 i hi).to hb⟩
theorem Acc.grown {row:Option Nat}(h:Acc W H g N k f)(hg:W.grownBy V row)(hr:∀r,row=some r->∃o:Obj,W.heap[r]?=some o/\o.isCells=false):Acc V H g N k f:=by
 obtain ⟨fl,h1,h2,h3⟩:=h.row;exact ⟨h.box.grown hg hr rfl,fl,h1.grown hg hr,h2,fun i hi=>(Kw.grown hg hr).qc (h3 i hi)⟩
theorem Acc.more (h:Acc W H g N k f)(hk:k<N)(hne:H≠g){e:E4}(he:e.fq)(hq:Qc W e.a e.b e.c e.d (f k)){a:Addr}{c:Nat}
  (h0:W.cell? (a.add 0)=some e.a) (h1:W.cell? (a.add 1)=some e.b) (h2:W.cell? (a.add 2)=some e.c) (h3:W.cell? (a.add 3)=some e.d) (ty:TypeId) :
  ∃X,(Builtin.append_ #[38,38] ty #[.slice (some ⟨g,0,none⟩) k N,.slice (some a) 1 c]).run Tryz.prog W=.ok (.slice (some ⟨g,0,none⟩) (k+1) N) X /\
   Hp X H (.cells #[.slice (some ⟨g,0,none⟩) k N] 38 (0,0)) /\
   Acc (X.setCell ⟨H,0,none⟩ (.slice (some ⟨g,0,none⟩) (k+1) N)) H g N (k+1) f /\
   (X.setCell ⟨H,0,none⟩ (.slice (some ⟨g,0,none⟩) (k+1) N)).heap.size=W.heap.size /\
   (∀j,j≠g->j≠H->(X.setCell ⟨H,0,none⟩ (.slice (some ⟨g,0,none⟩) (k+1) N)).heap[j]?=W.heap[j]?) /\
   (∀B,B<=g->B<=H->Below B W (X.setCell ⟨H,0,none⟩ (.slice (some ⟨g,0,none⟩) (k+1) N))):=by
 obtain ⟨fl,r1,rfl,r3⟩:=h.row;have hr:=append_q r1 hk he h0 h1 h2 h3 (c:=c) ty;have hrow:=r1.app (n:=k) he;have kw1:Kw W (W.setRow g (flat (fl.set k e)).toArray):=r1.kw;obtain ⟨X,hX⟩:∃X,W.setRow g (flat (fl.set k e)).toArray=X:=⟨_,rfl⟩
 have hsz:X.heap.size=W.heap.size:=by rw[<-hX,setRow_size]
 have hoth:∀j,j≠g->X.heap[j]?=W.heap[j]?:=fun j hj=>by rw[<-hX,setRow_other _ _ _ _ hj]
 have hbel:∀B,B<=g->Below B W X:=fun B hB=>by rw[<-hX];exact below_setRow (Below.refl _ _) hB _
 rw[hX]at hr hrow kw1;have hbox:Hp X H (.cells #[.slice (some ⟨g,0,none⟩) k fl.length] 38 (0,0)):=(hoth H hne).trans h.box;have hset:∀j,j≠H->(X.setCell ⟨H,0,none⟩ (.slice (some ⟨g,0,none⟩) (k+1) fl.length)).heap[j]?=X.heap[j]?:=fun j hj=>Below.heap_setCell X ⟨H,0,none⟩ _ j hj
 have kw2:Kw W (X.setCell ⟨H,0,none⟩ (.slice (some ⟨g,0,none⟩) (k+1) fl.length)):=kw1.setCell hbox.one (fun n hn=>by cases hn) _;refine ⟨X,hr,hbox,⟨Boxed.set (W:=X) _ hbox,fl.set k e,hrow.keep (hset g (Ne.symm hne)),by simp,fun i hi=>?_⟩,by simpa [World.setCell]using hsz,fun j h1 h2=>(hset j h2).trans (hoth j h1),fun B h1 h2=>(hbel B h1).setCell (p:=⟨H,0,none⟩) h2 _⟩
 by_cases hik:i=k
 .subst hik;rw[show (fl.set i e).getD i E4.z=e from by simp[List.getD,hk]];exact kw2.qc hq
 .rw[show (fl.set k e).getD i E4.z=fl.getD i E4.z from by simp[List.getD,List.getElem?_set,Ne.symm hik]];exact kw2.qc (r3 i (by omega))
end
end Go.Proofs.YtglhdielkkhefaaGreat

namespace Go.Proofs.YtglhdielkkhefaaGreat
open Go.RowKit Go.Shelf
attribute [local go_sem] Oper.semAt_some
structure CombI (w:World)(FV VX VY:Value)(N k:Nat)(f:Nat->Rat)(W:World):Prop where
 acc:Acc W (w.heap.size+1+1) (w.heap.size+1) N k f
 fn:Hp W w.heap.size (.cells #[FV] 83 (0,0))
 bx:Hp W (w.heap.size+1+1+1) (.cells #[VX] 38 (0,0))
 by':Hp W (w.heap.size+1+1+1+1) (.cells #[VY] 38 (0,0))
 bel:Below w.heap.size w W
theorem CombI.to {w:World}{FV VX VY:Value}{N k:Nat}{f:Nat->Rat}{W V:World}(h:CombI w FV VX VY N k f W)(hb:Below W.heap.size W V):CombI w FV VX VY N k f V :=
 ⟨h.acc.to hb,h.fn.to hb,h.bx.to hb,h.by'.to hb,h.bel.trans (hb.mono h.bel.size)⟩
theorem CombI.grown {w:World}{FV VX VY:Value}{N k:Nat}{f:Nat->Rat}{W V:World}{row:Option Nat}{B:Nat}(h:CombI w FV VX VY N k f W)(hB:w.heap.size<=B)(hg:W.grownBy V row)
  (hr:∀r,row=some r->B<=r/\∃o:Obj,W.heap[r]?=some o/\o.isCells=false):CombI w FV VX VY N k f V :=
 have hr':=fun r e=>(hr r e).2
 ⟨h.acc.grown hg hr',h.fn.grown hg hr' rfl,h.bx.grown hg hr' rfl,h.by'.grown hg hr' rfl,h.bel.grown hg h.bel.size (fun k e=>Nat.le_trans hB (hr k e).1)⟩
theorem comb_start (w:World)(FV VX VY:Value)(N:Nat)(f:Nat->Rat) :
  CombI w FV VX VY N 0 f (((((w.alloc (.cells #[FV] 83)).alloc (.cells (flat (List.replicate N E4.z)).toArray 32)).alloc (.cells #[.slice (some ⟨w.heap.size+1,0,none⟩) 0 N] 38)).alloc (.cells #[VX] 38)).alloc (.cells #[VY] 38)):=by
 have b1:Below w.heap.size w (w.alloc (.cells #[FV] 83)):=bRR;have z1:(w.alloc (.cells #[FV] 83)).heap.size=w.heap.size+1:=szA ..;have a1:=Hp.new w #[FV] 83;generalize w.alloc (.cells #[FV] 83)=w1 at a1 z1 b1 ⊢;have b2:=b1.alloc (by omega) (.cells (flat (List.replicate N E4.z)).toArray 32);have a2:=Row.new w1 N;replace a1:=a1.alloc (.cells (flat (List.replicate N E4.z)).toArray 32);have z2:(w1.alloc (.cells (flat (List.replicate N E4.z)).toArray 32)).heap.size=w.heap.size+1+1:=by rw[szA,z1]
 rw[z1]at a2;generalize w1.alloc (.cells (flat (List.replicate N E4.z)).toArray 32)=w2 at a1 a2 z2 b2 ⊢;have b3:=b2.alloc (by omega) (.cells #[.slice (some ⟨w.heap.size+1,0,none⟩) 0 N] 38);have a3:=Hp.new w2 #[.slice (some ⟨w.heap.size+1,0,none⟩) 0 N] 38;replace a1:=a1.alloc (.cells #[.slice (some ⟨w.heap.size+1,0,none⟩) 0 N] 38);replace a2:=a2.to ((Below.refl _ w2).alloc (Nat.le_refl _) (.cells #[.slice (some ⟨w.heap.size+1,0,none⟩) 0 N] 38));have z3:(w2.alloc (.cells #[.slice (some ⟨w.heap.size+1,0,none⟩) 0 N] 38)).heap.size=w.heap.size+1+1+1:=by rw[szA,z2]
 rw[z2]at a3;generalize w2.alloc (.cells #[.slice (some ⟨w.heap.size+1,0,none⟩) 0 N] 38)=w3 at a1 a2 a3 z3 b3 ⊢;have b4:=b3.alloc (by omega) (.cells #[VX] 38);have a4:=Hp.new w3 #[VX] 38;replace a1:=a1.alloc (.cells #[VX] 38);replace a2:=a2.to ((Below.refl _ w3).alloc (Nat.le_refl _) (.cells #[VX] 38));replace a3:=a3.alloc (.cells #[VX] 38);have z4:(w3.alloc (.cells #[VX] 38)).heap.size=w.heap.size+1+1+1+1:=by rw[szA,z3]
 rw[z3]at a4;generalize w3.alloc (.cells #[VX] 38)=w4 at a1 a2 a3 a4 z4 b4 ⊢;have a5:=Hp.new w4 #[VY] 38;rw[z4]at a5;exact ⟨⟨a3.alloc _,_,a2.to ((Below.refl _ w4).alloc (Nat.le_refl _) _),by simp,fun i hi=>by omega⟩,a1.alloc _,a4.alloc _,a5,b4.alloc (by omega) _⟩
theorem fq_getD {es:List E4}(h:∀e∈es,e.fq)(k:Nat):(es.getD k E4.z).fq:=by
 by_cases hk:k<es.length
 .rw[getD_at' hk];exact h _ (List.getElem_mem hk)
 .rw[getD_out hk];exact E4.z_fq
def combA (FV VX VY:Value)(L M g:Nat)(V8 V9 X Y s21 s22 s23 s24 s25 s26:Value):Act :=
 ⟨#[VX,VY,FV,undef,undef,.pointer (some ⟨g,0,none⟩),.slice none 0 0,.pointer (some ⟨g+1+1,0,none⟩),V8,V9,VX,.int .i64 (L:Int),VY,.int .i64 (M:Int),.int .i64 (max (L:Int) (M:Int)),.slice (some ⟨g+1,0,none⟩) 0 (max L M),VX,VY,
  .func (.func 115) #[] #[.pointer (some ⟨g+1+1+1,0,none⟩),.pointer (some ⟨g+1+1+1+1,0,none⟩)],X,Y,s21,s22,s23,s24,s25,s26,undef,undef],[]⟩
def cb1 (A A':Option Addr)(c c':Nat)(es fs:List E4)(w:World)(V8 V9 X Y s21 s22 s23 s24 s25 s26:Value):Act:=(combA (.func (.func 90) #[] #[]) (.slice A es.length c) (.slice A' fs.length c') es.length fs.length w.heap.size V8 V9 X Y s21 s22 s23 s24 s25 s26)
theorem comb_add {f:Nat->Rat}{A A':Option Addr}{c c':Nat}{es fs:List E4}{w:World}(hx:Rq w w.heap.size A es)(hy:Rq w w.heap.size A' fs)(qx:∀e∈es,e.fq)(qy:∀e∈fs,e.fq)
  (hx63:es.length<=4398046511104) (hy63:fs.length<=4398046511104)
  (hF:∀(V:World),Below w.heap.size w V->∀i,i<max es.length fs.length->Calls Tryz.prog 90 #[(es.getD i E4.z).v,(fs.getD i E4.z).v] V (QR V (f i))) :
  Calls Tryz.prog 106 #[.slice A es.length c,.slice A' fs.length c',.func (.func 90) #[] #[]] w fun e w'=>∃g fl,e=.returned (.slice (some ⟨g,0,none⟩) (max es.length fs.length) (max es.length fs.length))/\w.heap.size<=g/\Row w' g fl/\fl.length=max es.length fs.length /\
   (∀i,i<max es.length fs.length->Qc w' (fl.getD i E4.z).a (fl.getD i E4.z).b (fl.getD i E4.z).c (fl.getD i E4.z).d (f i))/\Below w.heap.size w w':=by
 have HF:=Hd hF;have HX63:=Hd hx63;have HY63:=Hd hy63;have RX:=Hd hx;have RY:=Hd hy;have QX:=Hd qx;have QY:=Hd qy;have hN63:max es.length fs.length<=4398046511104:=by omega
 have HN:=Hd hN63;clear hF hx hy qx qy;refine (callsIn_wide (n:=3)).1 ?_;refine callsIn_of_wp_marks Tryz.func106 rfl trivial ?_ rfl;simp only[Tryz.ntmps106,List.size_toArray,List.length_cons,List.length_nil,Nat.reduceAdd,Nat.reduceSub,Array.replicate_succ,Array.replicate_zero,List.push_toArray,List.append_toArray,List.nil_append,List.cons_append]
 gi_wp2_with (first
  | (refine ⟨trivial,?_⟩;gi_at_call 92;refine (callsIn_wide.2 (vpairs_any _ _ _ _ _ _ _)).mono ?_;rintro e w' ⟨rfl,rfl⟩)
  | (gi_at_make;refine wpListIn_makeq _ rfl _ _ rfl 0 (max es.length fs.length) rfl rfl (by omega) (by omega) (Nat.zero_le _) HN.out ?_))
 obtain ⟨W0,hW0⟩:∃W0,W0=((((w.alloc (.cells #[.func (.func 90) #[] #[]] 83)).alloc (.cells (flat (List.replicate (max es.length fs.length) E4.z)).toArray 32)).alloc (.cells #[.slice (some ⟨w.heap.size+1,0,none⟩) 0 (max es.length fs.length)] 38)).alloc (.cells #[.slice A es.length c] 38)).alloc (.cells #[.slice A' fs.length c'] 38):=⟨_,rfl⟩
 have hI0:CombI w (.func (.func 90) #[] #[]) (.slice A es.length c) (.slice A' fs.length c') (max es.length fs.length) 0 f W0:=by rw[hW0];exact comb_start _ _ _ _ _ _
 have hs0:W0.heap.size=w.heap.size+1+1+1+1+1:=by rw[hW0];simp
 rw[<-hW0];clear hW0
 refine wp_roundsB (gf:=115) (lb:=#[.pointer (some ⟨w.heap.size+1+1+1,0,none⟩),.pointer (some ⟨w.heap.size+1+1+1+1,0,none⟩)]) ?hg (enters_of Tryz.func115 (by kernel_rfl) rfl)
  (N:=max es.length fs.length) (enc:=vpairE es fs) (S:=pairS (w.heap.size+1+1+1) (w.heap.size+1+1+1+1) w.heap.size) (pairS_lt (by omega) (by omega) (by omega))
  (fun W hW=>by
   have h:=hI0.to hW
   exact vpairs_gives (w.heap.size+1+1+1) (w.heap.size+1+1+1+1) w.heap.size c c' A A' es fs (by have:=HX63.out;omega) (by have:=HY63.out;omega) W h.bx.one h.by'.one (RX.out.below h.bel) (RY.out.below h.bel) QX.out QY.out)
  ?hps
  (fun k W=>CombI w (.func (.func 90) #[] #[]) (.slice A es.length c) (.slice A' fs.length c') (max es.length fs.length) k f W)
  (fun k a1 W=>∃p q,a1=(cb1 A A' c c' es fs w (.pointer (some ⟨p,0,none⟩)) (.pointer (some ⟨q,0,none⟩)) (es.getD k E4.z).v (fs.getD k E4.z).v undef undef undef undef undef undef)/\CombI w (.func (.func 90) #[] #[]) (.slice A es.length c) (.slice A' fs.length c') (max es.length fs.length) k f W /\
   Hp W p (.cells #[(es.getD k E4.z).a,(es.getD k E4.z).b,(es.getD k E4.z).c,(es.getD k E4.z).d] 32 (0,0))/\Hp W q (.cells #[(fs.getD k E4.z).a,(fs.getD k E4.z).b,(fs.getD k E4.z).c,(fs.getD k E4.z).d] 32 (0,0)))
  (fun _ _ _=>False) ?hI ?hI1 ?hIb ?hIx hI0 ?assign ?body ?done ?stop
 case hg=>rfl
 case hps=>exact fun _=>rfl
 case hI=>exact fun k W V row h hg hr=>h.grown (by omega) hg hr
 case hI1 =>
  rintro ⟨k,a1⟩ W V row ⟨p,q,h1,h2,h3,h4⟩ hg hr;exact ⟨p,q,h1,h2.grown (by omega) hg hr,h3.grown hg (fun r e=>(hr r e).2) rfl,h4.grown hg (fun r e=>(hr r e).2) rfl⟩
 case hIb=>exact fun k W V h hb=>h.to hb
 case hIx=>exact fun _ _ _ _ _ h _ _=>h
 case assign =>
  intro l k W K hlt hI hk hK;have fx:=fq_getD QX.out k;have fy:=fq_getD QY.out k;have HK:=Hd hK;clear hK;unfold vpairE;generalize es.getD k E4.z=X at HK fx ⊢;generalize fs.getD k E4.z=Y at HK fy ⊢;obtain ⟨x1,x2,x3,x4⟩:=X;obtain ⟨y1,y2,y3,y4⟩:=Y;obtain ⟨⟨n1,A1,j1,m1,e1,e2⟩,⟨n2,A2,j2,m2,e3,e4⟩⟩:=fx;obtain ⟨⟨n3,A3,j3,m3,e5,e6⟩,⟨n4,A4,j4,m4,e7,e8⟩⟩:=fy;dsimp only at e1 e2 e3 e4 e5 e6 e7 e8;subst e1 e2 e3 e4 e5 e6 e7 e8;simp only[E4.v];simp only[E4.v]at HK
  gi_wp2
  refine HK.out _ _ (bRR.alloc (by simp) _) ⟨_,_,rfl,hI.to (bRR.alloc (by simp) _),(Hp.new _ _ _).alloc _,?_⟩;have h:=Hp.new (W.alloc (.cells #[.bool n1,.slice A1 j1 m1,.bool n2,.slice A2 j2 m2] 32)) #[.bool n3,.slice A3 j3 m3,.bool n4,.slice A4 j4 m4] 32;rw[szA]at h;exact h
 case body =>
  rintro l k a1 W hlt ⟨p,q,rfl,hI,hp,hq⟩ hk;unfold cb1 combA;have HFK:=Hd fun (V:World) (hV:Below w.heap.size w V)=>HF.out V hV k hk
  obtain ⟨X,hX⟩:∃X,es.getD k E4.z=X:=⟨_,rfl⟩
  obtain ⟨Y,hY⟩:∃Y,fs.getD k E4.z=Y:=⟨_,rfl⟩
  rw[hX]at hp HFK ⊢;rw[hY]at hq HFK ⊢;clear hX hY;obtain ⟨x1,x2,x3,x4⟩:=X;obtain ⟨y1,y2,y3,y4⟩:=Y;simp only[E4.v]at HFK ⊢;dsimp only at hp hq;have hbI:=hI.bel;have CA:=Hd fun (V:World) (hV:Below W.heap.size W V)=>(hI.acc.to hV).box.one
  have CF:=Hd fun (V:World) (hV:Below W.heap.size W V)=>(hI.fn.to hV).one
  have CP:=Hd fun (V:World) (hV:Below W.heap.size W V)=>(hp.to hV).four
  have CQ:=Hd fun (V:World) (hV:Below W.heap.size W V)=>(hq.to hV).four
  have HC:=Hd fun (V:World) (hV:Below W.heap.size W V)=>HFK.out V (Bxb hbI hV)
  have HI:=Hd hI;have HK:=Hd hk;have HS:Hid (w.heap.size+1+1+1+1+1<W.heap.size):=by show _<_;omega
  clear hp hq hI hbI HFK HF hI0 RX RY QX QY hk
  gi_wp2_with fail
  refine region_round follows (by kernel_rfl) ?_;refine dagInE 8 #[false,false,false,false,false,false,false,false] (cb1 A A' c c' es fs w (.pointer (some ⟨p,0,none⟩)) (.pointer (some ⟨q,0,none⟩)) (.agg #[x1,x2,x3,x4]) (.agg #[y1,y2,y3,y4]) undef undef undef undef undef undef) (by kernel_rfl) (by kernel_rfl) (by rfl) (fun G up dn=>?_)
  have S012345:∀(V:World) (hV:Below W.heap.size W V) (r1 r2 r3 r4:Value) (hQ:Qc V r1 r2 r3 r4 (f k)) (g5:Nat) (hG:Hp V g5 (.cells #[r1,r2,r3,r4] 32 (0,0))),G 2 #[true,true,true,true,true,true,false,false] (cb1 A A' c c' es fs w (.pointer (some ⟨p,0,none⟩)) (.pointer (some ⟨q,0,none⟩)) (.agg #[x1,x2,x3,x4]) (.agg #[y1,y2,y3,y4]) (.slice (some ⟨w.heap.size+1,0,none⟩) k (max es.length fs.length)) (.func (.func 90) #[] #[]) (.agg #[x1,x2,x3,x4]) (.agg #[y1,y2,y3,y4]) (.agg #[r1,r2,r3,r4]) (.slice (some ⟨g5,0,none⟩) 1 1)) V:=by
   intro V hV r1 r2 r3 r4 hQ g5 hG;refine up ?_;unfold cb1 combA;refine rdyI (i:=6) (by kernel_rfl) rfl (fun K hK=>?_);have hacc:=HI.out.acc.to hV;have c5:=hG.four;have hfq:(⟨r1,r2,r3,r4⟩:E4).fq:=hQ.fq;obtain ⟨U,hrun,hbox,hacc',hsz,hoth,hbel⟩:=hacc.more HK.out (by omega) (e:=⟨r1,r2,r3,r4⟩) hfq hQ (a:=⟨g5,0,none⟩) (c:=1) c5.c0 c5.c1 c5.c2 c5.c3 38;have HRUN:=Hd hrun
   have FIN:leftBy W0.heap.size (KeepAt (pairS (w.heap.size+1+1+1) (w.heap.size+1+1+1+1) w.heap.size)) (fun W=>CombI w (.func (.func 90) #[] #[]) (.slice A es.length c) (.slice A' fs.length c') (max es.length fs.length) (k+1) f W) (fun _ _=>False) W .normal { tmps:=#[],defers:=[] } (U.setCell ⟨w.heap.size+1+1,0,none⟩ (.slice (some ⟨w.heap.size+1,0,none⟩) (k+1) (max es.length fs.length))):=by
    have hsame:∀j,j<W.heap.size->j≠w.heap.size+1->j≠w.heap.size+1+1->(U.setCell ⟨w.heap.size+1+1,0,none⟩ (.slice (some ⟨w.heap.size+1,0,none⟩) (k+1) (max es.length fs.length))).heap[j]?=W.heap[j]?:=fun j h0 h1 h2=>(hoth j h1 h2).trans (hV.block j h0)
    have hS:=HS.out;refine ⟨⟨by rw[hsz];exact hV.size,fun j o hB hj _=>(hsame j (Array.getElem?_eq_some_iff.1 hj).1 (by omega) (by omega)).trans hj⟩,?_,⟨hacc',(hsame _ (by omega) (by omega) (by omega)).trans HI.out.fn,(hsame _ (by omega) (by omega) (by omega)).trans HI.out.bx,(hsame _ (by omega) (by omega) (by omega)).trans HI.out.by',?_⟩⟩
    .rintro p (rfl|rfl|hp)
     .exact World.cell?_of_block (hsame _ (by show w.heap.size+1+1+1<_;omega) (by show w.heap.size+1+1+1≠_;omega) (by show w.heap.size+1+1+1≠_;omega))
     .exact World.cell?_of_block (hsame _ (by show w.heap.size+1+1+1+1<_;omega) (by show w.heap.size+1+1+1+1≠_;omega) (by show w.heap.size+1+1+1+1≠_;omega))
     .exact World.cell?_of_block (hsame _ (by omega) (by omega) (by omega))
    .exact (HI.out.bel.trans (hV.mono HI.out.bel.size)).trans (hbel _ (by omega) (by omega))
   have FINH:=Hd FIN;have cB:=hbox.one;have fB:U.frozen? ⟨w.heap.size+1+1,0,none⟩=false:=Boxed.frozen (t:=38) hbox;clear FIN hoth hbel hsz hacc' hrun hbox hacc;refine step_append_in rfl (.tmp 21) (.tmp 26) 38 rfl (by rfl) (by rfl) HRUN.out ?_;refine hK _ _ ?_;clear hK K;refine rdyI (i:=7) (by kernel_rfl) rfl (fun K hK=>?_);go_simp
   refine hK _ _ ?_;clear hK K;refine wpAnyIn_done (by kernel_rfl) ?_ _;exact FINH.out
  have S01234:∀(V:World) (hV:Below W.heap.size W V) (r1 r2 r3 r4:Value) (hQ:Qc V r1 r2 r3 r4 (f k)),G 3 #[true,true,true,true,true,false,false,false] (cb1 A A' c c' es fs w (.pointer (some ⟨p,0,none⟩)) (.pointer (some ⟨q,0,none⟩)) (.agg #[x1,x2,x3,x4]) (.agg #[y1,y2,y3,y4]) (.slice (some ⟨w.heap.size+1,0,none⟩) k (max es.length fs.length)) (.func (.func 90) #[] #[]) (.agg #[x1,x2,x3,x4]) (.agg #[y1,y2,y3,y4]) (.agg #[r1,r2,r3,r4]) undef) V:=by
   intro V hV r1 r2 r3 r4 hQ;refine up ?_;unfold cb1 combA;refine rdyI (i:=5) (by kernel_rfl) rfl (fun K hK=>?_);have bb:Below V.heap.size V (V.alloc (.cells #[r1,r2,r3,r4] 32)):=bRR;go_simp
   refine hK _ _ ?_;exact dn (S012345 _ (Bxb hV bb) r1 r2 r3 r4 (hQ.to bb) V.heap.size (Hp.new _ _ _))
  have S12345:∀(V:World) (hV:Below W.heap.size W V) (r1 r2 r3 r4:Value) (hQ:Qc V r1 r2 r3 r4 (f k)) (g5:Nat) (hG:Hp V g5 (.cells #[r1,r2,r3,r4] 32 (0,0))),G 3 #[false,true,true,true,true,true,false,false] (cb1 A A' c c' es fs w (.pointer (some ⟨p,0,none⟩)) (.pointer (some ⟨q,0,none⟩)) (.agg #[x1,x2,x3,x4]) (.agg #[y1,y2,y3,y4]) undef (.func (.func 90) #[] #[]) (.agg #[x1,x2,x3,x4]) (.agg #[y1,y2,y3,y4]) (.agg #[r1,r2,r3,r4]) (.slice (some ⟨g5,0,none⟩) 1 1)) V:=by
   intro V hV r1 r2 r3 r4 hQ g5 hG;refine up ?_;unfold cb1 combA;refine rdyI (i:=0) (by kernel_rfl) rfl (fun K hK=>?_);have cc:=CA.out V hV;go_simp
   refine hK _ _ ?_;exact dn (S012345 V hV r1 r2 r3 r4 hQ g5 hG)
  have S0123:∀(V:World) (hV:Below W.heap.size W V),G 4 #[true,true,true,true,false,false,false,false] (cb1 A A' c c' es fs w (.pointer (some ⟨p,0,none⟩)) (.pointer (some ⟨q,0,none⟩)) (.agg #[x1,x2,x3,x4]) (.agg #[y1,y2,y3,y4]) (.slice (some ⟨w.heap.size+1,0,none⟩) k (max es.length fs.length)) (.func (.func 90) #[] #[]) (.agg #[x1,x2,x3,x4]) (.agg #[y1,y2,y3,y4]) undef undef) V:=by
   intro V hV;refine up ?_;unfold cb1 combA;refine rdyI (i:=4) (by kernel_rfl) rfl (fun K hK=>?_);go_simp
   gi_wp2_with (refine ⟨trivial,?_⟩;gi_at_call 90;refine (callsIn_wide.2 (HC.out V hV)).mono ?_;rintro e w' ⟨r1,r2,r3,r4,rfl,hQ,bb⟩)
   exact dn (S01234 _ (Bxb hV bb) r1 r2 r3 r4 hQ)
  have S1234:∀(V:World) (hV:Below W.heap.size W V) (r1 r2 r3 r4:Value) (hQ:Qc V r1 r2 r3 r4 (f k)),G 4 #[false,true,true,true,true,false,false,false] (cb1 A A' c c' es fs w (.pointer (some ⟨p,0,none⟩)) (.pointer (some ⟨q,0,none⟩)) (.agg #[x1,x2,x3,x4]) (.agg #[y1,y2,y3,y4]) undef (.func (.func 90) #[] #[]) (.agg #[x1,x2,x3,x4]) (.agg #[y1,y2,y3,y4]) (.agg #[r1,r2,r3,r4]) undef) V:=by
   intro V hV r1 r2 r3 r4 hQ;refine up ?_;unfold cb1 combA;refine wpAnyIn_ready (rs:=[0,5]) (by kernel_rfl) (by simp) (AllReadyIn.cons rfl (fun K hK=>?_) (AllReadyIn.cons rfl (fun K hK=>?_) AllReadyIn.nil))
   .have cc:=CA.out V hV;go_simp
    refine hK _ _ ?_;exact dn (S01234 V hV r1 r2 r3 r4 hQ)
   .have bb:Below V.heap.size V (V.alloc (.cells #[r1,r2,r3,r4] 32)):=bRR;go_simp
    refine hK _ _ ?_;exact dn (S12345 _ (Bxb hV bb) r1 r2 r3 r4 (hQ.to bb) V.heap.size (Hp.new _ _ _))
  have S012:∀(V:World) (hV:Below W.heap.size W V),G 5 #[true,true,true,false,false,false,false,false] (cb1 A A' c c' es fs w (.pointer (some ⟨p,0,none⟩)) (.pointer (some ⟨q,0,none⟩)) (.agg #[x1,x2,x3,x4]) (.agg #[y1,y2,y3,y4]) (.slice (some ⟨w.heap.size+1,0,none⟩) k (max es.length fs.length)) (.func (.func 90) #[] #[]) (.agg #[x1,x2,x3,x4]) undef undef undef) V:=by
   intro V hV;refine up ?_;unfold cb1 combA;refine rdyI (i:=3) (by kernel_rfl) rfl (fun K hK=>?_);have cc:=CQ.out V hV;have c0:=cc.c0;have c1:=cc.c1;have c2:=cc.c2;have c3:=cc.c3;go_simp
   refine hK _ _ ?_;exact dn (S0123 V hV)
  have S013:∀(V:World) (hV:Below W.heap.size W V),G 5 #[true,true,false,true,false,false,false,false] (cb1 A A' c c' es fs w (.pointer (some ⟨p,0,none⟩)) (.pointer (some ⟨q,0,none⟩)) (.agg #[x1,x2,x3,x4]) (.agg #[y1,y2,y3,y4]) (.slice (some ⟨w.heap.size+1,0,none⟩) k (max es.length fs.length)) (.func (.func 90) #[] #[]) undef (.agg #[y1,y2,y3,y4]) undef undef) V:=by
   intro V hV;refine up ?_;unfold cb1 combA;refine rdyI (i:=2) (by kernel_rfl) rfl (fun K hK=>?_);have cc:=CP.out V hV;have c0:=cc.c0;have c1:=cc.c1;have c2:=cc.c2;have c3:=cc.c3;go_simp
   refine hK _ _ ?_;exact dn (S0123 V hV)
  have S023:∀(V:World) (hV:Below W.heap.size W V),G 5 #[true,false,true,true,false,false,false,false] (cb1 A A' c c' es fs w (.pointer (some ⟨p,0,none⟩)) (.pointer (some ⟨q,0,none⟩)) (.agg #[x1,x2,x3,x4]) (.agg #[y1,y2,y3,y4]) (.slice (some ⟨w.heap.size+1,0,none⟩) k (max es.length fs.length)) undef (.agg #[x1,x2,x3,x4]) (.agg #[y1,y2,y3,y4]) undef undef) V:=by
   intro V hV;refine up ?_;unfold cb1 combA;refine rdyI (i:=1) (by kernel_rfl) rfl (fun K hK=>?_);have cc:=CF.out V hV;go_simp
   refine hK _ _ ?_;exact dn (S0123 V hV)
  have S123:∀(V:World) (hV:Below W.heap.size W V),G 5 #[false,true,true,true,false,false,false,false] (cb1 A A' c c' es fs w (.pointer (some ⟨p,0,none⟩)) (.pointer (some ⟨q,0,none⟩)) (.agg #[x1,x2,x3,x4]) (.agg #[y1,y2,y3,y4]) undef (.func (.func 90) #[] #[]) (.agg #[x1,x2,x3,x4]) (.agg #[y1,y2,y3,y4]) undef undef) V:=by
   intro V hV;refine up ?_;unfold cb1 combA;refine wpAnyIn_ready (rs:=[0,4]) (by kernel_rfl) (by simp) (AllReadyIn.cons rfl (fun K hK=>?_) (AllReadyIn.cons rfl (fun K hK=>?_) AllReadyIn.nil))
   .have cc:=CA.out V hV;go_simp
    refine hK _ _ ?_;exact dn (S0123 V hV)
   .go_simp
    gi_wp2_with (refine ⟨trivial,?_⟩;gi_at_call 90;refine (callsIn_wide.2 (HC.out V hV)).mono ?_;rintro e w' ⟨r1,r2,r3,r4,rfl,hQ,bb⟩)
    exact dn (S1234 _ (Bxb hV bb) r1 r2 r3 r4 hQ)
  have S01:∀(V:World) (hV:Below W.heap.size W V),G 6 #[true,true,false,false,false,false,false,false] (cb1 A A' c c' es fs w (.pointer (some ⟨p,0,none⟩)) (.pointer (some ⟨q,0,none⟩)) (.agg #[x1,x2,x3,x4]) (.agg #[y1,y2,y3,y4]) (.slice (some ⟨w.heap.size+1,0,none⟩) k (max es.length fs.length)) (.func (.func 90) #[] #[]) undef undef undef undef) V:=by
   intro V hV;refine up ?_;unfold cb1 combA;refine wpAnyIn_ready (rs:=[2,3]) (by kernel_rfl) (by simp) (AllReadyIn.cons rfl (fun K hK=>?_) (AllReadyIn.cons rfl (fun K hK=>?_) AllReadyIn.nil))
   .have cc:=CP.out V hV;have c0:=cc.c0;have c1:=cc.c1;have c2:=cc.c2;have c3:=cc.c3;go_simp
    refine hK _ _ ?_;exact dn (S012 V hV)
   .have cc:=CQ.out V hV;have c0:=cc.c0;have c1:=cc.c1;have c2:=cc.c2;have c3:=cc.c3;go_simp
    refine hK _ _ ?_;exact dn (S013 V hV)
  have S02:∀(V:World) (hV:Below W.heap.size W V),G 6 #[true,false,true,false,false,false,false,false] (cb1 A A' c c' es fs w (.pointer (some ⟨p,0,none⟩)) (.pointer (some ⟨q,0,none⟩)) (.agg #[x1,x2,x3,x4]) (.agg #[y1,y2,y3,y4]) (.slice (some ⟨w.heap.size+1,0,none⟩) k (max es.length fs.length)) undef (.agg #[x1,x2,x3,x4]) undef undef undef) V:=by
   intro V hV;refine up ?_;unfold cb1 combA;refine wpAnyIn_ready (rs:=[1,3]) (by kernel_rfl) (by simp) (AllReadyIn.cons rfl (fun K hK=>?_) (AllReadyIn.cons rfl (fun K hK=>?_) AllReadyIn.nil))
   .have cc:=CF.out V hV;go_simp
    refine hK _ _ ?_;exact dn (S012 V hV)
   .have cc:=CQ.out V hV;have c0:=cc.c0;have c1:=cc.c1;have c2:=cc.c2;have c3:=cc.c3;go_simp
    refine hK _ _ ?_;exact dn (S023 V hV)
  have S03:∀(V:World) (hV:Below W.heap.size W V),G 6 #[true,false,false,true,false,false,false,false] (cb1 A A' c c' es fs w (.pointer (some ⟨p,0,none⟩)) (.pointer (some ⟨q,0,none⟩)) (.agg #[x1,x2,x3,x4]) (.agg #[y1,y2,y3,y4]) (.slice (some ⟨w.heap.size+1,0,none⟩) k (max es.length fs.length)) undef undef (.agg #[y1,y2,y3,y4]) undef undef) V:=by
   intro V hV;refine up ?_;unfold cb1 combA;refine wpAnyIn_ready (rs:=[1,2]) (by kernel_rfl) (by simp) (AllReadyIn.cons rfl (fun K hK=>?_) (AllReadyIn.cons rfl (fun K hK=>?_) AllReadyIn.nil))
   .have cc:=CF.out V hV;go_simp
    refine hK _ _ ?_;exact dn (S013 V hV)
   .have cc:=CP.out V hV;have c0:=cc.c0;have c1:=cc.c1;have c2:=cc.c2;have c3:=cc.c3;go_simp
    refine hK _ _ ?_;exact dn (S023 V hV)
  have S12:∀(V:World) (hV:Below W.heap.size W V),G 6 #[false,true,true,false,false,false,false,false] (cb1 A A' c c' es fs w (.pointer (some ⟨p,0,none⟩)) (.pointer (some ⟨q,0,none⟩)) (.agg #[x1,x2,x3,x4]) (.agg #[y1,y2,y3,y4]) undef (.func (.func 90) #[] #[]) (.agg #[x1,x2,x3,x4]) undef undef undef) V:=by
   intro V hV;refine up ?_;unfold cb1 combA;refine wpAnyIn_ready (rs:=[0,3]) (by kernel_rfl) (by simp) (AllReadyIn.cons rfl (fun K hK=>?_) (AllReadyIn.cons rfl (fun K hK=>?_) AllReadyIn.nil))
   .have cc:=CA.out V hV;go_simp
    refine hK _ _ ?_;exact dn (S012 V hV)
   .have cc:=CQ.out V hV;have c0:=cc.c0;have c1:=cc.c1;have c2:=cc.c2;have c3:=cc.c3;go_simp
    refine hK _ _ ?_;exact dn (S123 V hV)
  have S13:∀(V:World) (hV:Below W.heap.size W V),G 6 #[false,true,false,true,false,false,false,false] (cb1 A A' c c' es fs w (.pointer (some ⟨p,0,none⟩)) (.pointer (some ⟨q,0,none⟩)) (.agg #[x1,x2,x3,x4]) (.agg #[y1,y2,y3,y4]) undef (.func (.func 90) #[] #[]) undef (.agg #[y1,y2,y3,y4]) undef undef) V:=by
   intro V hV;refine up ?_;unfold cb1 combA;refine wpAnyIn_ready (rs:=[0,2]) (by kernel_rfl) (by simp) (AllReadyIn.cons rfl (fun K hK=>?_) (AllReadyIn.cons rfl (fun K hK=>?_) AllReadyIn.nil))
   .have cc:=CA.out V hV;go_simp
    refine hK _ _ ?_;exact dn (S013 V hV)
   .have cc:=CP.out V hV;have c0:=cc.c0;have c1:=cc.c1;have c2:=cc.c2;have c3:=cc.c3;go_simp
    refine hK _ _ ?_;exact dn (S123 V hV)
  have S23:∀(V:World) (hV:Below W.heap.size W V),G 6 #[false,false,true,true,false,false,false,false] (cb1 A A' c c' es fs w (.pointer (some ⟨p,0,none⟩)) (.pointer (some ⟨q,0,none⟩)) (.agg #[x1,x2,x3,x4]) (.agg #[y1,y2,y3,y4]) undef undef (.agg #[x1,x2,x3,x4]) (.agg #[y1,y2,y3,y4]) undef undef) V:=by
   intro V hV;refine up ?_;unfold cb1 combA;refine wpAnyIn_ready (rs:=[0,1]) (by kernel_rfl) (by simp) (AllReadyIn.cons rfl (fun K hK=>?_) (AllReadyIn.cons rfl (fun K hK=>?_) AllReadyIn.nil))
   .have cc:=CA.out V hV;go_simp
    refine hK _ _ ?_;exact dn (S023 V hV)
   .have cc:=CF.out V hV;go_simp
    refine hK _ _ ?_;exact dn (S123 V hV)
  have S0:∀(V:World) (hV:Below W.heap.size W V),G 7 #[true,false,false,false,false,false,false,false] (cb1 A A' c c' es fs w (.pointer (some ⟨p,0,none⟩)) (.pointer (some ⟨q,0,none⟩)) (.agg #[x1,x2,x3,x4]) (.agg #[y1,y2,y3,y4]) (.slice (some ⟨w.heap.size+1,0,none⟩) k (max es.length fs.length)) undef undef undef undef undef) V:=by
   intro V hV;refine up ?_;unfold cb1 combA;refine wpAnyIn_ready (rs:=[1,2,3]) (by kernel_rfl) (by simp) (AllReadyIn.cons rfl (fun K hK=>?_) (AllReadyIn.cons rfl (fun K hK=>?_) (AllReadyIn.cons rfl (fun K hK=>?_) AllReadyIn.nil)))
   .have cc:=CF.out V hV;go_simp
    refine hK _ _ ?_;exact dn (S01 V hV)
   .have cc:=CP.out V hV;have c0:=cc.c0;have c1:=cc.c1;have c2:=cc.c2;have c3:=cc.c3;go_simp
    refine hK _ _ ?_;exact dn (S02 V hV)
   .have cc:=CQ.out V hV;have c0:=cc.c0;have c1:=cc.c1;have c2:=cc.c2;have c3:=cc.c3;go_simp
    refine hK _ _ ?_;exact dn (S03 V hV)
  have S1:∀(V:World) (hV:Below W.heap.size W V),G 7 #[false,true,false,false,false,false,false,false] (cb1 A A' c c' es fs w (.pointer (some ⟨p,0,none⟩)) (.pointer (some ⟨q,0,none⟩)) (.agg #[x1,x2,x3,x4]) (.agg #[y1,y2,y3,y4]) undef (.func (.func 90) #[] #[]) undef undef undef undef) V:=by
   intro V hV;refine up ?_;unfold cb1 combA;refine wpAnyIn_ready (rs:=[0,2,3]) (by kernel_rfl) (by simp) (AllReadyIn.cons rfl (fun K hK=>?_) (AllReadyIn.cons rfl (fun K hK=>?_) (AllReadyIn.cons rfl (fun K hK=>?_) AllReadyIn.nil)))
   .have cc:=CA.out V hV;go_simp
    refine hK _ _ ?_;exact dn (S01 V hV)
   .have cc:=CP.out V hV;have c0:=cc.c0;have c1:=cc.c1;have c2:=cc.c2;have c3:=cc.c3;go_simp
    refine hK _ _ ?_;exact dn (S12 V hV)
   .have cc:=CQ.out V hV;have c0:=cc.c0;have c1:=cc.c1;have c2:=cc.c2;have c3:=cc.c3;go_simp
    refine hK _ _ ?_;exact dn (S13 V hV)
  have S2:∀(V:World) (hV:Below W.heap.size W V),G 7 #[false,false,true,false,false,false,false,false] (cb1 A A' c c' es fs w (.pointer (some ⟨p,0,none⟩)) (.pointer (some ⟨q,0,none⟩)) (.agg #[x1,x2,x3,x4]) (.agg #[y1,y2,y3,y4]) undef undef (.agg #[x1,x2,x3,x4]) undef undef undef) V:=by
   intro V hV;refine up ?_;unfold cb1 combA;refine wpAnyIn_ready (rs:=[0,1,3]) (by kernel_rfl) (by simp) (AllReadyIn.cons rfl (fun K hK=>?_) (AllReadyIn.cons rfl (fun K hK=>?_) (AllReadyIn.cons rfl (fun K hK=>?_) AllReadyIn.nil)))
   .have cc:=CA.out V hV;go_simp
    refine hK _ _ ?_;exact dn (S02 V hV)
   .have cc:=CF.out V hV;go_simp
    refine hK _ _ ?_;exact dn (S12 V hV)
   .have cc:=CQ.out V hV;have c0:=cc.c0;have c1:=cc.c1;have c2:=cc.c2;have c3:=cc.c3;go_simp
    refine hK _ _ ?_;exact dn (S23 V hV)
  have S3:∀(V:World) (hV:Below W.heap.size W V),G 7 #[false,false,false,true,false,false,false,false] (cb1 A A' c c' es fs w (.pointer (some ⟨p,0,none⟩)) (.pointer (some ⟨q,0,none⟩)) (.agg #[x1,x2,x3,x4]) (.agg #[y1,y2,y3,y4]) undef undef undef (.agg #[y1,y2,y3,y4]) undef undef) V:=by
   intro V hV;refine up ?_;unfold cb1 combA;refine wpAnyIn_ready (rs:=[0,1,2]) (by kernel_rfl) (by simp) (AllReadyIn.cons rfl (fun K hK=>?_) (AllReadyIn.cons rfl (fun K hK=>?_) (AllReadyIn.cons rfl (fun K hK=>?_) AllReadyIn.nil)))
   .have cc:=CA.out V hV;go_simp
    refine hK _ _ ?_;exact dn (S03 V hV)
   .have cc:=CF.out V hV;go_simp
    refine hK _ _ ?_;exact dn (S13 V hV)
   .have cc:=CP.out V hV;have c0:=cc.c0;have c1:=cc.c1;have c2:=cc.c2;have c3:=cc.c3;go_simp
    refine hK _ _ ?_;exact dn (S23 V hV)
  have S:∀(V:World) (hV:Below W.heap.size W V),G 8 #[false,false,false,false,false,false,false,false] (cb1 A A' c c' es fs w (.pointer (some ⟨p,0,none⟩)) (.pointer (some ⟨q,0,none⟩)) (.agg #[x1,x2,x3,x4]) (.agg #[y1,y2,y3,y4]) undef undef undef undef undef undef) V:=by
   intro V hV;refine up ?_;unfold cb1 combA;refine wpAnyIn_ready (rs:=[0,1,2,3]) (by kernel_rfl) (by simp) (AllReadyIn.cons rfl (fun K hK=>?_) (AllReadyIn.cons rfl (fun K hK=>?_) (AllReadyIn.cons rfl (fun K hK=>?_) (AllReadyIn.cons rfl (fun K hK=>?_) AllReadyIn.nil))))
   .have cc:=CA.out V hV;go_simp
    refine hK _ _ ?_;exact dn (S0 V hV)
   .have cc:=CF.out V hV;go_simp
    refine hK _ _ ?_;exact dn (S1 V hV)
   .have cc:=CP.out V hV;have c0:=cc.c0;have c1:=cc.c1;have c2:=cc.c2;have c3:=cc.c3;go_simp
    refine hK _ _ ?_;exact dn (S2 V hV)
   .have cc:=CQ.out V hV;have c0:=cc.c0;have c1:=cc.c1;have c2:=cc.c2;have c3:=cc.c3;go_simp
    refine hK _ _ ?_;exact dn (S3 V hV)
  exact S _ (Below.refl _ _).drew
 case done =>
  rintro W hI hK;obtain ⟨fl,r1,r2,r3⟩:=hI.acc.row;have cA:=hI.acc.box.one;have HR:=Hd hI;have HRow:Hid (Row W (w.heap.size+1) fl/\fl.length=max es.length fs.length/\∀i,i<max es.length fs.length->Qc W (fl.getD i E4.z).a (fl.getD i E4.z).b (fl.getD i E4.z).c (fl.getD i E4.z).d (f i)):=⟨r1,r2,r3⟩
  clear r1 r2 r3 hI
  gi_wp2
  have hg:=grownBy_putObj' W W0.heap.size (.deferred none);have hgr:∀r,some W0.heap.size=some r->∃o:Obj,W.heap[r]?=some o/\o.isCells=false:=fun r e=>by cases e;exact ⟨_,hK,rfl⟩
  refine ⟨by simp,.inl ⟨_,_,rfl,run_takeDeferred hK,?_⟩⟩;refine ⟨_,results_tmp rfl _ _ _,w.heap.size+1,fl,rfl,by omega,HRow.out.1.grown hg hgr,HRow.out.2.1,fun i hi=>(Kw.grown hg hgr).qc (HRow.out.2.2 i hi),HR.out.bel.grown hg HR.out.bel.size (fun k e=>by cases e;omega)⟩
 case stop=>exact fun _ _ _ _ h _=>h.elim
def cb3 (A A':Option Addr)(c c':Nat)(es fs:List E4)(w:World)(gk:Nat)(V8 V9 X Y s21 s22 s23 s24 s25 s26:Value):Act:=(combA (.func (.func 135) #[] #[.pointer (some ⟨gk,0,none⟩)]) (.slice A es.length c) (.slice A' fs.length c') es.length fs.length w.heap.size V8 V9 X Y s21 s22 s23 s24 s25 s26)
theorem comb_scaled {f:Nat->Rat}{A A':Option Addr}{c c':Nat}{es fs:List E4}{gk:Nat}{w:World}(hx:Rq w w.heap.size A es)(hy:Rq w w.heap.size A' fs)(qx:∀e∈es,e.fq)(qy:∀e∈fs,e.fq)
  (hx63:es.length<=4398046511104) (hy63:fs.length<=4398046511104)
  (hF:∀(V:World),Below w.heap.size w V->∀i,i<max es.length fs.length->Calls Tryz.prog 135 #[(es.getD i E4.z).v,(fs.getD i E4.z).v,.pointer (some ⟨gk,0,none⟩)] V (QR V (f i))) :
  Calls Tryz.prog 106 #[.slice A es.length c,.slice A' fs.length c',.func (.func 135) #[] #[.pointer (some ⟨gk,0,none⟩)]] w fun e w'=>∃g fl,e=.returned (.slice (some ⟨g,0,none⟩) (max es.length fs.length) (max es.length fs.length))/\w.heap.size<=g/\Row w' g fl/\fl.length=max es.length fs.length /\
   (∀i,i<max es.length fs.length->Qc w' (fl.getD i E4.z).a (fl.getD i E4.z).b (fl.getD i E4.z).c (fl.getD i E4.z).d (f i))/\Below w.heap.size w w':=by
 have HF:=Hd hF;have HX63:=Hd hx63;have HY63:=Hd hy63;have RX:=Hd hx;have RY:=Hd hy;have QX:=Hd qx;have QY:=Hd qy;have hN63:max es.length fs.length<=4398046511104:=by omega
 have HN:=Hd hN63;clear hF hx hy qx qy;refine (callsIn_wide (n:=3)).1 ?_;refine callsIn_of_wp_marks Tryz.func106 rfl trivial ?_ rfl;simp only[Tryz.ntmps106,List.size_toArray,List.length_cons,List.length_nil,Nat.reduceAdd,Nat.reduceSub,Array.replicate_succ,Array.replicate_zero,List.push_toArray,List.append_toArray,List.nil_append,List.cons_append]
 gi_wp2_with (first
  | (refine ⟨trivial,?_⟩;gi_at_call 92;refine (callsIn_wide.2 (vpairs_any _ _ _ _ _ _ _)).mono ?_;rintro e w' ⟨rfl,rfl⟩)
  | (gi_at_make;refine wpListIn_makeq _ rfl _ _ rfl 0 (max es.length fs.length) rfl rfl (by omega) (by omega) (Nat.zero_le _) HN.out ?_))
 obtain ⟨W0,hW0⟩:∃W0,W0=((((w.alloc (.cells #[.func (.func 135) #[] #[.pointer (some ⟨gk,0,none⟩)]] 83)).alloc (.cells (flat (List.replicate (max es.length fs.length) E4.z)).toArray 32)).alloc (.cells #[.slice (some ⟨w.heap.size+1,0,none⟩) 0 (max es.length fs.length)] 38)).alloc (.cells #[.slice A es.length c] 38)).alloc (.cells #[.slice A' fs.length c'] 38):=⟨_,rfl⟩
 have hI0:CombI w (.func (.func 135) #[] #[.pointer (some ⟨gk,0,none⟩)]) (.slice A es.length c) (.slice A' fs.length c') (max es.length fs.length) 0 f W0:=by rw[hW0];exact comb_start _ _ _ _ _ _
 have hs0:W0.heap.size=w.heap.size+1+1+1+1+1:=by rw[hW0];simp
 rw[<-hW0];clear hW0
 refine wp_roundsB (gf:=115) (lb:=#[.pointer (some ⟨w.heap.size+1+1+1,0,none⟩),.pointer (some ⟨w.heap.size+1+1+1+1,0,none⟩)]) ?hg (enters_of Tryz.func115 (by kernel_rfl) rfl)
  (N:=max es.length fs.length) (enc:=vpairE es fs) (S:=pairS (w.heap.size+1+1+1) (w.heap.size+1+1+1+1) w.heap.size) (pairS_lt (by omega) (by omega) (by omega))
  (fun W hW=>by
   have h:=hI0.to hW
   exact vpairs_gives (w.heap.size+1+1+1) (w.heap.size+1+1+1+1) w.heap.size c c' A A' es fs (by have:=HX63.out;omega) (by have:=HY63.out;omega) W h.bx.one h.by'.one (RX.out.below h.bel) (RY.out.below h.bel) QX.out QY.out)
  ?hps
  (fun k W=>CombI w (.func (.func 135) #[] #[.pointer (some ⟨gk,0,none⟩)]) (.slice A es.length c) (.slice A' fs.length c') (max es.length fs.length) k f W)
  (fun k a1 W=>∃p q,a1=(cb3 A A' c c' es fs w gk (.pointer (some ⟨p,0,none⟩)) (.pointer (some ⟨q,0,none⟩)) (es.getD k E4.z).v (fs.getD k E4.z).v undef undef undef undef undef undef)/\CombI w (.func (.func 135) #[] #[.pointer (some ⟨gk,0,none⟩)]) (.slice A es.length c) (.slice A' fs.length c') (max es.length fs.length) k f W /\
   Hp W p (.cells #[(es.getD k E4.z).a,(es.getD k E4.z).b,(es.getD k E4.z).c,(es.getD k E4.z).d] 32 (0,0))/\Hp W q (.cells #[(fs.getD k E4.z).a,(fs.getD k E4.z).b,(fs.getD k E4.z).c,(fs.getD k E4.z).d] 32 (0,0)))
  (fun _ _ _=>False) ?hI ?hI1 ?hIb ?hIx hI0 ?assign ?body ?done ?stop
 case hg=>rfl
 case hps=>exact fun _=>rfl
 case hI=>exact fun k W V row h hg hr=>h.grown (by omega) hg hr
 case hI1 =>
  rintro ⟨k,a1⟩ W V row ⟨p,q,h1,h2,h3,h4⟩ hg hr;exact ⟨p,q,h1,h2.grown (by omega) hg hr,h3.grown hg (fun r e=>(hr r e).2) rfl,h4.grown hg (fun r e=>(hr r e).2) rfl⟩
 case hIb=>exact fun k W V h hb=>h.to hb
 case hIx=>exact fun _ _ _ _ _ h _ _=>h
 case assign =>
  intro l k W K hlt hI hk hK;have fx:=fq_getD QX.out k;have fy:=fq_getD QY.out k;have HK:=Hd hK;clear hK;unfold vpairE;generalize es.getD k E4.z=X at HK fx ⊢;generalize fs.getD k E4.z=Y at HK fy ⊢;obtain ⟨x1,x2,x3,x4⟩:=X;obtain ⟨y1,y2,y3,y4⟩:=Y;obtain ⟨⟨n1,A1,j1,m1,e1,e2⟩,⟨n2,A2,j2,m2,e3,e4⟩⟩:=fx;obtain ⟨⟨n3,A3,j3,m3,e5,e6⟩,⟨n4,A4,j4,m4,e7,e8⟩⟩:=fy;dsimp only at e1 e2 e3 e4 e5 e6 e7 e8;subst e1 e2 e3 e4 e5 e6 e7 e8;simp only[E4.v];simp only[E4.v]at HK
  gi_wp2
  refine HK.out _ _ (bRR.alloc (by simp) _) ⟨_,_,rfl,hI.to (bRR.alloc (by simp) _),(Hp.new _ _ _).alloc _,?_⟩;have h:=Hp.new (W.alloc (.cells #[.bool n1,.slice A1 j1 m1,.bool n2,.slice A2 j2 m2] 32)) #[.bool n3,.slice A3 j3 m3,.bool n4,.slice A4 j4 m4] 32;rw[szA]at h;exact h
 case body =>
  rintro l k a1 W hlt ⟨p,q,rfl,hI,hp,hq⟩ hk;unfold cb3 combA;have HFK:=Hd fun (V:World) (hV:Below w.heap.size w V)=>HF.out V hV k hk
  obtain ⟨X,hX⟩:∃X,es.getD k E4.z=X:=⟨_,rfl⟩
  obtain ⟨Y,hY⟩:∃Y,fs.getD k E4.z=Y:=⟨_,rfl⟩
  rw[hX]at hp HFK ⊢;rw[hY]at hq HFK ⊢;clear hX hY;obtain ⟨x1,x2,x3,x4⟩:=X;obtain ⟨y1,y2,y3,y4⟩:=Y;simp only[E4.v]at HFK ⊢;dsimp only at hp hq;have hbI:=hI.bel;have CA:=Hd fun (V:World) (hV:Below W.heap.size W V)=>(hI.acc.to hV).box.one
  have CF:=Hd fun (V:World) (hV:Below W.heap.size W V)=>(hI.fn.to hV).one
  have CP:=Hd fun (V:World) (hV:Below W.heap.size W V)=>(hp.to hV).four
  have CQ:=Hd fun (V:World) (hV:Below W.heap.size W V)=>(hq.to hV).four
  have HC:=Hd fun (V:World) (hV:Below W.heap.size W V)=>HFK.out V (Bxb hbI hV)
  have HI:=Hd hI;have HK:=Hd hk;have HS:Hid (w.heap.size+1+1+1+1+1<W.heap.size):=by show _<_;omega
  clear hp hq hI hbI HFK HF hI0 RX RY QX QY hk
  gi_wp2_with fail
  refine region_round follows (by kernel_rfl) ?_;refine dagInE 8 #[false,false,false,false,false,false,false,false] (cb3 A A' c c' es fs w gk (.pointer (some ⟨p,0,none⟩)) (.pointer (some ⟨q,0,none⟩)) (.agg #[x1,x2,x3,x4]) (.agg #[y1,y2,y3,y4]) undef undef undef undef undef undef) (by kernel_rfl) (by kernel_rfl) (by rfl) (fun G up dn=>?_)
  have S012345:∀(V:World) (hV:Below W.heap.size W V) (r1 r2 r3 r4:Value) (hQ:Qc V r1 r2 r3 r4 (f k)) (g5:Nat) (hG:Hp V g5 (.cells #[r1,r2,r3,r4] 32 (0,0))),G 2 #[true,true,true,true,true,true,false,false] (cb3 A A' c c' es fs w gk (.pointer (some ⟨p,0,none⟩)) (.pointer (some ⟨q,0,none⟩)) (.agg #[x1,x2,x3,x4]) (.agg #[y1,y2,y3,y4]) (.slice (some ⟨w.heap.size+1,0,none⟩) k (max es.length fs.length)) (.func (.func 135) #[] #[.pointer (some ⟨gk,0,none⟩)]) (.agg #[x1,x2,x3,x4]) (.agg #[y1,y2,y3,y4]) (.agg #[r1,r2,r3,r4]) (.slice (some ⟨g5,0,none⟩) 1 1)) V:=by
   intro V hV r1 r2 r3 r4 hQ g5 hG;refine up ?_;unfold cb3 combA;refine rdyI (i:=6) (by kernel_rfl) rfl (fun K hK=>?_);have hacc:=HI.out.acc.to hV;have c5:=hG.four;have hfq:(⟨r1,r2,r3,r4⟩:E4).fq:=hQ.fq;obtain ⟨U,hrun,hbox,hacc',hsz,hoth,hbel⟩:=hacc.more HK.out (by omega) (e:=⟨r1,r2,r3,r4⟩) hfq hQ (a:=⟨g5,0,none⟩) (c:=1) c5.c0 c5.c1 c5.c2 c5.c3 38;have HRUN:=Hd hrun
   have FIN:leftBy W0.heap.size (KeepAt (pairS (w.heap.size+1+1+1) (w.heap.size+1+1+1+1) w.heap.size)) (fun W=>CombI w (.func (.func 135) #[] #[.pointer (some ⟨gk,0,none⟩)]) (.slice A es.length c) (.slice A' fs.length c') (max es.length fs.length) (k+1) f W) (fun _ _=>False) W .normal { tmps:=#[],defers:=[] } (U.setCell ⟨w.heap.size+1+1,0,none⟩ (.slice (some ⟨w.heap.size+1,0,none⟩) (k+1) (max es.length fs.length))):=by
    have hsame:∀j,j<W.heap.size->j≠w.heap.size+1->j≠w.heap.size+1+1->(U.setCell ⟨w.heap.size+1+1,0,none⟩ (.slice (some ⟨w.heap.size+1,0,none⟩) (k+1) (max es.length fs.length))).heap[j]?=W.heap[j]?:=fun j h0 h1 h2=>(hoth j h1 h2).trans (hV.block j h0)
    have hS:=HS.out;refine ⟨⟨by rw[hsz];exact hV.size,fun j o hB hj _=>(hsame j (Array.getElem?_eq_some_iff.1 hj).1 (by omega) (by omega)).trans hj⟩,?_,⟨hacc',(hsame _ (by omega) (by omega) (by omega)).trans HI.out.fn,(hsame _ (by omega) (by omega) (by omega)).trans HI.out.bx,(hsame _ (by omega) (by omega) (by omega)).trans HI.out.by',?_⟩⟩
    .rintro p (rfl|rfl|hp)
     .exact World.cell?_of_block (hsame _ (by show w.heap.size+1+1+1<_;omega) (by show w.heap.size+1+1+1≠_;omega) (by show w.heap.size+1+1+1≠_;omega))
     .exact World.cell?_of_block (hsame _ (by show w.heap.size+1+1+1+1<_;omega) (by show w.heap.size+1+1+1+1≠_;omega) (by show w.heap.size+1+1+1+1≠_;omega))
     .exact World.cell?_of_block (hsame _ (by omega) (by omega) (by omega))
    .exact (HI.out.bel.trans (hV.mono HI.out.bel.size)).trans (hbel _ (by omega) (by omega))
   have FINH:=Hd FIN;have cB:=hbox.one;have fB:U.frozen? ⟨w.heap.size+1+1,0,none⟩=false:=Boxed.frozen (t:=38) hbox;clear FIN hoth hbel hsz hacc' hrun hbox hacc;refine step_append_in rfl (.tmp 21) (.tmp 26) 38 rfl (by rfl) (by rfl) HRUN.out ?_;refine hK _ _ ?_;clear hK K;refine rdyI (i:=7) (by kernel_rfl) rfl (fun K hK=>?_);go_simp
   refine hK _ _ ?_;clear hK K;refine wpAnyIn_done (by kernel_rfl) ?_ _;exact FINH.out
  have S01234:∀(V:World) (hV:Below W.heap.size W V) (r1 r2 r3 r4:Value) (hQ:Qc V r1 r2 r3 r4 (f k)),G 3 #[true,true,true,true,true,false,false,false] (cb3 A A' c c' es fs w gk (.pointer (some ⟨p,0,none⟩)) (.pointer (some ⟨q,0,none⟩)) (.agg #[x1,x2,x3,x4]) (.agg #[y1,y2,y3,y4]) (.slice (some ⟨w.heap.size+1,0,none⟩) k (max es.length fs.length)) (.func (.func 135) #[] #[.pointer (some ⟨gk,0,none⟩)]) (.agg #[x1,x2,x3,x4]) (.agg #[y1,y2,y3,y4]) (.agg #[r1,r2,r3,r4]) undef) V:=by
   intro V hV r1 r2 r3 r4 hQ;refine up ?_;unfold cb3 combA;refine rdyI (i:=5) (by kernel_rfl) rfl (fun K hK=>?_);have bb:Below V.heap.size V (V.alloc (.cells #[r1,r2,r3,r4] 32)):=bRR;go_simp
   refine hK _ _ ?_;exact dn (S012345 _ (Bxb hV bb) r1 r2 r3 r4 (hQ.to bb) V.heap.size (Hp.new _ _ _))
  have S12345:∀(V:World) (hV:Below W.heap.size W V) (r1 r2 r3 r4:Value) (hQ:Qc V r1 r2 r3 r4 (f k)) (g5:Nat) (hG:Hp V g5 (.cells #[r1,r2,r3,r4] 32 (0,0))),G 3 #[false,true,true,true,true,true,false,false] (cb3 A A' c c' es fs w gk (.pointer (some ⟨p,0,none⟩)) (.pointer (some ⟨q,0,none⟩)) (.agg #[x1,x2,x3,x4]) (.agg #[y1,y2,y3,y4]) undef (.func (.func 135) #[] #[.pointer (some ⟨gk,0,none⟩)]) (.agg #[x1,x2,x3,x4]) (.agg #[y1,y2,y3,y4]) (.agg #[r1,r2,r3,r4]) (.slice (some ⟨g5,0,none⟩) 1 1)) V:=by
   intro V hV r1 r2 r3 r4 hQ g5 hG;refine up ?_;unfold cb3 combA;refine rdyI (i:=0) (by kernel_rfl) rfl (fun K hK=>?_);have cc:=CA.out V hV;go_simp
   refine hK _ _ ?_;exact dn (S012345 V hV r1 r2 r3 r4 hQ g5 hG)
  have S0123:∀(V:World) (hV:Below W.heap.size W V),G 4 #[true,true,true,true,false,false,false,false] (cb3 A A' c c' es fs w gk (.pointer (some ⟨p,0,none⟩)) (.pointer (some ⟨q,0,none⟩)) (.agg #[x1,x2,x3,x4]) (.agg #[y1,y2,y3,y4]) (.slice (some ⟨w.heap.size+1,0,none⟩) k (max es.length fs.length)) (.func (.func 135) #[] #[.pointer (some ⟨gk,0,none⟩)]) (.agg #[x1,x2,x3,x4]) (.agg #[y1,y2,y3,y4]) undef undef) V:=by
   intro V hV;refine up ?_;unfold cb3 combA;refine rdyI (i:=4) (by kernel_rfl) rfl (fun K hK=>?_);go_simp
   gi_wp2_with (refine ⟨trivial,?_⟩;gi_at_call 135;refine (callsIn_wide.2 (HC.out V hV)).mono ?_;rintro e w' ⟨r1,r2,r3,r4,rfl,hQ,bb⟩)
   exact dn (S01234 _ (Bxb hV bb) r1 r2 r3 r4 hQ)
  have S1234:∀(V:World) (hV:Below W.heap.size W V) (r1 r2 r3 r4:Value) (hQ:Qc V r1 r2 r3 r4 (f k)),G 4 #[false,true,true,true,true,false,false,false] (cb3 A A' c c' es fs w gk (.pointer (some ⟨p,0,none⟩)) (.pointer (some ⟨q,0,none⟩)) (.agg #[x1,x2,x3,x4]) (.agg #[y1,y2,y3,y4]) undef (.func (.func 135) #[] #[.pointer (some ⟨gk,0,none⟩)]) (.agg #[x1,x2,x3,x4]) (.agg #[y1,y2,y3,y4]) (.agg #[r1,r2,r3,r4]) undef) V:=by
   intro V hV r1 r2 r3 r4 hQ;refine up ?_;unfold cb3 combA;refine wpAnyIn_ready (rs:=[0,5]) (by kernel_rfl) (by simp) (AllReadyIn.cons rfl (fun K hK=>?_) (AllReadyIn.cons rfl (fun K hK=>?_) AllReadyIn.nil))
   .have cc:=CA.out V hV;go_simp
    refine hK _ _ ?_;exact dn (S01234 V hV r1 r2 r3 r4 hQ)
   .have bb:Below V.heap.size V (V.alloc (.cells #[r1,r2,r3,r4] 32)):=bRR;go_simp
    refine hK _ _ ?_;exact dn (S12345 _ (Bxb hV bb) r1 r2 r3 r4 (hQ.to bb) V.heap.size (Hp.new _ _ _))
  have S012:∀(V:World) (hV:Below W.heap.size W V),G 5 #[true,true,true,false,false,false,false,false] (cb3 A A' c c' es fs w gk (.pointer (some ⟨p,0,none⟩)) (.pointer (some ⟨q,0,none⟩)) (.agg #[x1,x2,x3,x4]) (.agg #[y1,y2,y3,y4]) (.slice (some ⟨w.heap.size+1,0,none⟩) k (max es.length fs.length)) (.func (.func 135) #[] #[.pointer (some ⟨gk,0,none⟩)]) (.agg #[x1,x2,x3,x4]) undef undef undef) V:=by
   intro V hV;refine up ?_;unfold cb3 combA;refine rdyI (i:=3) (by kernel_rfl) rfl (fun K hK=>?_);have cc:=CQ.out V hV;have c0:=cc.c0;have c1:=cc.c1;have c2:=cc.c2;have c3:=cc.c3;go_simp
   refine hK _ _ ?_;exact dn (S0123 V hV)
  have S013:∀(V:World) (hV:Below W.heap.size W V),G 5 #[true,true,false,true,false,false,false,false] (cb3 A A' c c' es fs w gk (.pointer (some ⟨p,0,none⟩)) (.pointer (some ⟨q,0,none⟩)) (.agg #[x1,x2,x3,x4]) (.agg #[y1,y2,y3,y4]) (.slice (some ⟨w.heap.size+1,0,none⟩) k (max es.length fs.length)) (.func (.func 135) #[] #[.pointer (some ⟨gk,0,none⟩)]) undef (.agg #[y1,y2,y3,y4]) undef undef) V:=by
   intro V hV;refine up ?_;unfold cb3 combA;refine rdyI (i:=2) (by kernel_rfl) rfl (fun K hK=>?_);have cc:=CP.out V hV;have c0:=cc.c0;have c1:=cc.c1;have c2:=cc.c2;have c3:=cc.c3;go_simp
   refine hK _ _ ?_;exact dn (S0123 V hV)
  have S023:∀(V:World) (hV:Below W.heap.size W V),G 5 #[true,false,true,true,false,false,false,false] (cb3 A A' c c' es fs w gk (.pointer (some ⟨p,0,none⟩)) (.pointer (some ⟨q,0,none⟩)) (.agg #[x1,x2,x3,x4]) (.agg #[y1,y2,y3,y4]) (.slice (some ⟨w.heap.size+1,0,none⟩) k (max es.length fs.length)) undef (.agg #[x1,x2,x3,x4]) (.agg #[y1,y2,y3,y4]) undef undef) V:=by
   intro V hV;refine up ?_;unfold cb3 combA;refine rdyI (i:=1) (by kernel_rfl) rfl (fun K hK=>?_);have cc:=CF.out V hV;go_simp
   refine hK _ _ ?_;exact dn (S0123 V hV)
  have S123:∀(V:World) (hV:Below W.heap.size W V),G 5 #[false,true,true,true,false,false,false,false] (cb3 A A' c c' es fs w gk (.pointer (some ⟨p,0,none⟩)) (.pointer (some ⟨q,0,none⟩)) (.agg #[x1,x2,x3,x4]) (.agg #[y1,y2,y3,y4]) undef (.func (.func 135) #[] #[.pointer (some ⟨gk,0,none⟩)]) (.agg #[x1,x2,x3,x4]) (.agg #[y1,y2,y3,y4]) undef undef) V:=by
   intro V hV;refine up ?_;unfold cb3 combA;refine wpAnyIn_ready (rs:=[0,4]) (by kernel_rfl) (by simp) (AllReadyIn.cons rfl (fun K hK=>?_) (AllReadyIn.cons rfl (fun K hK=>?_) AllReadyIn.nil))
   .have cc:=CA.out V hV;go_simp
    refine hK _ _ ?_;exact dn (S0123 V hV)
   .go_simp
    gi_wp2_with (refine ⟨trivial,?_⟩;gi_at_call 135;refine (callsIn_wide.2 (HC.out V hV)).mono ?_;rintro e w' ⟨r1,r2,r3,r4,rfl,hQ,bb⟩)
    exact dn (S1234 _ (Bxb hV bb) r1 r2 r3 r4 hQ)
  have S01:∀(V:World) (hV:Below W.heap.size W V),G 6 #[true,true,false,false,false,false,false,false] (cb3 A A' c c' es fs w gk (.pointer (some ⟨p,0,none⟩)) (.pointer (some ⟨q,0,none⟩)) (.agg #[x1,x2,x3,x4]) (.agg #[y1,y2,y3,y4]) (.slice (some ⟨w.heap.size+1,0,none⟩) k (max es.length fs.length)) (.func (.func 135) #[] #[.pointer (some ⟨gk,0,none⟩)]) undef undef undef undef) V:=by
   intro V hV;refine up ?_;unfold cb3 combA;refine wpAnyIn_ready (rs:=[2,3]) (by kernel_rfl) (by simp) (AllReadyIn.cons rfl (fun K hK=>?_) (AllReadyIn.cons rfl (fun K hK=>?_) AllReadyIn.nil))
   .have cc:=CP.out V hV;have c0:=cc.c0;have c1:=cc.c1;have c2:=cc.c2;have c3:=cc.c3;go_simp
    refine hK _ _ ?_;exact dn (S012 V hV)
   .have cc:=CQ.out V hV;have c0:=cc.c0;have c1:=cc.c1;have c2:=cc.c2;have c3:=cc.c3;go_simp
    refine hK _ _ ?_;exact dn (S013 V hV)
  have S02:∀(V:World) (hV:Below W.heap.size W V),G 6 #[true,false,true,false,false,false,false,false] (cb3 A A' c c' es fs w gk (.pointer (some ⟨p,0,none⟩)) (.pointer (some ⟨q,0,none⟩)) (.agg #[x1,x2,x3,x4]) (.agg #[y1,y2,y3,y4]) (.slice (some ⟨w.heap.size+1,0,none⟩) k (max es.length fs.length)) undef (.agg #[x1,x2,x3,x4]) undef undef undef) V:=by
   intro V hV;refine up ?_;unfold cb3 combA;refine wpAnyIn_ready (rs:=[1,3]) (by kernel_rfl) (by simp) (AllReadyIn.cons rfl (fun K hK=>?_) (AllReadyIn.cons rfl (fun K hK=>?_) AllReadyIn.nil))
   .have cc:=CF.out V hV;go_simp
    refine hK _ _ ?_;exact dn (S012 V hV)
   .have cc:=CQ.out V hV;have c0:=cc.c0;have c1:=cc.c1;have c2:=cc.c2;have c3:=cc.c3;go_simp
    refine hK _ _ ?_;exact dn (S023 V hV)
  have S03:∀(V:World) (hV:Below W.heap.size W V),G 6 #[true,false,false,true,false,false,false,false] (cb3 A A' c c' es fs w gk (.pointer (some ⟨p,0,none⟩)) (.pointer (some ⟨q,0,none⟩)) (.agg #[x1,x2,x3,x4]) (.agg #[y1,y2,y3,y4]) (.slice (some ⟨w.heap.size+1,0,none⟩) k (max es.length fs.length)) undef undef (.agg #[y1,y2,y3,y4]) undef undef) V:=by
   intro V hV;refine up ?_;unfold cb3 combA;refine wpAnyIn_ready (rs:=[1,2]) (by kernel_rfl) (by simp) (AllReadyIn.cons rfl (fun K hK=>?_) (AllReadyIn.cons rfl (fun K hK=>?_) AllReadyIn.nil))
   .have cc:=CF.out V hV;go_simp
    refine hK _ _ ?_;exact dn (S013 V hV)
   .have cc:=CP.out V hV;have c0:=cc.c0;have c1:=cc.c1;have c2:=cc.c2;have c3:=cc.c3;go_simp
    refine hK _ _ ?_;exact dn (S023 V hV)
  have S12:∀(V:World) (hV:Below W.heap.size W V),G 6 #[false,true,true,false,false,false,false,false] (cb3 A A' c c' es fs w gk (.pointer (some ⟨p,0,none⟩)) (.pointer (some ⟨q,0,none⟩)) (.agg #[x1,x2,x3,x4]) (.agg #[y1,y2,y3,y4]) undef (.func (.func 135) #[] #[.pointer (some ⟨gk,0,none⟩)]) (.agg #[x1,x2,x3,x4]) undef undef undef) V:=by
   intro V hV;refine up ?_;unfold cb3 combA;refine wpAnyIn_ready (rs:=[0,3]) (by kernel_rfl) (by simp) (AllReadyIn.cons rfl (fun K hK=>?_) (AllReadyIn.cons rfl (fun K hK=>?_) AllReadyIn.nil))
   .have cc:=CA.out V hV;go_simp
    refine hK _ _ ?_;exact dn (S012 V hV)
   .have cc:=CQ.out V hV;have c0:=cc.c0;have c1:=cc.c1;have c2:=cc.c2;have c3:=cc.c3;go_simp
    refine hK _ _ ?_;exact dn (S123 V hV)
  have S13:∀(V:World) (hV:Below W.heap.size W V),G 6 #[false,true,false,true,false,false,false,false] (cb3 A A' c c' es fs w gk (.pointer (some ⟨p,0,none⟩)) (.pointer (some ⟨q,0,none⟩)) (.agg #[x1,x2,x3,x4]) (.agg #[y1,y2,y3,y4]) undef (.func (.func 135) #[] #[.pointer (some ⟨gk,0,none⟩)]) undef (.agg #[y1,y2,y3,y4]) undef undef) V:=by
   intro V hV;refine up ?_;unfold cb3 combA;refine wpAnyIn_ready (rs:=[0,2]) (by kernel_rfl) (by simp) (AllReadyIn.cons rfl (fun K hK=>?_) (AllReadyIn.cons rfl (fun K hK=>?_) AllReadyIn.nil))
   .have cc:=CA.out V hV;go_simp
    refine hK _ _ ?_;exact dn (S013 V hV)
   .have cc:=CP.out V hV;have c0:=cc.c0;have c1:=cc.c1;have c2:=cc.c2;have c3:=cc.c3;go_simp
    refine hK _ _ ?_;exact dn (S123 V hV)
  have S23:∀(V:World) (hV:Below W.heap.size W V),G 6 #[false,false,true,true,false,false,false,false] (cb3 A A' c c' es fs w gk (.pointer (some ⟨p,0,none⟩)) (.pointer (some ⟨q,0,none⟩)) (.agg #[x1,x2,x3,x4]) (.agg #[y1,y2,y3,y4]) undef undef (.agg #[x1,x2,x3,x4]) (.agg #[y1,y2,y3,y4]) undef undef) V:=by
   intro V hV;refine up ?_;unfold cb3 combA;refine wpAnyIn_ready (rs:=[0,1]) (by kernel_rfl) (by simp) (AllReadyIn.cons rfl (fun K hK=>?_) (AllReadyIn.cons rfl (fun K hK=>?_) AllReadyIn.nil))
   .have cc:=CA.out V hV;go_simp
    refine hK _ _ ?_;exact dn (S023 V hV)
   .have cc:=CF.out V hV;go_simp
    refine hK _ _ ?_;exact dn (S123 V hV)
  have S0:∀(V:World) (hV:Below W.heap.size W V),G 7 #[true,false,false,false,false,false,false,false] (cb3 A A' c c' es fs w gk (.pointer (some ⟨p,0,none⟩)) (.pointer (some ⟨q,0,none⟩)) (.agg #[x1,x2,x3,x4]) (.agg #[y1,y2,y3,y4]) (.slice (some ⟨w.heap.size+1,0,none⟩) k (max es.length fs.length)) undef undef undef undef undef) V:=by
   intro V hV;refine up ?_;unfold cb3 combA;refine wpAnyIn_ready (rs:=[1,2,3]) (by kernel_rfl) (by simp) (AllReadyIn.cons rfl (fun K hK=>?_) (AllReadyIn.cons rfl (fun K hK=>?_) (AllReadyIn.cons rfl (fun K hK=>?_) AllReadyIn.nil)))
   .have cc:=CF.out V hV;go_simp
    refine hK _ _ ?_;exact dn (S01 V hV)
   .have cc:=CP.out V hV;have c0:=cc.c0;have c1:=cc.c1;have c2:=cc.c2;have c3:=cc.c3;go_simp
    refine hK _ _ ?_;exact dn (S02 V hV)
   .have cc:=CQ.out V hV;have c0:=cc.c0;have c1:=cc.c1;have c2:=cc.c2;have c3:=cc.c3;go_simp
    refine hK _ _ ?_;exact dn (S03 V hV)
  have S1:∀(V:World) (hV:Below W.heap.size W V),G 7 #[false,true,false,false,false,false,false,false] (cb3 A A' c c' es fs w gk (.pointer (some ⟨p,0,none⟩)) (.pointer (some ⟨q,0,none⟩)) (.agg #[x1,x2,x3,x4]) (.agg #[y1,y2,y3,y4]) undef (.func (.func 135) #[] #[.pointer (some ⟨gk,0,none⟩)]) undef undef undef undef) V:=by
   intro V hV;refine up ?_;unfold cb3 combA;refine wpAnyIn_ready (rs:=[0,2,3]) (by kernel_rfl) (by simp) (AllReadyIn.cons rfl (fun K hK=>?_) (AllReadyIn.cons rfl (fun K hK=>?_) (AllReadyIn.cons rfl (fun K hK=>?_) AllReadyIn.nil)))
   .have cc:=CA.out V hV;go_simp
    refine hK _ _ ?_;exact dn (S01 V hV)
   .have cc:=CP.out V hV;have c0:=cc.c0;have c1:=cc.c1;have c2:=cc.c2;have c3:=cc.c3;go_simp
    refine hK _ _ ?_;exact dn (S12 V hV)
   .have cc:=CQ.out V hV;have c0:=cc.c0;have c1:=cc.c1;have c2:=cc.c2;have c3:=cc.c3;go_simp
    refine hK _ _ ?_;exact dn (S13 V hV)
  have S2:∀(V:World) (hV:Below W.heap.size W V),G 7 #[false,false,true,false,false,false,false,false] (cb3 A A' c c' es fs w gk (.pointer (some ⟨p,0,none⟩)) (.pointer (some ⟨q,0,none⟩)) (.agg #[x1,x2,x3,x4]) (.agg #[y1,y2,y3,y4]) undef undef (.agg #[x1,x2,x3,x4]) undef undef undef) V:=by
   intro V hV;refine up ?_;unfold cb3 combA;refine wpAnyIn_ready (rs:=[0,1,3]) (by kernel_rfl) (by simp) (AllReadyIn.cons rfl (fun K hK=>?_) (AllReadyIn.cons rfl (fun K hK=>?_) (AllReadyIn.cons rfl (fun K hK=>?_) AllReadyIn.nil)))
   .have cc:=CA.out V hV;go_simp
    refine hK _ _ ?_;exact dn (S02 V hV)
   .have cc:=CF.out V hV;go_simp
    refine hK _ _ ?_;exact dn (S12 V hV)
   .have cc:=CQ.out V hV;have c0:=cc.c0;have c1:=cc.c1;have c2:=cc.c2;have c3:=cc.c3;go_simp
    refine hK _ _ ?_;exact dn (S23 V hV)
  have S3:∀(V:World) (hV:Below W.heap.size W V),G 7 #[false,false,false,true,false,false,false,false] (cb3 A A' c c' es fs w gk (.pointer (some ⟨p,0,none⟩)) (.pointer (some ⟨q,0,none⟩)) (.agg #[x1,x2,x3,x4]) (.agg #[y1,y2,y3,y4]) undef undef undef (.agg #[y1,y2,y3,y4]) undef undef) V:=by
   intro V hV;refine up ?_;unfold cb3 combA;refine wpAnyIn_ready (rs:=[0,1,2]) (by kernel_rfl) (by simp) (AllReadyIn.cons rfl (fun K hK=>?_) (AllReadyIn.cons rfl (fun K hK=>?_) (AllReadyIn.cons rfl (fun K hK=>?_) AllReadyIn.nil)))
   .have cc:=CA.out V hV;go_simp
    refine hK _ _ ?_;exact dn (S03 V hV)
   .have cc:=CF.out V hV;go_simp
    refine hK _ _ ?_;exact dn (S13 V hV)
   .have cc:=CP.out V hV;have c0:=cc.c0;have c1:=cc.c1;have c2:=cc.c2;have c3:=cc.c3;go_simp
    refine hK _ _ ?_;exact dn (S23 V hV)
  have S:∀(V:World) (hV:Below W.heap.size W V),G 8 #[false,false,false,false,false,false,false,false] (cb3 A A' c c' es fs w gk (.pointer (some ⟨p,0,none⟩)) (.pointer (some ⟨q,0,none⟩)) (.agg #[x1,x2,x3,x4]) (.agg #[y1,y2,y3,y4]) undef undef undef undef undef undef) V:=by
   intro V hV;refine up ?_;unfold cb3 combA;refine wpAnyIn_ready (rs:=[0,1,2,3]) (by kernel_rfl) (by simp) (AllReadyIn.cons rfl (fun K hK=>?_) (AllReadyIn.cons rfl (fun K hK=>?_) (AllReadyIn.cons rfl (fun K hK=>?_) (AllReadyIn.cons rfl (fun K hK=>?_) AllReadyIn.nil))))
   .have cc:=CA.out V hV;go_simp
    refine hK _ _ ?_;exact dn (S0 V hV)
   .have cc:=CF.out V hV;go_simp
    refine hK _ _ ?_;exact dn (S1 V hV)
   .have cc:=CP.out V hV;have c0:=cc.c0;have c1:=cc.c1;have c2:=cc.c2;have c3:=cc.c3;go_simp
    refine hK _ _ ?_;exact dn (S2 V hV)
   .have cc:=CQ.out V hV;have c0:=cc.c0;have c1:=cc.c1;have c2:=cc.c2;have c3:=cc.c3;go_simp
    refine hK _ _ ?_;exact dn (S3 V hV)
  exact S _ (Below.refl _ _).drew
 case done =>
  rintro W hI hK;obtain ⟨fl,r1,r2,r3⟩:=hI.acc.row;have cA:=hI.acc.box.one;have HR:=Hd hI;have HRow:Hid (Row W (w.heap.size+1) fl/\fl.length=max es.length fs.length/\∀i,i<max es.length fs.length->Qc W (fl.getD i E4.z).a (fl.getD i E4.z).b (fl.getD i E4.z).c (fl.getD i E4.z).d (f i)):=⟨r1,r2,r3⟩
  clear r1 r2 r3 hI
  gi_wp2
  have hg:=grownBy_putObj' W W0.heap.size (.deferred none);have hgr:∀r,some W0.heap.size=some r->∃o:Obj,W.heap[r]?=some o/\o.isCells=false:=fun r e=>by cases e;exact ⟨_,hK,rfl⟩
  refine ⟨by simp,.inl ⟨_,_,rfl,run_takeDeferred hK,?_⟩⟩;refine ⟨_,results_tmp rfl _ _ _,w.heap.size+1,fl,rfl,by omega,HRow.out.1.grown hg hgr,HRow.out.2.1,fun i hi=>(Kw.grown hg hgr).qc (HRow.out.2.2 i hi),HR.out.bel.grown hg HR.out.bel.size (fun k e=>by cases e;omega)⟩
 case stop=>exact fun _ _ _ _ h _=>h.elim
end Go.Proofs.YtglhdielkkhefaaGreat

namespace Go.Proofs.YtglhdielkkhefaaGreat
open Go.RowKit Go.Shelf
attribute [local go_sem] Oper.semAt_some
def lexF (f:Nat->Int):Nat->Nat->Int
 | _,0=>0
 | k,n+1=>if f k=0 then lexF f (k+1) n else f k
def posF (f:Nat->Int):Nat->Nat->Option Nat
 | _,0=>none
 | k,n+1=>if 0<f k then some k else posF f (k+1) n
structure PairI (w:World)(B:Nat)(VX VY:Value)(W:World):Prop where
 bx:Hp W B (.cells #[VX] 38 (0,0))
 by':Hp W (B+1) (.cells #[VY] 38 (0,0))
 bel:Below w.heap.size w W
theorem PairI.to {w:World}{B:Nat}{VX VY:Value}{W V:World}(h:PairI w B VX VY W)(hb:Below W.heap.size W V):PairI w B VX VY V:=⟨h.bx.to hb,h.by'.to hb,h.bel.trans (hb.mono h.bel.size)⟩
theorem PairI.grown {w:World}{B:Nat}{VX VY:Value}{W V:World}{row:Option Nat}{C:Nat}(h:PairI w B VX VY W)(hB:w.heap.size<=C)(hg:W.grownBy V row)
  (hr:∀r,row=some r->C<=r/\∃o:Obj,W.heap[r]?=some o/\o.isCells=false):PairI w B VX VY V :=
 have hr':=fun r e=>(hr r e).2
 ⟨h.bx.grown hg hr' rfl,h.by'.grown hg hr' rfl,h.bel.grown hg h.bel.size (fun k e=>Nat.le_trans hB (hr k e).1)⟩
def EHp (W:World)(p:Nat)(e:E4):Prop:=Hp W p (.cells #[e.a,e.b,e.c,e.d] 32 (0,0))
theorem KeepAt.of {S:Addr->Prop}{W V:World}(h:∀p,S p->V.heap[p.block]?=W.heap[p.block]?):KeepAt S W V:=fun p hp=>World.cell?_of_block (h p hp)
def lexQ (rs ss:List Rat):Int:=lexF (fun i=>cmpQ (rs.getD i 0) (ss.getD i 0)) 0 (max rs.length ss.length)
def aboveQ (rs ss:List Rat):Option Nat:=posF (fun i=>cmpQ (rs.getD i 0) (ss.getD i 0)) 0 (max rs.length ss.length)
end Go.Proofs.YtglhdielkkhefaaGreat
