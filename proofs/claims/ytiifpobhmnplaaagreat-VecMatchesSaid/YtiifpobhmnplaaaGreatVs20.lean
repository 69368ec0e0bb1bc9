/- Parts: 4. -/
import Derived.Test.YtiifpobhmnplaaaGreatVs12
import Derived.Test.YtiifpobhmnplaaaGreatVs19
set_option linter.unusedVariables false
set_option linter.unusedSimpArgs false
set_option maxRecDepth 100000
set_option maxHeartbeats 40000000

namespace Go.Proofs.YtiifpobhmnplaaaGreat
open Go.RowKit Go.Shelf
attribute [local go_sem] Oper.semAt_some
def lexF (f:Nat->Int):Nat->Nat->Int
 | _,0=>0
 | k,n+1=>if f k=0 then lexF f (k+1) n else f k
theorem lexF_zero (f:Nat->Int):∀(n k:Nat),(∀j,k<=j->j<k+n->f j=0)->lexF f k n=0
 | 0,_,_=>rfl
 | n+1,k,h=>by
  unfold lexF
  rw[if_pos (h k (Nat.le_refl _) (by omega))]
  exact lexF_zero f n (k+1) fun j h1 h2=>h j (by omega) (by omega)
theorem lexF_stop (f:Nat->Int):∀(n k m:Nat),(∀j,k<=j->j<m->f j=0)->k<=m->m<k+n->f m≠0->lexF f k n=f m
 | 0,k,m,_,h1,h2,_=>by omega
 | n+1,k,m,h,h1,h2,h3=>by
  unfold lexF
  by_cases hk:k=m
  .subst hk;rw[if_neg h3]
  .rw[if_pos (h k (Nat.le_refl _) (by omega))]
   exact lexF_stop f n (k+1) m (fun j h4 h5=>h j (by omega) h5) (by omega) (by omega) h3
def posF (f:Nat->Int):Nat->Nat->Option Nat
 | _,0=>none
 | k,n+1=>if 0<f k then some k else posF f (k+1) n
theorem posF_none (f:Nat->Int):∀(n k:Nat),(∀j,k<=j->j<k+n->¬0<f j)->posF f k n=none
 | 0,_,_=>rfl
 | n+1,k,h=>by
  unfold posF
  rw[if_neg (h k (Nat.le_refl _) (by omega))]
  exact posF_none f n (k+1) fun j h1 h2=>h j (by omega) (by omega)
theorem posF_some (f:Nat->Int):∀(n k m:Nat),(∀j,k<=j->j<m->¬0<f j)->k<=m->m<k+n->0<f m->posF f k n=some m
 | 0,k,m,_,h1,h2,_=>by omega
 | n+1,k,m,h,h1,h2,h3=>by
  unfold posF
  by_cases hk:k=m
  .subst hk;rw[if_pos h3]
  .rw[if_neg (h k (Nat.le_refl _) (by omega))]
   exact posF_some f n (k+1) m (fun j h4 h5=>h j (by omega) h5) (by omega) (by omega) h3
structure PairI (w:World)(B:Nat)(VX VY:Value)(W:World):Prop where
 bx:Hp W B (.cells #[VX] 27 (0,0))
 by':Hp W (B+1) (.cells #[VY] 27 (0,0))
 bel:Below w.heap.size w W
theorem PairI.to {w:World}{B:Nat}{VX VY:Value}{W V:World}(h:PairI w B VX VY W)(hb:Below W.heap.size W V):PairI w B VX VY V:=⟨h.bx.to hb,h.by'.to hb,h.bel.trans (hb.mono h.bel.size)⟩
theorem PairI.grown {w:World}{B:Nat}{VX VY:Value}{W V:World}{row:Option Nat}{C:Nat}(h:PairI w B VX VY W)(hB:w.heap.size<=C)(hg:W.grownBy V row)
  (hr:∀r,row=some r->C<=r/\∃o:Obj,W.heap[r]?=some o/\o.isCells=false):PairI w B VX VY V :=
 have hr':=fun r e=>(hr r e).2
 ⟨h.bx.grown hg hr' rfl,h.by'.grown hg hr' rfl,h.bel.grown hg h.bel.size (fun k e=>Nat.le_trans hB (hr k e).1)⟩
theorem PairI.set {w:World}{B:Nat}{VX VY:Value}{W:World}{p:Nat}(h:PairI w B VX VY W)(h1:p<B)(h2:w.heap.size<=p)(v:Value):PairI w B VX VY (W.setCell ⟨p,0,none⟩ v) :=
 ⟨Boxed.other (W:=W) h.bx (by omega) v,Boxed.other (W:=W) h.by' (by omega) v,h.bel.setCell (p:=⟨p,0,none⟩) h2 v⟩
def EHp (W:World)(p:Nat)(e:E4):Prop:=Hp W p (.cells #[e.a,e.b,e.c,e.d] 26 (0,0))
theorem KeepAt.of {S:Addr->Prop}{W V:World}(h:∀p,S p->V.heap[p.block]?=W.heap[p.block]?):KeepAt S W V:=fun p hp=>World.cell?_of_block (h p hp)
theorem compare_f {f:Nat->Int}{A A':Option Addr}{c c':Nat}{es fs:List E4}{w:World}(hx:Rq w w.heap.size A es)(hy:Rq w w.heap.size A' fs)(qx:∀e∈es,e.fq)(qy:∀e∈fs,e.fq)
  (hx63:es.length<=4398046511104) (hy63:fs.length<=4398046511104)
  (hF:∀(V:World),Below w.heap.size w V->∀i,i<max es.length fs.length->Calls Tryz.prog 62 #[(es.getD i E4.z).v,(fs.getD i E4.z).v] V fun e w'=>e=.returned (.int .i64 (f i))/\Below V.heap.size V w') :
  Calls Tryz.prog 29 #[.slice A es.length c,.slice A' fs.length c'] w fun e w'=>e=.returned (.int .i64 (lexF f 0 (max es.length fs.length)))/\Below w.heap.size w w':=by
 have HF:=Hd hF
 have HX63:=Hd hx63
 have HY63:=Hd hy63
 have RX:=Hd hx
 have RY:=Hd hy
 have QX:=Hd qx
 have QY:=Hd qy
 clear hF hx hy qx qy
 refine (callsIn_wide (n:=3)).1 ?_
 refine callsIn_of_wp_marks Tryz.func29 rfl trivial ?_ rfl
 simp only[Tryz.ntmps29,List.size_toArray,List.length_cons,List.length_nil,Nat.reduceAdd,Nat.reduceSub,Array.replicate_succ,Array.replicate_zero,List.push_toArray,List.append_toArray,List.nil_append,List.cons_append]
 gi_wp2_with (first
  | (refine ⟨trivial,?_⟩;gi_at_call 61;refine (callsIn_wide.2 (vpairs_any _ _ _ _ _ _ _)).mono ?_;rintro e w' ⟨rfl,rfl⟩))
 obtain ⟨W0,hW0⟩:∃W0,W0=((w.alloc (.cells #[.int .i64 0] 3)).alloc (.cells #[.slice A es.length c] 27)).alloc (.cells #[.slice A' fs.length c'] 27):=⟨_,rfl⟩
 have hb0:Below w.heap.size w W0:=by rw[hW0];exact (((Below.refl _ _).alloc (Nat.le_refl _) _).alloc (by simp) _).alloc (by simp;omega) _
 have hR0:Hp W0 w.heap.size (.cells #[.int .i64 0] 3 (0,0)):=by rw[hW0];exact ((Hp.new _ _ _).alloc _).alloc _
 have hP0:PairI w (w.heap.size+1) (.slice A es.length c) (.slice A' fs.length c') W0:=by
  have h1:=Hp.new (w.alloc (.cells #[.int .i64 0] 3)) #[.slice A es.length c] 27
  have h2:=Hp.new ((w.alloc (.cells #[.int .i64 0] 3)).alloc (.cells #[.slice A es.length c] 27)) #[.slice A' fs.length c'] 27
  rw[World.size_alloc]at h1
  rw[World.size_alloc,World.size_alloc]at h2
  exact ⟨by rw[hW0];exact h1.alloc _,by rw[hW0];exact h2,hb0⟩
 have hs0:W0.heap.size=w.heap.size+1+1+1:=by rw[hW0];simp
 rw[<-hW0]
 clear hW0
 refine wp_roundsB (gf:=78) (lb:=#[.pointer (some ⟨w.heap.size+1,0,none⟩),.pointer (some ⟨w.heap.size+1+1,0,none⟩)]) ?hg (enters_of Tryz.func78 (by kernel_rfl) rfl)
  (N:=max es.length fs.length) (enc:=vpairE es fs) (S:=pairS (w.heap.size+1) (w.heap.size+1+1) w.heap.size) (pairS_lt (by omega) (by omega) (by omega))
  (fun W hW=>by
   have h:=hP0.to hW
   exact vpairs_gives (w.heap.size+1) (w.heap.size+1+1) w.heap.size c c' A A' es fs (by have:=HX63.out;omega) (by have:=HY63.out;omega) W h.bx.one h.by'.one (RX.out.below h.bel) (RY.out.below h.bel) QX.out QY.out)
  ?hps
  (fun k W=>Hp W w.heap.size (.cells #[.int .i64 0] 3 (0,0))/\PairI w (w.heap.size+1) (.slice A es.length c) (.slice A' fs.length c') W/\∀j,j<k->f j=0)
  (fun k a1 W=>∃p q,a1=⟨#[.slice A es.length c,.slice A' fs.length c',undef,undef,.pointer (some ⟨w.heap.size,0,none⟩),.pointer (some ⟨p,0,none⟩),.pointer (some ⟨q,0,none⟩),undef,.slice A es.length c,.slice A' fs.length c',.func (.func 78) #[] #[.pointer (some ⟨w.heap.size+1,0,none⟩),.pointer (some ⟨w.heap.size+1+1,0,none⟩)],(es.getD k E4.z).v,(fs.getD k E4.z).v,undef,undef,undef,undef,undef,undef],[]⟩/\(Hp W w.heap.size (.cells #[.int .i64 0] 3 (0,0))/\PairI w (w.heap.size+1) (.slice A es.length c) (.slice A' fs.length c') W/\∀j,j<k->f j=0)/\EHp W p (es.getD k E4.z)/\EHp W q (fs.getD k E4.z))
  (fun jmp k W=>jmp=.ret/\Hp W w.heap.size (.cells #[.int .i64 (f k)] 3 (0,0))/\Below w.heap.size w W/\f k≠0/\∀j,j<k->f j=0) ?hI ?hI1 ?hIb ?hIx ⟨hR0,hP0,fun j hj=>by omega⟩ ?assign ?body ?done ?stop
 case hg=>rfl
 case hps=>exact fun _=>rfl
 case hI=>exact fun k W V row h hg hr=>⟨h.1.grown hg (fun r e=>(hr r e).2) rfl,h.2.1.grown (by omega) hg hr,h.2.2⟩
 case hI1 =>
  rintro ⟨k,a1⟩ W V row ⟨p,q,h1,h2,h3,h4⟩ hg hr
  exact ⟨p,q,h1,⟨h2.1.grown hg (fun r e=>(hr r e).2) rfl,h2.2.1.grown (by omega) hg hr,h2.2.2⟩,Hp.grown h3 hg (fun r e=>(hr r e).2) rfl,Hp.grown h4 hg (fun r e=>(hr r e).2) rfl⟩
 case hIb=>exact fun k W V h hb=>⟨h.1.to hb,h.2.1.to hb,h.2.2⟩
 case hIx =>
  rintro jmp k W V row ⟨h1,h2,h3,h4⟩ hg hr
  exact ⟨h1,h2.grown hg (fun r e=>(hr r e).2) rfl,h3.grown hg h3.size (fun j e=>Nat.le_trans (by omega) (hr j e).1),h4⟩
 case assign =>
  intro l k W K hlt hI hk hK
  have fx:=fq_getD QX.out k
  have fy:=fq_getD QY.out k
  have HK:=Hd hK
  clear hK
  unfold vpairE
  generalize es.getD k E4.z=X at HK fx ⊢
  generalize fs.getD k E4.z=Y at HK fy ⊢
  obtain ⟨x1,x2,x3,x4⟩:=X
  obtain ⟨y1,y2,y3,y4⟩:=Y
  obtain ⟨⟨n1,A1,j1,m1,e1,e2⟩,⟨n2,A2,j2,m2,e3,e4⟩⟩:=fx
  obtain ⟨⟨n3,A3,j3,m3,e5,e6⟩,⟨n4,A4,j4,m4,e7,e8⟩⟩:=fy
  dsimp only at e1 e2 e3 e4 e5 e6 e7 e8
  subst e1 e2 e3 e4 e5 e6 e7 e8
  simp only[E4.v]
  simp only[E4.v]at HK
  gi_wp2
  have hbb:Below W.heap.size W ((W.alloc (.cells #[.bool n1,.slice A1 j1 m1,.bool n2,.slice A2 j2 m2] 26)).alloc (.cells #[.bool n3,.slice A3 j3 m3,.bool n4,.slice A4 j4 m4] 26)):=((Below.refl _ _).alloc (Nat.le_refl _) _).alloc (by simp) _
  refine HK.out _ _ hbb ⟨_,_,rfl,⟨hI.1.to hbb,hI.2.1.to hbb,hI.2.2⟩,(Hp.new _ _ _).alloc _,?_⟩
  have h:=Hp.new (W.alloc (.cells #[.bool n1,.slice A1 j1 m1,.bool n2,.slice A2 j2 m2] 26)) #[.bool n3,.slice A3 j3 m3,.bool n4,.slice A4 j4 m4] 26
  rw[World.size_alloc]at h
  exact h
 case body =>
  rintro l k a1 W hlt ⟨p,q,rfl,⟨hR,hP,hz⟩,hp,hq⟩ hk
  have HFK:=Hd fun (V:World) (hV:Below w.heap.size w V)=>HF.out V hV k hk
  obtain ⟨X,hX⟩:∃X,es.getD k E4.z=X:=⟨_,rfl⟩
  obtain ⟨Y,hY⟩:∃Y,fs.getD k E4.z=Y:=⟨_,rfl⟩
  rw[hX]at hp HFK ⊢
  rw[hY]at hq HFK ⊢
  clear hX hY
  obtain ⟨x1,x2,x3,x4⟩:=X
  obtain ⟨y1,y2,y3,y4⟩:=Y
  simp only[E4.v]at HFK ⊢
  have c0:=(Hp.four hp).c0
  have c1:=(Hp.four hp).c1
  have c2:=(Hp.four hp).c2
  have c3:=(Hp.four hp).c3
  have d0:=(Hp.four hq).c0
  have d1:=(Hp.four hq).c1
  have d2:=(Hp.four hq).c2
  have d3:=(Hp.four hq).c3
  dsimp only at c0 c1 c2 c3 d0 d1 d2 d3
  have HC:=Hd (HFK.out W hP.bel)
  have HR:=Hd fun (V:World) (hV:Below W.heap.size W V)=>hR.to hV
  have HP:=Hd hP
  have HZ:=Hd hz
  have HS:Hid (w.heap.size+1+1+1<W.heap.size):=by show _<_;omega
  clear hp hq hR hP hz HFK HF hP0 hR0 RX RY QX QY hk
  obtain ⟨v,hv⟩:∃v,f k=v:=⟨_,rfl⟩
  rw[hv]at HC ⊢
  have HV:=Hd hv
  clear hv
  by_cases h0:v=0
  .have ht:(v != 0)=false:=by rw[h0];rfl
   have H0:=Hd h0
   clear h0
   gi_wp2_with (refine ⟨trivial,?_⟩;gi_at_call 62;refine (CallsIn.inRound l (callsIn_wide.2 HC.out)).mono ?_;rintro e V ⟨rfl,bb⟩)
   refine ⟨⟨bb.size,fun j o _ hj _=>(bb.block j (Array.getElem?_eq_some_iff.1 hj).1).trans hj⟩,KeepAt.of fun p hp=>bb.block _ (by have:=pairS_lt (S:=W.heap.size) (by have:=HS.out;omega) (by have:=HS.out;omega) (by have:=HS.out;omega) p hp;omega),HR.out V bb,HP.out.to bb,fun j hj=>?_⟩
   by_cases hjk:j=k
   .subst hjk;rw[HV.out];exact H0.out
   .exact HZ.out j (by omega)
  .have ht:(v != 0)=true:=by rw[bne_iff_ne];exact h0
   have H0:=Hd h0
   clear h0
   gi_wp2_with (refine ⟨trivial,?_⟩;gi_at_call 62;refine (CallsIn.inRound l (callsIn_wide.2 HC.out)).mono ?_;rintro e V ⟨rfl,bb⟩;have cR:=(HR.out V bb).one;have fR:=Boxed.frozen (t:=3) (HR.out V bb))
   refine ⟨(KeepsFrom.trans ⟨bb.size,fun j o _ hj _=>(bb.block j (Array.getElem?_eq_some_iff.1 hj).1).trans hj⟩ ((KeepsOthers.setCell _ _ _).from _)),rfl,Boxed.set _ (HR.out V bb),(HP.out.bel.trans (bb.mono HP.out.bel.size)).setCell (p:=⟨w.heap.size,0,none⟩) (Nat.le_refl _) _,H0.out,HZ.out⟩
 case done =>
  rintro W ⟨hR,hP,hz⟩ hK
  have HE:Hid (lexF f 0 (max es.length fs.length)=0):=lexF_zero f _ _ fun j _ h=>hz j (by omega)
  have cR:=hR.one
  have fR:W.frozen? ⟨w.heap.size,0,none⟩=false:=Boxed.frozen (t:=3) hR
  have HR:=Hd hR
  have HB:=Hd hP.bel
  clear hz hP hR hb0 hP0 hR0
  gi_wp2
  have hK':=(KeepsOthers.setCell W ⟨w.heap.size,0,none⟩ (.int .i64 0)).same _ _ hK rfl
  have bR2:=(Boxed.set (.int .i64 0) HR.out).kept (grownBy_putObj' _ W0.heap.size (.deferred none)) (by simp;omega)
  refine ⟨by simp,.inl ⟨_,_,rfl,run_takeDeferred hK',?_⟩⟩
  refine ⟨.int .i64 0,?_,by rw[HE.out],(HB.out.setCell (p:=⟨w.heap.size,0,none⟩) (by simp) _).grown (grownBy_putObj' _ _ _) (by have:=HB.out.size;simpa [World.setCell]using this) (fun k e=>by cases e;omega)⟩
  have hc5:=bR2.cell
  simp[results,Tryz.f29,go_sem,hc5]
 case stop =>
  rintro jmp k W hk ⟨rfl,hR,hB,h0,hz⟩ hK
  have HE:Hid (lexF f 0 (max es.length fs.length)=f k):=lexF_stop f _ _ _ (fun j _ h=>hz j h) (Nat.zero_le _) (by omega) h0
  clear hb0 hP0 hR0 hz h0
  gi_wp2
  have bR2:=Boxed.kept (W:=W) hR (grownBy_putObj' _ W0.heap.size (.deferred none)) (by simp;omega)
  refine ⟨by simp,.inl ⟨_,_,rfl,run_takeDeferred hK,?_⟩⟩
  refine ⟨.int .i64 (f k),?_,by rw[HE.out],hB.grown (grownBy_putObj' _ _ _) hB.size (fun k e=>by cases e;omega)⟩
  have hc5:=bR2.cell
  simp[results,Tryz.f29,go_sem,hc5]
theorem first_f {f:Nat->Int}{A A':Option Addr}{c c':Nat}{es fs:List E4}{w:World}(hx:Rq w w.heap.size A es)(hy:Rq w w.heap.size A' fs)(qx:∀e∈es,e.fq)(qy:∀e∈fs,e.fq)
  (hx63:es.length<=4398046511104) (hy63:fs.length<=4398046511104)
  (hF:∀(V:World),Below w.heap.size w V->∀i,i<max es.length fs.length->Calls Tryz.prog 62 #[(es.getD i E4.z).v,(fs.getD i E4.z).v] V fun e w'=>e=.returned (.int .i64 (f i))/\Below V.heap.size V w') :
  Calls Tryz.prog 27 #[.slice A es.length c,.slice A' fs.length c'] w fun e w'=>e=.returned (.tuple #[.int .i64 (((posF f 0 (max es.length fs.length)).getD 0:Nat):Int),.bool (posF f 0 (max es.length fs.length)).isSome])/\Below w.heap.size w w':=by
 have HF:=Hd hF
 have HX63:=Hd hx63
 have HY63:=Hd hy63
 have RX:=Hd hx
 have RY:=Hd hy
 have QX:=Hd qx
 have QY:=Hd qy
 clear hF hx hy qx qy
 refine (callsIn_wide (n:=3)).1 ?_
 refine callsIn_of_wp_marks Tryz.func27 rfl trivial ?_ rfl
 simp only[Tryz.ntmps27,List.size_toArray,List.length_cons,List.length_nil,Nat.reduceAdd,Nat.reduceSub,Array.replicate_succ,Array.replicate_zero,List.push_toArray,List.append_toArray,List.nil_append,List.cons_append]
 gi_wp2_with (first
  | (refine ⟨trivial,?_⟩;gi_at_call 61;refine (callsIn_wide.2 (vpairs_any _ _ _ _ _ _ _)).mono ?_;rintro e w' ⟨rfl,rfl⟩))
 obtain ⟨W0,hW0⟩:∃W0,W0=(((w.alloc (.cells #[.int .i64 0] 3)).alloc (.cells #[.bool false] 4)).alloc (.cells #[.slice A es.length c] 27)).alloc (.cells #[.slice A' fs.length c'] 27):=⟨_,rfl⟩
 have hb0:Below w.heap.size w W0:=by rw[hW0];exact ((((Below.refl _ _).alloc (Nat.le_refl _) _).alloc (by simp) _).alloc (by simp;omega) _).alloc (by simp;omega) _
 have hR0:Hp W0 w.heap.size (.cells #[.int .i64 ((0:Nat):Int)] 3 (0,0)):=by rw[hW0];exact (((Hp.new _ _ _).alloc _).alloc _).alloc _
 have hT0:Hp W0 (w.heap.size+1) (.cells #[.bool false] 4 (0,0)):=by
  have h1:=Hp.new (w.alloc (.cells #[.int .i64 0] 3)) #[.bool false] 4
  rw[World.size_alloc]at h1
  rw[hW0];exact (h1.alloc _).alloc _
 have hP0:PairI w (w.heap.size+1+1) (.slice A es.length c) (.slice A' fs.length c') W0:=by
  have h1:=Hp.new ((w.alloc (.cells #[.int .i64 0] 3)).alloc (.cells #[.bool false] 4)) #[.slice A es.length c] 27
  have h2:=Hp.new (((w.alloc (.cells #[.int .i64 0] 3)).alloc (.cells #[.bool false] 4)).alloc (.cells #[.slice A es.length c] 27)) #[.slice A' fs.length c'] 27
  rw[World.size_alloc,World.size_alloc]at h1
  rw[World.size_alloc,World.size_alloc,World.size_alloc]at h2
  exact ⟨by rw[hW0];exact h1.alloc _,by rw[hW0];exact h2,hb0⟩
 have hs0:W0.heap.size=w.heap.size+1+1+1+1:=by rw[hW0];simp
 rw[<-hW0]
 clear hW0
 refine wp_roundsB (gf:=78) (lb:=#[.pointer (some ⟨w.heap.size+1+1,0,none⟩),.pointer (some ⟨w.heap.size+1+1+1,0,none⟩)]) ?hg (enters_of Tryz.func78 (by kernel_rfl) rfl)
  (N:=max es.length fs.length) (enc:=vpairE es fs) (S:=pairS (w.heap.size+1+1) (w.heap.size+1+1+1) w.heap.size) (pairS_lt (by omega) (by omega) (by omega))
  (fun W hW=>by
   have h:=hP0.to hW
   exact vpairs_gives (w.heap.size+1+1) (w.heap.size+1+1+1) w.heap.size c c' A A' es fs (by have:=HX63.out;omega) (by have:=HY63.out;omega) W h.bx.one h.by'.one (RX.out.below h.bel) (RY.out.below h.bel) QX.out QY.out)
  ?hps
  (fun k W=>Hp W w.heap.size (.cells #[.int .i64 (k:Int)] 3 (0,0))/\Hp W (w.heap.size+1) (.cells #[.bool false] 4 (0,0))/\PairI w (w.heap.size+1+1) (.slice A es.length c) (.slice A' fs.length c') W/\∀j,j<k->¬0<f j)
  (fun k a1 W=>∃p q,a1=⟨#[.slice A es.length c,.slice A' fs.length c',undef,undef,.pointer (some ⟨w.heap.size,0,none⟩),.pointer (some ⟨w.heap.size+1,0,none⟩),.pointer (some ⟨p,0,none⟩),.pointer (some ⟨q,0,none⟩),.slice A es.length c,.slice A' fs.length c',.func (.func 78) #[] #[.pointer (some ⟨w.heap.size+1+1,0,none⟩),.pointer (some ⟨w.heap.size+1+1+1,0,none⟩)],(es.getD k E4.z).v,(fs.getD k E4.z).v,undef,undef,undef,undef,undef,undef,undef],[]⟩/\(Hp W w.heap.size (.cells #[.int .i64 (k:Int)] 3 (0,0))/\Hp W (w.heap.size+1) (.cells #[.bool false] 4 (0,0))/\PairI w (w.heap.size+1+1) (.slice A es.length c) (.slice A' fs.length c') W/\∀j,j<k->¬0<f j)/\EHp W p (es.getD k E4.z)/\EHp W q (fs.getD k E4.z))
  (fun jmp k W=>jmp=.ret/\Hp W w.heap.size (.cells #[.int .i64 (k:Int)] 3 (0,0))/\Hp W (w.heap.size+1) (.cells #[.bool true] 4 (0,0))/\Below w.heap.size w W/\0<f k/\∀j,j<k->¬0<f j) ?hI ?hI1 ?hIb ?hIx ⟨hR0,hT0,hP0,fun j hj=>by omega⟩ ?assign ?body ?done ?stop
 case hg=>rfl
 case hps=>exact fun _=>rfl
 case hI=>exact fun k W V row h hg hr=>⟨h.1.grown hg (fun r e=>(hr r e).2) rfl,h.2.1.grown hg (fun r e=>(hr r e).2) rfl,h.2.2.1.grown (by omega) hg hr,h.2.2.2⟩
 case hI1 =>
  rintro ⟨k,a1⟩ W V row ⟨p,q,h1,h2,h3,h4⟩ hg hr
  exact ⟨p,q,h1,⟨h2.1.grown hg (fun r e=>(hr r e).2) rfl,h2.2.1.grown hg (fun r e=>(hr r e).2) rfl,h2.2.2.1.grown (by omega) hg hr,h2.2.2.2⟩,Hp.grown h3 hg (fun r e=>(hr r e).2) rfl,Hp.grown h4 hg (fun r e=>(hr r e).2) rfl⟩
 case hIb=>exact fun k W V h hb=>⟨h.1.to hb,h.2.1.to hb,h.2.2.1.to hb,h.2.2.2⟩
 case hIx =>
  rintro jmp k W V row ⟨h1,h2,h5,h3,h4⟩ hg hr
  exact ⟨h1,h2.grown hg (fun r e=>(hr r e).2) rfl,h5.grown hg (fun r e=>(hr r e).2) rfl,h3.grown hg h3.size (fun j e=>Nat.le_trans (by omega) (hr j e).1),h4⟩
 case assign =>
  intro l k W K hlt hI hk hK
  have fx:=fq_getD QX.out k
  have fy:=fq_getD QY.out k
  have HK:=Hd hK
  clear hK
  unfold vpairE
  generalize es.getD k E4.z=X at HK fx ⊢
  generalize fs.getD k E4.z=Y at HK fy ⊢
  obtain ⟨x1,x2,x3,x4⟩:=X
  obtain ⟨y1,y2,y3,y4⟩:=Y
  obtain ⟨⟨n1,A1,j1,m1,e1,e2⟩,⟨n2,A2,j2,m2,e3,e4⟩⟩:=fx
  obtain ⟨⟨n3,A3,j3,m3,e5,e6⟩,⟨n4,A4,j4,m4,e7,e8⟩⟩:=fy
  dsimp only at e1 e2 e3 e4 e5 e6 e7 e8
  subst e1 e2 e3 e4 e5 e6 e7 e8
  simp only[E4.v]
  simp only[E4.v]at HK
  gi_wp2
  have hbb:Below W.heap.size W ((W.alloc (.cells #[.bool n1,.slice A1 j1 m1,.bool n2,.slice A2 j2 m2] 26)).alloc (.cells #[.bool n3,.slice A3 j3 m3,.bool n4,.slice A4 j4 m4] 26)):=((Below.refl _ _).alloc (Nat.le_refl _) _).alloc (by simp) _
  refine HK.out _ _ hbb ⟨_,_,rfl,⟨hI.1.to hbb,hI.2.1.to hbb,hI.2.2.1.to hbb,hI.2.2.2⟩,(Hp.new _ _ _).alloc _,?_⟩
  have h:=Hp.new (W.alloc (.cells #[.bool n1,.slice A1 j1 m1,.bool n2,.slice A2 j2 m2] 26)) #[.bool n3,.slice A3 j3 m3,.bool n4,.slice A4 j4 m4] 26
  rw[World.size_alloc]at h
  exact h
 case body =>
  rintro l k a1 W hlt ⟨p,q,rfl,⟨hR,hT,hP,hz⟩,hp,hq⟩ hk
  have hk63:(k:Int)<=4398046511104:=by have:=HX63.out;have:=HY63.out;omega
  have hk0:(0:Int)<=(k:Int):=by omega
  have HFK:=Hd fun (V:World) (hV:Below w.heap.size w V)=>HF.out V hV k hk
  obtain ⟨X,hX⟩:∃X,es.getD k E4.z=X:=⟨_,rfl⟩
  obtain ⟨Y,hY⟩:∃Y,fs.getD k E4.z=Y:=⟨_,rfl⟩
  rw[hX]at hp HFK ⊢
  rw[hY]at hq HFK ⊢
  clear hX hY
  obtain ⟨x1,x2,x3,x4⟩:=X
  obtain ⟨y1,y2,y3,y4⟩:=Y
  simp only[E4.v]at HFK ⊢
  have c0:=(Hp.four hp).c0
  have c1:=(Hp.four hp).c1
  have c2:=(Hp.four hp).c2
  have c3:=(Hp.four hp).c3
  have d0:=(Hp.four hq).c0
  have d1:=(Hp.four hq).c1
  have d2:=(Hp.four hq).c2
  have d3:=(Hp.four hq).c3
  dsimp only at c0 c1 c2 c3 d0 d1 d2 d3
  have HC:=Hd (HFK.out W hP.bel)
  have HR:=Hd fun (V:World) (hV:Below W.heap.size W V)=>hR.to hV
  have HT:=Hd fun (V:World) (hV:Below W.heap.size W V)=>hT.to hV
  have HP:=Hd hP
  have HZ:=Hd hz
  have HS:Hid (w.heap.size+1+1+1+1<W.heap.size):=by show _<_;omega
  clear hp hq hR hT hP hz HFK HF hP0 hR0 hT0 RX RY QX QY hk
  obtain ⟨v,hv⟩:∃v,f k=v:=⟨_,rfl⟩
  rw[hv]at HC ⊢
  have HV:=Hd hv
  clear hv
  by_cases h0:0<v
  .have H0:=Hd h0
   gi_wp2_with (refine ⟨trivial,?_⟩;gi_at_call 62;refine (CallsIn.inRound l (callsIn_wide.2 HC.out)).mono ?_;rintro e V ⟨rfl,bb⟩;have cR:=(HR.out V bb).one;have fR:=Boxed.frozen (t:=3) (HR.out V bb);have cT:=(HT.out V bb).one;have fT:=Boxed.frozen (t:=4) (HT.out V bb))
   refine ⟨(KeepsFrom.trans ⟨bb.size,fun j o _ hj _=>(bb.block j (Array.getElem?_eq_some_iff.1 hj).1).trans hj⟩ (((KeepsOthers.setCell _ _ _).trans (KeepsOthers.setCell _ _ _)).from _)),rfl,?_,?_,?_,fun j hj=>(by have:=HZ.out j hj;omega)⟩
   .exact Boxed.other (Boxed.set _ (HR.out V bb)) (by omega) _
   .exact Boxed.set _ (Boxed.other (HT.out V bb) (by omega) _)
   .exact (((HP.out.bel.trans (bb.mono HP.out.bel.size)).setCell (p:=⟨w.heap.size,0,none⟩) (Nat.le_refl _) _)).setCell (p:=⟨w.heap.size+1,0,none⟩) (by show w.heap.size<=w.heap.size+1;omega) _
  .have H0:=Hd h0
   gi_wp2_with (refine ⟨trivial,?_⟩;gi_at_call 62;refine (CallsIn.inRound l (callsIn_wide.2 HC.out)).mono ?_;rintro e V ⟨rfl,bb⟩;have cR:=(HR.out V bb).one;have fR:=Boxed.frozen (t:=3) (HR.out V bb))
   refine ⟨(KeepsFrom.trans ⟨bb.size,fun j o _ hj _=>(bb.block j (Array.getElem?_eq_some_iff.1 hj).1).trans hj⟩ ((KeepsOthers.setCell _ _ _).from _)),?_,Boxed.set _ (HR.out V bb),Boxed.other (HT.out V bb) (by omega) _,(HP.out.to bb).set (by omega) (Nat.le_refl _) _,fun j hj=>?_⟩
   .refine KeepAt.of fun p hp=>?_
    have h1:=pairS_lt (S:=W.heap.size) (by have:=HS.out;omega) (by have:=HS.out;omega) (by have:=HS.out;omega) p hp
    have h2:p.block≠w.heap.size:=by rcases hp with rfl|rfl|hp<;>simp_all<;>omega
    exact (Below.heap_setCell V ⟨w.heap.size,0,none⟩ _ _ h2).trans (bb.block _ h1)
   .by_cases hjk:j=k
    .subst hjk;have h1:=HV.out;have h2:=H0.out;omega
    .have h1:=HZ.out j (by omega);omega
 case done =>
  rintro W ⟨hR,hT,hP,hz⟩ hK
  have HE:Hid (posF f 0 (max es.length fs.length)=none):=posF_none f _ _ fun j _ h=>hz j (by omega)
  have cR:=hR.one
  have fR:W.frozen? ⟨w.heap.size,0,none⟩=false:=Boxed.frozen (t:=3) hR
  have cT:=hT.one
  have fT:W.frozen? ⟨w.heap.size+1,0,none⟩=false:=Boxed.frozen (t:=4) hT
  have HR:=Hd hR
  have HT:=Hd hT
  have HB:=Hd hP.bel
  clear hz hP hR hT hb0 hP0 hR0 hT0
  gi_wp2
  have hK':=((KeepsOthers.setCell W ⟨w.heap.size,0,none⟩ (.int .i64 0)).trans (KeepsOthers.setCell _ ⟨w.heap.size+1,0,none⟩ (.bool false))).same _ _ hK rfl
  have bR2:=(Boxed.other (Boxed.set (.int .i64 0) HR.out) (by omega) (B':=w.heap.size+1) (.bool false)).kept (grownBy_putObj' _ W0.heap.size (.deferred none)) (by simp;omega)
  have bT2:=(Boxed.set (.bool false) (Boxed.other HT.out (by omega) (B':=w.heap.size) (.int .i64 0))).kept (grownBy_putObj' _ W0.heap.size (.deferred none)) (by simp;omega)
  refine ⟨by simp,.inl ⟨_,_,rfl,run_takeDeferred hK',?_⟩⟩
  refine ⟨.tuple #[.int .i64 0,.bool false],?_,by rw[HE.out];rfl,((HB.out.setCell (p:=⟨w.heap.size,0,none⟩) (by simp) _).setCell (p:=⟨w.heap.size+1,0,none⟩) (by show w.heap.size<=w.heap.size+1;omega) _).grown (grownBy_putObj' _ _ _) (by have:=HB.out.size;simpa [World.setCell]using this) (fun k e=>by cases e;omega)⟩
  have hc5:=bR2.cell
  have hc6:=bT2.cell
  simp[results,Tryz.f27,go_sem,hc5,hc6]
 case stop =>
  rintro jmp k W hk ⟨rfl,hR,hT,hB,h0,hz⟩ hK
  have HE:Hid (posF f 0 (max es.length fs.length)=some k):=posF_some f _ _ _ (fun j _ h=>hz j h) (Nat.zero_le _) (by omega) h0
  clear hb0 hP0 hR0 hT0 hz h0
  gi_wp2
  have bR2:=Boxed.kept (W:=W) hR (grownBy_putObj' _ W0.heap.size (.deferred none)) (by simp;omega)
  have bT2:=Boxed.kept (W:=W) hT (grownBy_putObj' _ W0.heap.size (.deferred none)) (by simp;omega)
  refine ⟨by simp,.inl ⟨_,_,rfl,run_takeDeferred hK,?_⟩⟩
  refine ⟨.tuple #[.int .i64 (k:Int),.bool true],?_,by rw[HE.out];rfl,hB.grown (grownBy_putObj' _ _ _) hB.size (fun k e=>by cases e;omega)⟩
  have hc5:=bR2.cell
  have hc6:=bT2.cell
  simp[results,Tryz.f27,go_sem,hc5,hc6]
def lexQ (rs ss:List Rat):Int:=lexF (fun i=>cmpQ (rs.getD i 0) (ss.getD i 0)) 0 (max rs.length ss.length)
def aboveQ (rs ss:List Rat):Option Nat:=posF (fun i=>cmpQ (rs.getD i 0) (ss.getD i 0)) 0 (max rs.length ss.length)
theorem cmp_el {w:World}{A A':Option Addr}{c c':Nat}{es fs:List E4}{rs ss:List Rat}{k l:Nat}(hA:Vi w A c es rs k)(hB:Vi w A' c' fs ss l)(hk:0<k)(hl:0<l)(hkl:k+l<=10000) :
  ∀(V:World),Below w.heap.size w V->∀i,i<max es.length fs.length->Calls Tryz.prog 62 #[(es.getD i E4.z).v,(fs.getD i E4.z).v] V fun e w'=>e=.returned (.int .i64 (cmpQ (rs.getD i 0) (ss.getD i 0)))/\Below V.heap.size V w' :=
 fun _ hV i _=>cmp_q ((hA.el i).to hV) ((hB.el i).to hV) hk hl hkl rfl
theorem vcompare_v {w:World}{A A':Option Addr}{c c':Nat}{es fs:List E4}{rs ss:List Rat}{k l:Nat}(hA:Vi w A c es rs k)(hB:Vi w A' c' fs ss l)(hk:0<k)(hl:0<l)(hkl:k+l<=10000)(h1:rs.length<=4398046511104)(h2:ss.length<=4398046511104){v:Int}(hv:lexQ rs ss=v) :
  Calls Tryz.prog 29 #[.slice A rs.length c,.slice A' ss.length c'] w fun e w'=>e=.returned (.int .i64 v)/\Below w.heap.size w w':=by
 subst hv
 have h:=compare_f (c:=c) (c':=c') hA.row hB.row hA.fq hB.fq (by rw[hA.len];exact h1) (by rw[hB.len];exact h2) (cmp_el hA hB hk hl hkl)
 rw[hA.len,hB.len]at h
 exact h
theorem vfirst_v {w:World}{A A':Option Addr}{c c':Nat}{es fs:List E4}{rs ss:List Rat}{k l:Nat}(hA:Vi w A c es rs k)(hB:Vi w A' c' fs ss l)(hk:0<k)(hl:0<l)(hkl:k+l<=10000)(h1:rs.length<=4398046511104)(h2:ss.length<=4398046511104){o:Option Nat}(ho:aboveQ rs ss=o) :
  Calls Tryz.prog 27 #[.slice A rs.length c,.slice A' ss.length c'] w fun e w'=>e=.returned (.tuple #[.int .i64 ((o.getD 0:Nat):Int),.bool o.isSome])/\Below w.heap.size w w':=by
 subst ho
 have h:=first_f (c:=c) (c':=c') hA.row hB.row hA.fq hB.fq (by rw[hA.len];exact h1) (by rw[hB.len];exact h2) (cmp_el hA hB hk hl hkl)
 rw[hA.len,hB.len]at h
 exact h
end Go.Proofs.YtiifpobhmnplaaaGreat

namespace Go.Proofs.YtiifpobhmnplaaaGreat
open Go.RowKit Go.Shelf
theorem getD_lt {α:Type}{l:List α}{i:Nat}{d:α}(h:i<l.length):l.getD i d=l[i]:=by simp[List.getD,h]
theorem getD_ge {α:Type}{l:List α}{i:Nat}{d:α}(h:l.length<=i):l.getD i d=d:=by simp[List.getD,h]
def ptw (F:Rat->Rat->Rat)(rs ss:List Rat):List Rat:=(List.range (max rs.length ss.length)).map fun i=>F (rs.getD i 0) (ss.getD i 0)
theorem ptw_length (F:Rat->Rat->Rat)(rs ss:List Rat):(ptw F rs ss).length=max rs.length ss.length:=by simp[ptw]
theorem ptw_in {F:Rat->Rat->Rat}{rs ss:List Rat}{i:Nat}(h:i<max rs.length ss.length):(ptw F rs ss).getD i 0=F (rs.getD i 0) (ss.getD i 0):=by
 have h1:i<(ptw F rs ss).length:=by rw[ptw_length];exact h
 rw[getD_lt h1]
 simp[ptw]
theorem ptw_getD {F:Rat->Rat->Rat}(h0:F 0 0=0)(rs ss:List Rat)(i:Nat):(ptw F rs ss).getD i 0=F (rs.getD i 0) (ss.getD i 0):=by
 by_cases h:i<max rs.length ss.length
 .exact ptw_in h
 .rw[getD_ge (by rw[ptw_length];omega),getD_ge (l:=rs) (by omega),getD_ge (l:=ss) (by omega),h0]
theorem Row.vc {W:World}{g N:Nat}{fl:List E4}{rs:List Rat}(h:Row W g fl)(hl:fl.length=N)(hr:rs.length=N)(hN:N<=4398046511104)
  (hq:∀i,i<N->Qc W (fl.getD i E4.z).a (fl.getD i E4.z).b (fl.getD i E4.z).c (fl.getD i E4.z).d (rs.getD i 0)):Vc W (some ⟨g,0,none⟩) N fl rs:=by
 refine ⟨?_,by omega,fun i=>?_,h.fq,by omega,by omega⟩
 .have h1:=h.rq N
  rwa [List.take_of_length_le (by omega)]at h1
 .by_cases hi:i<N
  .exact hq i hi
  .rw[getD_ge (l:=rs) (by omega),getD_ge (l:=fl) (by omega)]
   exact ⟨Zc.zero _,Zc.zero _⟩
theorem comb_vr {w:World}{F:Rat->Rat->Rat}{es fs:List E4}{rs ss:List Rat}(h1:es.length=rs.length)(h2:fs.length=ss.length)(hN:max rs.length ss.length<=4398046511104){e:Ending}{w':World}
  (h:∃g fl,e=.returned (.slice (some ⟨g,0,none⟩) (max es.length fs.length) (max es.length fs.length))/\w.heap.size<=g/\Row w' g fl/\fl.length=max es.length fs.length /\
   (∀i,i<max es.length fs.length->Qc w' (fl.getD i E4.z).a (fl.getD i E4.z).b (fl.getD i E4.z).c (fl.getD i E4.z).d (F (rs.getD i 0) (ss.getD i 0)))/\Below w.heap.size w w'):VR w (ptw F rs ss) e w':=by
 obtain ⟨g,fl,rfl,_,hr,hl,hq,hb⟩:=h
 rw[h1,h2]at *
 refine ⟨some ⟨g,0,none⟩,max rs.length ss.length,fl,by rw[ptw_length],hr.vc hl (ptw_length ..) hN fun i hi=>?_,hb⟩
 rw[ptw_in hi]
 exact hq i hi
theorem vadd_v {w:World}{A A':Option Addr}{c c':Nat}{es fs:List E4}{rs ss:List Rat}{k l:Nat}(hA:Vi w A c es rs k)(hB:Vi w A' c' fs ss l)(hk:0<k)(hl:0<l)(hkl:k+l+1<=10000)(h1:rs.length<=4398046511104)(h2:ss.length<=4398046511104) :
  Calls Tryz.prog 16 #[.slice A rs.length c,.slice A' ss.length c'] w (VR w (ptw (fun r s=>r+s) rs ss)):=by
 have hc:=(comb_add (f:=fun i=>rs.getD i 0+ss.getD i 0) (c:=c) (c':=c') hA.row hB.row hA.fq hB.fq (by rw[hA.len];exact h1) (by rw[hB.len];exact h2) (fun V hV i _=>add_q ((hA.el i).to hV) ((hB.el i).to hV) hk hl hkl)).mono fun e w' h=>comb_vr (F:=fun r s=>r+s) hA.len hB.len (by omega) h
 rw[hA.len,hB.len]at hc
 have HC:=Hd hc
 clear hc hA hB
 go_enter Tryz.func16,Tryz.ntmps16
 go_wp2_with fail
 refine HC.out.mono ?_
 rintro e V ⟨A1,c1,fl,rfl,hv,bb⟩
 go_wp2
 go_ret
 exact ⟨_,_,_,rfl,hv,bb⟩
theorem vsub_v {w:World}{A A':Option Addr}{c c':Nat}{es fs:List E4}{rs ss:List Rat}{k l:Nat}(hA:Vi w A c es rs k)(hB:Vi w A' c' fs ss l)(hk:0<k)(hl:0<l)(hkl:k+l+1<=10000)(h1:rs.length<=4398046511104)(h2:ss.length<=4398046511104) :
  Calls Tryz.prog 18 #[.slice A rs.length c,.slice A' ss.length c'] w (VR w (ptw (fun r s=>r-s) rs ss)):=by
 have hc:=(comb_sub (f:=fun i=>rs.getD i 0-ss.getD i 0) (c:=c) (c':=c') hA.row hB.row hA.fq hB.fq (by rw[hA.len];exact h1) (by rw[hB.len];exact h2) (fun V hV i _=>sub_q ((hA.el i).to hV) ((hB.el i).to hV) hk hl hkl)).mono fun e w' h=>comb_vr (F:=fun r s=>r-s) hA.len hB.len (by omega) h
 rw[hA.len,hB.len]at hc
 have HC:=Hd hc
 clear hc hA hB
 go_enter Tryz.func18,Tryz.ntmps18
 go_wp2_with fail
 refine HC.out.mono ?_
 rintro e V ⟨A1,c1,fl,rfl,hv,bb⟩
 go_wp2
 go_ret
 exact ⟨_,_,_,rfl,hv,bb⟩
theorem zp_t {w:World}{a1 a2 a3 a4 b1 b2 b3 b4:Value}{r s:Rat}{k l:Nat}(hA:Qi w a1 a2 a3 a4 r k)(hB:Qi w b1 b2 b3 b4 s l)(h0:r=0) :
  Calls Tryz.prog 54 #[.agg #[a1,a2,a3,a4],.agg #[b1,b2,b3,b4]] w (fun e w'=>e=.returned (.bool true)/\Below w.heap.size w w'):=by
 have hs:Hid (sgnQ r=0):=sgnQ_zero.2 h0
 clear h0
 obtain ⟨W0,hW0⟩:∃W0,W0=(w.alloc (.cells #[a1,a2,a3,a4] 26)).alloc (.cells #[b1,b2,b3,b4] 26):=⟨_,rfl⟩
 have hbw:Below w.heap.size w W0:=by rw[hW0];exact (((Below.refl _ _).alloc (Nat.le_refl _) _).alloc (by simp) _)
 have tA:Four W0 (w.heap.size) a1 a2 a3 a4:=by
  have h:=Four.new w a1 a2 a3 a4 26
  rw[hW0];exact (h.alloc _)
 have tB:Four W0 (w.heap.size+1) b1 b2 b3 b4:=by
  have h:=Four.new (w.alloc (.cells #[a1,a2,a3,a4] 26)) b1 b2 b3 b4 26
  rw[World.size_alloc]at h
  rw[hW0];exact h
 replace hA:=hA.to hbw
 replace hB:=hB.to hbw
 have HW0:=Hd hW0
 have HB:=Hd hbw
 clear hW0 hbw
 go_enter Tryz.func54,Tryz.ntmps54
 go_wp2_with fail
 rw[<-HW0.out]
 clear HW0
 have kktA0:=tA.c0
 have kktA1:=tA.c1
 have kktA2:=tA.c2
 have kktA3:=tA.c3
 have kktB0:=tB.c0
 have kktB1:=tB.c1
 have kktB2:=tB.c2
 have kktB3:=tB.c3
 go_wp2_with fail
 refine (sign_q hA hs.out).mono ?_
 rintro e V1 ⟨rfl,bb⟩
 clear kktA0 kktA1 kktA2 kktA3 kktB0 kktB1 kktB2 kktB3
 replace tA:=tA.to bb
 replace tB:=tB.to bb
 replace HB:=Hxb HB bb
 clear bb
 clear tA tB
 go_wp2
 go_ret
 exact ⟨rfl,HB.out⟩
theorem zp_f {w:World}{a1 a2 a3 a4 b1 b2 b3 b4:Value}{r s:Rat}{k l:Nat}(hA:Qi w a1 a2 a3 a4 r k)(hB:Qi w b1 b2 b3 b4 s l)(h0:r≠0){v:Bool}(hv:decide (s=0)=v) :
  Calls Tryz.prog 54 #[.agg #[a1,a2,a3,a4],.agg #[b1,b2,b3,b4]] w (fun e w'=>e=.returned (.bool v)/\Below w.heap.size w w'):=by
 obtain ⟨x,hx⟩:∃x,sgnQ r=x:=⟨_,rfl⟩
 obtain ⟨y,hy⟩:∃y,sgnQ s=y:=⟨_,rfl⟩
 have e1:(x==0)=false:=by rw[beq_eq_false_iff_ne,<-hx];exact fun h=>h0 (sgnQ_zero.1 h)
 have e2:(y==0)=v:=by rw[<-hv,<-hy,Bool.eq_iff_iff];simp[sgnQ_zero]
 have HX:=Hd hx
 have HY:=Hd hy
 clear hx hy h0 hv
 obtain ⟨W0,hW0⟩:∃W0,W0=(w.alloc (.cells #[a1,a2,a3,a4] 26)).alloc (.cells #[b1,b2,b3,b4] 26):=⟨_,rfl⟩
 have hbw:Below w.heap.size w W0:=by rw[hW0];exact (((Below.refl _ _).alloc (Nat.le_refl _) _).alloc (by simp) _)
 have tA:Four W0 (w.heap.size) a1 a2 a3 a4:=by
  have h:=Four.new w a1 a2 a3 a4 26
  rw[hW0];exact (h.alloc _)
 have tB:Four W0 (w.heap.size+1) b1 b2 b3 b4:=by
  have h:=Four.new (w.alloc (.cells #[a1,a2,a3,a4] 26)) b1 b2 b3 b4 26
  rw[World.size_alloc]at h
  rw[hW0];exact h
 replace hA:=hA.to hbw
 replace hB:=hB.to hbw
 have HW0:=Hd hW0
 have HB:=Hd hbw
 clear hW0 hbw
 go_enter Tryz.func54,Tryz.ntmps54
 go_wp2_with fail
 rw[<-HW0.out]
 clear HW0
 have kktA0:=tA.c0
 have kktA1:=tA.c1
 have kktA2:=tA.c2
 have kktA3:=tA.c3
 have kktB0:=tB.c0
 have kktB1:=tB.c1
 have kktB2:=tB.c2
 have kktB3:=tB.c3
 go_wp2_with fail
 refine (sign_q hA HX.out).mono ?_
 rintro e V1 ⟨rfl,bb⟩
 clear kktA0 kktA1 kktA2 kktA3 kktB0 kktB1 kktB2 kktB3
 replace tA:=tA.to bb
 replace tB:=tB.to bb
 replace hB:=hB.to bb
 replace HB:=Hxb HB bb
 clear bb
 have kktA0:=tA.c0
 have kktA1:=tA.c1
 have kktA2:=tA.c2
 have kktA3:=tA.c3
 have kktB0:=tB.c0
 have kktB1:=tB.c1
 have kktB2:=tB.c2
 have kktB3:=tB.c3
 go_wp2_with fail
 refine (sign_q hB HY.out).mono ?_
 rintro e V2 ⟨rfl,bb⟩
 clear kktA0 kktA1 kktA2 kktA3 kktB0 kktB1 kktB2 kktB3
 replace tA:=tA.to bb
 replace tB:=tB.to bb
 replace HB:=Hxb HB bb
 clear bb
 clear tA tB
 go_wp2
 go_ret
 exact ⟨rfl,HB.out⟩
theorem zp_v {w:World}{a1 a2 a3 a4 b1 b2 b3 b4:Value}{r s:Rat}{k l:Nat}(hA:Qi w a1 a2 a3 a4 r k)(hB:Qi w b1 b2 b3 b4 s l){v:Bool}(hv:decide (r=0∨s=0)=v):Calls Tryz.prog 54 #[.agg #[a1,a2,a3,a4],.agg #[b1,b2,b3,b4]] w fun e w'=>e=.returned (.bool v)/\Below w.heap.size w w':=by
 by_cases h0:r=0
 .rw[<-hv,decide_eq_true (.inl h0)];exact zp_t hA hB h0
 .exact zp_f hA hB h0 (by rw[<-hv,decide_eq_decide];exact ⟨.inr,fun h=>h.resolve_left h0⟩)
theorem scl_z {w:World}{a1 a2 a3 a4 b1 b2 b3 b4 k1 k2 k3 k4:Value}{r s t:Rat}{k l m gk:Nat}(tK:Four w gk k1 k2 k3 k4)(hT:Qi w k1 k2 k3 k4 t m)(hA:Qi w a1 a2 a3 a4 r k)(hB:Qi w b1 b2 b3 b4 s l)(h0:t=0∨r=0)(hl:l<=10000) :
  Calls Tryz.prog 53 #[.agg #[a1,a2,a3,a4],.agg #[b1,b2,b3,b4],.pointer (some ⟨gk,0,none⟩)] w (QR w (t*r+s)):=by
 have hgk:gk<w.heap.size:=tK.lt
 have hz:Hid (decide (t=0∨r=0)=true):=decide_eq_true h0
 have he:t*r+s=s:=by rcases h0 with h0|h0<;>rw[h0]<;>simp[Rat.zero_mul,Rat.mul_zero,Rat.zero_add]
 rw[he]
 clear h0 he
 obtain ⟨W0,hW0⟩:∃W0,W0=((w.alloc (.cells #[a1,a2,a3,a4] 26)).alloc (.cells #[b1,b2,b3,b4] 26)).alloc (.cells #[.bool false,.slice none 0 0,.bool false,.slice none 0 0] 26):=⟨_,rfl⟩
 have hbw:Below w.heap.size w W0:=by rw[hW0];exact ((((Below.refl _ _).alloc (Nat.le_refl _) _).alloc (by simp) _).alloc (by simp;omega) _)
 have tA:Four W0 (w.heap.size) a1 a2 a3 a4:=by
  have h:=Four.new w a1 a2 a3 a4 26
  rw[hW0];exact ((h.alloc _).alloc _)
 have tB:Four W0 (w.heap.size+1) b1 b2 b3 b4:=by
  have h:=Four.new (w.alloc (.cells #[a1,a2,a3,a4] 26)) b1 b2 b3 b4 26
  rw[World.size_alloc]at h
  rw[hW0];exact (h.alloc _)
 have tR:Four W0 (w.heap.size+1+1) (.bool false) (.slice none 0 0) (.bool false) (.slice none 0 0):=by
  have h:=Four.new ((w.alloc (.cells #[a1,a2,a3,a4] 26)).alloc (.cells #[b1,b2,b3,b4] 26)) (.bool false) (.slice none 0 0) (.bool false) (.slice none 0 0) 26
  rw[World.size_alloc,World.size_alloc]at h
  rw[hW0];exact h
 replace hA:=hA.to hbw
 replace hB:=hB.to hbw
 replace hT:=hT.to hbw
 replace tK:=tK.to hbw
 have HW0:=Hd hW0
 have HB:=Hd hbw
 clear hW0 hbw
 have q0:=tK.c0
 rw[HW0.out]at q0
 have q1:=tK.c1
 rw[HW0.out]at q1
 have q2:=tK.c2
 rw[HW0.out]at q2
 have q3:=tK.c3
 rw[HW0.out]at q3
 go_enter Tryz.func53,Tryz.ntmps53
 go_wp2_with fail
 rw[<-HW0.out]
 clear HW0
 clear q0 q1 q2 q3
 have kktA0:=tA.c0
 have kktA1:=tA.c1
 have kktA2:=tA.c2
 have kktA3:=tA.c3
 have kktB0:=tB.c0
 have kktB1:=tB.c1
 have kktB2:=tB.c2
 have kktB3:=tB.c3
 have kktK0:=tK.c0
 have kktK1:=tK.c1
 have kktK2:=tK.c2
 have kktK3:=tK.c3
 go_wp2_with fail
 refine (zp_v hT hA hz.out).mono ?_
 rintro e V1 ⟨rfl,bb⟩
 clear kktA0 kktA1 kktA2 kktA3 kktB0 kktB1 kktB2 kktB3 kktK0 kktK1 kktK2 kktK3
 replace tA:=tA.to bb
 replace tB:=tB.to bb
 replace tK:=tK.to bb
 replace tR:=tR.to bb
 replace hB:=hB.to bb
 replace HB:=Hxb HB bb
 clear bb
 have kktA0:=tA.c0
 have kktA1:=tA.c1
 have kktA2:=tA.c2
 have kktA3:=tA.c3
 have kktB0:=tB.c0
 have kktB1:=tB.c1
 have kktB2:=tB.c2
 have kktB3:=tB.c3
 have kktK0:=tK.c0
 have kktK1:=tK.c1
 have kktK2:=tK.c2
 have kktK3:=tK.c3
 go_wp2_with fail
 refine (canonical_q hB hl).mono ?_
 rintro e V2 ⟨x2,y2,u2,v2,rfl,q2,bb⟩
 clear kktA0 kktA1 kktA2 kktA3 kktB0 kktB1 kktB2 kktB3 kktK0 kktK1 kktK2 kktK3
 replace tA:=tA.to bb
 replace tB:=tB.to bb
 replace tK:=tK.to bb
 replace tR:=tR.to bb
 replace HB:=Hxb HB bb
 clear bb
 have RZ:=Hd q2
 obtain ⟨V99,eV,u,kp⟩:=pack4 tR Fq.nil x2 y2 u2 v2
 obtain ⟨⟨n1,A1,j1,m1,rfl,rfl⟩,⟨n2,A2,j2,m2,rfl,rfl⟩⟩:=q2.fq
 obtain ⟨v0,v1,v2,v3,v4,v5,v6,v7,_⟩:=tR
 have EV:=Hd eV
 have KP:=Hd kp
 have U:=Hd u
 clear eV kp u q2
 clear tA tB tK
 go_wp2
 rw[EV.out]
 refine bodyPost_ret (v:=.agg #[.bool n1,.slice A1 j1 m1,.bool n2,.slice A2 j2 m2]) (by simp[results,Tryz.f53,go_sem,U.out.c0,U.out.c1,U.out.c2,U.out.c3]) rfl ?_
 exact ⟨_,_,_,_,rfl,RZ.out.k4 KP.out,KP.out.bel _ _ HB.out (by omega)⟩
theorem scl_s {w:World}{a1 a2 a3 a4 b1 b2 b3 b4 k1 k2 k3 k4:Value}{r s t:Rat}{k l m gk:Nat}(tK:Four w gk k1 k2 k3 k4)(hT:Qi w k1 k2 k3 k4 t m)(hA:Qi w a1 a2 a3 a4 r k)(hB:Qi w b1 b2 b3 b4 s l)(h0:¬(t=0∨r=0))(hs:s=0)(hm:0<m)(hk:0<k)(hmk:m+k+1<=10000) :
  Calls Tryz.prog 53 #[.agg #[a1,a2,a3,a4],.agg #[b1,b2,b3,b4],.pointer (some ⟨gk,0,none⟩)] w (QR w (t*r+s)):=by
 have hgk:gk<w.heap.size:=tK.lt
 have hz:Hid (decide (t=0∨r=0)=false):=decide_eq_false h0
 have hg:Hid (sgnQ s=0):=sgnQ_zero.2 hs
 have he:t*r+s=t*r:=by rw[hs,Rat.add_zero]
 rw[he]
 clear h0 he hs
 obtain ⟨W0,hW0⟩:∃W0,W0=((w.alloc (.cells #[a1,a2,a3,a4] 26)).alloc (.cells #[b1,b2,b3,b4] 26)).alloc (.cells #[.bool false,.slice none 0 0,.bool false,.slice none 0 0] 26):=⟨_,rfl⟩
 have hbw:Below w.heap.size w W0:=by rw[hW0];exact ((((Below.refl _ _).alloc (Nat.le_refl _) _).alloc (by simp) _).alloc (by simp;omega) _)
 have tA:Four W0 (w.heap.size) a1 a2 a3 a4:=by
  have h:=Four.new w a1 a2 a3 a4 26
  rw[hW0];exact ((h.alloc _).alloc _)
 have tB:Four W0 (w.heap.size+1) b1 b2 b3 b4:=by
  have h:=Four.new (w.alloc (.cells #[a1,a2,a3,a4] 26)) b1 b2 b3 b4 26
  rw[World.size_alloc]at h
  rw[hW0];exact (h.alloc _)
 have tR:Four W0 (w.heap.size+1+1) (.bool false) (.slice none 0 0) (.bool false) (.slice none 0 0):=by
  have h:=Four.new ((w.alloc (.cells #[a1,a2,a3,a4] 26)).alloc (.cells #[b1,b2,b3,b4] 26)) (.bool false) (.slice none 0 0) (.bool false) (.slice none 0 0) 26
  rw[World.size_alloc,World.size_alloc]at h
  rw[hW0];exact h
 replace hA:=hA.to hbw
 replace hB:=hB.to hbw
 replace hT:=hT.to hbw
 replace tK:=tK.to hbw
 have HW0:=Hd hW0
 have HB:=Hd hbw
 clear hW0 hbw
 have q0:=tK.c0
 rw[HW0.out]at q0
 have q1:=tK.c1
 rw[HW0.out]at q1
 have q2:=tK.c2
 rw[HW0.out]at q2
 have q3:=tK.c3
 rw[HW0.out]at q3
 go_enter Tryz.func53,Tryz.ntmps53
 go_wp2_with fail
 rw[<-HW0.out]
 clear HW0
 clear q0 q1 q2 q3
 have kktA0:=tA.c0
 have kktA1:=tA.c1
 have kktA2:=tA.c2
 have kktA3:=tA.c3
 have kktB0:=tB.c0
 have kktB1:=tB.c1
 have kktB2:=tB.c2
 have kktB3:=tB.c3
 have kktK0:=tK.c0
 have kktK1:=tK.c1
 have kktK2:=tK.c2
 have kktK3:=tK.c3
 go_wp2_with fail
 refine (zp_v hT hA hz.out).mono ?_
 rintro e V1 ⟨rfl,bb⟩
 clear kktA0 kktA1 kktA2 kktA3 kktB0 kktB1 kktB2 kktB3 kktK0 kktK1 kktK2 kktK3
 replace tA:=tA.to bb
 replace tB:=tB.to bb
 replace tK:=tK.to bb
 replace tR:=tR.to bb
 replace hA:=hA.to bb
 replace hB:=hB.to bb
 replace hT:=hT.to bb
 replace HB:=Hxb HB bb
 clear bb
 have kktA0:=tA.c0
 have kktA1:=tA.c1
 have kktA2:=tA.c2
 have kktA3:=tA.c3
 have kktB0:=tB.c0
 have kktB1:=tB.c1
 have kktB2:=tB.c2
 have kktB3:=tB.c3
 have kktK0:=tK.c0
 have kktK1:=tK.c1
 have kktK2:=tK.c2
 have kktK3:=tK.c3
 go_wp2_with fail
 refine (sign_q hB hg.out).mono ?_
 rintro e V2 ⟨rfl,bb⟩
 clear kktA0 kktA1 kktA2 kktA3 kktB0 kktB1 kktB2 kktB3 kktK0 kktK1 kktK2 kktK3
 replace tA:=tA.to bb
 replace tB:=tB.to bb
 replace tK:=tK.to bb
 replace tR:=tR.to bb
 replace hA:=hA.to bb
 replace hT:=hT.to bb
 replace HB:=Hxb HB bb
 clear bb
 have kktA0:=tA.c0
 have kktA1:=tA.c1
 have kktA2:=tA.c2
 have kktA3:=tA.c3
 have kktB0:=tB.c0
 have kktB1:=tB.c1
 have kktB2:=tB.c2
 have kktB3:=tB.c3
 have kktK0:=tK.c0
 have kktK1:=tK.c1
 have kktK2:=tK.c2
 have kktK3:=tK.c3
 go_wp2_with fail
 refine (mul_q hT hA hm hk hmk).mono ?_
 rintro e V3 ⟨x3,y3,u3,v3,rfl,q3,bb⟩
 clear kktA0 kktA1 kktA2 kktA3 kktB0 kktB1 kktB2 kktB3 kktK0 kktK1 kktK2 kktK3
 replace tA:=tA.to bb
 replace tB:=tB.to bb
 replace tK:=tK.to bb
 replace tR:=tR.to bb
 replace HB:=Hxb HB bb
 clear bb
 have RZ:=Hd q3
 obtain ⟨V99,eV,u,kp⟩:=pack4 tR Fq.nil x3 y3 u3 v3
 obtain ⟨⟨n1,A1,j1,m1,rfl,rfl⟩,⟨n2,A2,j2,m2,rfl,rfl⟩⟩:=q3.fq
 obtain ⟨v0,v1,v2,v3,v4,v5,v6,v7,_⟩:=tR
 have EV:=Hd eV
 have KP:=Hd kp
 have U:=Hd u
 clear eV kp u q3
 clear tA tB tK
 go_wp2
 rw[EV.out]
 refine bodyPost_ret (v:=.agg #[.bool n1,.slice A1 j1 m1,.bool n2,.slice A2 j2 m2]) (by simp[results,Tryz.f53,go_sem,U.out.c0,U.out.c1,U.out.c2,U.out.c3]) rfl ?_
 exact ⟨_,_,_,_,rfl,RZ.out.k4 KP.out,KP.out.bel _ _ HB.out (by omega)⟩
theorem scl_n {w:World}{a1 a2 a3 a4 b1 b2 b3 b4 k1 k2 k3 k4:Value}{r s t:Rat}{k l m gk:Nat}(tK:Four w gk k1 k2 k3 k4)(hT:Qi w k1 k2 k3 k4 t m)(hA:Qi w a1 a2 a3 a4 r k)(hB:Qi w b1 b2 b3 b4 s l)(h0:¬(t=0∨r=0))(hs:s≠0)(hm:0<m)(hk:0<k)(hl:0<l)(hmk:m+k+1<=10000)(hmkl:m+k+l+1<=10000) :
  Calls Tryz.prog 53 #[.agg #[a1,a2,a3,a4],.agg #[b1,b2,b3,b4],.pointer (some ⟨gk,0,none⟩)] w (QR w (t*r+s)):=by
 have hgk:gk<w.heap.size:=tK.lt
 have hz:Hid (decide (t=0∨r=0)=false):=decide_eq_false h0
 obtain ⟨x,hx⟩:∃x,sgnQ s=x:=⟨_,rfl⟩
 have e1:(x==0)=false:=by rw[beq_eq_false_iff_ne,<-hx];exact fun h=>hs (sgnQ_zero.1 h)
 have hg:=Hd hx
 have mT:Qm (m+k) (t*r):=(hT.qm hm).mul (hA.qm hk)
 clear h0 hs hx
 obtain ⟨W0,hW0⟩:∃W0,W0=((w.alloc (.cells #[a1,a2,a3,a4] 26)).alloc (.cells #[b1,b2,b3,b4] 26)).alloc (.cells #[.bool false,.slice none 0 0,.bool false,.slice none 0 0] 26):=⟨_,rfl⟩
 have hbw:Below w.heap.size w W0:=by rw[hW0];exact ((((Below.refl _ _).alloc (Nat.le_refl _) _).alloc (by simp) _).alloc (by simp;omega) _)
 have tA:Four W0 (w.heap.size) a1 a2 a3 a4:=by
  have h:=Four.new w a1 a2 a3 a4 26
  rw[hW0];exact ((h.alloc _).alloc _)
 have tB:Four W0 (w.heap.size+1) b1 b2 b3 b4:=by
  have h:=Four.new (w.alloc (.cells #[a1,a2,a3,a4] 26)) b1 b2 b3 b4 26
  rw[World.size_alloc]at h
  rw[hW0];exact (h.alloc _)
 have tR:Four W0 (w.heap.size+1+1) (.bool false) (.slice none 0 0) (.bool false) (.slice none 0 0):=by
  have h:=Four.new ((w.alloc (.cells #[a1,a2,a3,a4] 26)).alloc (.cells #[b1,b2,b3,b4] 26)) (.bool false) (.slice none 0 0) (.bool false) (.slice none 0 0) 26
  rw[World.size_alloc,World.size_alloc]at h
  rw[hW0];exact h
 replace hA:=hA.to hbw
 replace hB:=hB.to hbw
 replace hT:=hT.to hbw
 replace tK:=tK.to hbw
 have HW0:=Hd hW0
 have HB:=Hd hbw
 clear hW0 hbw
 have q0:=tK.c0
 rw[HW0.out]at q0
 have q1:=tK.c1
 rw[HW0.out]at q1
 have q2:=tK.c2
 rw[HW0.out]at q2
 have q3:=tK.c3
 rw[HW0.out]at q3
 go_enter Tryz.func53,Tryz.ntmps53
 go_wp2_with fail
 rw[<-HW0.out]
 clear HW0
 clear q0 q1 q2 q3
 have kktA0:=tA.c0
 have kktA1:=tA.c1
 have kktA2:=tA.c2
 have kktA3:=tA.c3
 have kktB0:=tB.c0
 have kktB1:=tB.c1
 have kktB2:=tB.c2
 have kktB3:=tB.c3
 have kktK0:=tK.c0
 have kktK1:=tK.c1
 have kktK2:=tK.c2
 have kktK3:=tK.c3
 go_wp2_with fail
 refine (zp_v hT hA hz.out).mono ?_
 rintro e V1 ⟨rfl,bb⟩
 clear kktA0 kktA1 kktA2 kktA3 kktB0 kktB1 kktB2 kktB3 kktK0 kktK1 kktK2 kktK3
 replace tA:=tA.to bb
 replace tB:=tB.to bb
 replace tK:=tK.to bb
 replace tR:=tR.to bb
 replace hA:=hA.to bb
 replace hB:=hB.to bb
 replace hT:=hT.to bb
 replace HB:=Hxb HB bb
 clear bb
 have kktA0:=tA.c0
 have kktA1:=tA.c1
 have kktA2:=tA.c2
 have kktA3:=tA.c3
 have kktB0:=tB.c0
 have kktB1:=tB.c1
 have kktB2:=tB.c2
 have kktB3:=tB.c3
 have kktK0:=tK.c0
 have kktK1:=tK.c1
 have kktK2:=tK.c2
 have kktK3:=tK.c3
 go_wp2_with fail
 refine (sign_q hB hg.out).mono ?_
 rintro e V2 ⟨rfl,bb⟩
 clear kktA0 kktA1 kktA2 kktA3 kktB0 kktB1 kktB2 kktB3 kktK0 kktK1 kktK2 kktK3
 replace tA:=tA.to bb
 replace tB:=tB.to bb
 replace tK:=tK.to bb
 replace tR:=tR.to bb
 replace hA:=hA.to bb
 replace hB:=hB.to bb
 replace hT:=hT.to bb
 replace HB:=Hxb HB bb
 clear bb
 go_wp2_with fail
 refine wp_region_plan (S:=fun w'=>Below w.heap.size w w'/\Four w' (w.heap.size) a1 a2 a3 a4/\Four w' (w.heap.size+1) b1 b2 b3 b4/\Four w' (gk) k1 k2 k3 k4) [(0,true),(1,true),(3,true),(2,false),(4,false),(5,false)] (by kernel_rfl) (by kernel_rfl) ⟨HB.out.drew,tA.to (Below.refl _ _).drew,tB.to (Below.refl _ _).drew,tK.to (Below.refl _ _).drew⟩ ?_
 have hb:=HB.out.drew
 replace tA:=tA.to (Below.refl _ _).drew
 replace tB:=tB.to (Below.refl _ _).drew
 replace tK:=tK.to (Below.refl _ _).drew
 replace tR:=tR.to (Below.refl _ _).drew
 replace hA:=hA.to (Below.refl _ _).drew
 replace hB:=hB.to (Below.refl _ _).drew
 replace hT:=hT.to (Below.refl _ _).drew
 clear HB
 refine plan_take rfl (by rfl) (fun w' hS=>load_four (by rfl) (hS.2.2.2)) ?_
 refine plan_take rfl (by rfl) (fun w' hS=>load_four (by rfl) (hS.2.1)) ?_
 refine plan_take rfl (by rfl) (fun w' hS=>load_four (by rfl) (hS.2.2.1)) ?_
 refine plan_call rfl (by rfl) (fun K hK=>?_)
 go_simp
 refine (mul_q hT hA hm hk hmk).mono ?_
 rintro e V3 ⟨x3,y3,u3,v3,rfl,q3,bb⟩
 replace hb:=Bxb hb bb
 replace tA:=tA.to bb
 replace tB:=tB.to bb
 replace tK:=tK.to bb
 replace tR:=tR.to bb
 replace hB:=hB.to bb
 refine hK.out _ _ ⟨hb,tA,tB,tK⟩ ?_
 clear hK K bb
 refine plan_call rfl (by rfl) (fun K hK=>?_)
 go_simp
 refine (add_q (q3.qi mT (by omega)) hB (by omega) hl hmkl).mono ?_
 rintro e V4 ⟨x4,y4,u4,v4,rfl,q4,bb⟩
 replace hb:=Bxb hb bb
 replace tA:=tA.to bb
 replace tB:=tB.to bb
 replace tK:=tK.to bb
 replace tR:=tR.to bb
 refine hK.out _ _ ⟨hb,tA,tB,tK⟩ ?_
 clear hK K bb
 refine plan_call rfl (by rfl) (fun K hK=>?_)
 refine wp_store_q (by rfl) (by rfl) tR Fq.nil q4.fq (fun V u kp=>?_)
 replace tA:=kp.four (by omega) tA
 replace tB:=kp.four (by omega) tB
 replace tK:=kp.four (by omega) tK
 replace hb:=kp.bel _ _ hb (by omega)
 replace q4:=kp.qc q4
 refine hK.out _ _ ⟨hb,tA,tB,tK⟩ ?_
 clear hK K kp tR tA tB tK
 refine plan_done ?_
 have U0:=u.c0
 have U1:=u.c1
 have U2:=u.c2
 have U3:=u.c3
 have RZ:=Hd q4
 have HE:=Hd hb
 obtain ⟨⟨n1,A1,j1,m1,rfl,rfl⟩,⟨n2,A2,j2,m2,rfl,rfl⟩⟩:=q4.fq
 clear q4 hb u
 go_wp2
 refine bodyPost_ret (v:=.agg #[.bool n1,.slice A1 j1 m1,.bool n2,.slice A2 j2 m2]) (by simp[results,Tryz.f53,go_sem,U0,U1,U2,U3]) rfl ?_
 exact ⟨_,_,_,_,rfl,RZ.out,HE.out⟩
theorem scl_v {w:World}{a1 a2 a3 a4 b1 b2 b3 b4 k1 k2 k3 k4:Value}{r s t:Rat}{k l m gk:Nat}(tK:Four w gk k1 k2 k3 k4)(hT:Qi w k1 k2 k3 k4 t m)(hA:Qi w a1 a2 a3 a4 r k)(hB:Qi w b1 b2 b3 b4 s l)(hm:0<m)(hk:0<k)(hl:0<l)(hmk:m+k+1<=10000)(hmkl:m+k+l+1<=10000) :
  Calls Tryz.prog 53 #[.agg #[a1,a2,a3,a4],.agg #[b1,b2,b3,b4],.pointer (some ⟨gk,0,none⟩)] w (QR w (t*r+s)):=by
 by_cases h0:t=0∨r=0
 .exact scl_z tK hT hA hB h0 (by omega)
 .by_cases hs:s=0
  .exact scl_s tK hT hA hB h0 hs hm hk hmk
  .exact scl_n tK hT hA hB h0 hs hm hk hl hmk hmkl
theorem vscaled_v {w:World}{k1 k2 k3 k4:Value}{t:Rat}{m:Nat}{A A':Option Addr}{c c':Nat}{es fs:List E4}{rs ss:List Rat}{k l:Nat}(hK:Qi w k1 k2 k3 k4 t m)(hA:Vi w A c es rs k)(hB:Vi w A' c' fs ss l)(hm:0<m)(hk:0<k)(hl:0<l)(hmkl:m+k+l+1<=10000)(h1:rs.length<=4398046511104)(h2:ss.length<=4398046511104) :
  Calls Tryz.prog 22 #[.agg #[k1,k2,k3,k4],.slice A rs.length c,.slice A' ss.length c'] w (VR w (ptw (fun r s=>t*r+s) rs ss)):=by
 obtain ⟨W0,hW0⟩:∃W0,W0=w.alloc (.cells #[k1,k2,k3,k4] 26):=⟨_,rfl⟩
 have hbw:Below w.heap.size w W0:=by rw[hW0];exact (Below.refl _ _).alloc (Nat.le_refl _) _
 have tK:Four W0 w.heap.size k1 k2 k3 k4:=by rw[hW0];exact Four.new w _ _ _ _ _
 have hA':=hA.to hbw
 have hB':=hB.to hbw
 have hc:=(comb_scaled (gk:=w.heap.size) (f:=fun i=>t*rs.getD i 0+ss.getD i 0) (c:=c) (c':=c') hA'.row hB'.row hA'.fq hB'.fq (by rw[hA.len];exact h1) (by rw[hB.len];exact h2) (fun V hV i _=>scl_v (tK.to hV) ((hK.to hbw).to hV) ((hA'.el i).to hV) ((hB'.el i).to hV) hm hk hl (by omega) hmkl)).mono fun e w' h=>comb_vr (F:=fun r s=>t*r+s) hA.len hB.len (by omega) h
 rw[hA.len,hB.len]at hc
 have HC:=Hd hc
 have HW0:=Hd hW0
 have HB:=Hd hbw
 clear hc hA hB hA' hB' hW0 hbw tK hK
 go_enter Tryz.func22,Tryz.ntmps22
 go_wp2_with fail
 rw[<-HW0.out]
 refine HC.out.mono ?_
 rintro e V ⟨A1,c1,fl,rfl,hv,bb⟩
 go_wp2
 go_ret
 exact ⟨_,_,_,rfl,hv,HB.out.trans (bb.mono HB.out.size)⟩
def Racc (W:World)(g N k:Nat)(f:Nat->Rat):Prop:=∃fl,Row W g fl/\fl.length=N/\∀i,i<k->Qc W (fl.getD i E4.z).a (fl.getD i E4.z).b (fl.getD i E4.z).c (fl.getD i E4.z).d (f i)
theorem Racc.to {W V:World}{g N k:Nat}{f:Nat->Rat}(h:Racc W g N k f)(hb:Below W.heap.size W V):Racc V g N k f:=by
 obtain ⟨fl,h1,h2,h3⟩:=h
 exact ⟨fl,h1.to hb,h2,fun i hi=>(h3 i hi).to hb⟩
theorem Racc.lt {W:World}{g N k:Nat}{f:Nat->Rat}(h:Racc W g N k f):g<W.heap.size:=by
 obtain ⟨fl,h1,h2,h3⟩:=h
 exact h1.lt
theorem Racc.set {W:World}{g N k:Nat}{f:Nat->Rat}{fl:List E4}(h1:Row W g fl)(h2:fl.length=N)(h3:∀i,i<k->Qc W (fl.getD i E4.z).a (fl.getD i E4.z).b (fl.getD i E4.z).c (fl.getD i E4.z).d (f i))(hk:k<N){e:E4}(he:e.fq)(hq:Qc W e.a e.b e.c e.d (f k)) :
  Racc (W.setRow g (flat (fl.set k e)).toArray) g N (k+1) f:=by
 have kw:Kw W (W.setRow g (flat (fl.set k e)).toArray):=h1.kw
 refine ⟨fl.set k e,h1.app he,by simpa using h2,fun i hi=>?_⟩
 by_cases hik:i=k
 .subst hik
  rw[show (fl.set i e).getD i E4.z=e from by simp[List.getD,show i<fl.length by omega]]
  exact kw.qc hq
 .rw[show (fl.set k e).getD i E4.z=fl.getD i E4.z from by simp[List.getD,List.getElem?_set,Ne.symm hik]]
  exact kw.qc (h3 i (by omega))
theorem Racc.more {W:World}{g N k:Nat}{f:Nat->Rat}(h:Racc W g N k f)(hk:k<N){e:E4}(he:e.fq)(hq:Qc W e.a e.b e.c e.d (f k)){a:Addr}{c:Nat}
  (h0:W.cell? (a.add 0)=some e.a) (h1:W.cell? (a.add 1)=some e.b) (h2:W.cell? (a.add 2)=some e.c) (h3:W.cell? (a.add 3)=some e.d) (ty:TypeId) :
  ∃X,(Builtin.append_ #[27,27] ty #[.slice (some ⟨g,0,none⟩) k N,.slice (some a) 1 c]).run Tryz.prog W=.ok (.slice (some ⟨g,0,none⟩) (k+1) N) X/\Racc X g N (k+1) f/\∀B,B<=g->Below B W X:=by
 obtain ⟨fl,r1,rfl,r3⟩:=h
 exact ⟨_,append_q r1 hk he h0 h1 h2 h3 (c:=c) ty,Racc.set r1 rfl r3 hk he hq,fun B hB=>below_setRow (Below.refl _ _) hB _⟩
theorem run_storeq {W:World}{g k:Nat}{fl:List E4}{e:E4}(h:Row W g fl)(hk:k<fl.length)(he:e.fq) :
  (Instr.storeAt 26 (.pointer (some ⟨g,k*4,none⟩)) e.v).run Tryz.prog W=.ok () (W.setRow g (flat (fl.set k e)).toArray):=by
 obtain ⟨i0,hi,hz0,hz1,hz2⟩:=info_parts infoQ
 have hst:=run_storeCells_at Tryz.prog g (k*4) 26 [e.a,e.b,e.c,e.d] 0 _ W h.heap (by simp[flat_length];omega) (fq_cells he)
 have e1:fl.set k e=fl.take k++e::fl.drop (k+1):=by rw[List.set_eq_take_append_cons_drop,if_pos hk]
 have e2:(flat fl).drop (k*4+4)=flat (fl.drop (k+1)):=by rw[show k*4+4=(k+1)*4 from by omega,flat_drop]
 rw[e1,flat_app]
 simp only[List.toList_toArray,Nat.add_zero,flat_take,List.length_cons,List.length_nil,Nat.reduceAdd,e2,List.append_assoc,List.cons_append,List.nil_append]at hst
 have e3:e.v.cells=#[e.a,e.b,e.c,e.d]:=rfl
 simp[Instr.storeAt,Instr.sureAddr,storeVar,sizeOf,typeInfo,hi,hz1,e3,hst,flat]
theorem wpList_storeq {W:World}{ops:Array Oper}{rest:List Oper}{o:Oper}{a:Act}{Q:Exit->Act->World->Prop}{g k:Nat}{fl:List E4}{e:E4}
  (hg:o.guard=none) (p v:Operand) (hop:o.op=Op.store 26 p v) (hp:a.eval p=.pointer (some ⟨g,k*4,none⟩)) (hv:a.eval v=e.v) (h:Row W g fl) (hk:k<fl.length) (he:e.fq)
  (hK:wpList Tryz.prog ops Q rest (a.put o.dst undef) (W.setRow g (flat (fl.set k e)).toArray)):wpList Tryz.prog ops Q (o::rest) a W:=by
 refine wpList_plain hg fun K hK'=>?_
 have hrun:=run_storeq h hk he
 unfold Oper.wp
 simp[execOp,hop,hp,hv,hrun,Result.andThen]
 exact hK' _ _ hK
def ratsOf (ns:List Int):List Rat:=ns.map fun n:Int=>(n:Rat)
theorem ratsOf_length (ns:List Int):(ratsOf ns).length=ns.length:=by simp[ratsOf]
theorem ratsOf_getD {ns:List Int}{i:Nat}(h:i<ns.length):(ratsOf ns).getD i 0=((ns.getD i 0:Int):Rat):=by simp[ratsOf,List.getD,h]
def Rn (W:World)(A:Option Addr)(ns:List Int):Prop:=∀(k:Nat) (h:k<ns.length),∃b o,A=some ⟨b,o,none⟩/\W.cell? ⟨b,o+k,none⟩=some (.int .i64 ns[k])
theorem ints_v {w:World}{A:Option Addr}{c:Nat}{ns:List Int}(h:Rn w A ns)(hn:∀n∈ns,-9223372036854775808<=n/\n<=9223372036854775807)(hl:ns.length<=4398046511104) :
  Calls Tryz.prog 37 #[.slice A ns.length c] w (VR w (ratsOf ns)):=by
 have H:=Hd h
 have HN:=Hd hn
 have HL:=Hd hl
 obtain ⟨f,hf⟩:∃f:Nat->Rat,Hid (f=fun i=>((ns.getD i 0:Int):Rat)):=⟨_,rfl⟩
 obtain ⟨N,hN⟩:∃N,ns.length=N:=⟨_,rfl⟩
 have HNN:=Hd hN
 rw[hN]at hl HL ⊢
 clear h hn hN
 go_enter Tryz.func37,Tryz.ntmps37
 go_wp2_with (at_make;refine wpList_makeq _ rfl _ _ rfl 0 N rfl rfl (by omega) (by omega) (Nat.zero_le _) HL.out ?_)
 have hacc:Racc (w.alloc (.cells (flat (List.replicate N E4.z)).toArray 26)) w.heap.size N 0 f:=⟨_,Row.new w N,by simp,fun i hi=>by omega⟩
 have hbw:Below w.heap.size w (w.alloc (.cells (flat (List.replicate N E4.z)).toArray 26)):=(Below.refl _ _).alloc (Nat.le_refl _) _
 generalize w.alloc (.cells (flat (List.replicate N E4.z)).toArray 26)=w1 at hacc hbw ⊢
 go_loopw [3,11] (fun v i wr=>∃k:Nat,v=.slice (some ⟨w.heap.size,0,none⟩) k N/\i=.int .i64 k/\k<=N/\Racc wr w.heap.size N k f/\Below w.heap.size w wr) (fun _ i _=>N-(intOf i).toNat)
 case atStart=>exact ⟨0,rfl,rfl,Nat.zero_le _,hacc,hbw⟩
 case round =>
  obtain ⟨k,rfl,rfl,hk,hra,hb⟩:=hrel
  clear hacc hbw
  by_cases hlt:k<N
  .have hk1:(0:Int)<=(k:Int):=by omega
   have hk2:(k:Int)<(N:Int):=by omega
   have hk3:(k:Int)+1<=9223372036854775807:=by omega
   have hkn:k<ns.length:=by have:=HNN.out;omega
   obtain ⟨b,o,rfl,hc⟩:=H.out k hkn
   have hbn:=HN.out _ (List.getElem_mem hkn)
   have hfk:Hid (f k=((ns[k]:Int):Rat)):=by show _=_;rw[hf.out];simp[List.getD,hkn]
   have cc:=(hb.cell (p:=⟨b,o+k,none⟩) (World.block_lt_of_cell? w _ hc)).trans hc
   generalize ns[k]=n at hbn hfk cc
   have HR:=Hd hra
   have HB:=Hd hb
   have HLT:=Hd hlt
   have HBN:=Hd hbn
   clear hc hra hb hkn hbn hlt
   go_wp2_with fail
   refine (fromInt_q n HBN.out.1 HBN.out.2 wr).mono ?_
   rintro e V ⟨x1,x2,x3,x4,rfl,q,bb⟩
   have hra:=HR.out.to bb
   have bb2:Below V.heap.size V (V.alloc (.cells #[x1,x2,x3,x4] 26)):=(Below.refl _ _).alloc (Nat.le_refl _) _
   have c5:=(Hp.new V #[x1,x2,x3,x4] 26).four
   obtain ⟨X,hrun,hra',hbel⟩:=(hra.to bb2).more HLT.out (e:=⟨x1,x2,x3,x4⟩) q.fq (by rw[hfk.out];exact q.to bb2) (a:=⟨V.heap.size,0,none⟩) (c:=1) c5.c0 c5.c1 c5.c2 c5.c3 27
   have HRUN:=Hd hrun
   have HE:Hid (Racc X w.heap.size N (k+1) f/\Below w.heap.size w X):=⟨hra',((HB.out.trans (bb.mono HB.out.size)).trans (bb2.mono (by have:=bb.size;have:=HB.out.size;omega))).trans (hbel _ (Nat.le_refl _))⟩
   clear hra bb2 c5 hra' hbel hrun bb q
   go_wp2_with (at_builtin;refine wpList_append_run rfl (.tmp 15) (.tmp 18) 27 rfl (by rfl) (by rfl) HRUN.out ?_;clear HRUN)
   go_roundw
   case rel=>exact ⟨k+1,rfl,by simp,HLT.out,HE.out.1,HE.out.2⟩
   case measure=>have:=HLT.out;simp[intOf];omega
  .obtain rfl:k=N:=by omega
   have HR:=Hd hra
   have HB:=Hd hb
   clear hra hb hlt
   go_wp2
   go_ret
   obtain ⟨fl,r1,r2,r3⟩:=HR.out
   refine ⟨some ⟨w.heap.size,0,none⟩,k,fl,(by rw[ratsOf_length,HNN.out];rfl),r1.vc r2 (by rw[ratsOf_length,HNN.out]) HL.out fun i hi=>?_,HB.out⟩
   have h:=r3 i hi
   rw[hf.out]at h
   rw[ratsOf_getD (by rw[HNN.out];exact hi)]
   exact h
def Rfit (W:World)(g N k:Nat)(f:Nat->Rat):Prop:=∃fl,Row W g fl/\fl.length=N/\(∀i,i<k->Qc W (fl.getD i E4.z).a (fl.getD i E4.z).b (fl.getD i E4.z).c (fl.getD i E4.z).d (f i))/\∀i,k<=i->fl.getD i E4.z=E4.z
theorem fit_set {fl:List E4}{k:Nat}{e:E4}(h:∀i,k<=i->fl.getD i E4.z=E4.z):∀i,k+1<=i->(fl.set k e).getD i E4.z=E4.z:=fun i hi=>by
 rw[show (fl.set k e).getD i E4.z=fl.getD i E4.z from by simp[List.getD,List.getElem?_set,show k≠i by omega]]
 exact h i (by omega)
theorem resize_row {w:World}{A:Option Addr}{c:Nat}{es:List E4}{rs:List Rat}{k:Nat}(hA:Vi w A c es rs k)(hk:k<=10000)(h1:rs.length<=4398046511104){n:Int}(hn:1<=n)(hn2:n<=9223372036854775807){N:Nat}(hN:min n 65536=(N:Int)) :
  Calls Tryz.prog 33 #[.slice A rs.length c,.int .i64 n] w fun e w'=>∃g fl,e=.returned (.slice (some ⟨g,0,none⟩) N N)/\w.heap.size<=g/\Row w' g fl/\fl.length=N/\(∀i,i<N->Qc w' (fl.getD i E4.z).a (fl.getD i E4.z).b (fl.getD i E4.z).c (fl.getD i E4.z).d (rs.getD i 0))/\Below w.heap.size w w':=by
 have H:=Hd hA
 have HK:=Hd hk
 have hN2:N<=65536:=by omega
 have hn1:¬n<1:=by omega
 have HNN:=Hd hN2
 have HL:=Hd h1
 have hlen:=hA.len
 obtain ⟨f,hf⟩:∃f:Nat->Rat,Hid (f=fun i=>rs.getD i 0):=⟨_,rfl⟩
 obtain ⟨M,hM⟩:∃M:Nat,min rs.length N=M:=⟨_,rfl⟩
 obtain ⟨L,hL⟩:∃L,rs.length=L:=⟨_,rfl⟩
 have HLen:=Hd (hlen.trans hL)
 have HM:=Hd hM
 rw[hL]at h1 hM ⊢
 have hM':min (L:Int) (N:Int)=(M:Int):=by omega
 clear hA hlen hM
 have HMI:=Hd hM'
 go_enter Tryz.func33,Tryz.ntmps33
 go_wp2_with (at_make;refine wpList_makeq _ rfl _ _ rfl N N rfl rfl rfl rfl (Nat.le_refl _) (by omega) ?_)
 have hacc:Rfit (w.alloc (.cells (flat (List.replicate N E4.z)).toArray 26)) w.heap.size N 0 f:=⟨_,Row.new w N,by simp,fun i hi=>by omega,fun i hi=>by by_cases h:i<N<;>simp[List.getD,List.getElem?_replicate,h]⟩
 have hbw:Below w.heap.size w (w.alloc (.cells (flat (List.replicate N E4.z)).toArray 26)):=(Below.refl _ _).alloc (Nat.le_refl _) _
 generalize w.alloc (.cells (flat (List.replicate N E4.z)).toArray 26)=w1 at hacc hbw ⊢
 go_loopw [17] (fun i wr=>∃k:Nat,i=.int .i64 k/\k<=M/\Rfit wr w.heap.size N k f/\Below w.heap.size w wr) (fun i _=>M-(intOf i).toNat)
 case atStart=>exact ⟨0,rfl,Nat.zero_le _,hacc,hbw⟩
 case round =>
  obtain ⟨k,rfl,hk,hra,hb⟩:=hrel
  clear hacc hbw
  have hM63:(M:Int)<=65536:=by omega
  by_cases hlt:k<M
  .have hk1:(0:Int)<=(k:Int):=by omega
   have hk2:(k:Int)<(M:Int):=by omega
   have hk4:(k:Int)<(L:Int):=by omega
   have hk5:(k:Int)<(N:Int):=by omega
   have hkn:k<es.length:=by have:=HLen.out;omega
   obtain ⟨b,o,rfl,hB,g0,g1,g2,g3⟩:=H.out.row k hkn
   have hq:=H.out.el k
   have hfk:Hid (f k=rs.getD k 0):=by show _=_;rw[hf.out]
   rw[getD_at' hkn]at hq
   have f0:=(hb.cell (p:=⟨b,o+k*4,none⟩) hB).trans g0
   have f1:=(hb.cell (p:=⟨b,o+k*4+1,none⟩) hB).trans g1
   have f2:=(hb.cell (p:=⟨b,o+k*4+2,none⟩) hB).trans g2
   have f3:=(hb.cell (p:=⟨b,o+k*4+3,none⟩) hB).trans g3
   have HQ:=Hd (hq.to hb)
   clear g0 g1 g2 g3 hq
   generalize es[k]=E at f0 f1 f2 f3 HQ
   have HR:=Hd hra
   have HB:=Hd hb
   have HLT:Hid (k<M/\k<N):=⟨hlt,by omega⟩
   clear hra hb hkn hlt hk
   go_wp2_with fail
   refine (canonical_q HQ.out HK.out).mono ?_
   rintro e V ⟨x1,x2,x3,x4,rfl,q,bb⟩
   obtain ⟨fl,r1,r2,r3,r4⟩:=HR.out
   have r1':=r1.to bb
   have hq3:∀i,i<k->Qc V (fl.getD i E4.z).a (fl.getD i E4.z).b (fl.getD i E4.z).c (fl.getD i E4.z).d (f i):=fun i hi=>(r3 i hi).to bb
   have hs:=Racc.set (e:=⟨x1,x2,x3,x4⟩) r1' r2 hq3 HLT.out.2 q.fq (by rw[hfk.out];exact q)
   have HE:Hid (Rfit (V.setRow w.heap.size (flat (fl.set k ⟨x1,x2,x3,x4⟩)).toArray) w.heap.size N (k+1) f/\Below w.heap.size w (V.setRow w.heap.size (flat (fl.set k ⟨x1,x2,x3,x4⟩)).toArray)):=by
    have kw:Kw V (V.setRow w.heap.size (flat (fl.set k ⟨x1,x2,x3,x4⟩)).toArray):=r1'.kw
    refine ⟨⟨fl.set k ⟨x1,x2,x3,x4⟩,r1'.app q.fq,by simpa using r2,fun i hi=>?_,fit_set r4⟩,below_setRow (HB.out.trans (bb.mono HB.out.size)) (Nat.le_refl _) _⟩
    by_cases hik:i=k
    .subst hik
     rw[show (fl.set i (⟨x1,x2,x3,x4⟩:E4)).getD i E4.z=⟨x1,x2,x3,x4⟩ from by have:=HLT.out.2;simp[List.getD,show i<fl.length by omega]]
     rw[hfk.out]
     exact kw.qc q
    .rw[show (fl.set k (⟨x1,x2,x3,x4⟩:E4)).getD i E4.z=fl.getD i E4.z from by simp[List.getD,List.getElem?_set,Ne.symm hik]]
     exact kw.qc (hq3 i (by omega))
   have R1:=Hd r1'
   have R2:Hid (k<fl.length):=by show _<_;have:=HLT.out.2;omega
   have QF:=Hd (show (⟨x1,x2,x3,x4⟩:E4).fq from q.fq)
   clear hs r1 r1' r2 r3 r4 hq3 bb q
   go_wp2_with (refine wpList_storeq rfl (.tmp 27) (.tmp 26) rfl (by rfl) (by rfl) R1.out R2.out QF.out ?_;clear R1)
   go_roundw
   case rel=>exact ⟨k+1,by simp,HLT.out.1,HE.out.1,HE.out.2⟩
   case measure=>have:=HLT.out.1;simp[intOf];omega
  .obtain rfl:k=M:=by omega
   have HR:=Hd hra
   have HB:=Hd hb
   clear hra hb hlt
   go_wp2
   go_ret
   obtain ⟨fl,r1,r2,r3,r4⟩:=HR.out
   refine ⟨w.heap.size,fl,rfl,Nat.le_refl _,r1,r2,fun i hi=>?_,HB.out⟩
   by_cases hik:i<k
   .have h:=r3 i hik
    rw[hf.out]at h
    exact h
   .have hm:=HM.out
    rw[r4 i (by omega),getD_ge (l:=rs) (by omega)]
    exact ⟨Zc.zero _,Zc.zero _⟩
theorem resize_nil {w:World}{A:Option Addr}{c l:Nat}{n:Int}(hn:n<1) :
  Calls Tryz.prog 33 #[.slice A l c,.int .i64 n] w fun e w'=>e=.returned (.slice none 0 0)/\Below w.heap.size w w':=by
 go_enter Tryz.func33,Tryz.ntmps33
 go_wp2
 go_ret
 exact ⟨rfl,Below.refl _ _⟩
def fitQ (rs:List Rat)(n:Int):List Rat:=(List.range (min n.toNat 65536)).map fun i=>rs.getD i 0
theorem fitQ_length (rs:List Rat)(n:Int):(fitQ rs n).length=min n.toNat 65536:=by simp[fitQ]
theorem fitQ_in {rs:List Rat}{n:Int}{i:Nat}(h:i<min n.toNat 65536):(fitQ rs n).getD i 0=rs.getD i 0:=by
 rw[getD_lt (by rw[fitQ_length];exact h)]
 simp[fitQ]
theorem vresize_v {w:World}{A:Option Addr}{c:Nat}{es:List E4}{rs:List Rat}{k:Nat}(hA:Vi w A c es rs k)(hk:k<=10000)(h1:rs.length<=4398046511104){n:Int}(hn2:n<=9223372036854775807) :
  Calls Tryz.prog 33 #[.slice A rs.length c,.int .i64 n] w (VR w (fitQ rs n)):=by
 by_cases hn:n<1
 .refine (resize_nil hn).mono ?_
  rintro e w' ⟨rfl,hb⟩
  have h0:fitQ rs n=[]:=List.eq_nil_of_length_eq_zero (by rw[fitQ_length];omega)
  rw[h0]
  exact ⟨none,0,[],rfl,Vc.nil _ (by decide),hb⟩
 .refine (resize_row (N:=min n.toNat 65536) hA hk h1 (by omega) hn2 (by omega)).mono ?_
  rintro e w' ⟨g,fl,rfl,_,hr,hl,hq,hb⟩
  refine ⟨some ⟨g,0,none⟩,min n.toNat 65536,fl,by rw[fitQ_length],hr.vc hl (fitQ_length ..) (by omega) fun i hi=>?_,hb⟩
  rw[fitQ_in hi]
  exact hq i hi
end Go.Proofs.YtiifpobhmnplaaaGreat
