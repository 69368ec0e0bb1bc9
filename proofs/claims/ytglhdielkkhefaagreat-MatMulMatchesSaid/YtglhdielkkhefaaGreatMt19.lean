/- Parts: 6. -/
import Derived.Test.YtglhdielkkhefaaGreatMt12
import Derived.Test.YtglhdielkkhefaaGreatMt16
import Derived.Test.YtglhdielkkhefaaGreatMt17
import Derived.Test.YtglhdielkkhefaaGreatMt18
set_option linter.unusedVariables false
set_option linter.unusedSimpArgs false
set_option maxRecDepth 100000
set_option maxHeartbeats 40000000

namespace Go.Proofs.YtglhdielkkhefaaGreat
open Go.RowKit Go.Shelf
attribute [local go_sem] Oper.semAt_some
def sumF (f:Nat->Rat):Nat->Rat
 | 0=>0
 | k+1=>sumF f k+f k
theorem Qm.zero {k:Nat}(hk:0<k):Qm k 0:=⟨Nat.pow_pos (by decide),Sm.one hk⟩
theorem Qm.sumF {f:Nat->Rat}{P:Nat}(hf:∀i,Qm P (f i)):∀k,Qm (k*(P+1)+1) (sumF f k)
 | 0=>Qm.zero (by omega)
 | k+1=>by
  have h:=(Qm.sumF hf k).add (hf k);exact h.mono (by rw[Nat.add_mul];omega)
def TotI (W:World)(g:Nat)(t:Rat):Prop:=∃E,Row W g [E]/\Qc W E.a E.b E.c E.d t
theorem TotI.to {W V:World}{g:Nat}{t:Rat}(h:TotI W g t)(hb:Below W.heap.size W V):TotI V g t:=by
 obtain ⟨E,h1,h2⟩:=h;exact ⟨E,h1.to hb,h2.to hb⟩
theorem TotI.grown {W V:World}{g:Nat}{t:Rat}{row:Option Nat}(h:TotI W g t)(hg:W.grownBy V row)(hr:∀r,row=some r->∃o:Obj,W.heap[r]?=some o/\o.isCells=false):TotI V g t:=by
 obtain ⟨E,h1,h2⟩:=h;exact ⟨E,h1.grown hg hr,(Kw.grown hg hr).qc h2⟩
theorem dot_f {f:Nat->Rat}{A A':Option Addr}{c c':Nat}{es fs:List E4}{w:World}(hx:Rq w w.heap.size A es)(hy:Rq w w.heap.size A' fs)(qx:∀e∈es,e.fq)(qy:∀e∈fs,e.fq)
  (hx63:es.length<=4398046511104) (hy63:fs.length<=4398046511104)
  (hF:∀(V:World) (E:E4),Below w.heap.size w V->Row V (w.heap.size+1) [E]->∀i,i<max es.length fs.length->Qc V E.a E.b E.c E.d (sumF f i)->Calls Tryz.prog 88 #[(es.getD i E4.z).v,(fs.getD i E4.z).v,.pointer (some ⟨w.heap.size+1,0,none⟩)] V (DotR V (w.heap.size+1) (sumF f (i+1)))) :
  Calls Tryz.prog 46 #[.slice A es.length c,.slice A' fs.length c'] w (QR w (sumF f (max es.length fs.length))):=by
 have HF:=Hd hF;have HX63:=Hd hx63;have HY63:=Hd hy63;have RX:=Hd hx;have RY:=Hd hy;have QX:=Hd qx;have QY:=Hd qy;clear hF hx hy qx qy;refine (callsIn_wide (n:=3)).1 ?_;refine callsIn_of_wp_marks Tryz.func46 rfl trivial ?_ rfl;simp only[Tryz.ntmps46,List.size_toArray,List.length_cons,List.length_nil,Nat.reduceAdd,Nat.reduceSub,Array.replicate_succ,Array.replicate_zero,List.push_toArray,List.append_toArray,List.nil_append,List.cons_append]
 gi_wp2_with (first
  | (refine ⟨trivial,?_⟩;gi_at_call 92;refine (callsIn_wide.2 (vpairs_any _ _ _ _ _ _ _)).mono ?_;rintro e w' ⟨rfl,rfl⟩))
 obtain ⟨W0,hW0⟩:∃W0,W0=((((w.alloc (.cells #[.bool false,.slice none 0 0,.bool false,.slice none 0 0] 32)).alloc (.cells #[.bool false,.slice none 0 0,.bool false,.slice none 0 0] 32)).alloc (.cells #[.func (.func 88) #[] #[.pointer (some ⟨w.heap.size+1,0,none⟩)]] 85)).alloc (.cells #[.slice A es.length c] 38)).alloc (.cells #[.slice A' fs.length c'] 38):=⟨_,rfl⟩
 have hb0:Below w.heap.size w W0:=by rw[hW0];exact (((bRR.alloc (by simp) _).alloc (by simp;omega) _).alloc (by simp;omega) _).alloc (by simp;omega) _
 have hR0:Hp W0 (w.heap.size) (.cells #[.bool false,.slice none 0 0,.bool false,.slice none 0 0] 32 (0,0)):=by
  have h:=Hp.new w #[.bool false,.slice none 0 0,.bool false,.slice none 0 0] 32;rw[hW0];exact ((((h.alloc _).alloc _).alloc _).alloc _)
 have hT0:Hp W0 (w.heap.size+1) (.cells #[.bool false,.slice none 0 0,.bool false,.slice none 0 0] 32 (0,0)):=by
  have h:=Hp.new (w.alloc (.cells #[.bool false,.slice none 0 0,.bool false,.slice none 0 0] 32)) #[.bool false,.slice none 0 0,.bool false,.slice none 0 0] 32;rw[szA]at h;rw[hW0];exact (((h.alloc _).alloc _).alloc _)
 have hC0:Hp W0 (w.heap.size+1+1) (.cells #[.func (.func 88) #[] #[.pointer (some ⟨w.heap.size+1,0,none⟩)]] 85 (0,0)):=by
  have h:=Hp.new ((w.alloc (.cells #[.bool false,.slice none 0 0,.bool false,.slice none 0 0] 32)).alloc (.cells #[.bool false,.slice none 0 0,.bool false,.slice none 0 0] 32)) #[.func (.func 88) #[] #[.pointer (some ⟨w.heap.size+1,0,none⟩)]] 85;rw[szA,szA]at h;rw[hW0];exact ((h.alloc _).alloc _)
 have hx0:Hp W0 (w.heap.size+1+1+1) (.cells #[.slice A es.length c] 38 (0,0)):=by
  have h:=Hp.new (((w.alloc (.cells #[.bool false,.slice none 0 0,.bool false,.slice none 0 0] 32)).alloc (.cells #[.bool false,.slice none 0 0,.bool false,.slice none 0 0] 32)).alloc (.cells #[.func (.func 88) #[] #[.pointer (some ⟨w.heap.size+1,0,none⟩)]] 85)) #[.slice A es.length c] 38;rw[szA,szA,szA]at h;rw[hW0];exact (h.alloc _)
 have hy0:Hp W0 (w.heap.size+1+1+1+1) (.cells #[.slice A' fs.length c'] 38 (0,0)):=by
  have h:=Hp.new ((((w.alloc (.cells #[.bool false,.slice none 0 0,.bool false,.slice none 0 0] 32)).alloc (.cells #[.bool false,.slice none 0 0,.bool false,.slice none 0 0] 32)).alloc (.cells #[.func (.func 88) #[] #[.pointer (some ⟨w.heap.size+1,0,none⟩)]] 85)).alloc (.cells #[.slice A es.length c] 38)) #[.slice A' fs.length c'] 38;rw[szA,szA,szA,szA]at h;rw[hW0];exact h
 have hP0:PairI w (w.heap.size+1+1+1) (.slice A es.length c) (.slice A' fs.length c') W0:=⟨hx0,hy0,hb0⟩
 have hT0:TotI W0 (w.heap.size+1) (sumF f 0):=⟨E4.z,Row.one hT0 Fq.nil,Zc.zero _,Zc.zero _⟩
 have hs0:W0.heap.size=w.heap.size+1+1+1+1+1:=by rw[hW0];simp
 rw[<-hW0];clear hW0 hx0 hy0
 refine wp_roundsB (gf:=115) (lb:=#[.pointer (some ⟨w.heap.size+1+1+1,0,none⟩),.pointer (some ⟨w.heap.size+1+1+1+1,0,none⟩)]) ?hg (enters_of Tryz.func115 (by kernel_rfl) rfl)
  (N:=max es.length fs.length) (enc:=vpairE es fs) (S:=pairS (w.heap.size+1+1+1) (w.heap.size+1+1+1+1) w.heap.size) (pairS_lt (by omega) (by omega) (by omega))
  (fun W hW=>by
   have h:=hP0.to hW
   exact vpairs_gives (w.heap.size+1+1+1) (w.heap.size+1+1+1+1) w.heap.size c c' A A' es fs (by have:=HX63.out;omega) (by have:=HY63.out;omega) W h.bx.one h.by'.one (RX.out.below h.bel) (RY.out.below h.bel) QX.out QY.out)
  ?hps
  (fun k W=>Hp W w.heap.size (.cells #[.bool false,.slice none 0 0,.bool false,.slice none 0 0] 32 (0,0))/\TotI W (w.heap.size+1) (sumF f k)/\Hp W (w.heap.size+1+1) (.cells #[.func (.func 88) #[] #[.pointer (some ⟨w.heap.size+1,0,none⟩)]] 85 (0,0))/\PairI w (w.heap.size+1+1+1) (.slice A es.length c) (.slice A' fs.length c') W)
  (fun k a1 W=>∃p q,a1=⟨#[.slice A es.length c,.slice A' fs.length c',undef,undef,.pointer (some ⟨w.heap.size,0,none⟩),.pointer (some ⟨w.heap.size+1,0,none⟩),.pointer (some ⟨w.heap.size+1+1,0,none⟩),.pointer (some ⟨p,0,none⟩),.pointer (some ⟨q,0,none⟩),.func (.func 88) #[] #[.pointer (some ⟨w.heap.size+1,0,none⟩)],.slice A es.length c,.slice A' fs.length c',.func (.func 115) #[] #[.pointer (some ⟨w.heap.size+1+1+1,0,none⟩),.pointer (some ⟨w.heap.size+1+1+1+1,0,none⟩)],(es.getD k E4.z).v,(fs.getD k E4.z).v,undef,undef,undef,undef,undef],[]⟩/\(Hp W w.heap.size (.cells #[.bool false,.slice none 0 0,.bool false,.slice none 0 0] 32 (0,0))/\TotI W (w.heap.size+1) (sumF f k)/\Hp W (w.heap.size+1+1) (.cells #[.func (.func 88) #[] #[.pointer (some ⟨w.heap.size+1,0,none⟩)]] 85 (0,0))/\PairI w (w.heap.size+1+1+1) (.slice A es.length c) (.slice A' fs.length c') W)/\EHp W p (es.getD k E4.z)/\EHp W q (fs.getD k E4.z))
  (fun _ _ _=>False) ?hI ?hI1 ?hIb ?hIx ⟨hR0,hT0,hC0,hP0⟩ ?assign ?body ?done ?stop
 case hg=>rfl
 case hps=>exact fun _=>rfl
 case hI=>exact fun k W V row h hg hr=>⟨h.1.grown hg (fun r e=>(hr r e).2) rfl,h.2.1.grown hg (fun r e=>(hr r e).2),h.2.2.1.grown hg (fun r e=>(hr r e).2) rfl,h.2.2.2.grown (by omega) hg hr⟩
 case hI1 =>
  rintro ⟨k,a1⟩ W V row ⟨p,q,h1,h2,h3,h4⟩ hg hr;exact ⟨p,q,h1,⟨h2.1.grown hg (fun r e=>(hr r e).2) rfl,h2.2.1.grown hg (fun r e=>(hr r e).2),h2.2.2.1.grown hg (fun r e=>(hr r e).2) rfl,h2.2.2.2.grown (by omega) hg hr⟩,Hp.grown h3 hg (fun r e=>(hr r e).2) rfl,Hp.grown h4 hg (fun r e=>(hr r e).2) rfl⟩
 case hIb=>exact fun k W V h hb=>⟨h.1.to hb,h.2.1.to hb,h.2.2.1.to hb,h.2.2.2.to hb⟩
 case hIx=>exact fun _ _ _ _ _ h _ _=>h
 case assign =>
  intro l k W K hlt hI hk hK;have fx:=fq_getD QX.out k;have fy:=fq_getD QY.out k;have HK:=Hd hK;clear hK;unfold vpairE;generalize es.getD k E4.z=X at HK fx ⊢;generalize fs.getD k E4.z=Y at HK fy ⊢;obtain ⟨x1,x2,x3,x4⟩:=X;obtain ⟨y1,y2,y3,y4⟩:=Y;obtain ⟨⟨n1,A1,j1,m1,e1,e2⟩,⟨n2,A2,j2,m2,e3,e4⟩⟩:=fx;obtain ⟨⟨n3,A3,j3,m3,e5,e6⟩,⟨n4,A4,j4,m4,e7,e8⟩⟩:=fy;dsimp only at e1 e2 e3 e4 e5 e6 e7 e8;subst e1 e2 e3 e4 e5 e6 e7 e8;simp only[E4.v];simp only[E4.v]at HK
  gi_wp2
  have hbb:Below W.heap.size W ((W.alloc (.cells #[.bool n1,.slice A1 j1 m1,.bool n2,.slice A2 j2 m2] 32)).alloc (.cells #[.bool n3,.slice A3 j3 m3,.bool n4,.slice A4 j4 m4] 32)):=bRR.alloc (by simp) _;refine HK.out _ _ hbb ⟨_,_,rfl,⟨hI.1.to hbb,hI.2.1.to hbb,hI.2.2.1.to hbb,hI.2.2.2.to hbb⟩,(Hp.new _ _ _).alloc _,?_⟩;have h:=Hp.new (W.alloc (.cells #[.bool n1,.slice A1 j1 m1,.bool n2,.slice A2 j2 m2] 32)) #[.bool n3,.slice A3 j3 m3,.bool n4,.slice A4 j4 m4] 32;rw[szA]at h;exact h
 case body =>
  rintro l k a1 W hlt ⟨p,q,rfl,⟨hR,hT,hC,hP⟩,hp,hq⟩ hk;have hbW:=hP.bel;have HFK0:=Hd fun (V:World) (hV:Below w.heap.size w V) (E:E4) (hE:Row V (w.heap.size+1) [E]) (qE:Qc V E.a E.b E.c E.d (sumF f k))=>HF.out V E hV hE k hk qE
  obtain ⟨E,hE,qE⟩:=hT;have HFK:=Hd (HFK0.out W hbW E hE qE);clear HFK0;obtain ⟨X,hX⟩:∃X,es.getD k E4.z=X:=⟨_,rfl⟩
  obtain ⟨Y,hY⟩:∃Y,fs.getD k E4.z=Y:=⟨_,rfl⟩
  rw[hX]at hp HFK ⊢;rw[hY]at hq HFK ⊢;clear hX hY;obtain ⟨x1,x2,x3,x4⟩:=X;obtain ⟨y1,y2,y3,y4⟩:=Y;simp only[E4.v]at HFK ⊢;have c0:=(Hp.four hp).c0;have c1:=(Hp.four hp).c1;have c2:=(Hp.four hp).c2;have c3:=(Hp.four hp).c3;have d0:=(Hp.four hq).c0;have d1:=(Hp.four hq).c1;have d2:=(Hp.four hq).c2;have d3:=(Hp.four hq).c3;dsimp only at c0 c1 c2 c3 d0 d1 d2 d3;have HR:=Hd hR;have HC:=Hd hC;have HP:=Hd hP;have cC:=hC.one;have HS:Hid (w.heap.size+1+1+1+1+1<W.heap.size):=by show _<_;omega
  clear hp hq hR hC hP HF hP0 hR0 hT0 hC0 RX RY QX QY hk hE qE
  gi_wp2_with (refine ⟨trivial,?_⟩;gi_at_call 88;refine (CallsIn.inRound l (callsIn_wide.2 HFK.out)).mono ?_;rintro e V ⟨⟨v,rfl⟩,E2,hE2,qE2,hsz,hoth,hbel⟩)
  have hS:=HS.out;refine ⟨⟨hsz,fun j o hB hj _=>(hoth j (Array.getElem?_eq_some_iff.1 hj).1 (by omega)).trans hj⟩,KeepAt.of fun p hp=>hoth _ ?_ ?_,?_,⟨E2,hE2,qE2⟩,?_,?_,?_,?_⟩
  .exact pairS_lt (S:=W.heap.size) (by omega) (by omega) (by omega) p hp
  .rcases hp with rfl|rfl|hp
   .show w.heap.size+1+1+1≠w.heap.size+1;omega
   .show w.heap.size+1+1+1+1≠w.heap.size+1;omega
   .omega
  .exact (hoth _ (by omega) (by omega)).trans HR.out
  .exact (hoth _ (by omega) (by omega)).trans HC.out
  .exact (hoth _ (by omega) (by omega)).trans HP.out.bx
  .exact (hoth _ (by omega) (by omega)).trans HP.out.by'
  .exact HP.out.bel.trans (hbel _ (by omega))
 case done =>
  rintro W ⟨hR,⟨E,hE,qE⟩,hC,hP⟩ hK;rw[hs0]at hK;have r1:=Row.one hR Fq.nil;have hf:E.fq:=hE.fq E (by simp);have hne:(w.heap.size+1+1+1+1+1)≠w.heap.size:=by omega
  have h4:=hE.four;obtain ⟨e1,e2,e3,e4⟩:=E;have c0:=h4.c0;have c1:=h4.c1;have c2:=h4.c2;have c3:=h4.c3;dsimp only at c0 c1 c2 c3;have R1:=Hd r1;have QF:=Hd hf;have hK':=(setRow_other W w.heap.size _ (flat ([⟨e1,e2,e3,e4⟩]:List E4)).toArray hne).trans hK;have h5:Row (W.setRow w.heap.size (flat ([⟨e1,e2,e3,e4⟩]:List E4)).toArray) w.heap.size [⟨e1,e2,e3,e4⟩]:=r1.app (n:=0) (e:=⟨e1,e2,e3,e4⟩) hf;have kw:Kw W (W.setRow w.heap.size (flat ([⟨e1,e2,e3,e4⟩]:List E4)).toArray):=r1.kw;have hgp:=grownBy_putObj' (W.setRow w.heap.size (flat ([⟨e1,e2,e3,e4⟩]:List E4)).toArray) (w.heap.size+1+1+1+1+1) (.deferred none);have hgr:∀r,some (w.heap.size+1+1+1+1+1)=some r->∃o:Obj,(W.setRow w.heap.size (flat ([⟨e1,e2,e3,e4⟩]:List E4)).toArray).heap[r]?=some o/\o.isCells=false:=fun r e=>by cases e;exact ⟨_,hK',rfl⟩
  have H6:=Hd (h5.grown hgp hgr).four
  have HE:Hid (QR w (sumF f (max es.length fs.length)) (.returned (.agg #[e1,e2,e3,e4])) ((W.setRow w.heap.size (flat ([⟨e1,e2,e3,e4⟩]:List E4)).toArray).putObj (w.heap.size+1+1+1+1+1) (.deferred none))) :=
   ⟨e1,e2,e3,e4,rfl,(Kw.grown hgp hgr).qc (kw.qc qE),(below_setRow hP.bel (Nat.le_refl _) _).grown hgp (by rw[setRow_size];exact hP.bel.size) (fun k e=>by cases e;omega)⟩
  have HK':=Hd hK';clear hE hC hP hb0 hP0 hR0 hT0 hC0 qE h4 hK hgp hgr kw h5 hR r1 hK' hf
  gi_wp2_with (refine wpListIn_storeq (k:=0) (e:=⟨e1,e2,e3,e4⟩) rfl (.tmp 4) (.tmp 19) rfl (by rfl) (by rfl) R1.out (by simp) QF.out ?_;clear R1)
  refine ⟨by simp,.inl ⟨_,_,rfl,run_takeDeferred HK'.out,?_⟩⟩;refine ⟨.agg #[e1,e2,e3,e4],?_,HE.out⟩;have u0:=H6.out.c0;have u1:=H6.out.c1;have u2:=H6.out.c2;have u3:=H6.out.c3;simp[results,Tryz.f46,go_sem,u0,u1,u2,u3]
 case stop=>exact fun _ _ _ _ h _=>h.elim
def dotQ (rs ss:List Rat):Rat:=sumF (fun i=>rs.getD i 0*ss.getD i 0) (max rs.length ss.length)
theorem vdot_v {w:World}{A A':Option Addr}{c c':Nat}{es fs:List E4}{rs ss:List Rat}{k l:Nat}(hA:Vi w A c es rs k)(hB:Vi w A' c' fs ss l)(hk:0<k)(hl:0<l)(h1:rs.length<=4398046511104)(h2:ss.length<=4398046511104)
  (hN:(max rs.length ss.length)*(k+l+1)+1+(k+l)+1<=10000) :
  Calls Tryz.prog 46 #[.slice A rs.length c,.slice A' ss.length c'] w (QR w (dotQ rs ss)):=by
 have hm:∀i,Qm (k+l) (rs.getD i 0*ss.getD i 0):=fun i=>((hA.el i).qm hk).mul ((hB.el i).qm hl)
 have h:=dot_f (f:=fun i=>rs.getD i 0*ss.getD i 0) (c:=c) (c':=c') hA.row hB.row hA.fq hB.fq (by rw[hA.len];exact h1) (by rw[hB.len];exact h2) (fun V E hV hE i hi qE=>by
  rw[hA.len,hB.len]at hi;have hi2:i*(k+l+1)<=(max rs.length ss.length)*(k+l+1):=Nat.mul_le_mul_right _ (by omega)
  exact dot1_v hE qE ((hA.el i).to hV) ((hB.el i).to hV) (Qm.sumF hm i) hk hl (by omega) (by omega))
 rw[hA.len,hB.len]at h;exact h
end Go.Proofs.YtglhdielkkhefaaGreat

namespace Go.Proofs.YtglhdielkkhefaaGreat
open Go.RowKit Go.Shelf
theorem vscale_v {w:World}{k1 k2 k3 k4:Value}{t:Rat}{m:Nat}{A:Option Addr}{c:Nat}{es:List E4}{rs:List Rat}{k:Nat}(hT:Qi w k1 k2 k3 k4 t m)(hA:Vi w A c es rs k)(hm:0<m)(hk:0<k)(hmk:m+k+2<=10000)(h1:rs.length<=4398046511104) :
  Calls Tryz.prog 78 #[.agg #[k1,k2,k3,k4],.slice A rs.length c] w (VR w (scaleQ t rs)):=by
 obtain ⟨W0,hW0⟩:∃W0,W0=w.alloc (.cells #[k1,k2,k3,k4] 32):=⟨_,rfl⟩
 have hbw:Below w.heap.size w W0:=by rw[hW0];exact bRR
 have HC:=Hd (vscaled_v (c':=0) (A':=none) (hT.to hbw) (hA.to hbw) (Vi.nil W0 (k:=1) (by decide)) hm hk (by decide) (by omega) h1 (by decide));have HW0:=Hd hW0;have HB:=Hd hbw;clear hA hT hW0 hbw
 go_enter Tryz.func78,Tryz.ntmps78
 go_wp2_with fail
 rw[<-HW0.out];refine HC.out.mono ?_;rintro e V ⟨A1,c1,fl,rfl,hv,bb⟩;go_wp2
 go_ret
 exact ⟨_,_,_,rfl,hv,HB.out.trans (bb.mono HB.out.size)⟩
def sumV (rs:Nat->List Rat):Nat->List Rat
 | 0=>[]
 | k+1=>ptw (fun r s=>r+s) (sumV rs k) (rs k)
structure SumIn (W:World)(P:Option Addr)(N:Nat)(As:Nat->Option Addr)(cs:Nat->Nat)(es:Nat->List E4)(rs:Nat->List Rat)(m:Nat):Prop where
 cell:∀k,k<N->∃b o,P=some ⟨b,o,none⟩/\W.cell? ⟨b,o+k,none⟩=some (.slice (As k) (rs k).length (cs k))
 vec:∀k,k<N->Vi W (As k) (cs k) (es k) (rs k) m
def midF (S a:Nat->Rat)(j:Nat)(i:Nat):Rat:=if i<j then S i+a i else S i
theorem TotV.sl {W:World}{v:Value}{n:Nat}{f:Nat->Rat}{B:Nat}(h:TotV W v n f B):∃A c,v=.slice A n c:=by
 rcases h with ⟨rfl,rfl⟩|⟨g,cap,fl,rfl,_⟩
 .exact ⟨_,_,rfl⟩
 .exact ⟨_,_,rfl⟩
theorem TotV.row {W:World}{A:Option Addr}{n c:Nat}{f:Nat->Rat}{B:Nat}(h:TotV W (.slice A n c) n f B)(hn:n≠0):∃g fl,A=some ⟨g,0,none⟩/\B<=g/\Row W g fl/\fl.length=c/\n<=c/\c<=9223372036854775807 /\
  (∀i,i<n->Qc W (fl.getD i E4.z).a (fl.getD i E4.z).b (fl.getD i E4.z).c (fl.getD i E4.z).d (f i))/\∀i,n<=i->fl.getD i E4.z=E4.z:=by
 rcases h with ⟨h0,_⟩|⟨g,cap,fl,h1,h2⟩
 .exact absurd h0 hn
 .cases h1;exact ⟨g,fl,rfl,h2⟩
theorem TotV.vr {w W:World}{A:Option Addr}{c:Nat}{rs:List Rat}(h:TotV W (.slice A rs.length c) rs.length (fun i=>rs.getD i 0) w.heap.size)(hl:rs.length<=4398046511104)(hb:Below w.heap.size w W):VR w rs (.returned (.slice A rs.length c)) W:=by
 by_cases h0:rs.length=0
 .obtain rfl:rs=[]:=List.length_eq_zero_iff.1 h0
  rcases h with ⟨_,h⟩|⟨g,cap,fl,h1,h2,h3,h4,h5,h6,h7,h8⟩
  .cases h;exact ⟨none,0,[],rfl,Vc.nil W (by decide),hb⟩
  .cases h1;exact ⟨_,c,[],rfl,Vc.nil W h6,hb⟩
 .obtain ⟨g,fl,rfl,h2,h3,h4,h5,h6,h7,h8⟩:=h.row h0;refine ⟨_,c,fl.take rs.length,rfl,⟨h3.rq _,by rw[List.length_take];omega,fun i=>?_,fun e he=>h3.fq e (List.mem_of_mem_take he),by rw[List.length_take];omega,h6⟩,hb⟩
  by_cases hi:i<rs.length
  .rw[show (fl.take rs.length).getD i E4.z=fl.getD i E4.z from by simp[List.getD,List.getElem?_take,hi]];exact h7 i hi
  .rw[getD_ge (l:=rs) (by omega),getD_ge (l:=fl.take rs.length) (by rw[List.length_take];omega)];exact ⟨Zc.zero _,Zc.zero _⟩
theorem infoS : (Tryz.prog.info? 38).map (fun i=>(i.zero,i.size,i.bytes))=some (some (.slice none 0 0),1,24):=by kernel_rfl
theorem zero_s (m:Nat):Builtin.zeroCells (.slice none 0 0:Value).cells m=(List.replicate m (.slice none 0 0:Value)).toArray:=by
 show madeCells (.slice none 0 0:Value).cells (m*1)=_
 apply Array.ext';apply List.ext_getElem?;intro j;unfold madeCells;have hs:((.slice none 0 0:Value).cells)=#[.slice none 0 0]:=rfl;rw[hs]
 by_cases h:j<m
 .simp[h,Nat.mod_one]
 .simp[h]
def IsS (v:Value):Prop:=∃A n c,v=.slice A n c
structure RowS (W:World)(g:Nat)(fl:List Value):Prop where
 heap:W.heap[g]?=some (.cells fl.toArray 38 (0,0))
 sl:∀v∈fl,IsS v
section
variable {W V : World} {g : Nat} {fl : List Value}
theorem RowS.lt (h:RowS W g fl):g<W.heap.size:=(Array.getElem?_eq_some_iff.1 h.heap).1
theorem RowS.to (h:RowS W g fl)(hb:Below W.heap.size W V):RowS V g fl:=⟨(hb.block g h.lt).trans h.heap,h.sl⟩
theorem RowS.slice (h:RowS W g fl){p:Addr}(hp:p.block=g){v:Value}(hc:W.cell? p=some v):IsS v:=by
 obtain ⟨b,j,f⟩:=p;obtain rfl:b=g:=hp;unfold World.cell? at hc;simp only[h.heap]at hc
 cases f with
 | none=>simp at hc;exact h.sl _ (List.mem_of_getElem? hc)
 | some f=>simp at hc
theorem RowS.kw (h:RowS W g fl){cs:Array Value} : Kw W (W.setRow g cs):=by
 refine ⟨by simp[World.setRow],fun p n hp=>?_⟩
 have hne:p.block≠g:=fun e=>by
  obtain ⟨A,m,c,e2⟩:=h.slice e hp;cases e2
 rw[World.cell?_of_block (setRow_other W g p.block cs hne)];exact hp
theorem RowS.rq (h:RowS W g fl){cs:Array Value}{B:Nat}{A:Option Addr}{es:List E4}(hr:Rq W B A es)(hf:∀e∈es,e.fq):Rq (W.setRow g cs) B A es:=fun k hk=>by
 obtain ⟨b,o,e,hb,h0,h1,h2,h3⟩:=hr k hk;obtain ⟨⟨n1,A1,j1,m1,e1,e2⟩,_⟩:=hf _ (List.getElem_mem hk)
 have hne:b≠g:=fun e3=>by
  obtain ⟨A,m,c,e4⟩:=h.slice (p:=⟨b,_,none⟩) e3 h0;rw[e1]at e4;cases e4
 have hw:∀p:Addr,p.block=b->(W.setRow g cs).cell? p=W.cell? p:=fun p hp=>World.cell?_of_block (setRow_other W g p.block cs (by rw[hp];exact hne))
 exact ⟨b,o,e,hb,(hw ⟨b,_,none⟩ rfl).trans h0,(hw ⟨b,_,none⟩ rfl).trans h1,(hw ⟨b,_,none⟩ rfl).trans h2,(hw ⟨b,_,none⟩ rfl).trans h3⟩
theorem RowS.vc (h:RowS W g fl){cs:Array Value}{A:Option Addr}{c:Nat}{es:List E4}{rs:List Rat}(hv:Vc W A c es rs):Vc (W.setRow g cs) A c es rs :=
 ⟨by rw[setRow_size];exact h.rq hv.row hv.fq,hv.len,fun i=>h.kw.qc (hv.el i),hv.fq,hv.cap,hv.c63⟩
theorem RowS.app (h:RowS W g fl){n:Nat}{x:Value}(hx:IsS x):RowS (W.setRow g (fl.set n x).toArray) g (fl.set n x) :=
 ⟨setRow_heap W g _ _ _ _ h.heap,fun v hv=>by
  rcases List.mem_or_eq_of_mem_set hv with hv|rfl
  .exact h.sl v hv
  .exact hx⟩
end
def TotS (P:World->Nat->Value->Prop)(W:World)(v:Value)(n B:Nat):Prop :=
 (n=0/\v=.slice none 0 0)∨∃g cap fl,v=.slice (some ⟨g,0,none⟩) n cap/\B<=g/\RowS W g fl/\fl.length=cap/\n<=cap/\cap<=9223372036854775807/\∀i,i<n->P W i (fl.getD i (.slice none 0 0))
theorem TotS.sl {P:World->Nat->Value->Prop}{W:World}{v:Value}{n B:Nat}(h:TotS P W v n B):∃A c,v=.slice A n c:=by
 rcases h with ⟨rfl,rfl⟩|⟨g,cap,fl,rfl,_⟩
 .exact ⟨_,_,rfl⟩
 .exact ⟨_,_,rfl⟩
theorem tot_rows {P:World->Nat->Value->Prop}{W:World}{g B n:Nat}{fl:List Value}(hg:B<=g)(h:RowS W g fl)(hn:n<=fl.length)(hc:fl.length<=9223372036854775807)
  (hq:∀i,i<n->P W i (fl.getD i (.slice none 0 0))):TotS P W (.slice (some ⟨g,0,none⟩) n fl.length) n B:=.inr ⟨g,fl.length,fl,rfl,hg,h,rfl,hn,hc,hq⟩
theorem grown_rows {W:World}{n C:Nat}{es:List Value}{e:Value}(he:IsS e)(hes:∀x∈es,IsS x)(hl:es.length=n)(hC:n+1<=C) :
  (es++e::List.replicate (C-(n+1)) (.slice none 0 0)).toArray=((es++[e]).toArray++Builtin.zeroCells (.slice none 0 0:Value).cells (C-(n+1))) /\
  RowS (W.alloc (.cells (es++e::List.replicate (C-(n+1)) (.slice none 0 0)).toArray 38)) W.heap.size (es++e::List.replicate (C-(n+1)) (.slice none 0 0))/\(es++e::List.replicate (C-(n+1)) (.slice none 0 0)).length=C:=by
 refine ⟨?_,⟨World.alloc_heap_new W _,fun x hx=>?_⟩,by simp;omega⟩
 .rw[zero_s];apply Array.ext';simp
 .rcases List.mem_append.1 hx with hx|hx
  .exact hes x hx
  .rcases List.mem_cons.1 hx with rfl|hx
   .exact he
   .rw[List.eq_of_mem_replicate hx];exact ⟨_,_,_,rfl⟩
structure KeptS (P:World->Nat->Value->Prop):Prop where
 to:∀{W V:World} {i:Nat} {v:Value},Below W.heap.size W V->P W i v->P V i v
 set:∀{W:World} {g:Nat} {fl:List Value} {cs:Array Value} {i:Nat} {v:Value},RowS W g fl->P W i v->P (W.setRow g cs) i v
theorem TotS.mv {P:World->Nat->Value->Prop}(hP:KeptS P){W V:World}{v:Value}{n B:Nat}(h:TotS P W v n B)(hb:Below W.heap.size W V):TotS P V v n B:=by
 rcases h with h|⟨g,cap,fl,h1,h2,h3,h4,h5,h6,h7⟩
 .exact .inl h
 .exact .inr ⟨g,cap,fl,h1,h2,h3.to hb,h4,h5,h6,fun i hi=>hP.to hb (h7 i hi)⟩
theorem sapp {P:World->Nat->Value->Prop}(hP:KeptS P){W:World}{v:Value}{n:Nat}{B:Nat}(h:TotS P W v n B)(hB:B<=W.heap.size)(hl:n+1<=1000000){x:Value}(hx:IsS x)(hq:P W n x){a:Addr}{c:Nat}
  (h0:W.cell? (a.add 0)=some x) (ty:TypeId) :
  ∃v' W',(Builtin.append_ #[22,22] ty #[v,.slice (some a) 1 c]).run Tryz.prog W=.ok v' W'/\TotS P W' v' (n+1) B/\Below B W W':=by
 obtain ⟨i0,hi,hz0,hz1,hz2⟩:=info_parts infoS
 have hnews:∀j u,[x][j]?=some u->W.cell? (a.add j)=some u:=fun j u hj=>by
  match j,hj with
  | 0,hj=>simp at hj;subst hj;exact h0
 have here:∀(es:List Value) (k:Nat),es.length=n->(es++x::List.replicate k (.slice none 0 0)).getD n (.slice none 0 0)=x:=fun es k hes=>by
  simp[List.getD,List.getElem?_append,hes]
 rcases h with ⟨rfl,rfl⟩|⟨g,cap,fl,rfl,hg,hr,rfl,hn,hc,hqs⟩
 .have hrun:=run_append_nil (P:=Tryz.prog) (w:=W) 22 ty 38 i0 _ Tryz.underlying22 hi hz0 a 1 c [x] (by rw[hz1];rfl) hnews (by decide) (by decide) (by rw[hz2];decide);have hge:=grownCap_ge W 1 0 38;have hle:=grownCap_le_maxLen W 1 0 38 (by unfold maxLen;omega);unfold maxLen at hle;obtain ⟨C,hC⟩:∃C,grownCap W 1 0 38=C:=⟨_,rfl⟩
  rw[hC]at hrun hge hle;obtain ⟨g1,g2,g3⟩:=grown_rows (W:=W.drew) (n:=0) (C:=C) (es:=[]) hx (fun x hx=>by cases hx) rfl hge
  have hrun':(Builtin.append_ #[22,22] ty #[.slice none 0 0,.slice (some a) 1 c]).run Tryz.prog W=.ok (.slice (some ⟨W.heap.size,0,none⟩) 1 C) (W.drew.alloc (.cells ([]++x::List.replicate (C-(0+1)) (.slice none 0 0)).toArray 38)):=by
   rw[g1];exact hrun
  have hbb:Below W.heap.size W (W.drew.alloc (.cells ([]++x::List.replicate (C-(0+1)) (.slice none 0 0)).toArray 38)):=((Below.refl _ W).drew).alloc (Nat.le_refl _) _;refine ⟨_,_,hrun',?_,hbb.mono hB⟩
  have ht:=tot_rows (P:=P) (n:=1) (B:=B) (g:=W.heap.size) hB g2 (by rw[g3];exact hge) (by rw[g3];omega) (fun i hi=>by
   obtain rfl:i=0:=by omega
   rw[here [] _ rfl]
   exact hP.to hbb hq)
  rw[g3]at ht;exact ht
 .by_cases hroom:n<fl.length
  .have hrun:=run_append_room (P:=Tryz.prog) W 22 ty 38 i0 Tryz.underlying22 hi g n fl.length _ hr.heap a 1 c [x] (by rw[hz1];rfl) hnews
    (fun u hu=>by rw[List.mem_singleton.1 hu];obtain ⟨A,m,d,rfl⟩:=hx;rfl) (by omega) (by rw[hz1];simp;omega)
   rw[hz1]at hrun
   have e1:fl.set n x=fl.take n++x::fl.drop (n+1):=by
    rw[List.set_eq_take_append_cons_drop,if_pos hroom]
   have hrun':(Builtin.append_ #[22,22] ty #[.slice (some ⟨g,0,none⟩) n fl.length,.slice (some a) 1 c]).run Tryz.prog W=.ok (.slice (some ⟨g,0,none⟩) (n+1) fl.length) (W.setRow g (fl.set n x).toArray):=by
    rw[hrun,e1];simp
   refine ⟨_,_,hrun',?_,below_setRow (Below.refl _ _) hg _⟩
   have ht:=tot_rows (P:=P) (n:=n+1) (B:=B) hg (hr.app (n:=n) hx) (by rw[List.length_set];omega) (by rw[List.length_set];exact hc) (fun i hi=>by
    by_cases hin:i=n
    .subst hin;rw[show (fl.set i x).getD i (.slice none 0 0)=x from by simp[List.getD,hroom]];exact hP.set hr hq
    .rw[show (fl.set n x).getD i (.slice none 0 0)=fl.getD i (.slice none 0 0) from by simp[List.getD,List.getElem?_set,Ne.symm hin]]
     exact hP.set hr (hqs i (by omega)))
   rwa [List.length_set]at ht
  .obtain rfl:n=fl.length:=by omega
   have holds:∀j u,fl[j]?=some u->W.cell? ((⟨g,0,none⟩:Addr).add j)=some u:=fun j u hj=>by
    unfold Addr.add
    by_cases hj0:j=0
    .subst hj0;simpa [World.cell?,hr.heap]using hj
    .simpa [hj0,World.cell?,hr.heap]using hj
   have hrun:=run_append_grow (P:=Tryz.prog) (w:=W) 22 ty 38 i0 _ Tryz.underlying22 hi hz0 ⟨g,0,none⟩ fl.length fl.length fl (by rw[hz1];simp) holds a 1 c [x] (by rw[hz1];rfl) hnews (by omega) (by omega)
    (by rw[hz2];exact growslice_fits (by omega) (by omega))
   have hge:=grownCap_ge W (fl.length+1) fl.length 38;have hle:=grownCap_le_maxLen W (fl.length+1) fl.length 38 (by unfold maxLen;omega);unfold maxLen at hle;obtain ⟨C,hC⟩:∃C,grownCap W (fl.length+1) fl.length 38=C:=⟨_,rfl⟩
   rw[hC]at hrun hge hle;obtain ⟨g1,g2,g3⟩:=grown_rows (W:=W.drew) (n:=fl.length) (C:=C) (es:=fl) hx hr.sl rfl hge
   have hrun':(Builtin.append_ #[22,22] ty #[.slice (some ⟨g,0,none⟩) fl.length fl.length,.slice (some a) 1 c]).run Tryz.prog W=.ok (.slice (some ⟨W.heap.size,0,none⟩) (fl.length+1) C) (W.drew.alloc (.cells (fl++x::List.replicate (C-(fl.length+1)) (.slice none 0 0)).toArray 38)):=by
    rw[g1,show (fl++[x]).toArray=fl.toArray++[x].toArray from by simp];exact hrun
   have hbb:Below W.heap.size W (W.drew.alloc (.cells (fl++x::List.replicate (C-(fl.length+1)) (.slice none 0 0)).toArray 38)):=((Below.refl _ W).drew).alloc (Nat.le_refl _) _;refine ⟨_,_,hrun',?_,hbb.mono hB⟩
   have ht:=tot_rows (P:=P) (n:=fl.length+1) (B:=B) (g:=W.heap.size) hB g2 (by rw[g3];exact hge) (by rw[g3];omega) (fun i hi=>by
    by_cases hin:i=fl.length
    .subst hin;rw[here fl _ rfl];exact hP.to hbb hq
    .rw[show (fl++x::List.replicate (C-(fl.length+1)) (.slice none 0 0)).getD i (.slice none 0 0)=fl.getD i (.slice none 0 0) from by simp[List.getD,List.getElem?_append,show i<fl.length by omega]]
     exact hP.to hbb (hqs i (by omega)))
   rw[g3]at ht;exact ht
def zrow (c:Nat):Array Value:=(List.replicate c (.slice none 0 0:Value)).toArray
theorem make_s (W:World)(n c:Nat)(hn:n<=c)(hc:c<=4398046511104) :
  (Instr.makeSlice 22 (.int .i64 (n:Int)) (.int .i64 (c:Int))).run Tryz.prog W=.ok (.slice (some ⟨W.heap.size,0,none⟩) n c) (W.alloc (.cells (zrow c) 38)):=by
 obtain ⟨i0,hi,hz0,hz1,hz2⟩:=info_parts infoS;have h:=run_make W 22 38 i0 _ Tryz.underlying22 hi hz0 .i64 .i64 n c (by omega) (by omega) (by rw[hz2];omega) (by omega);rw[hz1,Int.toNat_natCast,Int.toNat_natCast]at h;rw[h];unfold zrow;rw[<-zero_s];rfl
theorem wpList_makes (w:World){ops:Array Oper}{rest:List Oper}{o:Oper}{a:Act}{Q:Exit->Act->World->Prop}
  (hg:o.guard=none) (l c:Operand) (hop:o.op=Op.makeSlice 22 l c) (N C:Nat) {L D:Int} (hl:a.eval l=.int .i64 L) (hc:a.eval c=.int .i64 D) (hL:L=(N:Int)) (hC:D=(C:Int)) (h1:N<=C) (h2:C<=4398046511104)
  (hK:wpList Tryz.prog ops Q rest (a.put o.dst (.slice (some ⟨w.heap.size,0,none⟩) N C)) (w.alloc (.cells (zrow C) 38))) :
  wpList Tryz.prog ops Q (o::rest) a w:=by
 refine wpList_plain hg fun K hK'=>?_
 have hrun:=make_s w N C h1 h2;subst hL;subst hC;unfold Oper.wp;simp[execOp,hop,hl,hc,hrun,Result.andThen];exact hK' _ _ hK
theorem TotS.new {P:World->Nat->Value->Prop}{W:World}{N B:Nat}(hB:B<=W.heap.size)(hN:N<=9223372036854775807):TotS P (W.alloc (.cells (zrow N) 38)) (.slice (some ⟨W.heap.size,0,none⟩) 0 N) 0 B :=
 .inr ⟨W.heap.size,N,List.replicate N (.slice none 0 0),rfl,hB,⟨World.alloc_heap_new W _,fun v hv=>by rw[List.eq_of_mem_replicate hv];exact ⟨_,_,_,rfl⟩⟩,by simp,Nat.zero_le _,hN,fun i hi=>absurd hi (Nat.not_lt_zero _)⟩
theorem TotV.new {W:World}{N B:Nat}{f:Nat->Rat}(hB:B<=W.heap.size)(hN:N<=9223372036854775807):TotV (W.alloc (.cells (flat (List.replicate N E4.z)).toArray 32)) (.slice (some ⟨W.heap.size,0,none⟩) 0 N) 0 f B :=
 .inr ⟨W.heap.size,N,List.replicate N E4.z,rfl,hB,Row.new W N,by simp,Nat.zero_le _,hN,fun i hi=>absurd hi (Nat.not_lt_zero _),fun i _=>by by_cases h:i<N<;>simp[List.getD,List.getElem?_replicate,h]⟩
def tab (N:Nat)(g:Nat->Rat):List Rat:=(List.range N).map g
theorem tab_length (N:Nat)(g:Nat->Rat):(tab N g).length=N:=by simp[tab]
theorem tab_getD {N i:Nat}(g:Nat->Rat)(h:i<N):(tab N g).getD i 0=g i:=by simp[tab,List.getD,h]
theorem TotV.vtab {w W:World}{A:Option Addr}{N c:Nat}{g:Nat->Rat}(h:TotV W (.slice A N c) N g w.heap.size)(hl:N<=4398046511104)(hb:Below w.heap.size w W):VR w (tab N g) (.returned (.slice A N c)) W:=by
 obtain ⟨l,h2⟩:∃l,tab N g=l:=⟨_,rfl⟩
 have e:l.length=N:=by rw[<-h2,tab_length]
 rw[h2];subst e;refine (h.congr (f':=fun i=>l.getD i 0) (fun i hi=>?_)).vr hl hb;rw[<-h2,tab_length]at hi;rw[<-h2];exact (tab_getD g hi).symm
def colsN (rs:Nat->List Rat):Nat->Nat
 | 0=>0
 | k+1=>max (colsN rs k) (rs k).length
theorem colsN_ge (rs:Nat->List Rat):∀{N k:Nat},k<N->(rs k).length<=colsN rs N
 | 0,_,h=>absurd h (Nat.not_lt_zero _)
 | N+1,k,h=>by
  by_cases hk:k=N
  .subst hk;exact Nat.le_max_right _ _
  .exact Nat.le_trans (colsN_ge rs (by omega)) (Nat.le_max_left _ _)
theorem colsN_le {rs:Nat->List Rat}{M:Nat} : ∀{N:Nat},(∀k,k<N->(rs k).length<=M)->colsN rs N<=M
 | 0,_=>Nat.zero_le _
 | N+1,h=>Nat.max_le.2 ⟨colsN_le (fun k hk=>h k (by omega)),h N (by omega)⟩
structure Mc (W:World)(P:Option Addr)(N C:Nat)(rs:Nat->List Rat):Prop where
 row:∀k,k<N->∃b o A c es,P=some ⟨b,o,none⟩/\b<W.heap.size/\W.cell? ⟨b,o+k,none⟩=some (.slice A (rs k).length c)/\Vc W A c es (rs k)
 n63:N<=9223372036854775807
structure Mi (W:World)(P:Option Addr)(N C:Nat)(rs:Nat->List Rat)(m:Nat):Prop where
 row:∀k,k<N->∃b o A c es,P=some ⟨b,o,none⟩/\b<W.heap.size/\W.cell? ⟨b,o+k,none⟩=some (.slice A (rs k).length c)/\Vi W A c es (rs k) m
 n63:N<=9223372036854775807
section
variable {W V : World} {P : Option Addr} {N C m : Nat} {rs : Nat -> List Rat}
theorem Mc.to (h:Mc W P N C rs)(hb:Below W.heap.size W V):Mc V P N C rs :=
 ⟨fun k hk=>by
  obtain ⟨b,o,A,c,es,e,h1,h2,h3⟩:=h.row k hk
  exact ⟨b,o,A,c,es,e,Nat.lt_of_lt_of_le h1 hb.size,(hb.cell (p:=⟨b,_,none⟩) h1).trans h2,h3.to hb⟩,h.n63⟩
theorem Mi.to (h:Mi W P N C rs m)(hb:Below W.heap.size W V):Mi V P N C rs m :=
 ⟨fun k hk=>by
  obtain ⟨b,o,A,c,es,e,h1,h2,h3⟩:=h.row k hk
  exact ⟨b,o,A,c,es,e,Nat.lt_of_lt_of_le h1 hb.size,(hb.cell (p:=⟨b,_,none⟩) h1).trans h2,h3.to hb⟩,h.n63⟩
theorem Mc.mi (h:Mc W P N C rs)(hm:m<=10000)(hq:∀k,k<N->∀i,Qm m ((rs k).getD i 0)):Mi W P N C rs m :=
 ⟨fun k hk=>by
  obtain ⟨b,o,A,c,es,e,h1,h2,h3⟩:=h.row k hk
  exact ⟨b,o,A,c,es,e,h1,h2,h3.vi (hq k hk) hm⟩,h.n63⟩
end
def MR (w:World)(N:Nat)(rs:Nat->List Rat)(e:Ending)(w':World):Prop:=∃P C,e=.returned (.slice P N C)/\Mc w' P N C rs/\Below w.heap.size w w'
def Vs (rs:Nat->List Rat)(W:World)(i:Nat)(v:Value):Prop:=∃A c es,v=.slice A (rs i).length c/\Vc W A c es (rs i)
theorem Vs.kept (rs:Nat->List Rat):KeptS (Vs rs) where
 to:=fun hb h=>by
  obtain ⟨A,c,es,e,h⟩:=h;exact ⟨A,c,es,e,h.to hb⟩
 set:=fun hr h=>by
  obtain ⟨A,c,es,e,h⟩:=h;exact ⟨A,c,es,e,hr.vc h⟩
theorem TotS.mc {rs:Nat->List Rat}{W:World}{P:Option Addr}{n c B:Nat}(h:TotS (Vs rs) W (.slice P n c) n B):Mc W P n c rs:=by
 rcases h with ⟨rfl,h⟩|⟨g,cap,fl,h1,h2,h3,h4,h5,h6,h7⟩
 .cases h;exact ⟨fun k hk=>absurd hk (Nat.not_lt_zero _),by decide⟩
 .cases h1;refine ⟨fun k hk=>?_,Nat.le_trans h5 h6⟩;obtain ⟨A,d,es,e,h8⟩:=h7 k hk;refine ⟨g,0,A,d,es,rfl,h3.lt,?_,h8⟩;rw[<-e];have hk2:k<fl.length:=by omega
  simp[World.cell?,h3.heap,List.getD,hk2]
end Go.Proofs.YtglhdielkkhefaaGreat

namespace Go.Proofs.YtglhdielkkhefaaGreat
open Go.RowKit Go.Shelf
def Rfit (W:World)(g N k:Nat)(f:Nat->Rat):Prop:=∃fl,Row W g fl/\fl.length=N/\(∀i,i<k->Qc W (fl.getD i E4.z).a (fl.getD i E4.z).b (fl.getD i E4.z).c (fl.getD i E4.z).d (f i))/\∀i,k<=i->fl.getD i E4.z=E4.z
def fitQ (rs:List Rat)(n:Int):List Rat:=(List.range (min n.toNat 65536)).map fun i=>rs.getD i 0
theorem upD_abs {q:Int}(h:q≠0):upD q=(q.natAbs:Int):=by unfold upD;rw[if_neg h];split<;>omega
theorem rgcd_v {w:World}{x y x' y':Value}{a b:Int}(ha:Zl w x y a)(hb:Zl w x' y' b):Calls Tryz.prog 125 #[.agg #[x,y],.agg #[x',y']] w (ZR w (Int.gcd a b:Nat)):=rgcd_z ha hb
theorem rsign_v {w:World}{x y:Value}{a v:Int}(ha:Zl w x y a)(hv:sgn a=v):Calls Tryz.prog 129 #[.agg #[x,y]] w fun e w'=>e=.returned (.int .i64 v)/\Below w.heap.size w w':=by
 subst hv;exact rsign_z ha
theorem rcmp_v {w:World}{x y x' y':Value}{a b v:Int}(ha:Zl w x y a)(hb:Zl w x' y' b)(hv:cmpZ a b=v):Calls Tryz.prog 127 #[.agg #[x,y],.agg #[x',y']] w fun e w'=>e=.returned (.int .i64 v)/\Below w.heap.size w w':=by
 subst hv;exact rcmp_z ha hb
theorem rd_v {w:World}{x y x' y':Value}{a b q:Int}(ha:Zl w x y a)(hb:Zl w x' y' b)(h0:b≠0)(hq:a / b=q):Calls Tryz.prog 126 #[.agg #[x,y],.agg #[x',y']] w (ZE w q (a % b) 0):=by
 subst hq;have h:=rd_x ha hb;unfold dr de at h;rw[if_neg h0,if_neg h0]at h;exact h
theorem rone_z {w:World} :
  Calls Tryz.prog 128 #[] w (ZR w 1):=by
 obtain ⟨W0,hW0⟩:∃W0,W0=w.alloc (.cells #[.bool false,.slice none 0 0] 30):=⟨_,rfl⟩
 have hbw:Below w.heap.size w W0:=by rw[hW0];exact bRR
 have tR:Two W0 (w.heap.size) (.bool false) (.slice none 0 0):=by
  have h:=Two.new w (.bool false) (.slice none 0 0) 30;rw[hW0];exact h
 have HW0:=Hd hW0;have HB:=Hd hbw;clear hW0 hbw
 go_enter Tryz.func128,Tryz.ntmps128
 go_wp2_with fail
 rw[<-HW0.out];clear HW0
 go_wp2_with fail
 refine (rfrom_z 1 (by decide) (by decide) _).mono ?_;rintro e V1 ⟨x1,y1,rfl,z1,bb⟩;replace tR:=tR.to bb;replace HB:=Hxb HB bb;clear bb;have RZ:=Hd z1;obtain ⟨V99,eV,u,kp,_⟩:=pack2 tR Fs.nil x1 y1;obtain ⟨n1,A1,j1,m1,rfl,rfl⟩:=z1.fs;obtain ⟨v0,v1,v2,v3,_⟩:=tR;have EV:=Hd eV;have KP:=Hd kp;have U:=Hd u;clear eV kp u z1;go_wp2
 rw[EV.out];refine bodyPost_ret (v:=.agg #[.bool n1,.slice A1 j1 m1]) (by simp[results,Tryz.f128,go_sem,U.out.c0,U.out.c1]) rfl ?_;exact ⟨_,_,rfl,KP.out.zc _ _ _ RZ.out,KP.out.bel _ _ HB.out (by omega)⟩
theorem rden_0 {w:World}{a1 a2 a3 a4:Value}{q:Int}(h:Zl w a3 a4 q)(hq:q=0) :
  Calls Tryz.prog 100 #[.agg #[a1,a2,a3,a4]] w (ZR w (upD q)):=by
 rw[show upD q=1 from by unfold upD;rw[if_pos hq]];have hs:Hid (sgn q=0):=sgn_zero.2 hq;clear hq;obtain ⟨W0,hW0⟩:∃W0,W0=(w.alloc (.cells #[a1,a2,a3,a4] 32)).alloc (.cells #[.bool false,.slice none 0 0] 30):=⟨_,rfl⟩
 have hbw:Below w.heap.size w W0:=by rw[hW0];exact (bRR.alloc (by simp) _)
 have tA:Four W0 (w.heap.size) a1 a2 a3 a4:=by
  have h:=Four.new w a1 a2 a3 a4 32;rw[hW0];exact (h.alloc _)
 have tR:Two W0 (w.heap.size+1) (.bool false) (.slice none 0 0):=by
  have h:=Two.new (w.alloc (.cells #[a1,a2,a3,a4] 32)) (.bool false) (.slice none 0 0) 30;rw[szA]at h;rw[hW0];exact h
 replace h:=h.to hbw;have HW0:=Hd hW0;have HB:=Hd hbw;clear hW0 hbw
 go_enter Tryz.func100,Tryz.ntmps100
 go_wp2_with fail
 rw[<-HW0.out];clear HW0;have kktA0:=tA.c0;have kktA1:=tA.c1;have kktA2:=tA.c2;have kktA3:=tA.c3
 go_wp2_with fail
 refine (rsign_v h hs.out).mono ?_;rintro e V1 ⟨rfl,bb⟩;clear kktA0 kktA1 kktA2 kktA3;replace tA:=tA.to bb;replace tR:=tR.to bb;replace HB:=Hxb HB bb;clear bb;have kktA0:=tA.c0;have kktA1:=tA.c1;have kktA2:=tA.c2;have kktA3:=tA.c3
 go_wp2_with fail
 refine (rone_z).mono ?_;rintro e V2 ⟨x2,y2,rfl,z2,bb⟩;clear kktA0 kktA1 kktA2 kktA3;replace tA:=tA.to bb;replace tR:=tR.to bb;replace HB:=Hxb HB bb;clear bb;have RZ:=Hd z2;obtain ⟨V99,eV,u,kp,_⟩:=pack2 tR Fs.nil x2 y2;obtain ⟨n1,A1,j1,m1,rfl,rfl⟩:=z2.fs;obtain ⟨v0,v1,v2,v3,_⟩:=tR;have EV:=Hd eV;have KP:=Hd kp;have U:=Hd u;clear eV kp u z2;clear tA;go_wp2
 rw[EV.out];refine bodyPost_ret (v:=.agg #[.bool n1,.slice A1 j1 m1]) (by simp[results,Tryz.f100,go_sem,U.out.c0,U.out.c1]) rfl ?_;exact ⟨_,_,rfl,KP.out.zc _ _ _ RZ.out,KP.out.bel _ _ HB.out (by omega)⟩
theorem rden_n {w:World}{a1 a2 a3 a4:Value}{q:Int}(h:Zl w a3 a4 q)(hq:q≠0) :
  Calls Tryz.prog 100 #[.agg #[a1,a2,a3,a4]] w (ZR w (upD q)):=by
 rw[upD_abs hq];obtain ⟨s,es⟩:∃s,sgn q=s:=⟨_,rfl⟩
 have hs0:(s==0)=false:=by rw[beq_eq_false_iff_ne,<-es];exact fun h=>hq (sgn_zero.1 h)
 have hs:=Hd es;clear hq es;obtain ⟨W0,hW0⟩:∃W0,W0=(w.alloc (.cells #[a1,a2,a3,a4] 32)).alloc (.cells #[.bool false,.slice none 0 0] 30):=⟨_,rfl⟩
 have hbw:Below w.heap.size w W0:=by rw[hW0];exact (bRR.alloc (by simp) _)
 have tA:Four W0 (w.heap.size) a1 a2 a3 a4:=by
  have h:=Four.new w a1 a2 a3 a4 32;rw[hW0];exact (h.alloc _)
 have tR:Two W0 (w.heap.size+1) (.bool false) (.slice none 0 0):=by
  have h:=Two.new (w.alloc (.cells #[a1,a2,a3,a4] 32)) (.bool false) (.slice none 0 0) 30;rw[szA]at h;rw[hW0];exact h
 replace h:=h.to hbw;have HW0:=Hd hW0;have HB:=Hd hbw;clear hW0 hbw
 go_enter Tryz.func100,Tryz.ntmps100
 go_wp2_with fail
 rw[<-HW0.out];clear HW0;have kktA0:=tA.c0;have kktA1:=tA.c1;have kktA2:=tA.c2;have kktA3:=tA.c3
 go_wp2_with fail
 refine (rsign_v h hs.out).mono ?_;rintro e V1 ⟨rfl,bb⟩;clear kktA0 kktA1 kktA2 kktA3;replace tA:=tA.to bb;replace tR:=tR.to bb;replace h:=h.to bb;replace HB:=Hxb HB bb;clear bb;have kktA0:=tA.c0;have kktA1:=tA.c1;have kktA2:=tA.c2;have kktA3:=tA.c3
 go_wp2_with fail
 refine (rabs_z h).mono ?_;rintro e V2 ⟨x2,y2,rfl,z2,bb⟩;clear kktA0 kktA1 kktA2 kktA3;replace tA:=tA.to bb;replace tR:=tR.to bb;replace HB:=Hxb HB bb;clear bb;have RZ:=Hd z2;obtain ⟨V99,eV,u,kp,_⟩:=pack2 tR Fs.nil x2 y2;obtain ⟨n1,A1,j1,m1,rfl,rfl⟩:=z2.fs;obtain ⟨v0,v1,v2,v3,_⟩:=tR;have EV:=Hd eV;have KP:=Hd kp;have U:=Hd u;clear eV kp u z2;clear tA;go_wp2
 rw[EV.out];refine bodyPost_ret (v:=.agg #[.bool n1,.slice A1 j1 m1]) (by simp[results,Tryz.f100,go_sem,U.out.c0,U.out.c1]) rfl ?_;exact ⟨_,_,rfl,KP.out.zc _ _ _ RZ.out,KP.out.bel _ _ HB.out (by omega)⟩
theorem rden_z {w:World}{a1 a2 a3 a4:Value}{q:Int}(h:Zl w a3 a4 q):Calls Tryz.prog 100 #[.agg #[a1,a2,a3,a4]] w (ZR w (upD q)):=by
 by_cases hq:q=0
 .exact rden_0 h hq
 .exact rden_n h hq
theorem rnum_n {w:World}{a1 a2 a3 a4:Value}{p q:Int}(h1:Zl w a1 a2 p)(h:Zl w a3 a4 q)(hq:q<0) :
  Calls Tryz.prog 99 #[.agg #[a1,a2,a3,a4]] w (ZR w (upN p q)):=by
 rw[show upN p q=-p from by unfold upN;rw[if_pos hq]];have hs:Hid (sgn q=-1):=sgn_neg hq;clear hq;obtain ⟨W0,hW0⟩:∃W0,W0=(w.alloc (.cells #[a1,a2,a3,a4] 32)).alloc (.cells #[.bool false,.slice none 0 0] 30):=⟨_,rfl⟩
 have hbw:Below w.heap.size w W0:=by rw[hW0];exact (bRR.alloc (by simp) _)
 have tA:Four W0 (w.heap.size) a1 a2 a3 a4:=by
  have h:=Four.new w a1 a2 a3 a4 32;rw[hW0];exact (h.alloc _)
 have tR:Two W0 (w.heap.size+1) (.bool false) (.slice none 0 0):=by
  have h:=Two.new (w.alloc (.cells #[a1,a2,a3,a4] 32)) (.bool false) (.slice none 0 0) 30;rw[szA]at h;rw[hW0];exact h
 replace h1:=h1.to hbw;replace h:=h.to hbw;have HW0:=Hd hW0;have HB:=Hd hbw;clear hW0 hbw
 go_enter Tryz.func99,Tryz.ntmps99
 go_wp2_with fail
 rw[<-HW0.out];clear HW0;have kktA0:=tA.c0;have kktA1:=tA.c1;have kktA2:=tA.c2;have kktA3:=tA.c3
 go_wp2_with fail
 refine (rsign_v h hs.out).mono ?_;rintro e V1 ⟨rfl,bb⟩;clear kktA0 kktA1 kktA2 kktA3;replace tA:=tA.to bb;replace tR:=tR.to bb;replace h1:=h1.to bb;replace HB:=Hxb HB bb;clear bb;have kktA0:=tA.c0;have kktA1:=tA.c1;have kktA2:=tA.c2;have kktA3:=tA.c3
 go_wp2_with fail
 refine (rneg_z h1).mono ?_;rintro e V2 ⟨x2,y2,rfl,z2,bb⟩;clear kktA0 kktA1 kktA2 kktA3;replace tA:=tA.to bb;replace tR:=tR.to bb;replace HB:=Hxb HB bb;clear bb;have RZ:=Hd z2;obtain ⟨V99,eV,u,kp,_⟩:=pack2 tR Fs.nil x2 y2;obtain ⟨n1,A1,j1,m1,rfl,rfl⟩:=z2.fs;obtain ⟨v0,v1,v2,v3,_⟩:=tR;have EV:=Hd eV;have KP:=Hd kp;have U:=Hd u;clear eV kp u z2;clear tA;go_wp2
 rw[EV.out];refine bodyPost_ret (v:=.agg #[.bool n1,.slice A1 j1 m1]) (by simp[results,Tryz.f99,go_sem,U.out.c0,U.out.c1]) rfl ?_;exact ⟨_,_,rfl,KP.out.zc _ _ _ RZ.out,KP.out.bel _ _ HB.out (by omega)⟩
theorem rnum_p {w:World}{a1 a2 a3 a4:Value}{p q:Int}(h1:Zl w a1 a2 p)(h:Zl w a3 a4 q)(hq:¬q<0) :
  Calls Tryz.prog 99 #[.agg #[a1,a2,a3,a4]] w (ZR w (upN p q)):=by
 rw[show upN p q=p from by unfold upN;rw[if_neg hq]];obtain ⟨s,es⟩:∃s,sgn q=s:=⟨_,rfl⟩
 have hs0:¬s<0:=by rw[<-es];unfold sgn;split<;>(try split)<;>omega
 have hs:=Hd es;clear hq es;obtain ⟨W0,hW0⟩:∃W0,W0=(w.alloc (.cells #[a1,a2,a3,a4] 32)).alloc (.cells #[.bool false,.slice none 0 0] 30):=⟨_,rfl⟩
 have hbw:Below w.heap.size w W0:=by rw[hW0];exact (bRR.alloc (by simp) _)
 have tA:Four W0 (w.heap.size) a1 a2 a3 a4:=by
  have h:=Four.new w a1 a2 a3 a4 32;rw[hW0];exact (h.alloc _)
 have tR:Two W0 (w.heap.size+1) (.bool false) (.slice none 0 0):=by
  have h:=Two.new (w.alloc (.cells #[a1,a2,a3,a4] 32)) (.bool false) (.slice none 0 0) 30;rw[szA]at h;rw[hW0];exact h
 replace h1:=h1.to hbw;replace h:=h.to hbw;have HW0:=Hd hW0;have HB:=Hd hbw;clear hW0 hbw
 go_enter Tryz.func99,Tryz.ntmps99
 go_wp2_with fail
 rw[<-HW0.out];clear HW0;have kktA0:=tA.c0;have kktA1:=tA.c1;have kktA2:=tA.c2;have kktA3:=tA.c3
 go_wp2_with fail
 refine (rsign_v h hs.out).mono ?_;rintro e V1 ⟨rfl,bb⟩;clear kktA0 kktA1 kktA2 kktA3;replace tA:=tA.to bb;replace tR:=tR.to bb;replace h1:=h1.to bb;replace HB:=Hxb HB bb;clear bb;have kktA0:=tA.c0;have kktA1:=tA.c1;have kktA2:=tA.c2;have kktA3:=tA.c3
 go_wp2_with fail
 refine (rleast_z h1).mono ?_;rintro e V2 ⟨x2,y2,rfl,z2,bb⟩;clear kktA0 kktA1 kktA2 kktA3;replace tA:=tA.to bb;replace tR:=tR.to bb;replace HB:=Hxb HB bb;clear bb;have RZ:=Hd z2;obtain ⟨V99,eV,u,kp,_⟩:=pack2 tR Fs.nil x2 y2;obtain ⟨n1,A1,j1,m1,rfl,rfl⟩:=z2.fs;obtain ⟨v0,v1,v2,v3,_⟩:=tR;have EV:=Hd eV;have KP:=Hd kp;have U:=Hd u;clear eV kp u z2;clear tA;go_wp2
 rw[EV.out];refine bodyPost_ret (v:=.agg #[.bool n1,.slice A1 j1 m1]) (by simp[results,Tryz.f99,go_sem,U.out.c0,U.out.c1]) rfl ?_;exact ⟨_,_,rfl,KP.out.zc _ _ _ RZ.out,KP.out.bel _ _ HB.out (by omega)⟩
theorem rnum_z {w:World}{a1 a2 a3 a4:Value}{p q:Int}(h1:Zl w a1 a2 p)(h:Zl w a3 a4 q):Calls Tryz.prog 99 #[.agg #[a1,a2,a3,a4]] w (ZR w (upN p q)):=by
 by_cases hq:q<0
 .exact rnum_n h1 h hq
 .exact rnum_p h1 h hq
theorem over_1 {w:World}{n1 n2 d1 d2:Value}{n d:Int}(h1:Zl w n1 n2 n)(h2:Zl w d1 d2 d)(hd:0<d)(hone:(Rat.divInt n d).den=1) :
  Calls Tryz.prog 98 #[.agg #[n1,n2],.agg #[d1,d2]] w (QR w (Rat.divInt n d)):=by
 have hg:cmn n d=(Int.gcd n d:Int):=by unfold cmn;rw[if_neg (by omega)]
 have hd0:d≠0:=by omega
 have hG:Hid ((Int.gcd n d:Int)≠0):=by show _≠_;rw[<-hg];exact cmn_ne n d hd0
 have e1:Hid (n / (Int.gcd n d:Int)=(Rat.divInt n d).num):=by show _=_;rw[<-hg];exact cmn_num n d hd0
 have e2:Hid (d / (Int.gcd n d:Int)=((Rat.divInt n d).den:Int)):=by show _=_;rw[<-hg];exact cmn_den n d hd0
 have sG:Hid (Sg (Int.gcd n d:Nat)):=by
  show Sg _
  exact (h2.sg.sm.le (by have:=gcd_le n d hd0;omega)).sg (Nat.le_refl _)
 have sD:Hid (Sg ((Rat.divInt n d).den:Int)):=by
  show Sg _
  rw[<-e2.out];exact (h2.sg.sm.le (Int.natAbs_ediv_le_natAbs _ _)).sg (Nat.le_refl _)
 obtain ⟨G,eG⟩:∃G:Int,((Int.gcd n d:Nat):Int)=G:=⟨_,rfl⟩
 obtain ⟨R,eR⟩:∃R,Rat.divInt n d=R:=⟨_,rfl⟩
 rw[eG]at hG e1 e2 sG;rw[eR]at e1 e2 sD hone ⊢;have EG:=Hd eG;obtain ⟨c,ec⟩:∃c,cmpZ (R.den:Int) 1=c:=⟨_,rfl⟩
 have hc:(c==0)=true:=by
  rw[<-ec];unfold cmpZ;rw[if_neg (by omega),if_neg (by omega)];rfl
 have EC:=Hd ec;have HO:=Hd hone;clear hd0 hg eG eR ec hone hd;obtain ⟨W0,hW0⟩:∃W0,W0=((w.alloc (.cells #[n1,n2] 30)).alloc (.cells #[d1,d2] 30)).alloc (.cells #[.bool false,.slice none 0 0,.bool false,.slice none 0 0] 32):=⟨_,rfl⟩
 have hbw:Below w.heap.size w W0:=by rw[hW0];exact ((bRR.alloc (by simp) _).alloc (by simp;omega) _)
 have tA:Two W0 (w.heap.size) n1 n2:=by
  have h:=Two.new w n1 n2 30;rw[hW0];exact ((h.alloc _).alloc _)
 have tB:Two W0 (w.heap.size+1) d1 d2:=by
  have h:=Two.new (w.alloc (.cells #[n1,n2] 30)) d1 d2 30;rw[szA]at h;rw[hW0];exact (h.alloc _)
 have tR:Four W0 (w.heap.size+1+1) (.bool false) (.slice none 0 0) (.bool false) (.slice none 0 0):=by
  have h:=Four.new ((w.alloc (.cells #[n1,n2] 30)).alloc (.cells #[d1,d2] 30)) (.bool false) (.slice none 0 0) (.bool false) (.slice none 0 0) 32;rw[szA,szA]at h;rw[hW0];exact h
 replace h1:=h1.to hbw;replace h2:=h2.to hbw;have HW0:=Hd hW0;have HB:=Hd hbw;clear hW0 hbw
 go_enter Tryz.func98,Tryz.ntmps98
 go_wp2_with fail
 rw[<-HW0.out];clear HW0;have kktA0:=tA.c0;have kktA1:=tA.c1;have kktB0:=tB.c0;have kktB1:=tB.c1
 go_wp2_with fail
 refine (rgcd_v h1 h2).mono ?_;rintro e V1 ⟨x1,y1,rfl,z1,bb⟩;clear kktA0 kktA1 kktB0 kktB1;replace tA:=tA.to bb;replace tB:=tB.to bb;replace tR:=tR.to bb;replace h1:=h1.to bb;replace h2:=h2.to bb;replace HB:=Hxb HB bb;clear bb;rw[EG.out]at z1;obtain ⟨nntG0,AAtG0,jjtG0,mmtG0,rfl,rfl⟩:=z1.fs;have tG:=Two.new V1 (.bool nntG0) (.slice AAtG0 jjtG0 mmtG0) 30;have bb:=(Below.refl V1.heap.size V1).alloc (by simp) (.cells #[.bool nntG0,.slice AAtG0 jjtG0 mmtG0] 30);replace tA:=tA.to bb;replace tB:=tB.to bb;replace tR:=tR.to bb;replace h1:=h1.to bb;replace h2:=h2.to bb;replace z1:=z1.to bb;replace HB:=Hxb HB bb;clear bb;have kktA0:=tA.c0;have kktA1:=tA.c1;have kktB0:=tB.c0;have kktB1:=tB.c1;have kktG0:=tG.c0;have kktG1:=tG.c1
 go_wp2_with fail
 obtain ⟨X2,hX2⟩:∃W,W=V1.alloc (.cells #[.bool nntG0,.slice AAtG0 jjtG0 mmtG0] 30):=⟨_,rfl⟩
 obtain ⟨gtG,hgtG⟩:∃g,g=V1.heap.size:=⟨_,rfl⟩
 rw[<-hX2,<-hgtG];rw[<-hX2,<-hgtG]at tG;rw[<-hX2]at tA tB tR h1 h2 z1 HB;clear hX2 hgtG;refine (rd_v h1 (z1.zs sG.out) hG.out e1.out).mono ?_;rintro e V3 ⟨xq3,yq3,xr3,yr3,rfl,zq3,zr3,bb⟩;clear kktA0 kktA1 kktB0 kktB1 kktG0 kktG1;replace tA:=tA.to bb;replace tB:=tB.to bb;replace tG:=tG.to bb;replace tR:=tR.to bb;replace h2:=h2.to bb;replace z1:=z1.to bb;replace HB:=Hxb HB bb;clear bb;obtain ⟨nntP0,AAtP0,jjtP0,mmtP0,rfl,rfl⟩:=zq3.fs;have tP:=Two.new V3 (.bool nntP0) (.slice AAtP0 jjtP0 mmtP0) 30;obtain ⟨nntS0,AAtS0,jjtS0,mmtS0,rfl,rfl⟩:=zr3.fs;have tS:=Two.new (V3.alloc (.cells #[.bool nntP0,.slice AAtP0 jjtP0 mmtP0] 30)) (.bool nntS0) (.slice AAtS0 jjtS0 mmtS0) 30;rw[szA]at tS;replace tP:=(tP.alloc (.cells #[.bool nntS0,.slice AAtS0 jjtS0 mmtS0] 30))
 have bb:=((Below.refl V3.heap.size V3).alloc (by simp) (.cells #[.bool nntP0,.slice AAtP0 jjtP0 mmtP0] 30)).alloc (by simp) (.cells #[.bool nntS0,.slice AAtS0 jjtS0 mmtS0] 30);replace tA:=tA.to bb;replace tB:=tB.to bb;replace tG:=tG.to bb;replace tR:=tR.to bb;replace h2:=h2.to bb;replace z1:=z1.to bb;replace zq3:=zq3.to bb;replace zr3:=zr3.to bb;replace HB:=Hxb HB bb;clear bb;have kktA0:=tA.c0;have kktA1:=tA.c1;have kktB0:=tB.c0;have kktB1:=tB.c1;have kktG0:=tG.c0;have kktG1:=tG.c1;have kktP0:=tP.c0;have kktP1:=tP.c1;have kktS0:=tS.c0;have kktS1:=tS.c1
 go_wp2_with fail
 obtain ⟨X4,hX4⟩:∃W,W=(V3.alloc (.cells #[.bool nntP0,.slice AAtP0 jjtP0 mmtP0] 30)).alloc (.cells #[.bool nntS0,.slice AAtS0 jjtS0 mmtS0] 30):=⟨_,rfl⟩
 obtain ⟨gtP,hgtP⟩:∃g,g=V3.heap.size:=⟨_,rfl⟩
 obtain ⟨gtS,hgtS⟩:∃g,g=V3.heap.size+1:=⟨_,rfl⟩
 rw[<-hX4,<-hgtS,<-hgtP];rw[<-hX4,<-hgtP]at tP;rw[<-hX4,<-hgtS]at tS;rw[<-hX4]at tA tB tG tR h2 z1 zq3 zr3 HB;clear hX4 hgtP hgtS;refine (rd_v h2 (z1.zs sG.out) hG.out e2.out).mono ?_;rintro e V5 ⟨xq5,yq5,xr5,yr5,rfl,zq5,zr5,bb⟩;clear kktA0 kktA1 kktB0 kktB1 kktG0 kktG1 kktP0 kktP1 kktS0 kktS1;replace tA:=tA.to bb;replace tB:=tB.to bb;replace tG:=tG.to bb;replace tP:=tP.to bb;replace tS:=tS.to bb;replace tR:=tR.to bb;replace z1:=z1.to bb;replace zq3:=zq3.to bb;replace zr3:=zr3.to bb;replace HB:=Hxb HB bb;clear bb;obtain ⟨nntQ0,AAtQ0,jjtQ0,mmtQ0,rfl,rfl⟩:=zq5.fs;have tQ:=Two.new V5 (.bool nntQ0) (.slice AAtQ0 jjtQ0 mmtQ0) 30;obtain ⟨nntU0,AAtU0,jjtU0,mmtU0,rfl,rfl⟩:=zr5.fs;have tU:=Two.new (V5.alloc (.cells #[.bool nntQ0,.slice AAtQ0 jjtQ0 mmtQ0] 30)) (.bool nntU0) (.slice AAtU0 jjtU0 mmtU0) 30;rw[szA]at tU;replace tQ:=(tQ.alloc (.cells #[.bool nntU0,.slice AAtU0 jjtU0 mmtU0] 30))
 have bb:=((Below.refl V5.heap.size V5).alloc (by simp) (.cells #[.bool nntQ0,.slice AAtQ0 jjtQ0 mmtQ0] 30)).alloc (by simp) (.cells #[.bool nntU0,.slice AAtU0 jjtU0 mmtU0] 30);replace tA:=tA.to bb;replace tB:=tB.to bb;replace tG:=tG.to bb;replace tP:=tP.to bb;replace tS:=tS.to bb;replace tR:=tR.to bb;replace z1:=z1.to bb;replace zq3:=zq3.to bb;replace zr3:=zr3.to bb;replace zq5:=zq5.to bb;replace zr5:=zr5.to bb;replace HB:=Hxb HB bb;clear bb
 go_wp2_with fail
 obtain ⟨X6,hX6⟩:∃W,W=(V5.alloc (.cells #[.bool nntQ0,.slice AAtQ0 jjtQ0 mmtQ0] 30)).alloc (.cells #[.bool nntU0,.slice AAtU0 jjtU0 mmtU0] 30):=⟨_,rfl⟩
 obtain ⟨gtQ,hgtQ⟩:∃g,g=V5.heap.size:=⟨_,rfl⟩
 obtain ⟨gtU,hgtU⟩:∃g,g=V5.heap.size+1:=⟨_,rfl⟩
 rw[<-hX6,<-hgtU,<-hgtQ];rw[<-hX6,<-hgtQ]at tQ;rw[<-hX6,<-hgtU]at tU;rw[<-hX6]at tA tB tG tP tS tR z1 zq3 zr3 zq5 zr5 HB;clear hX6 hgtQ hgtU;clear tA tB tG tS tU;refine wp_region_plan (S:=fun w'=>Below w.heap.size w w'/\Two w' (gtP) (.bool nntP0) (.slice AAtP0 jjtP0 mmtP0)/\Two w' (gtQ) (.bool nntQ0) (.slice AAtQ0 jjtQ0 mmtQ0)) [(0,true),(1,false),(2,false),(3,true)] (by kernel_rfl) (by kernel_rfl) ⟨HB.out.drew,tP.to (Below.refl _ _).drew,tQ.to (Below.refl _ _).drew⟩ ?_;have hb:=HB.out.drew;replace tP:=tP.to (Below.refl _ _).drew;replace tQ:=tQ.to (Below.refl _ _).drew;replace tR:=tR.to (Below.refl _ _).drew;replace z1:=z1.to (Below.refl _ _).drew;replace zq3:=zq3.to (Below.refl _ _).drew;replace zr3:=zr3.to (Below.refl _ _).drew;replace zq5:=zq5.to (Below.refl _ _).drew;replace zr5:=zr5.to (Below.refl _ _).drew;clear HB;refine plan_take rfl (by rfl) (fun w' hS=>load_two (by rfl) (hS.2.2)) ?_;refine plan_call rfl (by rfl) (fun K hK=>?_);go_simp
 refine (rone_z).mono ?_;rintro e V7 ⟨x7,y7,rfl,z7,bb⟩;replace hb:=Bxb hb bb;replace tP:=tP.to bb;replace tQ:=tQ.to bb;replace tR:=tR.to bb;replace z1:=z1.to bb;replace zq3:=zq3.to bb;replace zr3:=zr3.to bb;replace zq5:=zq5.to bb;replace zr5:=zr5.to bb;refine hK.out _ _ ⟨hb,tP,tQ⟩ ?_;clear hK K bb;refine plan_call rfl (by rfl) (fun K hK=>?_);go_simp
 refine (rcmp_v (zq5.zs sD.out) (z7.zs (sg_lit (by decide))) EC.out).mono ?_;rintro e V8 ⟨rfl,bb⟩;replace hb:=Bxb hb bb;replace tP:=tP.to bb;replace tQ:=tQ.to bb;replace tR:=tR.to bb;replace z1:=z1.to bb;replace zq3:=zq3.to bb;replace zr3:=zr3.to bb;replace zq5:=zq5.to bb;replace zr5:=zr5.to bb;replace z7:=z7.to bb;refine hK.out _ _ ⟨hb,tP,tQ⟩ ?_;clear hK K bb;refine plan_take (v:=?_) rfl (by rfl) ?_ ?_;rotate_left;(focus (intro w' hS;go_simp;try with_reducible rfl));refine plan_done ?_;have HB:=Hd hb;clear hb;have kktP0:=tP.c0;have kktP1:=tP.c1;have kktQ0:=tQ.c0;have kktQ1:=tQ.c1;have rq:Qc _ (.bool nntP0) (.slice AAtP0 jjtP0 mmtP0) (.bool false) (.slice none 0 0) R:=⟨zq3,by rw[if_pos HO.out];exact zc_nil _⟩
 have RZ:=Hd rq;obtain ⟨V99,eV,u,kp⟩:=pack4 tR Fq.nil (.bool nntP0) (.slice AAtP0 jjtP0 mmtP0) (.bool false) (.slice none 0 0);obtain ⟨v0,v1,v2,v3,v4,v5,v6,v7,_⟩:=tR;have EV:=Hd eV;have KP:=Hd kp;have U:=Hd u;clear eV kp u rq;go_wp2
 rw[EV.out];refine bodyPost_ret (v:=.agg #[.bool nntP0,.slice AAtP0 jjtP0 mmtP0,.bool false,.slice none 0 0]) (by simp[results,Tryz.f98,go_sem,U.out.c0,U.out.c1,U.out.c2,U.out.c3]) rfl ?_;exact ⟨_,_,_,_,rfl,RZ.out.k4 KP.out,KP.out.bel _ _ HB.out (by omega)⟩
theorem over_n {w:World}{n1 n2 d1 d2:Value}{n d:Int}(h1:Zl w n1 n2 n)(h2:Zl w d1 d2 d)(hd:0<d)(hone:(Rat.divInt n d).den≠1) :
  Calls Tryz.prog 98 #[.agg #[n1,n2],.agg #[d1,d2]] w (QR w (Rat.divInt n d)):=by
 have hg:cmn n d=(Int.gcd n d:Int):=by unfold cmn;rw[if_neg (by omega)]
 have hd0:d≠0:=by omega
 have hG:Hid ((Int.gcd n d:Int)≠0):=by show _≠_;rw[<-hg];exact cmn_ne n d hd0
 have e1:Hid (n / (Int.gcd n d:Int)=(Rat.divInt n d).num):=by show _=_;rw[<-hg];exact cmn_num n d hd0
 have e2:Hid (d / (Int.gcd n d:Int)=((Rat.divInt n d).den:Int)):=by show _=_;rw[<-hg];exact cmn_den n d hd0
 have sG:Hid (Sg (Int.gcd n d:Nat)):=by
  show Sg _
  exact (h2.sg.sm.le (by have:=gcd_le n d hd0;omega)).sg (Nat.le_refl _)
 have sD:Hid (Sg ((Rat.divInt n d).den:Int)):=by
  show Sg _
  rw[<-e2.out];exact (h2.sg.sm.le (Int.natAbs_ediv_le_natAbs _ _)).sg (Nat.le_refl _)
 obtain ⟨G,eG⟩:∃G:Int,((Int.gcd n d:Nat):Int)=G:=⟨_,rfl⟩
 obtain ⟨R,eR⟩:∃R,Rat.divInt n d=R:=⟨_,rfl⟩
 rw[eG]at hG e1 e2 sG;rw[eR]at e1 e2 sD hone ⊢;have EG:=Hd eG;obtain ⟨c,ec⟩:∃c,cmpZ (R.den:Int) 1=c:=⟨_,rfl⟩
 have hc:(c==0)=false:=by
  rw[<-ec];unfold cmpZ;have:=R.den_pos;rw[if_neg (by omega),if_pos (by omega)];rfl
 have EC:=Hd ec;have HO:=Hd hone;clear hd0 hg eG eR ec hone hd;obtain ⟨W0,hW0⟩:∃W0,W0=((w.alloc (.cells #[n1,n2] 30)).alloc (.cells #[d1,d2] 30)).alloc (.cells #[.bool false,.slice none 0 0,.bool false,.slice none 0 0] 32):=⟨_,rfl⟩
 have hbw:Below w.heap.size w W0:=by rw[hW0];exact ((bRR.alloc (by simp) _).alloc (by simp;omega) _)
 have tA:Two W0 (w.heap.size) n1 n2:=by
  have h:=Two.new w n1 n2 30;rw[hW0];exact ((h.alloc _).alloc _)
 have tB:Two W0 (w.heap.size+1) d1 d2:=by
  have h:=Two.new (w.alloc (.cells #[n1,n2] 30)) d1 d2 30;rw[szA]at h;rw[hW0];exact (h.alloc _)
 have tR:Four W0 (w.heap.size+1+1) (.bool false) (.slice none 0 0) (.bool false) (.slice none 0 0):=by
  have h:=Four.new ((w.alloc (.cells #[n1,n2] 30)).alloc (.cells #[d1,d2] 30)) (.bool false) (.slice none 0 0) (.bool false) (.slice none 0 0) 32;rw[szA,szA]at h;rw[hW0];exact h
 replace h1:=h1.to hbw;replace h2:=h2.to hbw;have HW0:=Hd hW0;have HB:=Hd hbw;clear hW0 hbw
 go_enter Tryz.func98,Tryz.ntmps98
 go_wp2_with fail
 rw[<-HW0.out];clear HW0;have kktA0:=tA.c0;have kktA1:=tA.c1;have kktB0:=tB.c0;have kktB1:=tB.c1
 go_wp2_with fail
 refine (rgcd_v h1 h2).mono ?_;rintro e V1 ⟨x1,y1,rfl,z1,bb⟩;clear kktA0 kktA1 kktB0 kktB1;replace tA:=tA.to bb;replace tB:=tB.to bb;replace tR:=tR.to bb;replace h1:=h1.to bb;replace h2:=h2.to bb;replace HB:=Hxb HB bb;clear bb;rw[EG.out]at z1;obtain ⟨nntG0,AAtG0,jjtG0,mmtG0,rfl,rfl⟩:=z1.fs;have tG:=Two.new V1 (.bool nntG0) (.slice AAtG0 jjtG0 mmtG0) 30;have bb:=(Below.refl V1.heap.size V1).alloc (by simp) (.cells #[.bool nntG0,.slice AAtG0 jjtG0 mmtG0] 30);replace tA:=tA.to bb;replace tB:=tB.to bb;replace tR:=tR.to bb;replace h1:=h1.to bb;replace h2:=h2.to bb;replace z1:=z1.to bb;replace HB:=Hxb HB bb;clear bb;have kktA0:=tA.c0;have kktA1:=tA.c1;have kktB0:=tB.c0;have kktB1:=tB.c1;have kktG0:=tG.c0;have kktG1:=tG.c1
 go_wp2_with fail
 obtain ⟨X2,hX2⟩:∃W,W=V1.alloc (.cells #[.bool nntG0,.slice AAtG0 jjtG0 mmtG0] 30):=⟨_,rfl⟩
 obtain ⟨gtG,hgtG⟩:∃g,g=V1.heap.size:=⟨_,rfl⟩
 rw[<-hX2,<-hgtG];rw[<-hX2,<-hgtG]at tG;rw[<-hX2]at tA tB tR h1 h2 z1 HB;clear hX2 hgtG;refine (rd_v h1 (z1.zs sG.out) hG.out e1.out).mono ?_;rintro e V3 ⟨xq3,yq3,xr3,yr3,rfl,zq3,zr3,bb⟩;clear kktA0 kktA1 kktB0 kktB1 kktG0 kktG1;replace tA:=tA.to bb;replace tB:=tB.to bb;replace tG:=tG.to bb;replace tR:=tR.to bb;replace h2:=h2.to bb;replace z1:=z1.to bb;replace HB:=Hxb HB bb;clear bb;obtain ⟨nntP0,AAtP0,jjtP0,mmtP0,rfl,rfl⟩:=zq3.fs;have tP:=Two.new V3 (.bool nntP0) (.slice AAtP0 jjtP0 mmtP0) 30;obtain ⟨nntS0,AAtS0,jjtS0,mmtS0,rfl,rfl⟩:=zr3.fs;have tS:=Two.new (V3.alloc (.cells #[.bool nntP0,.slice AAtP0 jjtP0 mmtP0] 30)) (.bool nntS0) (.slice AAtS0 jjtS0 mmtS0) 30;rw[szA]at tS;replace tP:=(tP.alloc (.cells #[.bool nntS0,.slice AAtS0 jjtS0 mmtS0] 30))
 have bb:=((Below.refl V3.heap.size V3).alloc (by simp) (.cells #[.bool nntP0,.slice AAtP0 jjtP0 mmtP0] 30)).alloc (by simp) (.cells #[.bool nntS0,.slice AAtS0 jjtS0 mmtS0] 30);replace tA:=tA.to bb;replace tB:=tB.to bb;replace tG:=tG.to bb;replace tR:=tR.to bb;replace h2:=h2.to bb;replace z1:=z1.to bb;replace zq3:=zq3.to bb;replace zr3:=zr3.to bb;replace HB:=Hxb HB bb;clear bb;have kktA0:=tA.c0;have kktA1:=tA.c1;have kktB0:=tB.c0;have kktB1:=tB.c1;have kktG0:=tG.c0;have kktG1:=tG.c1;have kktP0:=tP.c0;have kktP1:=tP.c1;have kktS0:=tS.c0;have kktS1:=tS.c1
 go_wp2_with fail
 obtain ⟨X4,hX4⟩:∃W,W=(V3.alloc (.cells #[.bool nntP0,.slice AAtP0 jjtP0 mmtP0] 30)).alloc (.cells #[.bool nntS0,.slice AAtS0 jjtS0 mmtS0] 30):=⟨_,rfl⟩
 obtain ⟨gtP,hgtP⟩:∃g,g=V3.heap.size:=⟨_,rfl⟩
 obtain ⟨gtS,hgtS⟩:∃g,g=V3.heap.size+1:=⟨_,rfl⟩
 rw[<-hX4,<-hgtS,<-hgtP];rw[<-hX4,<-hgtP]at tP;rw[<-hX4,<-hgtS]at tS;rw[<-hX4]at tA tB tG tR h2 z1 zq3 zr3 HB;clear hX4 hgtP hgtS;refine (rd_v h2 (z1.zs sG.out) hG.out e2.out).mono ?_;rintro e V5 ⟨xq5,yq5,xr5,yr5,rfl,zq5,zr5,bb⟩;clear kktA0 kktA1 kktB0 kktB1 kktG0 kktG1 kktP0 kktP1 kktS0 kktS1;replace tA:=tA.to bb;replace tB:=tB.to bb;replace tG:=tG.to bb;replace tP:=tP.to bb;replace tS:=tS.to bb;replace tR:=tR.to bb;replace z1:=z1.to bb;replace zq3:=zq3.to bb;replace zr3:=zr3.to bb;replace HB:=Hxb HB bb;clear bb;obtain ⟨nntQ0,AAtQ0,jjtQ0,mmtQ0,rfl,rfl⟩:=zq5.fs;have tQ:=Two.new V5 (.bool nntQ0) (.slice AAtQ0 jjtQ0 mmtQ0) 30;obtain ⟨nntU0,AAtU0,jjtU0,mmtU0,rfl,rfl⟩:=zr5.fs;have tU:=Two.new (V5.alloc (.cells #[.bool nntQ0,.slice AAtQ0 jjtQ0 mmtQ0] 30)) (.bool nntU0) (.slice AAtU0 jjtU0 mmtU0) 30;rw[szA]at tU;replace tQ:=(tQ.alloc (.cells #[.bool nntU0,.slice AAtU0 jjtU0 mmtU0] 30))
 have bb:=((Below.refl V5.heap.size V5).alloc (by simp) (.cells #[.bool nntQ0,.slice AAtQ0 jjtQ0 mmtQ0] 30)).alloc (by simp) (.cells #[.bool nntU0,.slice AAtU0 jjtU0 mmtU0] 30);replace tA:=tA.to bb;replace tB:=tB.to bb;replace tG:=tG.to bb;replace tP:=tP.to bb;replace tS:=tS.to bb;replace tR:=tR.to bb;replace z1:=z1.to bb;replace zq3:=zq3.to bb;replace zr3:=zr3.to bb;replace zq5:=zq5.to bb;replace zr5:=zr5.to bb;replace HB:=Hxb HB bb;clear bb
 go_wp2_with fail
 obtain ⟨X6,hX6⟩:∃W,W=(V5.alloc (.cells #[.bool nntQ0,.slice AAtQ0 jjtQ0 mmtQ0] 30)).alloc (.cells #[.bool nntU0,.slice AAtU0 jjtU0 mmtU0] 30):=⟨_,rfl⟩
 obtain ⟨gtQ,hgtQ⟩:∃g,g=V5.heap.size:=⟨_,rfl⟩
 obtain ⟨gtU,hgtU⟩:∃g,g=V5.heap.size+1:=⟨_,rfl⟩
 rw[<-hX6,<-hgtU,<-hgtQ];rw[<-hX6,<-hgtQ]at tQ;rw[<-hX6,<-hgtU]at tU;rw[<-hX6]at tA tB tG tP tS tR z1 zq3 zr3 zq5 zr5 HB;clear hX6 hgtQ hgtU;clear tA tB tG tS tU;refine wp_region_plan (S:=fun w'=>Below w.heap.size w w'/\Two w' (gtP) (.bool nntP0) (.slice AAtP0 jjtP0 mmtP0)/\Two w' (gtQ) (.bool nntQ0) (.slice AAtQ0 jjtQ0 mmtQ0)) [(0,true),(1,false),(2,false),(3,true)] (by kernel_rfl) (by kernel_rfl) ⟨HB.out.drew,tP.to (Below.refl _ _).drew,tQ.to (Below.refl _ _).drew⟩ ?_;have hb:=HB.out.drew;replace tP:=tP.to (Below.refl _ _).drew;replace tQ:=tQ.to (Below.refl _ _).drew;replace tR:=tR.to (Below.refl _ _).drew;replace z1:=z1.to (Below.refl _ _).drew;replace zq3:=zq3.to (Below.refl _ _).drew;replace zr3:=zr3.to (Below.refl _ _).drew;replace zq5:=zq5.to (Below.refl _ _).drew;replace zr5:=zr5.to (Below.refl _ _).drew;clear HB;refine plan_take rfl (by rfl) (fun w' hS=>load_two (by rfl) (hS.2.2)) ?_;refine plan_call rfl (by rfl) (fun K hK=>?_);go_simp
 refine (rone_z).mono ?_;rintro e V7 ⟨x7,y7,rfl,z7,bb⟩;replace hb:=Bxb hb bb;replace tP:=tP.to bb;replace tQ:=tQ.to bb;replace tR:=tR.to bb;replace z1:=z1.to bb;replace zq3:=zq3.to bb;replace zr3:=zr3.to bb;replace zq5:=zq5.to bb;replace zr5:=zr5.to bb;refine hK.out _ _ ⟨hb,tP,tQ⟩ ?_;clear hK K bb;refine plan_call rfl (by rfl) (fun K hK=>?_);go_simp
 refine (rcmp_v (zq5.zs sD.out) (z7.zs (sg_lit (by decide))) EC.out).mono ?_;rintro e V8 ⟨rfl,bb⟩;replace hb:=Bxb hb bb;replace tP:=tP.to bb;replace tQ:=tQ.to bb;replace tR:=tR.to bb;replace z1:=z1.to bb;replace zq3:=zq3.to bb;replace zr3:=zr3.to bb;replace zq5:=zq5.to bb;replace zr5:=zr5.to bb;replace z7:=z7.to bb;refine hK.out _ _ ⟨hb,tP,tQ⟩ ?_;clear hK K bb;refine plan_take (v:=?_) rfl (by rfl) ?_ ?_;rotate_left;(focus (intro w' hS;go_simp;try with_reducible rfl));refine plan_done ?_;have HB:=Hd hb;clear hb;have kktP0:=tP.c0;have kktP1:=tP.c1;have kktQ0:=tQ.c0;have kktQ1:=tQ.c1;have rq:Qc _ (.bool nntP0) (.slice AAtP0 jjtP0 mmtP0) (.bool nntQ0) (.slice AAtQ0 jjtQ0 mmtQ0) R:=⟨zq3,by rw[if_neg HO.out];exact zq5⟩
 have RZ:=Hd rq;obtain ⟨V99,eV,u,kp⟩:=pack4 tR Fq.nil (.bool nntP0) (.slice AAtP0 jjtP0 mmtP0) (.bool nntQ0) (.slice AAtQ0 jjtQ0 mmtQ0);obtain ⟨v0,v1,v2,v3,v4,v5,v6,v7,_⟩:=tR;have EV:=Hd eV;have KP:=Hd kp;have U:=Hd u;clear eV kp u rq;go_wp2
 rw[EV.out];refine bodyPost_ret (v:=.agg #[.bool nntP0,.slice AAtP0 jjtP0 mmtP0,.bool nntQ0,.slice AAtQ0 jjtQ0 mmtQ0]) (by simp[results,Tryz.f98,go_sem,U.out.c0,U.out.c1,U.out.c2,U.out.c3]) rfl ?_;exact ⟨_,_,_,_,rfl,RZ.out.k4 KP.out,KP.out.bel _ _ HB.out (by omega)⟩
theorem over_z {w:World}{n1 n2 d1 d2:Value}{n d:Int}(h1:Zl w n1 n2 n)(h2:Zl w d1 d2 d)(hd:0<d):Calls Tryz.prog 98 #[.agg #[n1,n2],.agg #[d1,d2]] w (QR w (Rat.divInt n d)):=by
 by_cases h:(Rat.divInt n d).den=1
 .exact over_1 h1 h2 hd h
 .exact over_n h1 h2 hd h
end Go.Proofs.YtglhdielkkhefaaGreat
